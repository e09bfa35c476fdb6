/-
  The texts of tags: reading what was written, and back; a byte of a string.
  Conditions: none.
-/
import Derived.Test.YtcaolgcpcjodnaaDoorTagM
import Derived.Test.YtcaolgcpcjodnaaDoorTagJ
namespace Go.Proofs.YtcaolgcpcjodnaaDoor
open Go.RowKit

theorem str_at {l : List Nat} {k x : Nat} (h : l[k]? = some x) (hx : x < 256) (W : World) : (Instr.index 9 (.string (bstr l)) (.int .i64 (k : Int))).run Tryd.prog W = .ok (.int .u8 (x : Int)) W := by
  have hk : k < l.length := by
    rcases Nat.lt_or_ge k l.length with h1 | h1
    · exact h1
    · rw [List.getElem?_eq_none h1] at h; cases h
  have hsz := bstr_size l
  simp [go_sem, hsz, hk]
  have e : l[k] = x := by rw [List.getElem?_eq_getElem hk] at h; exact Option.some.inj h
  have e2 : (bstr l)[k]'(by rw [hsz]; exact hk) = UInt8.ofNat x := by
    rw [← e]
    show (bstr l).data[k]'(by show k < (bstr l).size; rw [hsz]; exact hk) = _
    unfold bstr
    simp
  rw [e2, UInt8.toNat_ofNat_of_lt' hx]

theorem pre32_all {l : List Nat} (h : 32 ∉ l) : pre32 l = l := by
  induction l with
  | nil => rfl
  | cons x l ih =>
    unfold pre32
    rw [List.takeWhile_cons, if_pos (by simp; intro e; exact h (by simp [e]))]
    exact congrArg _ (ih (fun e => h (List.mem_cons_of_mem _ e)))
theorem pre32_lt {l : List Nat} {k : Nat} (h : k < (pre32 l).length) : ∃ x, l[k]? = some x ∧ x ≠ 32 := by
  induction l generalizing k with
  | nil => exact absurd h (by simp [pre32])
  | cons x l ih =>
    unfold pre32 at h
    rw [List.takeWhile_cons] at h
    split at h
    · rename_i hx
      cases k with
      | zero => exact ⟨x, rfl, by simpa using hx⟩
      | succ k => exact ih (k := k) (by rw [List.length_cons] at h; unfold pre32; omega)
    · exact absurd h (by simp)
theorem pre32_le (l : List Nat) : (pre32 l).length ≤ l.length := (List.takeWhile_sublist _).length_le
theorem pre32_end {l : List Nat} (h : (pre32 l).length < l.length) : l[(pre32 l).length]? = some 32 := by
  have hm : 32 ∈ l := by
    rcases Classical.em (32 ∈ l) with hm | hm
    · exact hm
    · rw [pre32_all hm] at h; omega
  have h1 := (pre32_split hm).1
  obtain ⟨a, ha⟩ : ∃ a, pre32 l = a := ⟨_, rfl⟩
  obtain ⟨r, hr⟩ : ∃ r, List.drop ((pre32 l).length + 1) l = r := ⟨_, rfl⟩
  rw [hr] at h1
  rw [ha] at h1 ⊢
  rw [h1]
  simp
theorem textL_ne (n : Nat) : textL n ≠ [] := by
  unfold textL
  split
  · simp
  · rename_i h
    rw [dgs_pos (by omega) h]; simp
def sufk (k : Bool) : List Nat := if k then 32 :: wcon else []
theorem ttext_eq (c n : Nat) (k : Bool) : ttext c n k = cname c ++ 32 :: (textL n ++ sufk k) := by
  unfold ttext sufk
  simp only [List.append_assoc, List.singleton_append]
  rfl
theorem cname_no32 (c : Nat) : 32 ∉ cname c := by
  unfold cname
  repeat' split
  all_goals decide
theorem cut1_of {a r : List Nat} (h : 32 ∉ a) : cut1 (a ++ 32 :: r) = (a, r, true) := by
  unfold cut1
  rw [if_pos (by simp), pre32_of h]
  simp
theorem cut1_none {a : List Nat} (h : 32 ∉ a) : cut1 a = (a, [], false) := if_neg h
theorem cut1_suf (n : Nat) (k : Bool) : cut1 (textL n ++ sufk k) = (textL n, if k then wcon else [], k) := by
  cases k
  · rw [show sufk false = [] from rfl, List.append_nil, cut1_none (textL_no32 n)]; rfl
  · exact cut1_of (textL_no32 n)
theorem clsOf_cname (c : Nat) (h : c ≤ 3) : clsOf (cname c) = some c := by
  rcases (show c = 0 ∨ c = 1 ∨ c = 2 ∨ c = 3 by omega) with rfl | rfl | rfl | rfl
  all_goals decide +kernel
theorem prs_text (c n : Nat) (k : Bool) (hc : c ≤ 3) (hn : n ≤ 268435455) : prs (ttext c n k) = some (c, n, k) := by
  unfold prs
  rw [ttext_eq, cut1_of (cname_no32 c)]
  simp only [cut1_suf, clsOf_cname c hc, num_text n hn]
  cases k
  · exact if_neg (by simp)
  · exact if_neg (by simp)
theorem cut1_true {l : List Nat} (h : (cut1 l).2.2 = true) : l = (cut1 l).1 ++ 32 :: (cut1 l).2.1 := by
  unfold cut1 at h ⊢
  split
  · exact (pre32_split ‹_›).1
  · rename_i h1; rw [if_neg h1] at h; cases h
theorem cut1_false {l : List Nat} (h : (cut1 l).2.2 = false) : (cut1 l).1 = l ∧ (cut1 l).2.1 = [] := by
  unfold cut1 at h ⊢
  split
  · rename_i h1; rw [if_pos h1] at h; cases h
  · exact ⟨rfl, rfl⟩
theorem prs_some {l : List Nat} {c n : Nat} {k : Bool} (h : prs l = some (c, n, k)) : c ≤ 3 ∧ n ≤ 268435455 ∧ l = ttext c n k := by
  unfold prs at h
  split at h
  · rename_i c1 n1 h1 h2
    split at h
    · cases h
    · rename_i h3
      injection h with h; injection h with ha hb; injection hb with hb hd
      subst ha; subst hb
      have q1 := clsOf_le h1
      have q2 := num_some h2
      refine ⟨q1.1, q2.1, ?_⟩
      have e1 : (cut1 l).2.2 = true := by
        rcases Bool.eq_false_or_eq_true (cut1 l).2.2 with h4 | h4
        · exact h4
        · exfalso
          rw [(cut1_false h4).2] at q2
          exact textL_ne _ q2.2.symm
      have e2 := cut1_true e1
      rw [q1.2] at e2
      rw [ttext_eq]
      refine e2.trans (congrArg (fun t => cname c1 ++ 32 :: t) ?_)
      cases k
      · rw [show sufk false = [] from rfl, List.append_nil]
        exact (cut1_false hd).1.symm.trans q2.2
      · have e3 := cut1_true hd
        rw [q2.2] at e3
        rw [hd] at h3
        have h5 : (cut1 (cut1 l).2.1).2.1 = wcon := by
          rcases Classical.em ((cut1 (cut1 l).2.1).2.1 = wcon) with h6 | h6
          · exact h6
          · exact absurd ⟨rfl, h6⟩ h3
        rw [h5] at e3
        exact e3
  · cases h
theorem prsE_text (c n : Nat) (k : Bool) (hc : c ≤ 3) (hn : n ≤ 268435455) : prsE (ttext c n k) = if chk c n k ≠ 0 then (0, 0, false, chk c n k) else (c, n, k, 0) := by
  unfold prsE; rw [prs_text c n k hc hn]
theorem prsE_none {l : List Nat} (h : ∀ c n k, c ≤ 3 → n ≤ 268435455 → l ≠ ttext c n k) : prsE l = (0, 0, false, 6) := by
  unfold prsE
  cases hp : prs l with
  | none => rfl
  | some q =>
    obtain ⟨c, n, k⟩ := q
    have := prs_some hp
    exact absurd this.2.2 (h c n k this.1 this.2.1)

theorem str_byte {l : List Nat} {k x : Nat} (h : l[k]? = some x) (hx : x < 256) (hk : k < (bstr l).size) : ((bstr l)[k]'hk).toNat = x := by
  have hk1 : k < l.length := by rw [bstr_size] at hk; exact hk
  have e : l[k] = x := by rw [List.getElem?_eq_getElem hk1] at h; exact Option.some.inj h
  have e2 : (bstr l)[k]'hk = UInt8.ofNat x := by
    rw [← e]
    show (bstr l).data[k]'(by show k < (bstr l).size; exact hk) = _
    unfold bstr
    rw [List.getElem_toArray, List.getElem_map]
  rw [e2, UInt8.toNat_ofNat_of_lt' hx]
theorem pre_at {R : List Nat} {j : Nat} (h : j < (pre32 R).length) : (pre32 R)[j]? = R[j]? := by
  rcases Classical.em (32 ∈ R) with hm | hm
  · have h1 := (pre32_split hm).1
    conv => rhs; rw [h1]
    rw [List.getElem?_append_left h]
  · rw [pre32_all hm]
/-- The number that digits read as. -/
def dval (D : List Nat) : Nat := D.foldl (fun a x => 10 * a + (x - 48)) 0
theorem dval_snoc {D : List Nat} {j x : Nat} (h : D[j]? = some x) : dval (D.take (j + 1)) = 10 * dval (D.take j) + (x - 48) := by
  unfold dval
  rw [List.take_add_one, h]
  simp
theorem textL_dig (n : Nat) : ∀ x ∈ textL n, 48 ≤ x ∧ x ≤ 57 := by
  intro x hx
  unfold textL at hx
  split at hx
  · simp at hx; omega
  · simp only [List.mem_map, List.mem_reverse] at hx
    obtain ⟨y, hy, rfl⟩ := hx
    have := dgs_lt (b := 10) (by omega) n y hy
    omega
theorem dval_text (n : Nat) : dval (textL n) = n := by
  unfold textL
  split
  · rename_i h; rw [h]; rfl
  · have h := fold_rev (dgs 10 n) 0
    rw [vl_dgs (by omega), Nat.zero_mul, Nat.zero_add] at h
    unfold dval
    rw [List.foldl_map]
    refine Eq.trans ?_ h
    congr 1
    funext a x
    omega
theorem textL_9 {n : Nat} (h : n ≤ 268435455) : (textL n).length ≤ 9 := by
  unfold textL
  split
  · simp
  · rw [List.length_map, List.length_reverse]
    exact (dgs_length (by omega) n 9).2 (by omega)
theorem shape {l : List Nat} {c n : Nat} {k : Bool} (h : l = ttext c n k) : pre32 l = cname c ∧ (pre32 l).length < l.length ∧ pre32 (l.drop ((pre32 l).length + 1)) = textL n := by
  rw [ttext_eq] at h
  have h1 : pre32 l = cname c := by rw [h, pre32_of (cname_no32 c)]
  refine ⟨h1, ?_, ?_⟩
  · rw [h1, h]; simp
  · rw [h1, h]
    rw [show (cname c ++ 32 :: (textL n ++ sufk k)).drop ((cname c).length + 1) = textL n ++ sufk k by simp]
    cases k
    · rw [show sufk false = [] from rfl, List.append_nil, pre32_all (textL_no32 n)]
    · exact pre32_of (textL_no32 n)
theorem none1 {l : List Nat} (h : (pre32 l).length = l.length) : prsE l = (0, 0, false, 6) :=
  prsE_none fun c n k _ _ e => by have := (shape e).2.1; omega
theorem none2 {l : List Nat} (h : 10 ≤ (pre32 (l.drop ((pre32 l).length + 1))).length) : prsE l = (0, 0, false, 6) :=
  prsE_none fun c n k _ hn e => by rw [(shape e).2.2] at h; have := textL_9 hn; omega
theorem none3 {l : List Nat} {x : Nat} (hx : x ∈ pre32 (l.drop ((pre32 l).length + 1))) (h : x < 48 ∨ 57 < x) : prsE l = (0, 0, false, 6) :=
  prsE_none fun c n k _ hn e => by rw [(shape e).2.2] at hx; have := textL_dig n x hx; omega
theorem none4 {l : List Nat} (h : ∀ (c : Nat) (k : Bool), c ≤ 3 → dval (pre32 (l.drop ((pre32 l).length + 1))) ≤ 268435455 → ttext c (dval (pre32 (l.drop ((pre32 l).length + 1)))) k ≠ l) : prsE l = (0, 0, false, 6) :=
  prsE_none fun c n k hc hn e => by
    have h1 := (shape e).2.2
    have h2 := h c k hc
    rw [h1, dval_text] at h2
    exact h2 hn e.symm
/-- What the reading of a text goes by: where its number begins and ends. -/
structure Cuts (l : List Nat) (f F E : Nat) (D : List Nat) : Prop where
  lt : f < l.length
  hF : f + 1 = F
  hE : F + D.length = E
  le : E ≤ l.length
  a1 : ∀ k, k < f → ∃ x, l[k]? = some x ∧ x ≠ 32
  a2 : l[f]? = some 32
  b1 : ∀ k, F ≤ k → k < E → ∃ x, l[k]? = some x ∧ x ≠ 32 ∧ D[k - F]? = some x
  b2 : E < l.length → l[E]? = some 32
theorem cuts {l : List Nat} (h : (pre32 l).length < l.length) : Cuts l (pre32 l).length ((pre32 l).length + 1) ((pre32 l).length + 1 + (pre32 (l.drop ((pre32 l).length + 1))).length) (pre32 (l.drop ((pre32 l).length + 1))) where
  lt := h
  hF := rfl
  hE := rfl
  le := by have := pre32_le (l.drop ((pre32 l).length + 1)); rw [List.length_drop] at this; omega
  a1 := fun k hk => pre32_lt hk
  a2 := pre32_end h
  b1 := fun k h1 h2 => by
    have hj : k - ((pre32 l).length + 1) < (pre32 (l.drop ((pre32 l).length + 1))).length := by omega
    obtain ⟨x, hx, hne⟩ := pre32_lt hj
    refine ⟨x, ?_, hne, (pre_at hj).trans hx⟩
    rw [List.getElem?_drop] at hx
    rw [show (pre32 l).length + 1 + (k - ((pre32 l).length + 1)) = k by omega] at hx
    exact hx
  b2 := fun h2 => by
    have h3 := pre32_end (l := l.drop ((pre32 l).length + 1)) (by rw [List.length_drop]; omega)
    rw [List.getElem?_drop] at h3
    exact h3
end Go.Proofs.YtcaolgcpcjodnaaDoor
