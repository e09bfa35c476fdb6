/-
  Layer 7: the library's iterator over the pieces of a string between spaces.
  Conditions: the string has at most 1000000 bytes.
-/
import Derived.Test.YtaiiihdckdjpoaaGreatDoorOgD
import Derived.Test.YtaiiihdckdjpoaaGreatDoorOgF
import Derived.Test.YtaiiihdckdjpoaaGreatDoorOgC
import Derived.Test.YtaiiihdckdjpoaaGreatDoorOgE
import Derived.Test.YtaiiihdckdjpoaaGreatDoorShel2
import Derived.Test.YtaiiihdckdjpoaaGreatDoorOgG
namespace Go.Proofs.YtaiiihdckdjpoaaGreatDoor
open Go.RowKit Go.Shelf
attribute [local go_sem] Oper.semAt_some

/-- The pieces between spaces. -/
def splitS : List Nat → List (List Nat)
  | [] => [[]]
  | c :: l => if c = 32 then [] :: splitS l else (c :: (splitS l).headD []) :: (splitS l).tail
theorem splitS_none : ∀ {l : List Nat}, 32 ∉ l → splitS l = [l]
  | [], _ => rfl
  | c :: l, h => by
    have h1 : ¬ c = 32 := fun e => h (by simp [e])
    rw [splitS, if_neg h1, splitS_none (l := l) (fun e => h (by simp [e]))]
    rfl
theorem splitS_at : ∀ {p : List Nat} (q : List Nat), 32 ∉ p → splitS (p ++ 32 :: q) = p :: splitS q
  | [], q, _ => by rw [List.nil_append, splitS, if_pos rfl]
  | c :: p, q, h => by
    have h1 : ¬ c = 32 := fun e => h (by simp [e])
    rw [List.cons_append, splitS, if_neg h1, splitS_at q (p := p) (fun e => h (by simp [e]))]
    rfl
theorem splitS_dot {l : List Nat} (h : 32 ∈ l) : ∃ p q, l = p ++ 32 :: q ∧ 32 ∉ p := by
  induction l with
  | nil => cases h
  | cons c l ih =>
    by_cases hc : c = 32
    · exact ⟨[], l, by rw [hc]; rfl, by simp⟩
    · obtain ⟨p, q, e, hp⟩ := ih (by rcases List.mem_cons.1 h with e | e; exact absurd e.symm hc; exact e)
      exact ⟨c :: p, q, by rw [e]; rfl, by simp [hp]; exact fun e => hc e.symm⟩
theorem ofNat32 {c : Nat} (h : c < 256) : (UInt8.ofNat c == 32) = decide (c = 32) := by
  rw [Bool.eq_iff_iff, beq_iff_eq, decide_eq_true_iff]
  constructor
  · intro e
    have := congrArg UInt8.toNat e
    rw [UInt8.toNat_ofNat_of_lt' h] at this
    exact this
  · rintro rfl; rfl
theorem idxS_none : ∀ {l : List Nat}, All8 l → 32 ∉ l → Lib.indexByte (l.map UInt8.ofNat) 32 = -1
  | [], _, _ => rfl
  | c :: l, h8, h => by
    have h1 : ¬ c = 32 := fun e => h (by simp [e])
    rw [List.map_cons, Lib.indexByte, ofNat32 (h8 c (by simp)), decide_eq_false h1, idxS_none (l := l) (fun x hx => h8 x (by simp [hx])) (fun e => h (by simp [e]))]
    rfl
theorem idxS_at : ∀ {p : List Nat} (q : List Nat), All8 p → 32 ∉ p → Lib.indexByte ((p ++ 32 :: q).map UInt8.ofNat) 32 = (p.length : Int)
  | [], q, _, _ => rfl
  | c :: p, q, h8, h => by
    have h1 : ¬ c = 32 := fun e => h (by simp [e])
    rw [List.cons_append, List.map_cons, Lib.indexByte, ofNat32 (h8 c (by simp)), decide_eq_false h1, idxS_at (p := p) q (fun x hx => h8 x (by simp [hx])) (fun e => h (by simp [e]))]
    rw [if_neg (by simp), if_neg (by rw [beq_iff_eq]; omega), List.length_cons]
    omega

set_option maxRecDepth 100000 in
set_option maxHeartbeats 2000000 in
theorem splitS_in (l0 : List Nat) (h8 : All8 l0) (hl0 : l0.length ≤ 1000000) (n : Nat) (hn : 3 ≤ n) (lw be bs bv : Nat) (hne1 : be ≠ bs) (hne2 : bv ≠ bs) (J Jx : List (List Nat) → World → Prop) (hJ : ∀ s W v, J s W → J s (W.setCell ⟨bs, 0, none⟩ v))
    (hY : ∀ pre x W1, pre ++ [x] <+: splitS l0 → J pre W1 → pre.length < l0.length + 1 → YieldAt Fence.wide (n - 1) Tryz.prog lw (encS x) W1 fun e W' => (e = .returned (.bool true) ∧ J (pre ++ [x]) W' ∧ KeepH [be, bs, bv] W1 W') ∨ (e = .returned (.bool false) ∧ Jx (pre ++ [x]) W'))
    (W : World) (c1 : Boxed W be 9 (.string ⟨#[32]⟩)) (c2 : Boxed W bs 9 (.string (bstr l0))) (c3 : Boxed W bv 3 (.int .i64 0)) (h0 : J [] W) :
    CallsIn Fence.wide n Tryz.prog 107 #[.func (.yield lw) #[] #[], .pointer (some ⟨be, 0, none⟩), .pointer (some ⟨bs, 0, none⟩), .pointer (some ⟨bv, 0, none⟩)] W fun e W' => (∃ v, e = .returned v) ∧
      ((∃ ys, ys = splitS l0 ∧ J ys W') ∨ (∃ pre, pre <+: splitS l0 ∧ Jx pre W')) := by
  refine callsIn_of_wp Tryz.func107 rfl trivial ?_ rfl
  simp only [Tryz.ntmps107, List.size_toArray, List.length_cons, List.length_nil, Nat.reduceAdd, Nat.reduceSub, Array.replicate_succ, Array.replicate_zero, List.push_toArray, List.append_toArray, List.nil_append, List.cons_append]
  have h1 : 1 ≤ n := by omega
  have d1 := c1.cell
  have HJ := Lib.hid hJ
  have HY := Lib.hid hY
  have C1 := Lib.hid c1
  have C2 := Lib.hid c2
  have C3 := Lib.hid c3
  have H0 := Lib.hid h0
  clear hJ hY c1 c2 c3 h0
  gi_wp2_with fail
  gi_loopw [7, 8] (fun _ _ wr => ∃ (pre : List (List Nat)) (l' : List Nat), pre ++ splitS l' = splitS l0 ∧ pre.length + l'.length ≤ l0.length ∧ All8 l' ∧ J pre wr ∧ Boxed wr be 9 (.string ⟨#[32]⟩) ∧ Boxed wr bs 9 (.string (bstr l')) ∧ Boxed wr bv 3 (.int .i64 0))
    (fun _ _ wr => match wr.cell? ⟨bs, 0, none⟩ with | some (.string s) => s.size | _ => 0)
  case atStart => exact ⟨[], l0, rfl, by simp, h8, H0.out, C1.out, C2.out, C3.out⟩
  case round =>
    obtain ⟨pre, l', hs, hlen, h8', hJ', b1, b2, b3⟩ := hrel
    have e1 := b1.cell
    have e2 := b2.cell
    have e3 := b3.cell
    have B1 := Lib.hid b1
    have B2 := Lib.hid b2
    have B3 := Lib.hid b3
    have HS := Lib.hid hs
    have HJ' := Lib.hid hJ'
    have H8 := Lib.hid h8'
    clear d1 C1 C2 C3 H0 hs hJ' h8'
    by_cases hd : 32 ∈ l'
    · obtain ⟨p, q, rfl, hp⟩ := splitS_dot hd
      have hq := splitS_at q hp
      have hix := idxS_at q (fun x hx => H8.out x (by simp [hx])) hp
      have hpl : p.length ≤ 1000000 := by simp at hlen; omega
      have hbl : (bstr (p ++ 32 :: q)).size = p.length + (q.length + 1) := by rw [bstr_size]; simp
      have hx1 : (bstr (p ++ 32 :: q)).extract 0 p.length = bstr p := by rw [bstr_extract, List.drop_zero, List.take_left' rfl]
      have hx2 : (bstr (p ++ 32 :: q)).extract (p.length + 1) (p.length + (q.length + 1)) = bstr q := by rw [bstr_extract, List.take_of_length_le (by simp), show p ++ 32 :: q = (p ++ [32]) ++ q by simp, List.drop_left' (by simp)]
      obtain ⟨fn, tmps, assign, body, hy, hR⟩ := HY.out pre p wr (by rw [← HS.out, hq]; exact ⟨splitS q, by simp⟩) HJ'.out (by omega)
      simp only [encS] at hy
      obtain ⟨S, hS⟩ : ∃ S, bstr (p ++ 32 :: q) = S := ⟨_, rfl⟩
      have hcall0 := Tryz.strings_Index_one S 32 wr
      rw [← hS, bstr_list, hix, hS] at hcall0
      have hcall := Lib.hid hcall0
      clear hcall0
      rw [hS] at e2 hbl hx1 hx2
      obtain ⟨N, hN⟩ : ∃ N, p.length = N := ⟨_, rfl⟩
      rw [hN] at hcall hpl hbl hx1 hx2
      have q1 : ∀ W : World, (Instr.sliceAt 9 (.string S) none (some (.int .i64 (N : Int))) none).run Tryz.prog W = .ok (.string (bstr p)) W := fun W => by
        rw [run_sliceAt_string (P := Tryz.prog) W 9 _ _ _ _ Tryz.underlying9, run_slice_string_h (P := Tryz.prog) W 9 S Tryz.underlying9 .i64 (N : Int) (by omega) (by rw [hbl]; omega), Int.toNat_natCast, hx1]
      have q2 : ∀ W : World, (Instr.sliceAt 9 (.string S) (some (.int .i64 ((N : Int) + 1))) none none).run Tryz.prog W = .ok (.string (bstr q)) W := fun W => by
        rw [run_sliceAt_string (P := Tryz.prog) W 9 _ _ _ _ Tryz.underlying9, run_slice_string_l (P := Tryz.prog) W 9 S Tryz.underlying9 .i64 ((N : Int) + 1) (by omega) (by rw [hbl]; omega), hbl, show ((N : Int) + 1).toNat = N + 1 by omega, hx2]
      have HBL := Lib.hid hbl
      have HN := Lib.hid hN
      have HSS := Lib.hid hS
      have HQ := Lib.hid hq
      clear hix hbl hx1 hx2 hN hS hd hq
      gi_wp2_with (refine ⟨trivial, ?_⟩; gi_at_call 109; refine (callsIn_wide.2 hcall.out).mono ?_; rintro e w1 ⟨rfl, rfl⟩)
      refine hR.mono ?_
      have hpre : splitS l0 = (pre ++ [p]) ++ splitS q := by rw [← HS.out, HQ.out, List.append_assoc]; rfl
      have HPRE := Lib.hid hpre
      clear e1 e2 e3 hpre q1
      rintro e W3 (⟨rfl, hJ3, hk3⟩ | ⟨rfl, hJx3⟩)
      · have k1 := hk3.box (by simp) B1.out
        have k2 := hk3.box (by simp) B2.out
        have k3 := hk3.box (by simp) B3.out
        rw [HSS.out] at k2
        have e1 := k1.cell
        have e2 := k2.cell
        have f2 := k2.frozen
        have K1 := Lib.hid k1
        have K2 := Lib.hid k2
        have K3 := Lib.hid k3
        have HJ3 := Lib.hid hJ3
        clear k1 k2 k3 hJ3 hk3
        gi_wp2_with fail
        have K4 := K2.out.set (.string (bstr q))
        refine ⟨⟨pre ++ [p], q, HPRE.out.symm, by simp at hlen ⊢; omega, fun x hx => H8.out x (by simp [hx]), HJ.out _ _ _ HJ3.out, K1.out.other hne1 _, K4, K3.out.other hne2 _⟩, ?_⟩
        rw [K4.cell, B2.out.cell, HSS.out]
        simp only
        rw [HBL.out, bstr_size]
        omega
      · gi_wp2_with fail
        refine bodyPost_ret (results_none rfl _ _ _) rfl ?_
        exact ⟨⟨_, rfl⟩, .inr ⟨_, by rw [HPRE.out]; exact List.prefix_append _ _, hJx3⟩⟩
    · have hix := idxS_none H8.out hd
      have hsp := splitS_none hd
      obtain ⟨fn, tmps, assign, body, hy, hR⟩ := HY.out pre l' wr (by rw [← HS.out, hsp]; exact List.prefix_refl _) HJ'.out (by omega)
      simp only [encS] at hy
      obtain ⟨S, hS⟩ : ∃ S, bstr l' = S := ⟨_, rfl⟩
      have hcall0 := Tryz.strings_Index_one S 32 wr
      rw [← hS, bstr_list, hix, hS] at hcall0
      have hcall := Lib.hid hcall0
      rw [hS] at e2 hy
      have HPRE := Lib.hid (show splitS l0 = pre ++ [l'] by rw [← HS.out, hsp])
      clear hcall0 hix hsp hS hd
      gi_wp2_with (refine ⟨trivial, ?_⟩; gi_at_call 109; refine (callsIn_wide.2 hcall.out).mono ?_; rintro e w1 ⟨rfl, rfl⟩)
      refine hR.mono ?_
      clear e1 e2 e3
      rintro e W3 (⟨rfl, hJ3, -⟩ | ⟨rfl, hJx3⟩)
      · gi_wp2_with fail
        go_end0
        exact ⟨⟨_, rfl⟩, .inl ⟨_, HPRE.out.symm, hJ3⟩⟩
      · gi_wp2_with fail
        go_end0
        exact ⟨⟨_, rfl⟩, .inr ⟨_, by rw [HPRE.out]; exact List.prefix_refl _, hJx3⟩⟩
theorem splitS_mem : ∀ {l x : List Nat}, x ∈ splitS l → (∀ c ∈ x, c ∈ l) ∧ x.length ≤ l.length := fun {l} => by
  induction l with
  | nil => intro x h; rw [splitS, List.mem_singleton] at h; subst h; simp
  | cons c l ih =>
    intro x h
    rw [splitS] at h
    split at h
    · rcases List.mem_cons.1 h with rfl | h
      · simp
      · have := ih h
        exact ⟨fun y hy => List.mem_cons_of_mem _ (this.1 y hy), by rw [List.length_cons]; omega⟩
    · rcases List.mem_cons.1 h with rfl | h
      · have hne : splitS l ≠ [] := by
          cases l with
          | nil => simp [splitS]
          | cons a m => rw [splitS]; split <;> simp
        obtain ⟨a, t, ha⟩ : ∃ a t, splitS l = a :: t := by
          cases hq : splitS l with
          | nil => exact absurd hq hne
          | cons a t => exact ⟨a, t, rfl⟩
        have := ih (x := a) (by rw [ha]; simp)
        rw [ha, List.headD_cons]
        exact ⟨fun y hy => by
          rcases List.mem_cons.1 hy with rfl | hy
          · simp
          · exact List.mem_cons_of_mem _ (this.1 y hy), by simp; exact this.2⟩
      · have := ih (List.mem_of_mem_tail h)
        exact ⟨fun y hy => List.mem_cons_of_mem _ (this.1 y hy), by rw [List.length_cons]; omega⟩
theorem preS_mem {l x : List Nat} {pre : List (List Nat)} (h : pre ++ [x] <+: splitS l) : x ∈ splitS l := by
  obtain ⟨t, e⟩ := h
  rw [← e]; simp
/-- The iterator as a contract. -/
theorem splitS_seq (l0 : List Nat) (h8 : All8 l0) (hl0 : l0.length ≤ 1000000) (n : Nat) (hn : 3 ≤ n) (be bs bv : Nat) (hne1 : be ≠ bs) (hne2 : bv ≠ bs) (w : World) (c1 : Boxed w be 9 (.string ⟨#[32]⟩)) (c2 : Boxed w bs 9 (.string (bstr l0))) (c3 : Boxed w bv 3 (.int .i64 0)) :
    SeqB n Tryz.prog 107 #[.pointer (some ⟨be, 0, none⟩), .pointer (some ⟨bs, 0, none⟩), .pointer (some ⟨bv, 0, none⟩)] encS [be, bs, bv] bs (fun pre x => pre ++ [x] <+: splitS l0) (fun ys => ys = splitS l0) (fun pre => pre <+: splitS l0) (l0.length + 1) w := fun l J Jx W hk hJ hY h0 =>
  splitS_in l0 h8 hl0 n hn l be bs bv hne1 hne2 J Jx hJ hY W (hk.box (by simp) c1) (hk.box (by simp) c2) (hk.box (by simp) c3) h0
theorem splitseqS_any (s : ByteArray) (w : World) : Calls Tryz.prog 74 #[.string s, .string ⟨#[32]⟩] w fun e w' => e = .returned (.func (.func 107) #[] #[.pointer (some ⟨w.heap.size + 1, 0, none⟩), .pointer (some ⟨w.heap.size, 0, none⟩), .pointer (some ⟨w.heap.size + 1 + 1, 0, none⟩)]) ∧
    w' = ((w.alloc (.cells #[.string s] 9)).alloc (.cells #[.string ⟨#[32]⟩] 9)).alloc (.cells #[.int .i64 0] 3) := by
  have hin : ∀ w, Calls Tryz.prog 85 #[.string s, .string ⟨#[32]⟩, .int .i64 0] w fun e w' => e = .returned (.func (.func 107) #[] #[.pointer (some ⟨w.heap.size + 1, 0, none⟩), .pointer (some ⟨w.heap.size, 0, none⟩), .pointer (some ⟨w.heap.size + 1 + 1, 0, none⟩)]) ∧
      w' = ((w.alloc (.cells #[.string s] 9)).alloc (.cells #[.string ⟨#[32]⟩] 9)).alloc (.cells #[.int .i64 0] 3) := fun w => by
    go_enter Tryz.func85, Tryz.ntmps85
    go_wp2
    go_ret
    exact ⟨rfl, rfl⟩
  have HIN := Lib.hid hin
  clear hin
  go_enter Tryz.func74, Tryz.ntmps74
  go_wp2_with (go_at_call 85; refine (HIN.out _).mono ?_; rintro e w' ⟨rfl, rfl⟩)
  go_ret
  exact ⟨rfl, rfl⟩
end Go.Proofs.YtaiiihdckdjpoaaGreatDoor

/-!
  Layer 7: the text of a set; the contract of the reference's Text.
  Conditions: the OIDs' cells are in their kinds.
-/
namespace Go.Proofs.YtaiiihdckdjpoaaGreatDoor
open Go.RowKit

/-- The dotted forms, each behind a space. -/
def spx (L : List Od) : List Nat := L.flatMap fun o => 32 :: txO o.1 o.2
/-- The dotted forms, separated by spaces. -/
def sj (L : List Od) : List Nat := (spx L).drop 1
/-- The text of a set. -/
def txW (L : List Od) : List Nat := 123 :: (sj L ++ [125])
theorem spx_snoc (L : List Od) (o : Od) : spx (L ++ [o]) = spx L ++ 32 :: txO o.1 o.2 := by unfold spx; rw [List.flatMap_append]; simp
theorem sj_one (o : Od) : sj [o] = txO o.1 o.2 := by unfold sj spx; simp
theorem sj_snoc {L : List Od} (h : L ≠ []) (o : Od) : sj (L ++ [o]) = sj L ++ 32 :: txO o.1 o.2 := by
  unfold sj
  rw [spx_snoc]
  cases L with
  | nil => exact absurd rfl h
  | cons p L => simp [spx]
theorem spx_len {L : List Od} (h : OkL L) : (spx L).length ≤ 1001 * L.length := by
  induction L with
  | nil => simp [spx]
  | cons o L ih =>
    have h1 := txO_len (h o (by simp))
    have h2 := ih fun x hx => h x (by simp [hx])
    unfold spx at *
    rw [List.flatMap_cons, List.length_append, List.length_cons, List.length_cons]
    omega
theorem sj_len {L : List Od} (h : OkL L) : (sj L).length ≤ 1001 * L.length := by
  have := spx_len h
  unfold sj
  rw [List.length_drop]; omega
theorem take_get {L : List Od} {i : Nat} (h : i < L.length) : L.take (i + 1) = L.take i ++ [L[i]] := List.take_succ_eq_append_getElem h

set_option linter.unusedSimpArgs false in
set_option maxHeartbeats 2000000 in
set_option maxRecDepth 100000 in
theorem rtextW_any (A : Option Addr) (L : List Od) (N c : Nat) (w : World) (hA : RdO w A L) (hN : L.length = N) (hm : N ≤ 1000) :
    Calls Tryz.prog 32 #[.slice A N c] w (GiveT w (txW L)) := by
  have R := Lib.hid hA
  have HN := Lib.hid hN
  have HOK := Lib.hid hA.2
  clear hA hN
  go_enter Tryz.func32, Tryz.ntmps32
  go_wp2_with fail
  go_loopw [3, 4] (fun s i wr => ∃ k : Nat, k ≤ N ∧ i = .int .i64 (k : Int) ∧ s = .string (bstr (123 :: sj (L.take k))) ∧ Below w.heap.size w wr) (fun _ i _ => N - (intOf i).toNat)
  case atStart => exact ⟨0, Nat.zero_le _, rfl, rfl, Below.refl _ _⟩
  case round =>
    obtain ⟨k, hk, rfl, rfl, hbl⟩ := hrel
    have BL := Lib.hid hbl
    clear hbl
    have hlen : (sj (L.take k)).length ≤ 1001 * N := by
      have h1 := sj_len (HOK.out.take k)
      rw [List.length_take, HN.out] at h1
      have : 1001 * min k N ≤ 1001 * N := Nat.mul_le_mul_left _ (Nat.min_le_right _ _)
      omega
    by_cases hlt : k < N
    · have hkl : k < L.length := by rw [HN.out]; exact hlt
      obtain ⟨b, off, rfl, hb, hr, ho⟩ := (R.out.below BL.out).at_ hkl
      have hl16 := ho.len
      have htl := txO_len ho
      have HTK := Lib.hid (take_get hkl)
      have HCT := Lib.hid (fun W : World => rtextO_any L[k].1 L[k].2 W ho)
      have HSJ := Lib.hid (show sj (L.take (k + 1)) = if k = 0 then txO L[k].1 L[k].2 else sj (L.take k) ++ 32 :: txO L[k].1 L[k].2 by
        rw [HTK.out]
        by_cases h0 : k = 0
        · subst h0; rw [if_pos rfl, List.take_zero, List.nil_append, sj_one]
        · rw [if_neg h0, sj_snoc]
          intro e
          have := congrArg List.length e
          rw [List.length_take] at this
          simp only [List.length_nil] at this
          omega)
      generalize L[k].1 = n at *
      generalize L[k].2 = l at *
      generalize txO n l = T at *
      have hX : k = 0 → sj (L.take k) = [] := fun e => by subst e; rfl
      generalize sj (L.take k) = X at *
      clear ho
      unfold GiveT at HCT
      by_cases h0 : k = 0
      · subst h0
        have HX := Lib.hid hX
        clear hX
        obtain rfl : X = [] := HX.out rfl
        have HB : Hid (bstr [123] ++ bstr T = bstr (123 :: T)) := bstr_app [123] T
        have hsz : ¬ 9223372036854775807 < (bstr [123]).size + (bstr T).size := by rw [bstr_size, bstr_size]; simp; omega
        have HSJ2 := Lib.hid (show sj (L.take (0 + 1)) = T by rw [HSJ.out, if_pos rfl])
        clear HSJ hlen
        generalize bstr T = ST at *
        generalize bstr [123] = SB at *
        go_wp2_with (first | (refine wpList_loadO rfl (.tmp 18) rfl rfl hr hl16 ?_) | fail)
        refine (HCT.out wr).mono ?_
        rintro e w1 ⟨rfl, hb1⟩
        have B1 := bt BL (Lib.hid hb1)
        clear hb1 BL
        go_wp2_with fail
        exact ⟨⟨1, by omega, rfl, by rw [HB.out, show (1 : Nat) = 0 + 1 from rfl, HSJ2.out], B1.out⟩, by simp [intOf]; omega⟩
      · have HS1 : Hid (bstr (123 :: X) ++ ⟨#[32]⟩ = bstr (123 :: (X ++ [32]))) := bstr_app (123 :: X) [32]
        have HS2 : Hid (bstr (123 :: (X ++ [32])) ++ bstr T = bstr (123 :: (X ++ 32 :: T))) := by
          have h1 := bstr_app (123 :: (X ++ [32])) T
          rw [show (123 :: (X ++ [32])) ++ T = 123 :: (X ++ 32 :: T) by simp] at h1
          exact h1
        have hz1 : ¬ 9223372036854775807 < (bstr (123 :: X)).size + 1 := by rw [bstr_size]; simp; omega
        have hz2 : ¬ 9223372036854775807 < (bstr (123 :: X)).size + (⟨#[32]⟩ : ByteArray).size := hz1
        have hz3 : ¬ 9223372036854775807 < (bstr (123 :: (X ++ [32]))).size + (bstr T).size := by rw [bstr_size, bstr_size]; simp; omega
        have HSJ2 := Lib.hid (show sj (L.take (k + 1)) = X ++ 32 :: T by rw [HSJ.out, if_neg h0])
        have hk0 : (0 : Int) < (k : Int) := by omega
        have hs1 := HS1.out
        clear HSJ hlen hX HS1 h0
        generalize bstr T = ST at *
        generalize bstr (123 :: X) = SB at *
        generalize bstr (123 :: (X ++ [32])) = SC at *
        go_wp2_with (first | (refine wpList_loadO rfl (.tmp 18) rfl rfl hr hl16 ?_) | fail)
        refine (HCT.out wr).mono ?_
        rintro e w1 ⟨rfl, hb1⟩
        have B1 := bt BL (Lib.hid hb1)
        clear hb1 BL
        go_wp2_with fail
        exact ⟨⟨k + 1, by omega, by go_num, by rw [HS2.out, HSJ2.out], B1.out⟩, by simp [intOf]; omega⟩
    · obtain rfl : k = N := by omega
      have HT := Lib.hid (show L.take k = L by rw [← HN.out, List.take_length])
      rw [HT.out] at hlen ⊢
      have HS : Hid (bstr (123 :: sj L) ++ ⟨#[125]⟩ = bstr (txW L)) := bstr_app (123 :: sj L) [125]
      have hz1 : ¬ 9223372036854775807 < (bstr (123 :: sj L)).size + 1 := by rw [bstr_size]; simp; omega
      have hz2 : ¬ 9223372036854775807 < (bstr (123 :: sj L)).size + (⟨#[125]⟩ : ByteArray).size := hz1
      clear hlen hlt
      generalize bstr (123 :: sj L) = SB at *
      unfold GiveT
      go_wp2_with fail
      go_ret
      exact ⟨by rw [← HS.out]; rfl, BL.out⟩
end Go.Proofs.YtaiiihdckdjpoaaGreatDoor

/-!
  Layer 7: what stands between the braces of a set's text; the contract of the program's inside.
  Conditions: the string has at most 1000000 bytes.
-/
namespace Go.Proofs.YtaiiihdckdjpoaaGreatDoor
open Go.RowKit Go.Shelf
attribute [local go_sem] Oper.semAt_some

def opP (l : List Nat) : Bool := l.head? == some 123
def tP (l : List Nat) : List Nat := if opP l = true then l.drop 1 else l
def clP (l : List Nat) : Bool := l.getLast? == some 125
def tS (l : List Nat) : List Nat := if clP l = true then l.dropLast else l
def nE (x : List Nat) : Bool := x != []
/-- What stands between the braces, or the error. -/
def insW (l : List Nat) : List Nat × Nat :=
  if opP l = true ∧ clP (tP l) = true then (if tS (tP l) = [] then ([], 0) else if (splitS (tS (tP l))).all nE = true then (tS (tP l), 0) else ([], 6)) else ([], 6)
theorem ofNat_beq {c k : Nat} (h : c < 256) (hk : k < 256) : (UInt8.ofNat k == UInt8.ofNat c) = decide (c = k) := by
  rw [Bool.eq_iff_iff, beq_iff_eq, decide_eq_true_iff]
  constructor
  · intro e
    have := congrArg UInt8.toNat e
    rw [UInt8.toNat_ofNat_of_lt' h, UInt8.toNat_ofNat_of_lt' hk] at this
    exact this.symm
  · rintro rfl; rfl
theorem hasP {l : List Nat} (h8 : All8 l) : Lib.hasPrefix (l.map UInt8.ofNat) [123] = opP l := by
  unfold Lib.hasPrefix opP
  cases l with
  | nil => rfl
  | cons c t =>
    show ((UInt8.ofNat 123 == UInt8.ofNat c) && true) = (some c == some 123)
    rw [ofNat_beq (h8 c (by simp)) (by omega), Bool.and_true]
    rw [Bool.eq_iff_iff]; simp
theorem hasS {l : List Nat} (h8 : All8 l) : Lib.hasSuffix (l.map UInt8.ofNat) [125] = clP l := by
  unfold Lib.hasSuffix clP
  rcases List.eq_nil_or_concat l with rfl | ⟨t, c, rfl⟩
  · rfl
  · rw [List.concat_eq_append] at h8 ⊢
    unfold List.isSuffixOf
    rw [List.map_append, List.reverse_append, List.getLast?_concat]
    show ((UInt8.ofNat 125 == UInt8.ofNat c) && true) = (some c == some 125)
    rw [ofNat_beq (h8 c (by simp)) (by omega), Bool.and_true]
    rw [Bool.eq_iff_iff]; simp
theorem tP_all {l : List Nat} (h8 : All8 l) : All8 (tP l) := by
  unfold tP; split
  · exact fun x hx => h8 x (List.mem_of_mem_drop hx)
  · exact h8
theorem tS_all {l : List Nat} (h8 : All8 l) : All8 (tS l) := by
  unfold tS; split
  · exact fun x hx => h8 x (List.dropLast_subset l hx)
  · exact h8
theorem tP_len (l : List Nat) : (tP l).length ≤ l.length := by unfold tP; split <;> simp
theorem tS_len (l : List Nat) : (tS l).length ≤ l.length := by unfold tS; split <;> simp
theorem cutP (l : List Nat) (h8 : All8 l) (w : World) : Calls Tryz.prog 83 #[.string (bstr l), .string ⟨#[123]⟩] w fun e w' => e = .returned (.tuple #[.string (bstr (tP l)), .bool (opP l)]) ∧ w = w' := by
  refine (Tryz.strings_CutPrefix (bstr l) ⟨#[123]⟩ w).mono fun e w' ⟨he, hw⟩ => ⟨?_, hw.symm⟩
  rw [he, bstr_list]
  show Ending.returned (.tuple #[.string ⟨(Lib.trimPrefix (l.map UInt8.ofNat) [123]).toArray⟩, .bool (Lib.hasPrefix (l.map UInt8.ofNat) [123])]) = _
  unfold Lib.trimPrefix
  rw [hasP h8]
  unfold tP
  cases opP l
  · rfl
  · rw [if_pos rfl, if_pos rfl, ← List.map_drop]; rfl
theorem cutS (l : List Nat) (h8 : All8 l) (hl : l.length ≤ 1000000) (w : World) : Calls Tryz.prog 84 #[.string (bstr l), .string ⟨#[125]⟩] w fun e w' => e = .returned (.tuple #[.string (bstr (tS l)), .bool (clP l)]) ∧ w = w' := by
  refine (Tryz.strings_CutSuffix (bstr l) ⟨#[125]⟩ w (by rw [bstr_size]; omega)).mono fun e w' ⟨he, hw⟩ => ⟨?_, hw.symm⟩
  rw [he, bstr_list]
  show Ending.returned (.tuple #[.string ⟨(Lib.trimSuffix (l.map UInt8.ofNat) [125]).toArray⟩, .bool (Lib.hasSuffix (l.map UInt8.ofNat) [125])]) = _
  unfold Lib.trimSuffix
  rw [hasS h8]
  unfold tS
  cases clP l
  · rfl
  · rw [if_pos rfl, if_pos rfl, ← List.map_take, List.length_map, List.dropLast_eq_take]; rfl
theorem str_nil {x : List Nat} (h8 : All8 x) : (bstr x).toList.isEmpty = decide (x = []) := by
  rw [← bstr_dec (m := []) h8 (fun _ h => absurd h (by simp))]
  rw [toList_bstr []]
  cases (bstr x).toList <;> rfl
/-- A string's cell and an error's cell are returned. -/
theorem res_se {fn : Func} {p q : Tmp} (h : fn.results = #[.cell p 9, .cell q 29]) (tmps : Array Value) (W : World) {g g' : Nat} {s : ByteArray} {f : Int} (hp : tmps.getD p undef = .pointer (some ⟨g, 0, none⟩)) (hq : tmps.getD q undef = .pointer (some ⟨g', 0, none⟩))
    (hg : Boxed W g 9 (.string s)) (hb : Boxed W g' 29 (.int .i64 f)) : (results fn tmps).run Tryz.prog W = .ok (.tuple #[.string s, .int .i64 f]) W := by
  have hc := hb.cell
  have hd := hg.cell
  have hp' : tmps[p]?.getD undef = .pointer (some ⟨g, 0, none⟩) := by simpa using hp
  have hq' : tmps[q]?.getD undef = .pointer (some ⟨g', 0, none⟩) := by simpa using hq
  have hl1 : (loadVar 9 ⟨g, 0, none⟩).run Tryz.prog W = .ok (.string s) W := by simp [go_sem, hd]
  have hl2 : (loadVar 29 ⟨g', 0, none⟩).run Tryz.prog W = .ok (.int .i64 f) W := by simp [go_sem, hc]
  simp only [results, h]
  simp [Sem.run_bind, Result.andThen, hp', hq', asAddr, hl1, hl2]

set_option maxRecDepth 100000 in
set_option maxHeartbeats 4000000 in
theorem inside_in (l : List Nat) (h8 : All8 l) (hl : l.length ≤ 1000000) (m : Nat) (hm : 6 ≤ m) (w : World) :
    CallsIn Fence.wide m Tryz.prog 73 #[.string (bstr l)] w fun e w' => e = .returned (.tuple #[.string (bstr (insW l).1), .int .i64 ((insW l).2 : Int)]) ∧ Below w.heap.size w w' := by
  have h1 : 1 ≤ m := by omega
  have S0 := Lib.hid ((Boxed.new w 9 (.string ⟨#[]⟩)).alloc (.cells #[.int .i64 0] 29))
  have T0 := Lib.hid (show Boxed ((w.alloc (.cells #[.string ⟨#[]⟩] 9)).alloc (.cells #[.int .i64 0] 29)) (w.heap.size + 1) 29 (.int .i64 0) from by
    have := Boxed.new (w.alloc (.cells #[.string ⟨#[]⟩] 9)) 29 (.int .i64 0)
    rwa [World.size_alloc] at this)
  have B0 := Lib.hid ((bel1 w (.cells #[.string ⟨#[]⟩] 9)).alloc (by simp) (.cells #[.int .i64 0] 29))
  have H8 := Lib.hid (tS_all (tP_all h8))
  have hTL : (tS (tP l)).length ≤ 1000000 := Nat.le_trans (tS_len _) (Nat.le_trans (tP_len l) hl)
  have hp := fun w => cutP l h8 w
  have hs := fun w => cutS (tP l) (tP_all h8) (Nat.le_trans (tP_len l) hl) w
  have hn := str_nil (tS_all (tP_all h8))
  have hI : insW l = insW l := rfl
  conv at hI => rhs; unfold insW
  clear h8 hl
  generalize insW l = I at *
  generalize bstr l = SL at *
  generalize opP l = o at *
  generalize tP l = u at *
  generalize clP u = c at *
  generalize bstr u = SU at *
  generalize tS u = t at *
  have HP := Lib.hid hp
  have HS := Lib.hid hs
  have HI := Lib.hid hI
  have HN := Lib.hid hn
  clear hp hs hI hn
  by_cases hoc : o = true ∧ c = true
  rotate_left
  · have HO : Hid (I = ([], 6)) := Lib.hid (by rw [HI.out, if_neg hoc])
    have hbt : (o = false ∧ c = false) ∨ (o = false ∧ c = true) ∨ (o = true ∧ c = false) := by cases o <;> cases c <;> simp_all
    clear hoc
    have fin : ∀ (o c : Bool), (o = false ∨ c = false) → (Hid (∀ w, Calls Tryz.prog 83 #[.string SL, .string ⟨#[123]⟩] w fun e w' => e = .returned (.tuple #[.string SU, .bool o]) ∧ w = w')) →
      (Hid (∀ w, Calls Tryz.prog 84 #[.string SU, .string ⟨#[125]⟩] w fun e w' => e = .returned (.tuple #[.string (bstr t), .bool c]) ∧ w = w')) →
      CallsIn Fence.wide m Tryz.prog 73 #[.string SL] w fun e w' => e = .returned (.tuple #[.string (bstr I.1), .int .i64 (I.2 : Int)]) ∧ Below w.heap.size w w' := by
      intro o c hoc HP HS
      refine callsIn_of_wp_marks Tryz.func73 rfl trivial ?_ rfl
      simp only [Tryz.ntmps73, List.size_toArray, List.length_cons, List.length_nil, Nat.reduceAdd, Nat.reduceSub, Array.replicate_succ, Array.replicate_zero, List.push_toArray, List.append_toArray, List.nil_append, List.cons_append]
      rw [wpIn_wide]
      go_upto_region 1 with fail
      generalize (w.alloc (.cells #[.string ⟨#[]⟩] 9)).alloc (.cells #[.int .i64 0] 29) = w1 at *
      have c0 := S0.out.cell
      have f0 := S0.out.frozen
      have T1 := T0.out.other (B' := w.heap.size) (by omega) (.string ⟨#[]⟩)
      have c1 := T1.cell
      have f1 := T1.frozen
      have T2 := Lib.hid (T1.set (.int .i64 6))
      have S2 := Lib.hid ((S0.out.set (.string ⟨#[]⟩)).other (B' := w.heap.size + 1) (by omega) (.int .i64 6))
      have B2 := Lib.hid ((B0.out.setCell (p := ⟨w.heap.size, 0, none⟩) (Nat.le_refl _) (.string ⟨#[]⟩)).setCell (p := ⟨w.heap.size + 1, 0, none⟩) (by simp) (.int .i64 6))
      clear T1 S0 T0 B0
      have hoc2 : (o = false ∧ c = false) ∨ (o = false ∧ c = true) ∨ (o = true ∧ c = false) := by revert hoc; cases o <;> cases c <;> simp
      clear hoc
      rcases hoc2 with ⟨rfl, rfl⟩ | ⟨rfl, rfl⟩ | ⟨rfl, rfl⟩
      all_goals
        go_wp2_with (first
          | (go_at_call 83; refine (HP.out _).mono ?_; rintro e w2 ⟨rfl, rfl⟩)
          | (go_at_call 84; refine (HS.out _).mono ?_; rintro e w2 ⟨rfl, rfl⟩))
        refine leaves_marks2 (fun W => Boxed W w.heap.size 9 (.string ⟨#[]⟩) ∧ Boxed W (w.heap.size + 1) 29 (.int .i64 6) ∧ Below w.heap.size w W) w.heap.size (fun W D hD h hk => ⟨boxed_put h.1 hk _, boxed_put h.2.1 hk _, h.2.2.grown (grownBy_putObj' W D _) h.2.2.size (fun k e => by cases e; exact hD)⟩)
          (fun W h => ⟨_, res_se rfl _ W rfl rfl h.1 h.2.1, by rw [HO.out]; rfl, h.2.2⟩) [] _ (by simp) (by simp) ⟨S2.out, T2.out, B2.out⟩
    exact fin o c (by rcases hbt with ⟨h, _⟩ | ⟨h, _⟩ | ⟨_, h⟩ <;> simp [h]) HP HS
  obtain ⟨rfl, rfl⟩ := hoc
  rw [if_pos ⟨rfl, rfl⟩] at HI
  by_cases ht : t = []
  · rw [if_pos ht] at HI
    rw [decide_eq_true ht] at HN
    clear ht H8 hTL
    generalize bstr t = ST at *
    have hn := HN.out
    refine callsIn_of_wp_marks Tryz.func73 rfl trivial ?_ rfl
    simp only [Tryz.ntmps73, List.size_toArray, List.length_cons, List.length_nil, Nat.reduceAdd, Nat.reduceSub, Array.replicate_succ, Array.replicate_zero, List.push_toArray, List.append_toArray, List.nil_append, List.cons_append]
    rw [wpIn_wide]
    go_upto_region 1 with fail
    generalize (w.alloc (.cells #[.string ⟨#[]⟩] 9)).alloc (.cells #[.int .i64 0] 29) = w1 at *
    have c0 := S0.out.cell
    have f0 := S0.out.frozen
    have T1 := T0.out.other (B' := w.heap.size) (by omega) (.string ⟨#[]⟩)
    have c1 := T1.cell
    have f1 := T1.frozen
    have T2 := Lib.hid (T1.set (.int .i64 0))
    have S2 := Lib.hid ((S0.out.set (.string ⟨#[]⟩)).other (B' := w.heap.size + 1) (by omega) (.int .i64 0))
    have B2 := Lib.hid ((B0.out.setCell (p := ⟨w.heap.size, 0, none⟩) (Nat.le_refl _) (.string ⟨#[]⟩)).setCell (p := ⟨w.heap.size + 1, 0, none⟩) (by simp) (.int .i64 0))
    clear T1 S0 T0 B0
    go_wp2_with (first
      | (go_at_call 83; refine (HP.out _).mono ?_; rintro e w2 ⟨rfl, rfl⟩)
      | (go_at_call 84; refine (HS.out _).mono ?_; rintro e w2 ⟨rfl, rfl⟩))
    refine leaves_marks2 (fun W => Boxed W w.heap.size 9 (.string ⟨#[]⟩) ∧ Boxed W (w.heap.size + 1) 29 (.int .i64 0) ∧ Below w.heap.size w W) w.heap.size (fun W D hD h hk => ⟨boxed_put h.1 hk _, boxed_put h.2.1 hk _, h.2.2.grown (grownBy_putObj' W D _) h.2.2.size (fun k e => by cases e; exact hD)⟩)
      (fun W h => ⟨_, res_se rfl _ W rfl rfl h.1 h.2.1, by rw [HI.out]; rfl, h.2.2⟩) [] _ (by simp) (by simp) ⟨S2.out, T2.out, B2.out⟩
  rw [if_neg ht] at HI
  rw [decide_eq_false ht] at HN
  clear ht
  obtain ⟨ST, hST⟩ : ∃ ST, bstr t = ST := ⟨_, rfl⟩
  have HST := Lib.hid hST
  rw [hST] at HN HS
  clear hST
  have hn := HN.out
  refine callsIn_of_wp_marks Tryz.func73 rfl trivial ?_ rfl
  simp only [Tryz.ntmps73, List.size_toArray, List.length_cons, List.length_nil, Nat.reduceAdd, Nat.reduceSub, Array.replicate_succ, Array.replicate_zero, List.push_toArray, List.append_toArray, List.nil_append, List.cons_append]
  rw [wpIn_wide]
  go_upto_region 1 with fail
  generalize (w.alloc (.cells #[.string ⟨#[]⟩] 9)).alloc (.cells #[.int .i64 0] 29) = w1 at *
  go_wp2_with (first
    | (go_at_call 83; refine (HP.out _).mono ?_; rintro e w2 ⟨rfl, rfl⟩)
    | (go_at_call 84; refine (HS.out _).mono ?_; rintro e w2 ⟨rfl, rfl⟩)
    | (go_at_call 74; refine (splitseqS_any _ _).mono ?_; rintro e w' ⟨rfl, rfl⟩))
  have BS := Lib.hid (((Boxed.new w1 9 (.string ST)).alloc (.cells #[.string ⟨#[32]⟩] 9)).alloc (.cells #[.int .i64 0] 3))
  have BE := Lib.hid (show Boxed (((w1.alloc (.cells #[.string ST] 9)).alloc (.cells #[.string ⟨#[32]⟩] 9)).alloc (.cells #[.int .i64 0] 3)) (w1.heap.size + 1) 9 (.string ⟨#[32]⟩) from by
    have := (Boxed.new (w1.alloc (.cells #[.string ST] 9)) 9 (.string ⟨#[32]⟩)).alloc (.cells #[.int .i64 0] 3)
    rwa [World.size_alloc] at this)
  have BV := Lib.hid (show Boxed (((w1.alloc (.cells #[.string ST] 9)).alloc (.cells #[.string ⟨#[32]⟩] 9)).alloc (.cells #[.int .i64 0] 3)) (w1.heap.size + 1 + 1) 3 (.int .i64 0) from by
    have := Boxed.new ((w1.alloc (.cells #[.string ST] 9)).alloc (.cells #[.string ⟨#[32]⟩] 9)) 3 (.int .i64 0)
    rwa [World.size_alloc, World.size_alloc] at this)
  have SG := Lib.hid (((S0.out.alloc (.cells #[.string ST] 9)).alloc (.cells #[.string ⟨#[32]⟩] 9)).alloc (.cells #[.int .i64 0] 3))
  have TG := Lib.hid (((T0.out.alloc (.cells #[.string ST] 9)).alloc (.cells #[.string ⟨#[32]⟩] 9)).alloc (.cells #[.int .i64 0] 3))
  have BB := Lib.hid (((B0.out.alloc B0.out.size (.cells #[.string ST] 9)).alloc (by have := B0.out.size; simp; omega) (.cells #[.string ⟨#[32]⟩] 9)).alloc (by have := B0.out.size; simp; omega) (.cells #[.int .i64 0] 3))
  have hwz : (((w1.alloc (.cells #[.string ST] 9)).alloc (.cells #[.string ⟨#[32]⟩] 9)).alloc (.cells #[.int .i64 0] 3)).heap.size = w1.heap.size + 3 := by simp
  have hsz : w.heap.size + 1 < w1.heap.size := T0.out.lt
  generalize ((w1.alloc (.cells #[.string ST] 9)).alloc (.cells #[.string ⟨#[32]⟩] 9)).alloc (.cells #[.int .i64 0] 3) = w2 at *
  generalize w1.heap.size = b at *
  have HWZ := Lib.hid hwz
  have HSZ := Lib.hid hsz
  have HBS := Lib.hid (show Boxed w2 b 9 (.string (bstr t)) by rw [HST.out]; exact BS.out)
  clear hwz hsz S0 T0 B0 BS
  rw [← wpIn_wide (n := m)]
  refine range_b h1 (gf := 107) (lb := #[.pointer (some ⟨b + 1, 0, none⟩), .pointer (some ⟨b, 0, none⟩), .pointer (some ⟨b + 1 + 1, 0, none⟩)]) rfl (enters_of Tryz.func107 (by kernel_rfl) rfl) (bs := [b + 1, b, b + 1 + 1]) (b := b)
    (fun i hi => by have := HWZ.out; simp at hi; omega) (by simp) (splitS_seq t H8.out hTL (m - 1) (by omega) (b + 1) b (b + 1 + 1) (by omega) (by omega) w2 BE.out HBS.out BV.out) (fun _ => rfl)
    (fun pre W => (pre.all nE = true ∧ Boxed W w.heap.size 9 (.string ⟨#[]⟩) ∧ Boxed W (w.heap.size + 1) 29 (.int .i64 0)) ∧ Below w.heap.size w W)
    (fun c pre W => (c = .ret ∧ pre.all nE = false ∧ Boxed W w.heap.size 9 (.string ⟨#[]⟩) ∧ Boxed W (w.heap.size + 1) 29 (.int .i64 6)) ∧ Below w.heap.size w W)
    (OwnFrom.and (Own.from (fun s A B row hs hg hr => ⟨hs.1, own_box w.heap.size 9 (.string ⟨#[]⟩) (β := List (List Nat)) s A B row hs.2.1 hg hr, own_box (w.heap.size + 1) 29 (.int .i64 0) (β := List (List Nat)) s A B row hs.2.2 hg hr⟩) _) (ownFrom_below (Nat.le_refl _) (by have := HWZ.out; have := HSZ.out; omega)))
    (fun s W v hs => ⟨⟨hs.1.1, hs.1.2.1.other (by have := HSZ.out; omega) v, hs.1.2.2.other (by have := HSZ.out; omega) v⟩, hs.2.setCell (p := ⟨b, 0, none⟩) (by have := HSZ.out; show w.heap.size ≤ b; omega) v⟩)
    (fun c => OwnFrom.and (Own.from (fun s A B row hs hg hr => ⟨hs.1, hs.2.1, own_box w.heap.size 9 (.string ⟨#[]⟩) (β := List (List Nat)) s A B row hs.2.2.1 hg hr, own_box (w.heap.size + 1) 29 (.int .i64 6) (β := List (List Nat)) s A B row hs.2.2.2 hg hr⟩) _) (ownFrom_below (Nat.le_refl _) (by have := HWZ.out; have := HSZ.out; omega)))
    ⟨⟨rfl, SG.out, TG.out⟩, BB.out⟩
    (fun x => { tmps := #[.string ST, undef, .pointer (some ⟨w.heap.size, 0, none⟩), .pointer (some ⟨w.heap.size + 1, 0, none⟩), .bool true, .bool true, .string (bstr x), .tuple #[.string SU, .bool true], .string SL, .tuple #[.string SU, .bool true], .string SU, .bool true, .tuple #[.string ST, .bool true], .string SU, .tuple #[.string ST, .bool true], .string ST, .bool true, .bool true, .bool false, .bool false, .bool true, .bool false, .bool false, .string ST, .bool false, .string ST, .func (.func 107) #[] #[.pointer (some ⟨b + 1, 0, none⟩), .pointer (some ⟨b, 0, none⟩), .pointer (some ⟨b + 1 + 1, 0, none⟩)], .string (bstr x), undef, undef, undef], defers := [] }) ?assign ?body ?done ?stop
  case assign =>
    rintro l y W K hK
    gi_wp2_with fail
    simpa [encS] using hK
  case body =>
    rintro lw pre x W hok ⟨⟨hp, hg, hg2⟩, hB⟩ hlen
    obtain ⟨hxa, hxl⟩ := splitS_mem (preS_mem hok)
    have hx0 := str_nil (x := x) (fun c hc => H8.out c (hxa c hc))
    have HP := Lib.hid hp
    have HG := Lib.hid hg
    have HG2 := Lib.hid hg2
    have HB := Lib.hid hB
    clear hp hg hg2 hB hok hxa
    by_cases hx : x = []
    · rw [decide_eq_true hx] at hx0
      have HF : Hid ((pre ++ [x]).all nE = false) := Lib.hid (by rw [List.all_append, hx]; simp [nE])
      clear hx hxl
      have cg := HG.out.cell
      have fg := HG.out.frozen
      have T1 := HG2.out.other (B' := w.heap.size) (by omega) (.string ⟨#[]⟩)
      have c1 := T1.cell
      have f1 := T1.frozen
      have T2 := Lib.hid T1
      clear T1
      gi_wp2_with fail
      exact ⟨(KeepsOthers.setCell _ _ _).trans (KeepsOthers.setCell _ _ _), ⟨rfl, HF.out, (HG.out.set _).other (by omega) _, T2.out.set _⟩, (HB.out.setCell (p := ⟨w.heap.size, 0, none⟩) (Nat.le_refl _) _).setCell (p := ⟨w.heap.size + 1, 0, none⟩) (by simp) _⟩
    · rw [decide_eq_false hx] at hx0
      have HF : Hid ((pre ++ [x]).all nE = true) := Lib.hid (by rw [List.all_append, HP.out]; simp [nE, hx])
      clear hx hxl
      gi_wp2_with fail
      exact ⟨KeepsOthers.refl _, fun i _ => rfl, ⟨HF.out, HG.out, HG2.out⟩, HB.out⟩
  case done =>
    rintro D ys W hD rfl ⟨⟨hp, hg, hg2⟩, hB⟩ hK
    have HI2 : Hid (I = (t, 0)) := Lib.hid (by rw [HI.out, if_pos hp])
    have HG := Lib.hid hg
    have HG2 := Lib.hid hg2
    have HB := Lib.hid hB
    have HKK := Lib.hid hK
    clear hg hg2 hB hK hp
    have cg := HG.out.cell
    have fg := HG.out.frozen
    have T1 := HG2.out.other (B' := w.heap.size) (by omega) (.string ST)
    have c1 := T1.cell
    have f1 := T1.frozen
    have T2 := Lib.hid T1
    clear T1
    go_wp2
    have hK2 : ((W.setCell ⟨w.heap.size, 0, none⟩ (.string ST)).setCell ⟨w.heap.size + 1, 0, none⟩ (.int .i64 0)).heap[D]? = some (.deferred (some [])) := (setCell_heap (by have := HWZ.out; have := HSZ.out; omega) _).trans ((setCell_heap (by have := HWZ.out; have := HSZ.out; omega) _).trans HKK.out)
    refine leaves_marks2 (fun W => Boxed W w.heap.size 9 (.string ST) ∧ Boxed W (w.heap.size + 1) 29 (.int .i64 0) ∧ Below w.heap.size w W) w.heap.size (fun W D hD h hk => ⟨boxed_put h.1 hk _, boxed_put h.2.1 hk _, h.2.2.grown (grownBy_putObj' W D _) h.2.2.size (fun k e => by cases e; exact hD)⟩)
      (fun W h => ⟨_, res_se rfl _ W rfl rfl h.1 h.2.1, by rw [HI2.out, HST.out]; rfl, h.2.2⟩) [D] _ (by simp) (marks_one (by have := HWZ.out; have := HSZ.out; omega) hK2)
      ⟨(HG.out.set _).other (by omega) _, T2.out.set _, (HB.out.setCell (p := ⟨w.heap.size, 0, none⟩) (Nat.le_refl _) _).setCell (p := ⟨w.heap.size + 1, 0, none⟩) (by simp) _⟩
  case stop =>
    rintro D c pre W hD hpre ⟨⟨rfl, hp, hg, hg2⟩, hB⟩ hK
    have HI2 : Hid (I = ([], 6)) := Lib.hid (by
      rw [HI.out, if_neg]
      obtain ⟨t, e⟩ := hpre
      rw [← e, List.all_append, hp]; simp)
    have HG := Lib.hid hg
    have HG2 := Lib.hid hg2
    have HB := Lib.hid hB
    have HKK := Lib.hid hK
    clear hpre hp hg hg2 hB hK
    rw [wpIn_wide]
    go_wp2
    refine leaves_marks2 (fun W => Boxed W w.heap.size 9 (.string ⟨#[]⟩) ∧ Boxed W (w.heap.size + 1) 29 (.int .i64 6) ∧ Below w.heap.size w W) w.heap.size (fun W D hD h hk => ⟨boxed_put h.1 hk _, boxed_put h.2.1 hk _, h.2.2.grown (grownBy_putObj' W D _) h.2.2.size (fun k e => by cases e; exact hD)⟩)
      (fun W h => ⟨_, res_se rfl _ W rfl rfl h.1 h.2.1, by rw [HI2.out]; rfl, h.2.2⟩) [D] _ (by simp) (marks_one (by have := HWZ.out; have := HSZ.out; omega) HKK.out) ⟨HG.out, HG2.out, HB.out⟩
theorem inside_any (l : List Nat) (h8 : All8 l) (hl : l.length ≤ 1000000) (w : World) : Calls Tryz.prog 73 #[.string (bstr l)] w fun e w' => e = .returned (.tuple #[.string (bstr (insW l).1), .int .i64 ((insW l).2 : Int)]) ∧ Below w.heap.size w w' :=
  callsIn_wide.1 (inside_in l h8 hl 6 (by omega) w)
end Go.Proofs.YtaiiihdckdjpoaaGreatDoor

/-!
  Layer 7: steps of a walk inside a fence at whole OIDs (load, literal of one, append); a row of OIDs grows by one.
-/
namespace Go.Proofs.YtaiiihdckdjpoaaGreatDoor
open Go.RowKit Go.Shelf
attribute [local go_sem] Oper.semAt_some

theorem ok_zero : OkO 0 zeroL := ⟨by omega, rfl, by intro x hx; unfold zeroL at hx; rw [List.mem_replicate] at hx; omega⟩
theorem wpListIn_load25 {F : Fence} {n : Nat} {ops : Array Oper} {rest : List Oper} {o : Oper} {a : Act} {w : World} {Q : Exit → Act → World → Prop} (hgd : o.guard = none) (x : Operand) (ho : o.op = .load 26 x)
    {g m : Nat} {l : List Nat} (hx : a.eval x = .pointer (some ⟨g, 0, none⟩)) (hg : Bk w g 26 (oc m l)) (hl : l.length = 16)
    (h : wpListIn F n Tryz.prog ops Q rest (a.put o.dst (oV m l)) w) : wpListIn F n Tryz.prog ops Q (o :: rest) a w := by
  refine wpListIn_plain hgd fun K hK => ?_
  have hK' := hK _ _ h
  have hr := load25 hg hl
  unfold Oper.wpIn
  refine ⟨?_, ?_⟩
  · simp [Oper.about, ho]
  · rw [Oper.semAt_plain F _ _ (by rw [ho]; intro c hc'; cases hc')]
    unfold execOp
    simp only [ho, hx, hr, Sem.run_bind, Sem.run_pure, Result.andThen_ok]
    exact hK'
theorem wpListIn_buildO {F : Fence} {n : Nat} {ops : Array Oper} {rest : List Oper} {o : Oper} {a : Act} {w : World} {Q : Exit → Act → World → Prop} (hgd : o.guard = none) (t : Tmp) (ho : o.op = .buildSlice 22 1 #[(0, .tmp t)])
    {m : Nat} {l : List Nat} (hx : a.eval (.tmp t) = oV m l) (hl : l.length = 16)
    (h : wpListIn F n Tryz.prog ops Q rest (a.put o.dst (.slice (some ⟨w.heap.size, 0, none⟩) 1 1)) (w.alloc (.cells (oc m l).toArray 26))) : wpListIn F n Tryz.prog ops Q (o :: rest) a w := by
  refine wpListIn_plain hgd fun K hK => ?_
  have hK' := hK _ _ h
  obtain ⟨i, hi, hz0, hz1, hz2⟩ := info_parts infoO3
  have hf := Great.fill_whole (s := 17) (by decide) [oV m l] ((Array.range (1 * 17)).map ((oV 0 zeroL).cells[· % (oV 0 zeroL).cells.size]!)) (by
    intro v hv
    obtain rfl := List.mem_singleton.1 hv
    rw [show (oV m l).cells = (oc m l).toArray from rfl, List.size_toArray, oc_length, hl]) (by simp)
  rw [show ([oV m l].zipIdx 0).map (fun x => (x.2, x.1)) = (#[(0, Operand.tmp t)].map fun (i, x) => (i, a.eval x)).toList by simp [hx]] at hf
  have hr := run_buildSlice (P := Tryz.prog) w 22 26 1 _ (oc m l).toArray i _ Tryz.underlying22 hi hz0 (by rw [hz1]; decide) (by rw [hz1]; decide) (by rw [hz1, hf]; simp [oV, Value.cells])
  unfold Oper.wpIn
  refine ⟨?_, ?_⟩
  · simp [Oper.about, ho]
  · rw [Oper.semAt_plain F _ _ (by rw [ho]; intro c hc'; cases hc')]
    unfold execOp
    simp only [ho, Sem.run_bind, hr, Result.andThen_ok]
    exact hK'
/-- An OID is laid behind the others: what grows. -/
theorem pushO {w : World} {B : Nat} {v : Value} {K : List Od} (hown : w.ownsRow B 26 17 v K.length (ocs K)) (hbz : B ≤ w.heap.size) (hl : K.length ≤ 1000000) {n : Nat} {l : List Nat} (ho : OkO n l) :
    ∃ g cap w2, (Builtin.append_ #[22, 22] 22 #[v, .slice (some ⟨w.heap.size, 0, none⟩) 1 1]).run Tryz.prog (w.alloc (.cells (oc n l).toArray 26)) = .ok (.slice (some ⟨g, 0, none⟩) (K.length + 1) cap) w2 ∧
      w2.ownsRow B 26 17 (.slice (some ⟨g, 0, none⟩) (K.length + 1) cap) (K ++ [(n, l)]).length (ocs (K ++ [(n, l)])) ∧ (w.alloc (.cells (oc n l).toArray 26)).grownBy w2 v.ownBlock := by
  obtain ⟨i, hi, hz0, hz1, hz2⟩ := info_parts infoO3
  have hb := bel1 w (.cells (oc n l).toArray 26)
  have hown1 := hown.alloc (.cells (oc n l).toArray 26)
  have h17 : (oc n l).length = 17 := oc_17 (o := (n, l)) ho
  have hcell : ∀ j y, (oc n l)[j]? = some y → (w.alloc (.cells (oc n l).toArray 26)).cell? ((⟨w.heap.size, 0, none⟩ : Addr).add j) = some y := by
    intro j y hy
    have := (Bk.new w 26 (oc n l)).cell j
    rw [addr_addO, Nat.zero_add, this]; exact hy
  have hones : ∀ u ∈ oc n l, u.oneCell' = true := fun u hu => Array.all_eq_true_iff_forall_mem.1 (oc_one n l) u (by simpa using hu)
  obtain ⟨g, cap, w2, hrun, h2, h3, h4, h5⟩ := run_append_lies (P := Tryz.prog) (w := w.alloc (.cells (oc n l).toArray 26)) 22 22 B 26 i _ 17 68 Tryz.underlying22 hi hz0 hz1 hz2 (by rw [show (oV 0 zeroL).cells = (oc 0 zeroL).toArray from rfl, List.size_toArray]; rfl) (by decide) v K.length (ocs K) hown1 ⟨w.heap.size, 0, none⟩ 1 1 (oc n l) (by rw [h17]) hcell hones (by decide) (by unfold maxLen; omega) (by omega) (by simp; omega) (w.heap.size + 1) (by simp)
  refine ⟨g, cap, w2, hrun, ?_, h3⟩
  rw [List.length_append, ocs_app, show ocs [(n, l)] = oc n l by rw [ocs, ocs, List.append_nil]]
  exact h2
/-- An OID whose cells are in their kinds. -/
abbrev OD := {o : Od // OkO o.1 o.2}
/-- As they are. -/
abbrev vs (L : List OD) : List Od := L.map Subtype.val
theorem vs_ok (L : List OD) : OkL (vs L) := fun o ho => by
  obtain ⟨x, _, rfl⟩ := List.mem_map.1 ho
  exact x.2
end Go.Proofs.YtaiiihdckdjpoaaGreatDoor

/-!
  Layer 7: the text of a set; the contract of the program's Text (append of the elements' texts, strings.Join).
  Conditions: the OIDs' cells are in their kinds; the variables hold what the program's text lays.
-/
namespace Go.Proofs.YtaiiihdckdjpoaaGreatDoor
open Go.RowKit

/-- Strings as cells. -/
def tcs (L : List Od) : List Value := L.map fun o => .string (bstr (txO o.1 o.2))
theorem tcs_len (L : List Od) : (tcs L).length = L.length := by unfold tcs; rw [List.length_map]
theorem tcs_snoc (L : List Od) (o : Od) : tcs (L ++ [o]) = tcs L ++ [.string (bstr (txO o.1 o.2))] := by unfold tcs; rw [List.map_append]; rfl
theorem infoS : (Tryz.prog.info? 9).map (fun i => (i.zero, i.size, i.bytes)) = some (some (.string ⟨#[]⟩), 1, 16) := by kernel_rfl
theorem appS {w : World} {base : Nat} {v : Value} {L : List Od} (hown : w.ownsRow base 9 1 v L.length (tcs L)) (o : Od) (hb : base ≤ w.heap.size) (hl : L.length ≤ 1000000) :
    ∃ v' w', (Builtin.append_ #[59, 59] 59 #[v, .slice (some ⟨w.heap.size, 0, none⟩) 1 1]).run Tryz.prog (w.alloc (.cells #[.string (bstr (txO o.1 o.2))] 9)) = .ok v' w' ∧ w'.ownsRow base 9 1 v' (L ++ [o]).length (tcs (L ++ [o])) ∧ Below base w w' := by
  rw [← tcs_len] at hown
  obtain ⟨v', w', h1, h2, h3⟩ := app_one (P := Tryz.prog) (ty := 59) Tryz.underlying59 infoS rfl hown (.string (bstr (txO o.1 o.2))) rfl hb (by rw [tcs_len]; omega) (by rw [tcs_len]; unfold maxLen; omega)
  refine ⟨v', w', h1, ?_, h3⟩
  rw [← tcs_len, tcs_snoc]
  exact h2
theorem own_keptS {w w' : World} {base : Nat} {e : TypeId} {size : Nat} {v : Value} {n : Nat} {xs : List Value} (h : w.ownsRow base e size v n xs) (hk : Below w.heap.size w w') : w'.ownsRow base e size v n xs :=
  own_keptO h fun g hg => hk.block g (h.lt g hg).2
theorem tail_spx (L : List Od) : (spx L).map UInt8.ofNat = Lib.joinTail [32] (L.map fun o => (txO o.1 o.2).map UInt8.ofNat) := by
  unfold spx Lib.joinTail
  induction L with
  | nil => rfl
  | cons o L ih => rw [List.flatMap_cons, List.map_append, ih]; simp
theorem join_sj (L : List Od) : Lib.join ((L.map fun o => bstr (txO o.1 o.2)).map (·.data.toList)) [32] = (sj L).map UInt8.ofNat := by
  have h : (L.map fun o => bstr (txO o.1 o.2)).map (·.data.toList) = L.map fun o => (txO o.1 o.2).map UInt8.ofNat := by
    rw [List.map_map]; exact List.map_congr_left fun o _ => bstr_list _
  rw [h]
  cases L with
  | nil => rfl
  | cons o L =>
    rw [List.map_cons, Lib.join_cons, ← tail_spx]
    show _ = ((spx (o :: L)).drop 1).map UInt8.ofNat
    unfold spx
    simp
theorem join_str (L : List Od) : (⟨(Lib.join ((L.map fun o => bstr (txO o.1 o.2)).map (·.data.toList)) (⟨#[32]⟩ : ByteArray).data.toList).toArray⟩ : ByteArray) = bstr (sj L) := by
  show (⟨(Lib.join _ [32]).toArray⟩ : ByteArray) = _
  rw [join_sj]; rfl
theorem joinT (w : World) (B : Nat) (v : Value) (L : List Od) (hown : w.ownsRow B 9 1 v L.length (tcs L)) (hl : L.length ≤ 1000) (hok : OkL L) :
    Calls Tryz.prog 42 #[v, .string ⟨#[32]⟩] w (GiveT w (sj L)) := by
  have h1 := own_open (w := w) (base := B) (v := v) (e := 9) (xs := tcs L) (by rw [tcs_len]; exact hown)
  obtain ⟨A', c, rfl, hr, hc, _⟩ := h1
  rw [tcs_len] at hc ⊢
  cases L with
  | nil => exact (Tryz.strings_Join_none A' c ⟨#[32]⟩ w).mono fun e w' ⟨he, hw⟩ => ⟨by rw [he]; rfl, hw ▸ Below.refl _ _⟩
  | cons o L =>
    have hne : tcs (o :: L) ≠ [] := by unfold tcs; simp
    obtain ⟨b, off, rfl, hb, hcells⟩ := hr hne
    have hsl := sj_len hok
    have := Tryz.strings_Join b off c ((o :: L).map fun o => bstr (txO o.1 o.2)) ⟨#[32]⟩ w (fun j x hx => hcells j _ (by unfold tcs; rw [List.getElem?_map] at hx ⊢; cases h : (o :: L)[j]? with
      | none => rw [h] at hx; cases hx
      | some y => rw [h] at hx; injection hx with hx; rw [← hx]; rfl)) hb (by rw [List.length_map]; omega) (by rw [List.length_map]; exact hc) (by
        show (Lib.join _ [32]).length ≤ _
        rw [join_sj, List.length_map]; omega)
    rw [List.length_map] at this
    refine this.mono fun e w' ⟨he, hw⟩ => ⟨?_, hw⟩
    rw [he, join_str]

set_option linter.unusedSimpArgs false in
set_option maxHeartbeats 2000000 in
set_option maxRecDepth 100000 in
theorem textW_any (A : Option Addr) (L : List Od) (N c : Nat) (w : World) (hA : RdO w A L) (hN : L.length = N) (hm : N ≤ 1000) (hE : Env w) :
    Calls Tryz.prog 17 #[.slice A N c] w (GiveT w (if chkW L = 0 then txW L else [63])) := by
  have HCK := Lib.hid (ochk_any A L N c w hA hN (by omega))
  have R := Lib.hid hA
  have HN := Lib.hid hN
  have HOK := Lib.hid hA.2
  have HE := Lib.hid hE
  have hz := zero25
  obtain ⟨zl, hzl⟩ : ∃ zl, zeroL = zl := ⟨_, rfl⟩
  have HZL : Hid (zl.length = 16) := Lib.hid (by rw [← hzl]; exact zeroL_length)
  rw [hzl] at hz
  clear hzl hA hN hE
  unfold GiveF at HCK
  by_cases hck : chkW L = 0
  rotate_left
  · rw [if_neg hck]
    have hcb : ((chkW L : Int) != 0) = true := by simp; exact hck
    clear hck
    generalize chkW L = F at *
    go_enter Tryz.func17, Tryz.ntmps17
    go_wp2_with fail
    refine HCK.out.mono ?_
    rintro e w1 ⟨rfl, hb⟩
    have B := Lib.hid hb
    clear hb
    go_wp2_with fail
    go_ret
    exact ⟨rfl, B.out⟩
  rw [if_pos hck]
  rw [hck] at HCK
  clear hck
  go_enter Tryz.func17, Tryz.ntmps17
  go_wp2_with fail
  refine HCK.out.mono ?_
  rintro e w0 ⟨rfl, hb⟩
  have B0 := Lib.hid hb
  clear hb HCK
  go_wp2_with fail
  go_loopw [3, 11] (fun s i wr => ∃ k : Nat, k ≤ N ∧ i = .int .i64 (k : Int) ∧ wr.ownsRow w.heap.size 9 1 s (L.take k).length (tcs (L.take k)) ∧ Below w.heap.size w wr) (fun _ i _ => N - (intOf i).toNat)
  case atStart => exact ⟨0, Nat.zero_le _, rfl, World.ownsRow_nil _ _ _ _, B0.out⟩
  case round =>
    obtain ⟨k, hk, rfl, hown, hbl⟩ := hrel
    have BL := Lib.hid hbl
    have HOwn := Lib.hid hown
    clear hbl hown B0
    by_cases hlt : k < N
    · have hkl : k < L.length := by rw [HN.out]; exact hlt
      obtain ⟨b, off, rfl, hb, hr, ho⟩ := (R.out.below BL.out).at_ hkl
      have hl16 := ho.len
      have HO := Lib.hid ho
      have HTK := Lib.hid (take_get hkl)
      have hle : (L.take k).length ≤ 1000000 := by rw [List.length_take]; omega
      have hpair : L[k] = (L[k].1, L[k].2) := rfl
      generalize L[k] = o at *
      obtain ⟨n, l⟩ := o
      have HR := Lib.hid hr
      clear ho hr hpair
      go_upto_region 7 with (first
        | (refine wpList_loadO rfl (.tmp 13) rfl rfl HR.out hl16 ?_)
        | (refine wpList_store25 rfl (.tmp 5) (.tmp 14) rfl (n := n) (l := l) rfl rfl (Bk.new wr 26 (oc 0 zl)) (by rw [oc_length, HZL.out]) hl16 ?_; intro w3 V3 hg3 hz3; have KO := Lib.hid V3; have hb3 : Below wr.heap.size wr w3 := (bel1 wr (.cells (oc 0 zl).toArray 26)).grown hg3 (by simp) (fun j e => by injection e with e; omega); clear V3 hg3 hz3))
      have B3 := Lib.hid (BL.out.trans (hb3.mono BL.out.size))
      have HOwn3 := Lib.hid (own_keptS HOwn.out hb3)
      obtain ⟨go, hgo⟩ : ∃ go, wr.heap.size = go := ⟨_, rfl⟩
      rw [hgo] at KO
      clear hb3 BL HOwn HR
      try rw [hgo]
      clear hgo
      have HT := Lib.hid (text_any n l w3 HO.out (HE.out.below (B3.out.mono (Nat.le_refl _))))
      unfold GiveT at HT
      go_wp2_with (first
        | (refine wpList_load25 rfl (.tmp 5) rfl rfl KO.out hl16 ?_)
        | (at_builtin; refine wpList_app rfl _ _ _ _ rfl _ _ rfl rfl hrun ?_)
        | (go_at_call 41; refine HT.out.mono ?_; rintro e w4 ⟨rfl, hb4⟩; have B4 := bt B3 (Lib.hid hb4); obtain ⟨v', w5, hrun, hown5, hb5⟩ := appS (own_keptS HOwn3.out hb4) (n, l) B4.out.size hle; have HOwn5 := Lib.hid hown5; have B5 := Lib.hid (B4.out.trans hb5); clear hown5 hb5 hb4))
      exact ⟨⟨k + 1, by omega, by go_num, by rw [HTK.out]; exact HOwn5.out, B5.out⟩, by simp [intOf]; omega⟩
    · obtain rfl : k = N := by omega
      have HT := Lib.hid (show L.take k = L by rw [← HN.out, List.take_length])
      rw [HT.out] at HOwn
      have HJ := Lib.hid (joinT wr w.heap.size _ L HOwn.out (by rw [HN.out]; exact hm) HOK.out)
      have hjl := sj_len HOK.out
      rw [HN.out] at hjl
      have HS1 : Hid ((⟨#[123]⟩ : ByteArray) ++ bstr (sj L) = bstr (123 :: sj L)) := bstr_app [123] (sj L)
      have HS2 : Hid (bstr (123 :: sj L) ++ ⟨#[125]⟩ = bstr (txW L)) := bstr_app (123 :: sj L) [125]
      have hz1 : ¬ 9223372036854775807 < (⟨#[123]⟩ : ByteArray).size + (bstr (sj L)).size := by rw [bstr_size]; show ¬ _ < 1 + _; omega
      have hz2 : ¬ 9223372036854775807 < (bstr (123 :: sj L)).size + (⟨#[125]⟩ : ByteArray).size := by rw [bstr_size, List.length_cons]; show ¬ _ < _ + 1; omega
      have hz1' : ¬ 9223372036854775807 < 1 + (bstr (sj L)).size := hz1
      have hz2' : ¬ 9223372036854775807 < (bstr (123 :: sj L)).size + 1 := hz2
      have hs1 := HS1.out
      have hs2 := HS2.out
      unfold GiveT at HJ
      clear hjl hlt HS1 HS2 HT
      generalize bstr (sj L) = SA at *
      generalize bstr (123 :: sj L) = SB at *
      go_wp2_with (go_at_call 42; refine HJ.out.mono ?_; rintro e w4 ⟨rfl, hb4⟩; have B4 := bt BL (Lib.hid hb4); clear hb4)
      go_ret
      unfold GiveT
      exact ⟨rfl, B4.out⟩
end Go.Proofs.YtaiiihdckdjpoaaGreatDoor

/-!
  Layer 7: the contract of the program's Parse.
  Conditions: the string has at most 1000000 bytes; the variables hold what the program's text lays.
-/
namespace Go.Proofs.YtaiiihdckdjpoaaGreatDoor
open Go.RowKit Go.Shelf
attribute [local go_sem] Oper.semAt_some

/-- The OID that a piece is read as. -/
def odO (x : List Nat) : Od := ((prsO x).1, (prsO x).2.1)
/-- The first error among the pieces'. -/
def frE : List (List Nat) → Nat
  | [] => 0
  | x :: r => if (prsO x).2.2 ≠ 0 then (prsO x).2.2 else frE r
theorem frE_snoc : ∀ {ps : List (List Nat)} (x : List Nat), frE ps = 0 → frE (ps ++ [x]) = (prsO x).2.2
  | [], x, _ => by
    show (if (prsO x).2.2 ≠ 0 then (prsO x).2.2 else 0) = _
    split <;> omega
  | y :: r, x, h => by
    rw [frE] at h
    rw [List.cons_append, frE]
    split at h
    · rename_i h2; exact absurd h h2
    · rename_i h2; rw [if_neg h2]; exact frE_snoc x h
theorem frE_pre : ∀ {ps qs : List (List Nat)}, ps <+: qs → frE ps ≠ 0 → frE qs = frE ps
  | [], _, _, h => absurd rfl h
  | y :: r, qs, ⟨t, e⟩, h => by
    subst e
    rw [List.cons_append, frE, frE]
    rw [frE] at h
    split at h
    · rename_i h2; rw [if_pos h2, if_pos h2]
    · rename_i h2; rw [if_neg h2, if_neg h2]; exact frE_pre ⟨t, rfl⟩ h
/-- The first 257 of what the pieces are read as. -/
def kq (ps : List (List Nat)) : List Od := (ps.map odO).take 257
theorem kq_snoc_lt {ps : List (List Nat)} (x : List Nat) (h : (kq ps).length ≤ 256) : kq (ps ++ [x]) = kq ps ++ [odO x] := by
  unfold kq at h ⊢
  rw [List.length_take, List.length_map] at h
  rw [List.map_append, List.take_of_length_le (by simp; omega), List.take_of_length_le (by simp; omega)]
  rfl
theorem kq_snoc_ge {ps : List (List Nat)} (x : List Nat) (h : ¬ (kq ps).length ≤ 256) : kq (ps ++ [x]) = kq ps := by
  unfold kq at h ⊢
  rw [List.length_take, List.length_map] at h
  rw [List.map_append, List.take_append_of_le_length (by simp; omega)]
/-- What Parse answers. -/
def prsW (l : List Nat) : List Od × Nat :=
  if (insW l).2 ≠ 0 then ([], (insW l).2) else if (insW l).1 = [] then ([], 0) else if frE (splitS (insW l).1) ≠ 0 then ([], frE (splitS (insW l).1))
  else if chkW (kq (splitS (insW l).1)) ≠ 0 then ([], chkW (kq (splitS (insW l).1))) else (kq (splitS (insW l).1), 0)
theorem odO_ok (x : List Nat) : OkO (odO x).1 (odO x).2 := by
  unfold odO prsO
  split
  · exact ok_zero
  · split
    · exact ok_zero
    · rename_i h
      split
      · rw [Bool.not_eq_false] at h
        unfold fits at h
        rw [Bool.and_eq_true, decide_eq_true_eq] at h
        have hall : ∀ z ∈ (splitD x).map vd, z < 4294967296 := fun z hz => by
          obtain ⟨y, hy, rfl⟩ := List.mem_map.1 hz
          have := List.all_eq_true.1 h.2 y hy
          rw [decide_eq_true_eq] at this
          omega
        have := okO_pad (l := (splitD x).map vd) (by rw [List.length_map]; exact h.1) hall
        rw [List.length_map] at this
        exact this
      · exact ok_zero
theorem kq_ok (ps : List (List Nat)) : OkL (kq ps) := by
  intro o ho
  obtain ⟨x, _, rfl⟩ := List.mem_map.1 (List.mem_of_mem_take ho)
  exact odO_ok x
theorem kq_len (ps : List (List Nat)) : (kq ps).length ≤ 257 := by unfold kq; rw [List.length_take]; omega
/-- A slice's cell and an error's cell are returned. -/
theorem res_qe {fn : Func} {p q : Tmp} (h : fn.results = #[.cell p 22, .cell q 29]) (tmps : Array Value) (W : World) {g g' : Nat} {A : Option Addr} {n c : Nat} {f : Int} (hp : tmps.getD p undef = .pointer (some ⟨g, 0, none⟩)) (hq : tmps.getD q undef = .pointer (some ⟨g', 0, none⟩))
    (hg : Boxed W g 22 (.slice A n c)) (hb : Boxed W g' 29 (.int .i64 f)) : (results fn tmps).run Tryz.prog W = .ok (.tuple #[.slice A n c, .int .i64 f]) W := by
  have hc := hb.cell
  have hd := hg.cell
  have hp' : tmps[p]?.getD undef = .pointer (some ⟨g, 0, none⟩) := by simpa using hp
  have hq' : tmps[q]?.getD undef = .pointer (some ⟨g', 0, none⟩) := by simpa using hq
  have hl1 : (loadVar 22 ⟨g, 0, none⟩).run Tryz.prog W = .ok (.slice A n c) W := by simp [go_sem, hd]
  have hl2 : (loadVar 29 ⟨g', 0, none⟩).run Tryz.prog W = .ok (.int .i64 f) W := by simp [go_sem, hc]
  simp only [results, h]
  simp [Sem.run_bind, Result.andThen, hp', hq', asAddr, hl1, hl2]

/-- What stands between two rounds. -/
def ParQ (w2 : World) (base g4 : Nat) (K : List Od) (W : World) : Prop :=
  (∃ v, Boxed W g4 22 v ∧ W.ownsRow w2.heap.size 26 17 v K.length (ocs K) ∧ True) ∧ (Boxed W base 22 (.slice none 0 0) ∧ Boxed W (base + 1) 29 (.int .i64 0)) ∧ Below base w2 W
theorem ParQ.below {w2 : World} {base g4 : Nat} {K : List Od} {W W' : World} (h : ParQ w2 base g4 K W) (hb : Below W.heap.size W W') (hB : base ≤ w2.heap.size) : ParQ w2 base g4 K W' := by
  obtain ⟨⟨v, h1, h2, -⟩, ⟨h3, h4⟩, h5⟩ := h
  refine ⟨⟨v, (hb.block g4 h1.lt).trans h1, own_keptS h2 hb, trivial⟩, ⟨(hb.block _ h3.lt).trans h3, (hb.block _ h4.lt).trans h4⟩, h5.trans (hb.mono (Nat.le_trans hB h5.size))⟩
theorem ParQ.cell {w2 : World} {base g4 b : Nat} {K : List Od} {W : World} (h : ParQ w2 base g4 K W) (h1 : g4 < b) (h2 : base + 1 < g4) (h3 : b < w2.heap.size) (u : Value) : ParQ w2 base g4 K (W.setCell ⟨b, 0, none⟩ u) := by
  obtain ⟨⟨v, k1, k2, -⟩, ⟨k3, k4⟩, k5⟩ := h
  exact ⟨⟨v, k1.other (by omega) _, ownsRow_setCell_below k2 (a := ⟨b, 0, none⟩) h3 u, trivial⟩, ⟨k3.other (by omega) _, k4.other (by omega) _⟩, k5.setCell (p := ⟨b, 0, none⟩) (by show base ≤ b; omega) _⟩
theorem parQ_own (w2 : World) (base g4 : Nat) (B : Nat) (h1 : base ≤ w2.heap.size) (h2 : base ≤ B) (f : List (List Nat) → List Od) : OwnFrom B (fun s W => ParQ w2 base g4 (f s) W) :=
  OwnFrom.and (Own.from (holdsRow_own w2.heap.size g4 22 26 17 (fun s => (f s).length) (fun s => ocs (f s)) (fun _ _ => True)) B)
    (OwnFrom.and (OwnFrom.and (Own.from (own_box base 22 _) B) (Own.from (own_box (base + 1) 29 _) B)) (ownFrom_below h1 h2))
/-- A round ends. -/
theorem parQ_end {w2 W w3 : World} {base g4 : Nat} {K M : List Od} {v v' : Value} {tmp : Obj} {bs : List Nat} (hbs : ∀ i ∈ bs, g4 < i ∧ i < w2.heap.size) (h2 : base + 1 < g4) (hg4 : g4 < w2.heap.size) (hP : ParQ w2 base g4 K W) (hv : Boxed W g4 22 v) (hrow : W.ownsRow w2.heap.size 26 17 v K.length (ocs K))
    (hown : w3.ownsRow w2.heap.size 26 17 v' M.length (ocs M)) (hg : (W.alloc tmp).grownBy w3 v.ownBlock) :
    KeepsOthers W (w3.setCell ⟨g4, 0, none⟩ v') ∧ KeepH bs W (w3.setCell ⟨g4, 0, none⟩ v') ∧ ParQ w2 base g4 M (w3.setCell ⟨g4, 0, none⟩ v') := by
  obtain ⟨-, ⟨k3, k4⟩, k5⟩ := hP
  have hsz := k5.size
  have hlow : ∀ i, i < w2.heap.size → w3.heap[i]? = W.heap[i]? := fun i hi =>
    (hg.block i (by simp; omega) (fun e => by have := (hrow.lt i e.symm).1; omega)).trans (Below.heap_alloc W tmp i (by omega))
  refine ⟨?_, fun i hi => ?_, ⟨⟨v', ?_, ownsRow_setCell_below hown (a := ⟨g4, 0, none⟩) hg4 v', trivial⟩, ⟨?_, ?_⟩, ?_⟩⟩
  · refine ((KeepsOthers.alloc W tmp).trans (KeepsOthers.of_grownBy hg fun j o ej hj => ?_)).trans (KeepsOthers.setCell _ _ _)
    rcases (hrow.alloc tmp).2 with ⟨rfl, _⟩ | ⟨g, cap, cur, rfl, _, hgb, _⟩
    · simp [Value.ownBlock] at ej
    · obtain rfl : g = j := by simpa [Value.ownBlock] using ej
      rw [hgb] at hj; cases hj; rfl
  · exact (setCell_heap (by have := hbs i hi; omega) _).trans (hlow i (hbs i hi).2)
  · exact (show Boxed w3 g4 22 v from (hlow g4 hg4).trans hv).set v'
  · exact (show Boxed w3 base 22 _ from (hlow base (by omega)).trans k3).other (by omega) _
  · exact (show Boxed w3 (base + 1) 29 _ from (hlow _ (by omega)).trans k4).other (by omega) _
  · exact ((k5.alloc (by omega) tmp).grown hg (by simp; omega) (fun k e => by have := (hrow.lt k e).1; omega)).setCell (p := ⟨g4, 0, none⟩) (by show base ≤ g4; omega) _
end Go.Proofs.YtaiiihdckdjpoaaGreatDoor

/-!
  Layer 7: the contract of the program's Parse.
  Conditions: the string has at most 1000000 bytes; the variables hold what the program's text lays.
-/
namespace Go.Proofs.YtaiiihdckdjpoaaGreatDoor
open Go.RowKit Go.Shelf
attribute [local go_sem] Oper.semAt_some

/-- A set without spare capacity, and an error. -/
def GiveSet (w : World) (r : List Od × Nat) (e : Ending) (w' : World) : Prop :=
  ∃ A N, e = .returned (.tuple #[.slice A N N, .int .i64 (r.2 : Int)]) ∧ r.1.length = N ∧ RdO w' A r.1 ∧ Below w.heap.size w w'
theorem insW_all {l : List Nat} (h8 : All8 l) : All8 (insW l).1 := by
  unfold insW
  split
  · split
    · exact fun _ h => absurd h (by simp)
    · split
      · exact tS_all (tP_all h8)
      · exact fun _ h => absurd h (by simp)
  · exact fun _ h => absurd h (by simp)
theorem insW_len (l : List Nat) : (insW l).1.length ≤ l.length := by
  unfold insW
  split
  · split
    · simp
    · split
      · exact Nat.le_trans (tS_len _) (tP_len _)
      · simp
  · simp

theorem rdO_put {W : World} {A : Option Addr} {L : List Od} {D : Nat} (h : RdO W A L) (hD : W.heap[D]? = some (.deferred (some []))) (o : Obj) : RdO (W.putObj D o) A L := by
  refine ⟨fun hn => ?_, h.2⟩
  obtain ⟨b, off, rfl, hb, hc⟩ := h.1 hn
  have hne : b ≠ D := by
    rintro rfl
    cases hl : ocs L with
    | nil => exact hn hl
    | cons u r =>
      have := hc 0 u (by rw [hl]; rfl)
      unfold World.cell? at this
      simp only [hD] at this
      cases this
  exact ⟨b, off, rfl, by rw [World.putObj_size]; exact hb, fun j u hj => (World.cell?_of_block (World.putObj_heap_other hne)).trans (hc j u hj)⟩
theorem parQ_form {w2 W : World} {base g4 kn : Nat} {K : List Od} (h : ParQ w2 base g4 K W) (hk : K.length = kn) (hok : OkL K) :
    ∃ A c, Boxed W g4 22 (.slice A kn c) ∧ W.ownsRow w2.heap.size 26 17 (.slice A kn c) K.length (ocs K) ∧ w2.heap.size ≤ W.heap.size := by
  obtain ⟨⟨v, h1, h2, -⟩, -, h5⟩ := h
  obtain ⟨A, c, rfl, _⟩ := (PO.mk h2 hok h5.size).form
  rw [hk] at h1
  exact ⟨A, c, h1, by rw [← hk]; exact h2, h5.size⟩

set_option maxRecDepth 100000 in
set_option maxHeartbeats 4000000 in
theorem parseW_in (l : List Nat) (h8 : All8 l) (hl : l.length ≤ 1000000) (m : Nat) (hm : 10 ≤ m) (w : World) (hE : Env w) :
    CallsIn Fence.wide m Tryz.prog 55 #[.string (bstr l)] w (GiveSet w (prsW l)) := by
  have h1 : 1 ≤ m := by omega
  have hz := zero25
  obtain ⟨zl, hzl⟩ : ∃ zl, zeroL = zl := ⟨_, rfl⟩
  have HZL : Hid (zl.length = 16) := Lib.hid (by rw [← hzl]; exact zeroL_length)
  rw [hzl] at hz
  clear hzl
  have S0 := Lib.hid ((Boxed.new w 22 (.slice none 0 0)).alloc (.cells #[.int .i64 0] 29))
  have T0 := Lib.hid (show Boxed ((w.alloc (.cells #[.slice none 0 0] 22)).alloc (.cells #[.int .i64 0] 29)) (w.heap.size + 1) 29 (.int .i64 0) from by
    have := Boxed.new (w.alloc (.cells #[.slice none 0 0] 22)) 29 (.int .i64 0)
    rwa [World.size_alloc] at this)
  have B0 := Lib.hid ((bel1 w (.cells #[.slice none 0 0] 22)).alloc (by simp) (.cells #[.int .i64 0] 29))
  have hins := fun w => inside_any l h8 hl w
  have H8 := Lib.hid (insW_all h8)
  have hTL : (insW l).1.length ≤ 1000000 := Nat.le_trans (insW_len l) hl
  have hPW : prsW l = prsW l := rfl
  conv at hPW => rhs; unfold prsW
  generalize prsW l = PW at *
  generalize hi1 : (insW l).1 = t at *
  generalize hi2 : (insW l).2 = f0 at *
  clear hi1 hi2
  generalize bstr l = SL at *
  have HINS := Lib.hid hins
  have HPW := Lib.hid hPW
  have HE := Lib.hid hE
  clear h8 hl hins hPW hE
  refine callsIn_of_wp_marks Tryz.func55 rfl trivial ?_ rfl
  simp only [Tryz.ntmps55, List.size_toArray, List.length_cons, List.length_nil, Nat.reduceAdd, Nat.reduceSub, Array.replicate_succ, Array.replicate_zero, List.push_toArray, List.append_toArray, List.nil_append, List.cons_append]
  rw [wpIn_wide]
  go_upto_region 1 with fail
  generalize (w.alloc (.cells #[.slice none 0 0] 22)).alloc (.cells #[.int .i64 0] 29) = w1 at *
  by_cases hq : f0 ≠ 0 ∨ t = []
  · have HO : Hid (PW = ([], f0)) := Lib.hid (by
      rw [HPW.out]
      by_cases h0 : f0 ≠ 0
      · rw [if_pos h0]
      · rw [if_neg h0, if_pos (hq.resolve_left h0)]; simp at h0; rw [h0])
    have hsn := str_nil H8.out
    have hcase : ((f0 : Int) != 0) = true ∨ ((f0 : Int) != 0) = false ∧ (bstr t).toList.isEmpty = true := by
      by_cases h0 : f0 ≠ 0
      · exact .inl (by simp; exact h0)
      · exact .inr ⟨by simp at h0 ⊢; exact h0, by rw [hsn, decide_eq_true (hq.resolve_left h0)]⟩
    clear hq hsn H8 hTL
    generalize bstr t = ST at *
    rcases hcase with hc | ⟨hc, hc2⟩
    all_goals
      go_upto_region 2 with (go_at_call 73; refine (HINS.out _).mono ?_; rintro e w2 ⟨rfl, hb⟩; have B2 := bt B0 (Lib.hid hb); have S2 := Lib.hid (show Boxed w2 w.heap.size 22 (.slice none 0 0) from (hb.block _ S0.out.lt).trans S0.out); have T2 := Lib.hid (show Boxed w2 (w.heap.size + 1) 29 (.int .i64 0) from (hb.block _ T0.out.lt).trans T0.out); clear hb)
      have c0 := S2.out.cell
      have f0' := S2.out.frozen
      have T3 := T2.out.other (B' := w.heap.size) (by omega) (.slice none 0 0)
      have c1 := T3.cell
      have f1 := T3.frozen
      have T4 := Lib.hid (T3.set (.int .i64 (f0 : Int)))
      have S4 := Lib.hid ((S2.out.set (.slice none 0 0)).other (B' := w.heap.size + 1) (by omega) (.int .i64 (f0 : Int)))
      have B4 := Lib.hid ((B2.out.setCell (p := ⟨w.heap.size, 0, none⟩) (Nat.le_refl _) (.slice none 0 0)).setCell (p := ⟨w.heap.size + 1, 0, none⟩) (by simp) (.int .i64 (f0 : Int)))
      clear T3 S0 T0 B0 S2 T2 B2
      go_wp2_with fail
      refine leaves_marks2 (fun W => Boxed W w.heap.size 22 (.slice none 0 0) ∧ Boxed W (w.heap.size + 1) 29 (.int .i64 (f0 : Int)) ∧ Below w.heap.size w W) w.heap.size (fun W D hD h hk => ⟨boxed_put h.1 hk _, boxed_put h.2.1 hk _, h.2.2.grown (grownBy_putObj' W D _) h.2.2.size (fun k e => by cases e; exact hD)⟩)
        (fun W h => ⟨_, res_qe rfl _ W rfl rfl h.1 h.2.1, by rw [HO.out]; exact ⟨none, 0, rfl, rfl, RdO.nil, h.2.2⟩⟩) [] _ (by simp) (by simp) ⟨S4.out, T4.out, B4.out⟩
  have hf0 : f0 = 0 := by
    by_cases h0 : f0 = 0
    · exact h0
    · exact absurd (.inl h0) hq
  have ht0 : t ≠ [] := fun e => hq (.inr e)
  subst hf0
  rw [if_neg (by simp), if_neg ht0] at HPW
  have hsn := str_nil H8.out
  rw [decide_eq_false ht0] at hsn
  clear hq ht0
  obtain ⟨ST, hST⟩ : ∃ ST, bstr t = ST := ⟨_, rfl⟩
  rw [hST] at HINS hsn
  have HST := Lib.hid hST
  clear hST
  go_upto_region 4 with (go_at_call 73; refine (HINS.out _).mono ?_; rintro e w2 ⟨rfl, hb⟩; have B2 := bt B0 (Lib.hid hb); have S2 := Lib.hid (show Boxed w2 w.heap.size 22 (.slice none 0 0) from (hb.block _ S0.out.lt).trans S0.out); have T2 := Lib.hid (show Boxed w2 (w.heap.size + 1) 29 (.int .i64 0) from (hb.block _ T0.out.lt).trans T0.out); clear hb)
  have E2 := Lib.hid (HE.out.below B2.out)
  have S3 := Lib.hid (S2.out.alloc (.cells #[.slice none 0 0] 22))
  have T3 := Lib.hid (T2.out.alloc (.cells #[.slice none 0 0] 22))
  have B3 := Lib.hid (B2.out.alloc B2.out.size (.cells #[.slice none 0 0] 22))
  have V3 := Lib.hid (Boxed.new w2 22 (.slice none 0 0))
  have hg4 : w.heap.size + 1 < w2.heap.size := T2.out.lt
  have HG4 := Lib.hid hg4
  clear S0 T0 B0 S2 T2 B2 E2 hg4
  go_upto_region 5 with fail
  generalize w2.alloc (.cells #[.slice none 0 0] 22) = w3 at *
  generalize w2.heap.size = g4 at *
  have hg43 := V3.out.lt
  have HG43 := Lib.hid hg43
  clear hg43
  go_wp2_with (go_at_call 74; refine (splitseqS_any _ _).mono ?_; rintro e w' ⟨rfl, rfl⟩)
  have BS := Lib.hid (((Boxed.new w3 9 (.string ST)).alloc (.cells #[.string ⟨#[32]⟩] 9)).alloc (.cells #[.int .i64 0] 3))
  have BE := Lib.hid (show Boxed (((w3.alloc (.cells #[.string ST] 9)).alloc (.cells #[.string ⟨#[32]⟩] 9)).alloc (.cells #[.int .i64 0] 3)) (w3.heap.size + 1) 9 (.string ⟨#[32]⟩) from by
    have := (Boxed.new (w3.alloc (.cells #[.string ST] 9)) 9 (.string ⟨#[32]⟩)).alloc (.cells #[.int .i64 0] 3)
    rwa [World.size_alloc] at this)
  have BV := Lib.hid (show Boxed (((w3.alloc (.cells #[.string ST] 9)).alloc (.cells #[.string ⟨#[32]⟩] 9)).alloc (.cells #[.int .i64 0] 3)) (w3.heap.size + 1 + 1) 3 (.int .i64 0) from by
    have := Boxed.new ((w3.alloc (.cells #[.string ST] 9)).alloc (.cells #[.string ⟨#[32]⟩] 9)) 3 (.int .i64 0)
    rwa [World.size_alloc, World.size_alloc] at this)
  have hb3 : Below w3.heap.size w3 (((w3.alloc (.cells #[.string ST] 9)).alloc (.cells #[.string ⟨#[32]⟩] 9)).alloc (.cells #[.int .i64 0] 3)) :=
    (((Below.refl _ w3).alloc (Nat.le_refl _) (.cells #[.string ST] 9)).alloc (by simp) (.cells #[.string ⟨#[32]⟩] 9)).alloc (by simp; omega) (.cells #[.int .i64 0] 3)
  have S4 := Lib.hid (show Boxed _ w.heap.size 22 (.slice none 0 0) from (hb3.block _ S3.out.lt).trans S3.out)
  have T4 := Lib.hid (show Boxed _ (w.heap.size + 1) 29 (.int .i64 0) from (hb3.block _ T3.out.lt).trans T3.out)
  have V4 := Lib.hid (show Boxed _ g4 22 (.slice none 0 0) from (hb3.block _ V3.out.lt).trans V3.out)
  have B4 := bt B3 (Lib.hid hb3)
  have hwz : (((w3.alloc (.cells #[.string ST] 9)).alloc (.cells #[.string ⟨#[32]⟩] 9)).alloc (.cells #[.int .i64 0] 3)).heap.size = w3.heap.size + 3 := by simp
  clear hb3 S3 T3 V3 B3
  generalize ((w3.alloc (.cells #[.string ST] 9)).alloc (.cells #[.string ⟨#[32]⟩] 9)).alloc (.cells #[.int .i64 0] 3) = w4 at *
  generalize w3.heap.size = b at *
  have HWZ := Lib.hid hwz
  have HBS := Lib.hid (show Boxed w4 b 9 (.string (bstr t)) by rw [HST.out]; exact BS.out)
  clear hwz BS
  rw [← wpIn_wide (n := m)]
  refine range_b h1 (gf := 107) (lb := #[.pointer (some ⟨b + 1, 0, none⟩), .pointer (some ⟨b, 0, none⟩), .pointer (some ⟨b + 1 + 1, 0, none⟩)]) rfl (enters_of Tryz.func107 (by kernel_rfl) rfl) (bs := [b + 1, b, b + 1 + 1]) (b := b)
    (fun i hi => by have := HWZ.out; simp at hi; omega) (by simp) (splitS_seq t H8.out hTL (m - 1) (by omega) (b + 1) b (b + 1 + 1) (by omega) (by omega) w4 BE.out HBS.out BV.out) (fun _ => rfl)
    (fun pre W => frE pre = 0 ∧ ParQ w4 w.heap.size g4 (kq pre) W)
    (fun c pre W => (c = .ret ∧ frE pre ≠ 0 ∧ Boxed W w.heap.size 22 (.slice none 0 0) ∧ Boxed W (w.heap.size + 1) 29 (.int .i64 (frE pre : Int))) ∧ Below w.heap.size w W)
    (OwnFrom.and (fun s A B row hs hg hr => hs) (parQ_own w4 w.heap.size g4 _ (by have := HWZ.out; have := HG4.out; have := HG43.out; omega) (by have := HWZ.out; have := HG4.out; have := HG43.out; omega) (fun s => kq s)))
    (fun s W v hs => ⟨hs.1, hs.2.cell (by have := HG43.out; omega) (by have := HG4.out; omega) (by have := HWZ.out; omega) v⟩)
    (fun c => OwnFrom.and (Own.from (fun s A B row hs hg hr => ⟨hs.1, hs.2.1, own_box w.heap.size 22 (.slice none 0 0) (β := List (List Nat)) s A B row hs.2.2.1 hg hr, own_box (w.heap.size + 1) 29 (.int .i64 (frE s : Int)) (β := List (List Nat)) s A B row hs.2.2.2 hg hr⟩) _) (ownFrom_below (Nat.le_refl _) (by have := HWZ.out; have := HG4.out; have := HG43.out; omega)))
    ⟨rfl, ⟨⟨_, V4.out, World.ownsRow_nil _ _ _ _, trivial⟩, ⟨S4.out, T4.out⟩, Below.refl _ _⟩⟩
    (fun x => { tmps := #[.string SL, undef, .pointer (some ⟨w.heap.size, 0, none⟩), .pointer (some ⟨w.heap.size + 1, 0, none⟩), .string ST, .int .i64 0, .pointer (some ⟨g4, 0, none⟩), .string (bstr x), undef, undef, undef, .tuple #[.string ST, .int .i64 0], .string SL, .tuple #[.string ST, .int .i64 0], .string ST, .int .i64 0, .int .i64 0, .bool false, .bool false, .string ST, .bool false, .bool false, undef, .string ST, .func (.func 107) #[] #[.pointer (some ⟨b + 1, 0, none⟩), .pointer (some ⟨b, 0, none⟩), .pointer (some ⟨b + 1 + 1, 0, none⟩)], .string (bstr x), undef, undef, undef, undef, undef, undef, undef, undef, undef, undef, undef, undef, undef, undef, undef, undef, undef, undef, undef, undef, undef, undef], defers := [] }) ?assign ?body ?done ?stop
  case assign =>
    rintro l y W K hK
    gi_wp2_with fail
    simpa [encS] using hK
  case body =>
    rintro lw pre x W hok ⟨hf, hP⟩ hlen
    obtain ⟨hxa, hxl⟩ := splitS_mem (preS_mem hok)
    have hx8 : All8 x := fun c hc => H8.out c (hxa c hc)
    have hEW := HE.out.below (B4.out.trans hP.2.2)
    have hpr := parse_any x hx8 (by omega) W hEW
    have hfs := frE_snoc x hf
    have hoo := odO_ok x
    have hkl := kq_len pre
    have hsl := fun h => kq_snoc_lt (ps := pre) x h
    have hsg := fun h => kq_snoc_ge (ps := pre) x h
    have hkok := kq_ok pre
    unfold odO at hoo hsl
    have HP := Lib.hid hP
    clear hP hf hxa hok hx8 hEW hxl
    generalize prsO x = r at *
    obtain ⟨n, k, f⟩ := r
    have hk16 : k.length = 16 := hoo.len
    have HPR := Lib.hid hpr
    have HOO := Lib.hid hoo
    have HFS := Lib.hid hfs
    have HSL := Lib.hid hsl
    have HSG := Lib.hid hsg
    have HKOK := Lib.hid hkok
    clear hpr hoo hfs hsl hsg hkok
    generalize hM : kq (pre ++ [x]) = M at *
    have HMG := Lib.hid hM
    clear hM
    generalize kq pre = K at *
    unfold GiveG at HPR
    by_cases hff : f = 0
    · subst hff
      obtain ⟨kn, hkn⟩ : ∃ kn, K.length = kn := ⟨_, rfl⟩
      have HKN := Lib.hid hkn
      rw [hkn] at hkl HSL HSG
      clear hkn
      by_cases hle : kn ≤ 256
      · have hd : decide ((kn : Int) ≤ 256) = true := by simp; omega
        have HM := Lib.hid (HSL.out hle)
        clear HSL HSG hle
        gi_wp2_with fail
        refine ⟨trivial, fun _ => by omega, ?_⟩
        refine (show CallsIn (Fence.wide.inRound lw) (m - 1 - 1 - 1) Tryz.prog 75 #[.string (bstr x)] W _ from callsIn_wide.2 HPR.out).mono ?_
        rintro e w5 ⟨rfl, hb⟩
        have HB5 := Lib.hid hb
        clear hb
        gi_wp2_with (first
          | (refine wpListIn_store25 rfl (.tmp 8) (.tmp 29) rfl (m := n) (l := k) rfl rfl (Bk.new w5 26 (oc 0 zl)) (by rw [oc_length, HZL.out]) hk16 ?_; intro w6 S6 hg6 hz6; have HB6 := Lib.hid (HB5.out.trans (((bel1 w5 (.cells (oc 0 zl).toArray 26)).grown hg6 (by simp) (fun j e => by injection e with e; omega)).mono HB5.out.size)); have HP6 := Lib.hid (HP.out.below HB6.out (by have := HWZ.out; have := HG4.out; have := HG43.out; omega)); have HS6 := Lib.hid S6; clear S6 hg6 hz6; obtain ⟨A, c, hv6, hrow, hbz6⟩ := parQ_form HP6.out HKN.out HKOK.out; have c4 := hv6.cell; have HV6 := Lib.hid hv6; have HROW := Lib.hid hrow; obtain ⟨g', c', w7, hrun, hown', hg7⟩ := pushO hrow hbz6 (by rw [HKN.out]; omega) HOO.out; rw [HKN.out] at hrun hown'; have hv7 := (hv6.alloc (.cells (oc n k).toArray 26)).kept hg7 (hv6.not_row (by decide) hrow); have c7 := hv7.cell; have f7 := hv7.frozen; have HOWN := Lib.hid hown'; have HG7 := Lib.hid hg7; clear hv6 hrow hown' hg7 hv7)
          | (refine wpListIn_load25 rfl (.tmp 8) rfl rfl HS6.out hk16 ?_)
          | (refine wpListIn_buildO rfl 38 rfl (m := n) (l := k) rfl hk16 ?_)
          | (gi_at_builtin; refine wpListIn_app rfl _ _ _ _ rfl _ _ rfl rfl hrun ?_))
        obtain ⟨k1, k2, k3⟩ := parQ_end (M := M) (bs := [b + 1, b, b + 1 + 1]) (fun i hi => by have := HWZ.out; have := HG43.out; simp at hi; omega) HG4.out (by have := HWZ.out; have := HG43.out; omega) HP6.out HV6.out HROW.out (by rw [HM.out]; exact HOWN.out) HG7.out
        have hkh : KeepH [b + 1, b, b + 1 + 1] W w6 := fun i hi => HB6.out.block i (by have := HP.out.2.2.size; have := HWZ.out; simp at hi; omega)
        exact ⟨(keeps_below HB6.out).trans k1, hkh.trans k2, HFS.out, by rw [HMG.out]; exact k3⟩
      · have hd : decide ((kn : Int) ≤ 256) = false := by simp; omega
        have HM := Lib.hid (HSG.out hle)
        clear HSL HSG hle
        gi_wp2_with fail
        refine ⟨trivial, fun _ => by omega, ?_⟩
        refine (show CallsIn (Fence.wide.inRound lw) (m - 1 - 1 - 1) Tryz.prog 75 #[.string (bstr x)] W _ from callsIn_wide.2 HPR.out).mono ?_
        rintro e w5 ⟨rfl, hb⟩
        have HB5 := Lib.hid hb
        clear hb
        gi_wp2_with (first
          | (refine wpListIn_store25 rfl (.tmp 8) (.tmp 29) rfl (m := n) (l := k) rfl rfl (Bk.new w5 26 (oc 0 zl)) (by rw [oc_length, HZL.out]) hk16 ?_; intro w6 S6 hg6 hz6; have HB6 := Lib.hid (HB5.out.trans (((bel1 w5 (.cells (oc 0 zl).toArray 26)).grown hg6 (by simp) (fun j e => by injection e with e; omega)).mono HB5.out.size)); have HP6 := Lib.hid (HP.out.below HB6.out (by have := HWZ.out; have := HG4.out; have := HG43.out; omega)); have HS6 := Lib.hid S6; clear S6 hg6 hz6; obtain ⟨A, c, hv6, hrow, hbz6⟩ := parQ_form HP6.out HKN.out HKOK.out; have c4 := hv6.cell; have HV6 := Lib.hid hv6; have HROW := Lib.hid hrow; clear hv6 hrow))
        exact ⟨keeps_below HB6.out, fun i hi => HB6.out.block i (by have := HP.out.2.2.size; have := HWZ.out; simp at hi; omega), HFS.out, by rw [HMG.out, HM.out]; exact HP6.out⟩
    · have hfb : ((f : Int) != 0) = true := by simp; exact hff
      have HNE := Lib.hid hff
      clear hff HSL HSG
      gi_wp2_with fail
      refine ⟨trivial, fun _ => by omega, ?_⟩
      refine (show CallsIn (Fence.wide.inRound lw) (m - 1 - 1 - 1) Tryz.prog 75 #[.string (bstr x)] W _ from callsIn_wide.2 HPR.out).mono ?_
      rintro e w5 ⟨rfl, hb⟩
      have HB5 := Lib.hid hb
      clear hb
      gi_wp2_with (first
        | (refine wpListIn_store25 rfl (.tmp 8) (.tmp 29) rfl (m := n) (l := k) rfl rfl (Bk.new w5 26 (oc 0 zl)) (by rw [oc_length, HZL.out]) hk16 ?_; intro w6 S6 hg6 hz6; have HB6 := Lib.hid (HB5.out.trans (((bel1 w5 (.cells (oc 0 zl).toArray 26)).grown hg6 (by simp) (fun j e => by injection e with e; omega)).mono HB5.out.size)); have HP6 := Lib.hid (HP.out.below HB6.out (by have := HWZ.out; have := HG4.out; have := HG43.out; omega)); have HS6 := Lib.hid S6; clear S6 hg6 hz6; obtain ⟨-, ⟨hg6', ht6⟩, -⟩ := HP6.out; have HG6 := Lib.hid hg6'; have c6 := hg6'.cell; have f6 := hg6'.frozen; have T7 := ht6.other (B' := w.heap.size) (by omega) (.slice none 0 0); have c7 := T7.cell; have f7 := T7.frozen; have HT7 := Lib.hid T7; clear hg6' ht6 T7))
      exact ⟨((keeps_below HB6.out).trans (KeepsOthers.setCell _ _ _)).trans (KeepsOthers.setCell _ _ _), ⟨rfl, by rw [HFS.out]; exact HNE.out, (HG6.out.set _).other (by omega) _, by rw [HFS.out]; exact HT7.out.set _⟩, ((B4.out.trans HP6.out.2.2).setCell (p := ⟨w.heap.size, 0, none⟩) (Nat.le_refl _) _).setCell (p := ⟨w.heap.size + 1, 0, none⟩) (by simp) _⟩
  case done =>
    rintro D ys W hD rfl ⟨hf, hP⟩ hK
    have HPW2 := Lib.hid (show PW = if chkW (kq (splitS t)) ≠ 0 then ([], chkW (kq (splitS t))) else (kq (splitS t), 0) by rw [HPW.out, if_neg (by rw [hf]; simp)])
    have hkl := kq_len (splitS t)
    have hkok := kq_ok (splitS t)
    clear HPW hf
    generalize kq (splitS t) = K at *
    obtain ⟨kn, hkn⟩ : ∃ kn, K.length = kn := ⟨_, rfl⟩
    have HKN := Lib.hid hkn
    rw [hkn] at hkl
    obtain ⟨A, c, hv, hrow, hbz⟩ := parQ_form hP hkn hkok
    obtain ⟨A', c', e', hlc, hcm, hrd, hA⟩ := (PO.mk hrow hkok hbz).form
    rw [hkn] at e' hlc
    injection e' with e1 e2 e3
    subst e1 e3
    have c4 := hv.cell
    obtain ⟨-, ⟨hs, ht⟩, hb⟩ := hP
    have HCK := Lib.hid (ochk_any A K kn c W hrd hkn (by omega))
    unfold GiveF at HCK
    have HRD := Lib.hid hrd
    have HV := Lib.hid hv
    have HS := Lib.hid hs
    have HT := Lib.hid ht
    have HB := Lib.hid (B4.out.trans hb)
    have HKK := Lib.hid hK
    have HDL := Lib.hid (Array.getElem?_eq_some_iff.1 hK).1
    have HCL := Lib.hid (clipO A kn c · hlc hcm (fun e => by
      rcases hA with ⟨_, h2, h3⟩ | ⟨g, h2, _⟩
      · exact ⟨by rw [← hkn, h3]; rfl, h2⟩
      · rw [e] at h2; cases h2))
    have HFAR := Lib.hid (show ∀ q, A = some q → w.heap.size + 1 < q.block from fun q e => by
      rcases hA with ⟨h1, _⟩ | ⟨g, h2, h3, _⟩
      · rw [e] at h1; cases h1
      · rw [e] at h2; injection h2 with h2; subst h2; show w.heap.size + 1 < g; have := HWZ.out; have := HG4.out; have := HG43.out; omega)
    have HMK := Lib.hid (show w.heap.size ≤ D by have := HWZ.out; have := HG4.out; have := HG43.out; omega)
    have HDW : Hid (w.heap.size + 1 < D) := Lib.hid (by have := HWZ.out; have := HG4.out; have := HG43.out; omega)
    have HWW := Lib.hid (show w.heap.size < W.heap.size from hs.lt)
    clear hrd hv hs ht hb hK hkn hkok hrow hlc hcm hA hbz
    go_upto_region 13 with (go_at_call 11; refine HCK.out.mono ?_; rintro e W2 ⟨rfl, hb⟩; have HV2 := Lib.hid (show Boxed W2 g4 22 (.slice A kn c) from (hb.block _ HV.out.lt).trans HV.out); have HS2 := Lib.hid (show Boxed W2 w.heap.size 22 (.slice none 0 0) from (hb.block _ HS.out.lt).trans HS.out); have HT2 := Lib.hid (show Boxed W2 (w.heap.size + 1) 29 (.int .i64 0) from (hb.block _ HT.out.lt).trans HT.out); have HB2 := bt HB (Lib.hid hb); have HKK2 := Lib.hid ((hb.block D HDL.out).trans HKK.out); have HRD2 := Lib.hid (HRD.out.below hb); clear hb)
    have c2 := HS2.out.cell
    have f2 := HS2.out.frozen
    have c5 := HV2.out.cell
    clear c4
    by_cases hck : chkW K = 0
    · have HO : Hid (PW = (K, 0)) := Lib.hid (by rw [HPW2.out, if_neg (by rw [hck]; simp)])
      rw [hck]
      have T7 := HT2.out.other (B' := w.heap.size) (by omega) (.slice A kn kn)
      have c7 := T7.cell
      have f7 := T7.frozen
      have T8 := Lib.hid (T7.set (.int .i64 0))
      have S8 := Lib.hid ((HS2.out.set (.slice A kn kn)).other (B' := w.heap.size + 1) (by omega) (.int .i64 0))
      have B8 := Lib.hid ((HB2.out.setCell (p := ⟨w.heap.size, 0, none⟩) (Nat.le_refl _) (.slice A kn kn)).setCell (p := ⟨w.heap.size + 1, 0, none⟩) (by simp) (.int .i64 0))
      have K8 := Lib.hid ((setCell_heap (W := W2.setCell ⟨w.heap.size, 0, none⟩ (.slice A kn kn)) (b := w.heap.size + 1) (k := D) (by have := HDW.out; omega) (.int .i64 0)).trans ((setCell_heap (by have := HDW.out; omega) _).trans HKK2.out))
      have R8 := Lib.hid (show RdO ((W2.setCell ⟨w.heap.size, 0, none⟩ (.slice A kn kn)).setCell ⟨w.heap.size + 1, 0, none⟩ (.int .i64 0)) A K from ⟨(HRD2.out.1.far (fun q e => by have := HFAR.out q e; omega) _).far (fun q e => by have := HFAR.out q e; omega) _, HRD2.out.2⟩)
      clear T7 hck
      go_wp2_with (go_at_call 48; refine (HCL.out _).mono ?_; rintro e w9 ⟨rfl, rfl⟩)
      refine leaves_marks2 (fun W => Boxed W w.heap.size 22 (.slice A kn kn) ∧ Boxed W (w.heap.size + 1) 29 (.int .i64 0) ∧ Below w.heap.size w W ∧ RdO W A K) w.heap.size (fun W D hD h hk => ⟨boxed_put h.1 hk _, boxed_put h.2.1 hk _, h.2.2.1.grown (grownBy_putObj' W D _) h.2.2.1.size (fun k e => by cases e; exact hD), rdO_put h.2.2.2 hk _⟩)
        (fun W h => ⟨_, res_qe rfl _ W rfl rfl h.1 h.2.1, by rw [HO.out]; exact ⟨A, kn, rfl, HKN.out, h.2.2.2, h.2.2.1⟩⟩) [D] _ (by simp) (marks_one HMK.out K8.out) ⟨S8.out, T8.out, B8.out, R8.out⟩
    · have HO : Hid (PW = ([], chkW K)) := Lib.hid (by rw [HPW2.out, if_pos hck])
      have hcb : ((chkW K : Int) != 0) = true := by simp; exact hck
      clear hck
      generalize chkW K = F at *
      have T7 := HT2.out.other (B' := w.heap.size) (by omega) (.slice none 0 0)
      have c7 := T7.cell
      have f7 := T7.frozen
      have T8 := Lib.hid (T7.set (.int .i64 (F : Int)))
      have S8 := Lib.hid ((HS2.out.set (.slice none 0 0)).other (B' := w.heap.size + 1) (by omega) (.int .i64 (F : Int)))
      have B8 := Lib.hid ((HB2.out.setCell (p := ⟨w.heap.size, 0, none⟩) (Nat.le_refl _) (.slice none 0 0)).setCell (p := ⟨w.heap.size + 1, 0, none⟩) (by simp) (.int .i64 (F : Int)))
      have K8 := Lib.hid ((setCell_heap (W := W2.setCell ⟨w.heap.size, 0, none⟩ (.slice none 0 0)) (b := w.heap.size + 1) (k := D) (by have := HDW.out; omega) (.int .i64 (F : Int))).trans ((setCell_heap (by have := HDW.out; omega) _).trans HKK2.out))
      clear T7
      go_wp2_with fail
      refine leaves_marks2 (fun W => Boxed W w.heap.size 22 (.slice none 0 0) ∧ Boxed W (w.heap.size + 1) 29 (.int .i64 (F : Int)) ∧ Below w.heap.size w W) w.heap.size (fun W D hD h hk => ⟨boxed_put h.1 hk _, boxed_put h.2.1 hk _, h.2.2.grown (grownBy_putObj' W D _) h.2.2.size (fun k e => by cases e; exact hD)⟩)
        (fun W h => ⟨_, res_qe rfl _ W rfl rfl h.1 h.2.1, by rw [HO.out]; exact ⟨none, 0, rfl, rfl, RdO.nil, h.2.2⟩⟩) [D] _ (by simp) (marks_one HMK.out K8.out) ⟨S8.out, T8.out, B8.out⟩
  case stop =>
    rintro D c pre W hD hpre ⟨⟨rfl, hp, hg, ht⟩, hB⟩ hK
    have HO : Hid (PW = ([], frE pre)) := Lib.hid (by rw [HPW.out, frE_pre hpre hp, if_pos hp])
    have HG := Lib.hid hg
    have HT := Lib.hid ht
    have HB := Lib.hid hB
    have HKK := Lib.hid hK
    clear hpre hp hg ht hB hK
    rw [wpIn_wide]
    go_wp2
    refine leaves_marks2 (fun W => Boxed W w.heap.size 22 (.slice none 0 0) ∧ Boxed W (w.heap.size + 1) 29 (.int .i64 (frE pre : Int)) ∧ Below w.heap.size w W) w.heap.size (fun W D hD h hk => ⟨boxed_put h.1 hk _, boxed_put h.2.1 hk _, h.2.2.grown (grownBy_putObj' W D _) h.2.2.size (fun k e => by cases e; exact hD)⟩)
      (fun W h => ⟨_, res_qe rfl _ W rfl rfl h.1 h.2.1, by rw [HO.out]; exact ⟨none, 0, rfl, rfl, RdO.nil, h.2.2⟩⟩) [D] _ (by simp) (marks_one (by have := HWZ.out; have := HG4.out; have := HG43.out; omega) HKK.out) ⟨HG.out, HT.out, HB.out⟩
theorem parseW_any (l : List Nat) (h8 : All8 l) (hl : l.length ≤ 1000000) (w : World) (hE : Env w) : Calls Tryz.prog 55 #[.string (bstr l)] w (GiveSet w (prsW l)) :=
  callsIn_wide.1 (parseW_in l h8 hl 10 (by omega) w hE)
end Go.Proofs.YtaiiihdckdjpoaaGreatDoor

/-!
  Layer 7: the statements' own helpers same and parsed.
  Conditions: the OIDs' cells are in their kinds; the variables hold what the program's text lays.
-/
namespace Go.Proofs.YtaiiihdckdjpoaaGreatDoor
open Go.RowKit

set_option maxHeartbeats 400000 in
theorem same_none (A B : Option Addr) (c m d f : Nat) (w : World) (hf : f ≠ 0) :
    Calls Tryz.prog 21 #[.slice A 0 c, .int .i64 (f : Int), .slice B m d, .int .i64 (f : Int)] w fun e w' => e = .returned (.bool true) ∧ w = w' := by
  have hfb : ((f : Int) != 0) = true := by simp; exact hf
  clear hf
  go_enter Tryz.func21, Tryz.ntmps21
  go_wp2_with fail
  go_ret
  exact ⟨rfl, rfl⟩
set_option maxHeartbeats 400000 in
theorem same_set (A B : Option Addr) (L : List Od) (n d : Nat) (w : World) (hA : Ino w A L n n) (hB : Ino w B L n d) (hn : n ≤ 100000) :
    Calls Tryz.prog 21 #[.slice A n n, .int .i64 0, .slice B n d, .int .i64 0] w fun e w' => e = .returned (.bool true) ∧ Below w.heap.size w w' := by
  have hs := rsame_any A B L L n n n d w hA hB hn
  rw [decide_eq_true (p := L = L) rfl] at hs
  have HS := Lib.hid hs
  clear hs hA hB hn
  go_enter Tryz.func21, Tryz.ntmps21
  go_wp2_with fail
  refine HS.out.mono ?_
  rintro e w1 ⟨rfl, hb⟩
  have B1 := Lib.hid hb
  clear hb
  go_wp2_with fail
  go_ret
  exact ⟨by simp, B1.out⟩
set_option maxHeartbeats 1000000 in
theorem parsedW (l : List Nat) (h8 : All8 l) (hl : l.length ≤ 1000000) (B : Option Addr) (K : List Od) (m d f : Nat) (w : World) (hE : Env w) (hB : Ino w B K m d) (hm : m ≤ 100000) (hq : prsW l = (K, f)) (hz : f ≠ 0 → K = []) :
    Calls Tryz.prog 33 #[.string (bstr l), .slice B m d, .int .i64 (f : Int)] w fun e w' => e = .returned (.bool true) ∧ Below w.heap.size w w' := by
  have hp := parseW_any l h8 hl w hE
  rw [hq] at hp
  have HP := Lib.hid hp
  have IB := Lib.hid hB
  clear hp hB hq h8 hE
  unfold GiveSet at HP
  generalize bstr l = SL at *
  go_enter Tryz.func33, Tryz.ntmps33
  go_wp2_with fail
  refine HP.out.mono ?_
  rintro e w1 ⟨A, N, rfl, hN, hrd, hb⟩
  have B1 := Lib.hid hb
  have IB1 := Lib.hid (Ino.mk (IB.out.rd.below hb) IB.out.ln IB.out.lc IB.out.cm)
  by_cases hf : f = 0
  · subst hf
    have hNm : N = m := by rw [← hN]; exact IB.out.ln
    subst hNm
    have HS := Lib.hid (same_set A B K N d w1 ⟨hrd, hN, Nat.le_refl _, Nat.le_trans hm (by decide)⟩ IB1.out hm)
    clear hN hrd hb hz
    go_wp2_with fail
    refine HS.out.mono ?_
    rintro e w2 ⟨rfl, hb2⟩
    have B2 := bt B1 (Lib.hid hb2)
    clear hb2
    go_wp2_with fail
    go_ret
    exact ⟨rfl, B2.out⟩
  · have hK := hz hf
    have hN0 : N = 0 := by rw [← hN]; show K.length = 0; rw [hK]; rfl
    subst hN0
    have HS := Lib.hid (same_none A B 0 m d f w1 hf)
    clear hN hrd hb hz hf
    go_wp2_with fail
    refine HS.out.mono ?_
    rintro e w2 ⟨rfl, rfl⟩
    go_wp2_with fail
    go_ret
    exact ⟨rfl, B1.out⟩
end Go.Proofs.YtaiiihdckdjpoaaGreatDoor
