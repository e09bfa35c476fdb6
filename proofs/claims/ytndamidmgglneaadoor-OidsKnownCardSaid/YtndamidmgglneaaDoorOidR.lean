/-
  The library's iterator over the pieces of a string between dots.
  Conditions: the string has at most 1000000 bytes.
-/
import Derived.Test.YtndamidmgglneaaDoorOidQ
import Derived.Test.YtndamidmgglneaaDoorStr2
namespace Go.Proofs.YtndamidmgglneaaDoor
open Go.RowKit Go.Shelf
attribute [local go_sem] Oper.semAt_some

theorem bstr_extract (l : List Nat) (a b : Nat) : (bstr l).extract a b = bstr ((l.take b).drop a) := by
  apply ByteArray.ext
  rw [ByteArray.data_extract]
  unfold bstr
  apply Array.toList_inj.1
  simp [List.map_drop, List.map_take, List.drop_take]

/-- The pieces between dots. -/
def splitD : List Nat → List (List Nat)
  | [] => [[]]
  | c :: l => if c = 46 then [] :: splitD l else (c :: (splitD l).headD []) :: (splitD l).tail
theorem split_none : ∀ {l : List Nat}, 46 ∉ l → splitD l = [l]
  | [], _ => rfl
  | c :: l, h => by
    have h1 : ¬ c = 46 := fun e => h (by simp [e])
    rw [splitD, if_neg h1, split_none (l := l) (fun e => h (by simp [e]))]
    rfl
theorem split_at : ∀ {p : List Nat} (q : List Nat), 46 ∉ p → splitD (p ++ 46 :: q) = p :: splitD q
  | [], q, _ => by rw [List.nil_append, splitD, if_pos rfl]
  | c :: p, q, h => by
    have h1 : ¬ c = 46 := fun e => h (by simp [e])
    rw [List.cons_append, splitD, if_neg h1, split_at q (p := p) (fun e => h (by simp [e]))]
    rfl
theorem split_dot {l : List Nat} (h : 46 ∈ l) : ∃ p q, l = p ++ 46 :: q ∧ 46 ∉ p := by
  induction l with
  | nil => cases h
  | cons c l ih =>
    by_cases hc : c = 46
    · exact ⟨[], l, by rw [hc]; rfl, by simp⟩
    · obtain ⟨p, q, e, hp⟩ := ih (by rcases List.mem_cons.1 h with e | e; exact absurd e.symm hc; exact e)
      exact ⟨c :: p, q, by rw [e]; rfl, by simp [hp]; exact fun e => hc e.symm⟩
theorem ofNat46 {c : Nat} (h : c < 256) : (UInt8.ofNat c == 46) = decide (c = 46) := by
  rw [Bool.eq_iff_iff, beq_iff_eq, decide_eq_true_iff]
  constructor
  · intro e
    have := congrArg UInt8.toNat e
    rw [UInt8.toNat_ofNat_of_lt' h] at this
    exact this
  · rintro rfl; rfl
theorem idx_none : ∀ {l : List Nat}, All8 l → 46 ∉ l → Lib.indexByte (l.map UInt8.ofNat) 46 = -1
  | [], _, _ => rfl
  | c :: l, h8, h => by
    have h1 : ¬ c = 46 := fun e => h (by simp [e])
    rw [List.map_cons, Lib.indexByte, ofNat46 (h8 c (by simp)), decide_eq_false h1, idx_none (l := l) (fun x hx => h8 x (by simp [hx])) (fun e => h (by simp [e]))]
    rfl
theorem idx_at : ∀ {p : List Nat} (q : List Nat), All8 p → 46 ∉ p → Lib.indexByte ((p ++ 46 :: q).map UInt8.ofNat) 46 = (p.length : Int)
  | [], q, _, _ => rfl
  | c :: p, q, h8, h => by
    have h1 : ¬ c = 46 := fun e => h (by simp [e])
    rw [List.cons_append, List.map_cons, Lib.indexByte, ofNat46 (h8 c (by simp)), decide_eq_false h1, idx_at (p := p) q (fun x hx => h8 x (by simp [hx])) (fun e => h (by simp [e]))]
    rw [if_neg (by simp), if_neg (by rw [beq_iff_eq]; omega), List.length_cons]
    omega

/-- What is handed to a round. -/
abbrev encS (x : List Nat) : Array Value := #[.string (bstr x)]
theorem KeepH.box {bs : List Nat} {A B : World} {i : Nat} {t : TypeId} {v : Value} (h : KeepH bs A B) (hi : i ∈ bs) (k : Boxed A i t v) : Boxed B i t v := (h i hi).trans k

set_option maxRecDepth 100000 in
set_option maxHeartbeats 2000000 in
theorem split_in (l0 : List Nat) (h8 : All8 l0) (hl0 : l0.length ≤ 1000000) (n : Nat) (hn : 3 ≤ n) (lw be bs bv : Nat) (hne1 : be ≠ bs) (hne2 : bv ≠ bs) (J Jx : List (List Nat) → World → Prop) (hJ : ∀ s W v, J s W → J s (W.setCell ⟨bs, 0, none⟩ v))
    (hY : ∀ pre x W1, pre ++ [x] <+: splitD l0 → J pre W1 → pre.length < l0.length + 1 → YieldAt Fence.wide (n - 1) Tryd.prog lw (encS x) W1 fun e W' => (e = .returned (.bool true) ∧ J (pre ++ [x]) W' ∧ KeepH [be, bs, bv] W1 W') ∨ (e = .returned (.bool false) ∧ Jx (pre ++ [x]) W'))
    (W : World) (c1 : Boxed W be 9 (.string ⟨#[46]⟩)) (c2 : Boxed W bs 9 (.string (bstr l0))) (c3 : Boxed W bv 3 (.int .i64 0)) (h0 : J [] W) :
    CallsIn Fence.wide n Tryd.prog 48 #[.func (.yield lw) #[] #[], .pointer (some ⟨be, 0, none⟩), .pointer (some ⟨bs, 0, none⟩), .pointer (some ⟨bv, 0, none⟩)] W fun e W' => (∃ v, e = .returned v) ∧
      ((∃ ys, ys = splitD l0 ∧ J ys W') ∨ (∃ pre, pre <+: splitD l0 ∧ Jx pre W')) := by
  refine callsIn_of_wp Tryd.func48 rfl trivial ?_ rfl
  simp only [Tryd.ntmps48, List.size_toArray, List.length_cons, List.length_nil, Nat.reduceAdd, Nat.reduceSub, Array.replicate_succ, Array.replicate_zero, List.push_toArray, List.append_toArray, List.nil_append, List.cons_append]
  have h1 : 1 ≤ n := by omega
  have d1 := c1.cell
  have HJ := Lib.hid hJ
  have HY := Lib.hid hY
  have C1 := Lib.hid c1
  have C2 := Lib.hid c2
  have C3 := Lib.hid c3
  have H0 := Lib.hid h0
  clear hJ hY c1 c2 c3 h0
  gi_wp2_with fail
  gi_loopw [7, 8] (fun _ _ wr => ∃ (pre : List (List Nat)) (l' : List Nat), pre ++ splitD l' = splitD l0 ∧ pre.length + l'.length ≤ l0.length ∧ All8 l' ∧ J pre wr ∧ Boxed wr be 9 (.string ⟨#[46]⟩) ∧ Boxed wr bs 9 (.string (bstr l')) ∧ Boxed wr bv 3 (.int .i64 0))
    (fun _ _ wr => match wr.cell? ⟨bs, 0, none⟩ with | some (.string s) => s.size | _ => 0)
  case atStart => exact ⟨[], l0, rfl, by simp, h8, H0.out, C1.out, C2.out, C3.out⟩
  case round =>
    obtain ⟨pre, l', hs, hlen, h8', hJ', b1, b2, b3⟩ := hrel
    have e1 := b1.cell
    have e2 := b2.cell
    have e3 := b3.cell
    have B1 := Lib.hid b1
    have B2 := Lib.hid b2
    have B3 := Lib.hid b3
    have HS := Lib.hid hs
    have HJ' := Lib.hid hJ'
    have H8 := Lib.hid h8'
    clear d1 C1 C2 C3 H0 hs hJ' h8'
    by_cases hd : 46 ∈ l'
    · obtain ⟨p, q, rfl, hp⟩ := split_dot hd
      have hq := split_at q hp
      have hix := idx_at q (fun x hx => H8.out x (by simp [hx])) hp
      have hpl : p.length ≤ 1000000 := by simp at hlen; omega
      have hbl : (bstr (p ++ 46 :: q)).size = p.length + (q.length + 1) := by rw [bstr_size]; simp
      have hx1 : (bstr (p ++ 46 :: q)).extract 0 p.length = bstr p := by rw [bstr_extract, List.drop_zero, List.take_left' rfl]
      have hx2 : (bstr (p ++ 46 :: q)).extract (p.length + 1) (p.length + (q.length + 1)) = bstr q := by rw [bstr_extract, List.take_of_length_le (by simp), show p ++ 46 :: q = (p ++ [46]) ++ q by simp, List.drop_left' (by simp)]
      obtain ⟨fn, tmps, assign, body, hy, hR⟩ := HY.out pre p wr (by rw [← HS.out, hq]; exact ⟨splitD q, by simp⟩) HJ'.out (by omega)
      simp only [encS] at hy
      obtain ⟨S, hS⟩ : ∃ S, bstr (p ++ 46 :: q) = S := ⟨_, rfl⟩
      have hcall0 := Tryd.strings_Index_one S 46 wr
      rw [← hS, bstr_list, hix, hS] at hcall0
      have hcall := Lib.hid hcall0
      clear hcall0
      rw [hS] at e2 hbl hx1 hx2
      obtain ⟨N, hN⟩ : ∃ N, p.length = N := ⟨_, rfl⟩
      rw [hN] at hcall hpl hbl hx1 hx2
      have q1 : ∀ W : World, (Instr.sliceAt 9 (.string S) none (some (.int .i64 (N : Int))) none).run Tryd.prog W = .ok (.string (bstr p)) W := fun W => by
        rw [run_sliceAt_string (P := Tryd.prog) W 9 _ _ _ _ Tryd.underlying9, run_slice_string_h (P := Tryd.prog) W 9 S Tryd.underlying9 .i64 (N : Int) (by omega) (by rw [hbl]; omega), Int.toNat_natCast, hx1]
      have q2 : ∀ W : World, (Instr.sliceAt 9 (.string S) (some (.int .i64 ((N : Int) + 1))) none none).run Tryd.prog W = .ok (.string (bstr q)) W := fun W => by
        rw [run_sliceAt_string (P := Tryd.prog) W 9 _ _ _ _ Tryd.underlying9, run_slice_string_l (P := Tryd.prog) W 9 S Tryd.underlying9 .i64 ((N : Int) + 1) (by omega) (by rw [hbl]; omega), hbl, show ((N : Int) + 1).toNat = N + 1 by omega, hx2]
      have HBL := Lib.hid hbl
      have HN := Lib.hid hN
      have HSS := Lib.hid hS
      have HQ := Lib.hid hq
      clear hix hbl hx1 hx2 hN hS hd hq
      gi_wp2_with (refine ⟨trivial, ?_⟩; gi_at_call 50; refine (callsIn_wide.2 hcall.out).mono ?_; rintro e w1 ⟨rfl, rfl⟩)
      refine hR.mono ?_
      have hpre : splitD l0 = (pre ++ [p]) ++ splitD q := by rw [← HS.out, HQ.out, List.append_assoc]; rfl
      have HPRE := Lib.hid hpre
      clear e1 e2 e3 hpre q1
      rintro e W3 (⟨rfl, hJ3, hk3⟩ | ⟨rfl, hJx3⟩)
      · have k1 := hk3.box (by simp) B1.out
        have k2 := hk3.box (by simp) B2.out
        have k3 := hk3.box (by simp) B3.out
        rw [HSS.out] at k2
        have e1 := k1.cell
        have e2 := k2.cell
        have f2 := k2.frozen
        have K1 := Lib.hid k1
        have K2 := Lib.hid k2
        have K3 := Lib.hid k3
        have HJ3 := Lib.hid hJ3
        clear k1 k2 k3 hJ3 hk3
        gi_wp2_with fail
        have K4 := K2.out.set (.string (bstr q))
        refine ⟨⟨pre ++ [p], q, HPRE.out.symm, by simp at hlen ⊢; omega, fun x hx => H8.out x (by simp [hx]), HJ.out _ _ _ HJ3.out, K1.out.other hne1 _, K4, K3.out.other hne2 _⟩, ?_⟩
        rw [K4.cell, B2.out.cell, HSS.out]
        simp only
        rw [HBL.out, bstr_size]
        omega
      · gi_wp2_with fail
        refine bodyPost_ret (results_none rfl _ _ _) rfl ?_
        exact ⟨⟨_, rfl⟩, .inr ⟨_, by rw [HPRE.out]; exact List.prefix_append _ _, hJx3⟩⟩
    · have hix := idx_none H8.out hd
      have hsp := split_none hd
      obtain ⟨fn, tmps, assign, body, hy, hR⟩ := HY.out pre l' wr (by rw [← HS.out, hsp]; exact List.prefix_refl _) HJ'.out (by omega)
      simp only [encS] at hy
      obtain ⟨S, hS⟩ : ∃ S, bstr l' = S := ⟨_, rfl⟩
      have hcall0 := Tryd.strings_Index_one S 46 wr
      rw [← hS, bstr_list, hix, hS] at hcall0
      have hcall := Lib.hid hcall0
      rw [hS] at e2 hy
      have HPRE := Lib.hid (show splitD l0 = pre ++ [l'] by rw [← HS.out, hsp])
      clear hcall0 hix hsp hS hd
      gi_wp2_with (refine ⟨trivial, ?_⟩; gi_at_call 50; refine (callsIn_wide.2 hcall.out).mono ?_; rintro e w1 ⟨rfl, rfl⟩)
      refine hR.mono ?_
      clear e1 e2 e3
      rintro e W3 (⟨rfl, hJ3, -⟩ | ⟨rfl, hJx3⟩)
      · gi_wp2_with fail
        go_end0
        exact ⟨⟨_, rfl⟩, .inl ⟨_, HPRE.out.symm, hJ3⟩⟩
      · gi_wp2_with fail
        go_end0
        exact ⟨⟨_, rfl⟩, .inr ⟨_, by rw [HPRE.out]; exact List.prefix_refl _, hJx3⟩⟩
theorem split_mem : ∀ {l x : List Nat}, x ∈ splitD l → (∀ c ∈ x, c ∈ l) ∧ x.length ≤ l.length := fun {l} => by
  induction l with
  | nil => intro x h; rw [splitD, List.mem_singleton] at h; subst h; simp
  | cons c l ih =>
    intro x h
    rw [splitD] at h
    split at h
    · rcases List.mem_cons.1 h with rfl | h
      · simp
      · have := ih h
        exact ⟨fun y hy => List.mem_cons_of_mem _ (this.1 y hy), by rw [List.length_cons]; omega⟩
    · rcases List.mem_cons.1 h with rfl | h
      · have hne : splitD l ≠ [] := by
          cases l with
          | nil => simp [splitD]
          | cons a m => rw [splitD]; split <;> simp
        obtain ⟨a, t, ha⟩ : ∃ a t, splitD l = a :: t := by
          cases hq : splitD l with
          | nil => exact absurd hq hne
          | cons a t => exact ⟨a, t, rfl⟩
        have := ih (x := a) (by rw [ha]; simp)
        rw [ha, List.headD_cons]
        exact ⟨fun y hy => by
          rcases List.mem_cons.1 hy with rfl | hy
          · simp
          · exact List.mem_cons_of_mem _ (this.1 y hy), by simp; exact this.2⟩
      · have := ih (List.mem_of_mem_tail h)
        exact ⟨fun y hy => List.mem_cons_of_mem _ (this.1 y hy), by rw [List.length_cons]; omega⟩
theorem pre_mem {l x : List Nat} {pre : List (List Nat)} (h : pre ++ [x] <+: splitD l) : x ∈ splitD l := by
  obtain ⟨t, e⟩ := h
  rw [← e]; simp
/-- The iterator as a contract. -/
theorem split_seq (l0 : List Nat) (h8 : All8 l0) (hl0 : l0.length ≤ 1000000) (n : Nat) (hn : 3 ≤ n) (be bs bv : Nat) (hne1 : be ≠ bs) (hne2 : bv ≠ bs) (w : World) (c1 : Boxed w be 9 (.string ⟨#[46]⟩)) (c2 : Boxed w bs 9 (.string (bstr l0))) (c3 : Boxed w bv 3 (.int .i64 0)) :
    SeqB n Tryd.prog 48 #[.pointer (some ⟨be, 0, none⟩), .pointer (some ⟨bs, 0, none⟩), .pointer (some ⟨bv, 0, none⟩)] encS [be, bs, bv] bs (fun pre x => pre ++ [x] <+: splitD l0) (fun ys => ys = splitD l0) (fun pre => pre <+: splitD l0) (l0.length + 1) w := fun l J Jx W hk hJ hY h0 =>
  split_in l0 h8 hl0 n hn l be bs bv hne1 hne2 J Jx hJ hY W (hk.box (by simp) c1) (hk.box (by simp) c2) (hk.box (by simp) c3) h0
theorem splitseq_any (s : ByteArray) (w : World) : Calls Tryd.prog 31 #[.string s, .string ⟨#[46]⟩] w fun e w' => e = .returned (.func (.func 48) #[] #[.pointer (some ⟨w.heap.size + 1, 0, none⟩), .pointer (some ⟨w.heap.size, 0, none⟩), .pointer (some ⟨w.heap.size + 1 + 1, 0, none⟩)]) ∧
    w' = ((w.alloc (.cells #[.string s] 9)).alloc (.cells #[.string ⟨#[46]⟩] 9)).alloc (.cells #[.int .i64 0] 3) := by
  have hin : ∀ w, Calls Tryd.prog 40 #[.string s, .string ⟨#[46]⟩, .int .i64 0] w fun e w' => e = .returned (.func (.func 48) #[] #[.pointer (some ⟨w.heap.size + 1, 0, none⟩), .pointer (some ⟨w.heap.size, 0, none⟩), .pointer (some ⟨w.heap.size + 1 + 1, 0, none⟩)]) ∧
      w' = ((w.alloc (.cells #[.string s] 9)).alloc (.cells #[.string ⟨#[46]⟩] 9)).alloc (.cells #[.int .i64 0] 3) := fun w => by
    go_enter Tryd.func40, Tryd.ntmps40
    go_wp2
    go_ret
    exact ⟨rfl, rfl⟩
  have HIN := Lib.hid hin
  clear hin
  go_enter Tryd.func31, Tryd.ntmps31
  go_wp2_with (go_at_call 40; refine (HIN.out _).mono ?_; rintro e w' ⟨rfl, rfl⟩)
  go_ret
  exact ⟨rfl, rfl⟩
end Go.Proofs.YtndamidmgglneaaDoor
