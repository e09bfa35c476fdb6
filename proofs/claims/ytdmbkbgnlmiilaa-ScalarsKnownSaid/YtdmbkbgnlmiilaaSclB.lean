/-
  Package scalars: contracts of isNegative, isMinimal, PutBool, GetBool, tag, element, slices.Clip.
  Conditions: slices read as bytes.
-/
import Derived.Test.YtdmbkbgnlmiilaaSclA
import Derived.Test.YtdmbkbgnlmiilaaSclV
import Derived.Laws.BitsLemmas
namespace Go.Proofs.Ytdmbkbgnlmiilaa.Scl
open Go.RowKit

/-! Bits. -/
theorem u8_and128 : ∀ x : Nat, x < 256 → (bits .and .u8 (x : Int) 128 != 0) = decide (128 ≤ x) := by
  have h : ∀ x : Fin 256, (bits .and .u8 ((x.val : Nat) : Int) 128 != 0) = decide (128 ≤ x.val) := by decide +kernel
  exact fun x hx => h ⟨x, hx⟩
theorem i64_nat (x : Int) : (BitVec.ofInt 64 x).toNat = (x % 18446744073709551616).toNat := by
  rw [BitVec.toNat_ofInt]; rfl
theorem i64_and255 (z : Int) : bits .and .i64 z 255 = z % 256 := by
  show IntKind.i64.wrap (((BitVec.ofInt 64 z &&& BitVec.ofInt 64 255).toNat : Nat) : Int) = _
  rw [BitVec.toNat_and, i64_nat, i64_nat, IntKind.wrap_i64]
  have h : (z % 18446744073709551616).toNat &&& ((255 : Int) % 18446744073709551616).toNat = (z % 18446744073709551616).toNat % 2 ^ 8 := Nat.and_two_pow_sub_one_eq_mod _ 8
  rw [h]
  omega
theorem i64_or8 (x y : Int) (hx : x % 256 = 0) (h1 : -9223372036854775808 ≤ x) (h2 : x < 9223372036854775808) (hy0 : 0 ≤ y) (hy : y < 256) : bits .or .i64 x y = x + y := by
  show IntKind.i64.wrap (((BitVec.ofInt 64 x ||| BitVec.ofInt 64 y).toNat : Nat) : Int) = _
  rw [BitVec.toNat_or, i64_nat, i64_nat, IntKind.wrap_i64]
  have hb : (y % 18446744073709551616).toNat < 2 ^ 8 := by omega
  have hq : (x % 18446744073709551616).toNat = 2 ^ 8 * ((x % 18446744073709551616).toNat / 2 ^ 8) := by omega
  have h : (x % 18446744073709551616).toNat ||| (y % 18446744073709551616).toNat = (x % 18446744073709551616).toNat + (y % 18446744073709551616).toNat := by
    rw [hq]
    exact (Nat.two_pow_add_eq_or_of_lt hb _).symm
  rw [h]
  omega

set_option maxHeartbeats 400000 in
theorem neg_any (b off x N c : Nat) (w : World) (hN : 0 < N) (_hb : b < w.heap.size) (hc : w.cell? ⟨b, off, none⟩ = some (.int .u8 (x : Int))) (hx : x < 256) :
    Calls Try.prog 43 #[.slice (some ⟨b, off, none⟩) N c] w fun e w' => e = .returned (.bool (decide (128 ≤ x))) ∧ w = w' := by
  have h1 := u8_and128 x hx
  go_enter Try.func43, Try.ntmps43
  go_wp2_with fail
  go_ret
  exact ⟨rfl, rfl⟩

theorem bel_drewN (w : World) (n : Nat) : Below w.heap.size w (w.drewN n) := ⟨rfl, rfl, rfl, Nat.le_refl _, fun _ _ => rfl⟩
/-- A callee that leaves the world alone, within a quiet region. -/
theorem quiet_same {P : Program} {f : FuncId} {args : Array Value} {w : World} {n : Nat} {v : Value} (h : Calls P f args (w.drewN n) fun e w' => e = .returned v ∧ w.drewN n = w') :
    Calls P f args (w.drewN n) fun e w'' => e = .returned v ∧ ∃ m, w'' = w.drewN m := h.mono fun _ _ ⟨he, hm⟩ => ⟨he, n, hm.symm⟩
set_option maxHeartbeats 1000000 in
theorem min_any (A : Option Addr) (l : List Nat) (N c : Nat) (w : World) (h : Rb w A l) (hN : l.length = N) (hc : N ≤ c) (_hm : c ≤ maxLen) :
    Calls Try.prog 35 #[.slice A N c] w fun e w' => e = .returned (.bool (minB l)) ∧ Below w.heap.size w w' := by
  unfold maxLen at _hm
  match l, h, hN with
  | [], _, hN =>
    obtain rfl : 0 = N := hN
    go_enter Try.func35, Try.ntmps35
    go_wp2_with fail
    go_ret
    exact ⟨rfl, Below.refl _ _⟩
  | [x], _, hN =>
    obtain rfl : 1 = N := hN
    go_enter Try.func35, Try.ntmps35
    go_wp2_with fail
    go_ret
    exact ⟨rfl, Below.refl _ _⟩
  | x :: y :: t, h, hN =>
    have hN2 : 2 ≤ N := by rw [← hN]; simp
    obtain ⟨b, off, rfl, hb, hx, hcell⟩ := h.at_ (k := 0) (by simp)
    have hcy := h.1 (by simp [cs8])
    obtain ⟨b', off', e, _, hcy⟩ := hcy
    simp only [Option.some.injEq, Addr.mk.injEq, and_true] at e
    obtain ⟨rfl, rfl⟩ := e
    have hc1 : w.cell? ⟨b, off + 1, none⟩ = some (.int .u8 (y : Int)) := hcy 1 _ rfl
    have hy : y < 256 := h.2 y (by simp)
    simp only [List.getElem_cons_zero, Nat.add_zero] at hx hcell
    have HM := Lib.hid (show minB (x :: y :: t) = !((decide (x = 0) && decide (y < 128)) || (decide (x = 255) && decide (128 ≤ y))) from rfl)
    have HC0 := Lib.hid (fun w' : World => fun (e : w'.cell? ⟨b, off, none⟩ = some (.int .u8 (x : Int))) (e2 : b < w'.heap.size) => neg_any b off x N c w' (by omega) e2 e hx)
    have HC1 := Lib.hid (fun w' : World => fun (e : w'.cell? ⟨b, off + 1, none⟩ = some (.int .u8 (y : Int))) (e2 : b < w'.heap.size) => neg_any b (off + 1) y (N - 1) (c - 1) w' (by omega) e2 e hy)
    have hc1' : ¬ c = 1 := by omega
    clear h hcy hN
    by_cases hx0 : x = 0
    · subst hx0
      have HB := Lib.hid (show decide (128 ≤ y) = minB (0 :: y :: t) by rw [HM.out]; by_cases h8 : 128 ≤ y <;> simp [h8] <;> omega)
      rw [← HB.out]
      clear HM
      go_enter Try.func35, Try.ntmps35
      go_wp2_with fail
      go_quiet ((first | (go_at_call 43; exact quiet_same (HC0.out _ hcell hb)) | (go_at_call 43; exact quiet_same (HC1.out _ hc1 hb))))
      go_wp2_with fail
      go_ret
      exact ⟨rfl, bel_drewN _ _⟩
    by_cases hx1 : x = 255
    · subst hx1
      have HB := Lib.hid (show (!decide (128 ≤ y)) = minB (255 :: y :: t) by rw [HM.out]; by_cases h8 : 128 ≤ y <;> simp [h8])
      rw [← HB.out]
      clear HM hx0
      go_enter Try.func35, Try.ntmps35
      go_wp2_with fail
      go_quiet ((first | (go_at_call 43; exact quiet_same (HC0.out _ hcell hb)) | (go_at_call 43; exact quiet_same (HC1.out _ hc1 hb))))
      go_wp2_with fail
      go_ret
      exact ⟨rfl, bel_drewN _ _⟩
    · have HB := Lib.hid (show true = minB (x :: y :: t) by rw [HM.out]; simp [hx0, hx1])
      have h1 : ((x : Int) != 0) = true := by simp; exact hx0
      have h2 : ((x : Int) != 255) = true := by simp; omega
      rw [← HB.out]
      clear HM hx0 hx1
      go_enter Try.func35, Try.ntmps35
      go_wp2_with fail
      go_quiet (fail)
      go_wp2_with fail
      go_ret
      exact ⟨rfl, bel_drewN _ _⟩

/-- Octets are returned, without spare capacity, in a new block; what was there has not turned. -/
def GiveN (w : World) (l : List Nat) (e : Ending) (w' : World) : Prop :=
  ∃ A, e = .returned (.slice A l.length l.length) ∧ Rb w' A l ∧ Below w.heap.size w w' ∧ (∀ q, A = some q → w.heap.size ≤ q.block)
/-- Octets and an error are returned. -/
def GiveF (w : World) (l : List Nat) (f : Nat) (e : Ending) (w' : World) : Prop :=
  ∃ A, e = .returned (.tuple #[.slice A l.length l.length, .int .i64 (f : Int)]) ∧ Rb w' A l ∧ Below w.heap.size w w'
theorem lit_rb (w : World) (l : List Nat) (h : Lt 256 l) : Rb (w.alloc (.cells (cs8 l).toArray 5)) (some ⟨w.heap.size, 0, none⟩) l :=
  ⟨by have := (Bk.new w 5 (cs8 l)).rd 0; simpa using this, h⟩
/-- Octets and an error are returned, in a new block. -/
def GiveFN (w : World) (l : List Nat) (f : Nat) (e : Ending) (w' : World) : Prop :=
  ∃ A, e = .returned (.tuple #[.slice A l.length l.length, .int .i64 (f : Int)]) ∧ Rb w' A l ∧ Below w.heap.size w w' ∧ (∀ q, A = some q → w.heap.size ≤ q.block)
theorem bel1 (w : World) (o : Obj) : Below w.heap.size w (w.alloc o) := (Below.refl _ _).alloc (Nat.le_refl _) _
theorem bt {a b c : World} (h1 : Hid (Below a.heap.size a b)) (h2 : Hid (Below b.heap.size b c)) : Hid (Below a.heap.size a c) := Lib.hid (h1.out.trans (h2.out.mono h1.out.size))
theorem lt_lit {l : List Nat} (h : l.all (fun x => decide (x < 256)) = true) : Lt 256 l := fun x hx => by simpa using List.all_eq_true.1 h x hx

theorem pbool_any (v : Bool) (w : World) : Calls Try.prog 20 #[.bool v] w (GiveN w (pbL v)) := by
  cases v
  · go_enter Try.func20, Try.ntmps20
    go_wp2_with fail
    go_ret
    exact ⟨_, rfl, lit_rb w [0] (lt_lit rfl), bel1 _ _, fun q e => by injection e with e; subst e; exact Nat.le_refl _⟩
  · go_enter Try.func20, Try.ntmps20
    go_wp2_with fail
    go_ret
    exact ⟨_, rfl, lit_rb w [255] (lt_lit rfl), bel1 _ _, fun q e => by injection e with e; subst e; exact Nat.le_refl _⟩
set_option maxHeartbeats 800000 in
theorem gbool_any (A : Option Addr) (l : List Nat) (N c : Nat) (w : World) (h : Rb w A l) (hN : l.length = N) :
    Calls Try.prog 18 #[.slice A N c] w fun e w' => e = .returned (.tuple #[.bool (gbV l), .int .i64 ((gbE l : Nat) : Int)]) ∧ w = w' := by
  by_cases h1 : N = 1
  · subst h1
    obtain ⟨x, rfl⟩ := List.length_eq_one_iff.1 hN
    obtain ⟨b, off, rfl, hb, hx, hcell⟩ := h.at_ (k := 0) (by simp)
    simp only [List.getElem_cons_zero, Nat.add_zero] at hx hcell
    clear h hN
    by_cases hx0 : x = 0
    · subst hx0
      rw [show gbV [0] = false from rfl, show gbE [0] = 0 from rfl]
      go_enter Try.func18, Try.ntmps18
      go_wp2_with fail
      go_ret2
      exact ⟨rfl, rfl⟩
    by_cases hx1 : x = 255
    · subst hx1
      rw [show gbV [255] = true from rfl, show gbE [255] = 0 from rfl]
      go_enter Try.func18, Try.ntmps18
      go_wp2_with fail
      go_ret2
      exact ⟨rfl, rfl⟩
    · have e1 : gbV [x] = false := by unfold gbV; simp; exact hx1
      have e2 : gbE [x] = 11 := by unfold gbE; rw [if_neg (by simp; omega)]
      rw [e1, e2]
      have h1 : ((x : Int) != 0) = true := by simp; exact hx0
      have h2 : ((x : Int) != 255) = true := by simp; omega
      clear hx0 hx1 e1 e2
      go_enter Try.func18, Try.ntmps18
      go_wp2_with fail
      go_ret2
      exact ⟨rfl, rfl⟩
  · have e1 : gbV l = false := by unfold gbV; simp; rintro rfl; exact h1 hN.symm
    have e2 : gbE l = 11 := by unfold gbE; rw [if_neg (by rintro (rfl | rfl) <;> exact h1 hN.symm)]
    rw [e1, e2]
    have hb : ((N : Int) != 1) = true := by simp; omega
    clear h hN h1 e1 e2
    go_enter Try.func18, Try.ntmps18
    go_wp2_with fail
    go_ret2
    exact ⟨rfl, rfl⟩

/-- A tag's value; an element's value. -/
@[reducible] def tagV (c n : Nat) (k : Bool) : Value := .agg #[.int .u8 (c : Int), .bool k, .int .u32 (n : Int)]
@[reducible] def elV (c n : Nat) (k : Bool) (u v : Value) : Value := .agg #[.int .u8 (c : Int), .bool k, .int .u32 (n : Int), u, v]
theorem tag_any (n : Nat) (w : World) : Calls Try.prog 50 #[.int .u32 (n : Int)] w fun e w' => e = .returned (tagV 0 n false) ∧ Below w.heap.size w w' := by
  go_enter Try.func50, Try.ntmps50
  go_wp2_with fail
  exact bodyPost_ret (v := tagV 0 n false) (by simp [results, Try.results50, go_sem]) rfl ⟨rfl, bel1 _ _⟩
theorem bel2 (w : World) (o o' : Obj) : Below w.heap.size w ((w.alloc o).alloc o') := (bel1 w o).alloc (by simp) _
theorem Bk.five {w : World} {g : Nat} {t : TypeId} {a b c d e : Value} (h : Bk w g t [a, b, c, d, e]) : w.cell? ⟨g, 0, none⟩ = some a ∧ w.cell? ⟨g, 1, none⟩ = some b ∧ w.cell? ⟨g, 2, none⟩ = some c ∧ w.cell? ⟨g, 3, none⟩ = some d ∧ w.cell? ⟨g, 4, none⟩ = some e ∧ g < w.heap.size :=
  ⟨h.cell 0, h.cell 1, h.cell 2, h.cell 3, h.cell 4, h.lt⟩
theorem Bk.free5 {w : World} {g : Nat} {t : TypeId} {cs : List Value} (h : Bk w g t cs) : w.frozen? ⟨g, 0, none⟩ = false ∧ w.frozen? ⟨g, 1, none⟩ = false ∧ w.frozen? ⟨g, 2, none⟩ = false ∧ w.frozen? ⟨g, 3, none⟩ = false ∧ w.frozen? ⟨g, 4, none⟩ = false :=
  ⟨h.free 0, h.free 1, h.free 2, h.free 3, h.free 4⟩
@[reducible] def elZ : List Value := [.int .u8 0, .bool false, .int .u32 0, .slice none 0 0, .slice none 0 0]
set_option maxHeartbeats 800000 in
theorem elem_any (n : Nat) (u : Value) (w : World) (hu : ∃ A m c, u = .slice A m c) : Calls Try.prog 37 #[.int .u32 (n : Int), u] w fun e w' => e = .returned (elV 0 n false u (.slice none 0 0)) ∧ Below w.heap.size w w' := by
  obtain ⟨A, m, c, rfl⟩ := hu
  have hk := Bk.new w 34 elZ
  have HB0 := Lib.hid (bel1 w (.cells elZ.toArray 34))
  go_enter Try.func37, Try.ntmps37
  go_wp2_with fail
  refine (tag_any n _).mono ?_
  rintro e w1 ⟨rfl, hb⟩
  have hk1 := hk.below hb hk.lt
  obtain ⟨c0, c1, c2, c3, c4, hsz⟩ := Bk.five hk1
  obtain ⟨f0, f1, f2, f3, f4⟩ := Bk.free5 hk1
  have HB1 := bt HB0 (Lib.hid hb)
  have HK := Lib.hid (((((hk1.store 0 (.int .u8 0)).store 1 (.bool false)).store 2 (.int .u32 (n : Int))).store 3 (.slice A m c)).store 4 (.slice none 0 0))
  clear hb hk hk1
  go_wp2_with fail
  obtain ⟨s0, s1, s2, s3, s4, _⟩ := Bk.five HK.out
  have hl := Nat.le_refl w.heap.size
  exact bodyPost_ret (v := elV 0 n false (.slice A m c) (.slice none 0 0)) (by simp [results, Try.results37, go_sem, s0, s1, s2, s3, s4]) rfl ⟨rfl, ((((HB1.out.setCell (p := ⟨w.heap.size, 0, none⟩) hl _).setCell (p := ⟨w.heap.size, 1, none⟩) hl _).setCell (p := ⟨w.heap.size, 2, none⟩) hl _).setCell (p := ⟨w.heap.size, 3, none⟩) hl _).setCell (p := ⟨w.heap.size, 4, none⟩) hl _⟩
theorem clip_any (A : Option Addr) (n c : Nat) (w : World) (h : n ≤ c) (_hc : c ≤ maxLen) (hA : A = none → c = 0) : Calls Try.prog 44 #[.slice A n c] w fun e w' => e = .returned (.slice A n n) ∧ w = w' := by
  unfold maxLen at _hc
  have h1 : (n : Int) ≤ (c : Int) := by omega
  cases A with
  | none =>
    obtain rfl := hA rfl
    obtain rfl : n = 0 := by omega
    go_enter Try.func44, Try.ntmps44
    go_wp2_with fail
    go_ret
    exact ⟨rfl, rfl⟩
  | some a =>
    clear hA
    go_enter Try.func44, Try.ntmps44
    go_wp2_with fail
    go_ret
    exact ⟨rfl, rfl⟩
end Go.Proofs.Ytdmbkbgnlmiilaa.Scl
