/-
  Layer 10: tags and layouts; Compare.
  Conditions: none but ranges.
-/
import Derived.Test.YtecmgkmonehmfaaDoorTimI
namespace Go.Proofs.YtecmgkmonehmfaaDoor.Tim
open Go.RowKit

def tgC (a : Nat) (k : Bool) (n : Nat) : List Value := [.int .u8 (a : Int), .bool k, .int .u32 (n : Int)]
theorem infoTg : (Tryd.prog.info? 33).map (·.size) = some 3 := by kernel_rfl
theorem tgC_one (a : Nat) (k : Bool) (n : Nat) : (tgC a k n).all (·.oneCell') = true := rfl
theorem zTg : ∀ w : World, (zeroValue 33).run Tryd.prog w = .ok (.agg (tgC 0 false 0).toArray) w := fun _ => by kernel_rfl
theorem loadTg {w : World} {g a n : Nat} {k : Bool} {t : TypeId} (hb : Bk w g t (tgC a k n)) : (loadVar 33 ⟨g, 0, none⟩).run Tryd.prog w = .ok (.agg (tgC a k n).toArray) w :=
  run_loadVar_row (P := Tryd.prog) _ _ _ _ _ _ _ hb Tryd.underlying33 rfl (by rw [List.size_toArray]; exact infoTg)
theorem eqlT (a : Nat) (k : Bool) (n a2 : Nat) (k2 : Bool) (n2 : Nat) (W : World) : (binOp .eql 33 (.agg (tgC a k n).toArray) (.agg (tgC a2 k2 n2).toArray)).run Tryd.prog W = .ok (.bool (decide (a = a2) && (k == k2) && decide (n = n2))) W := by
  show (binOp .eql 33 (.agg #[.int .u8 (a : Int), .bool k, .int .u32 (n : Int)]) (.agg #[.int .u8 (a2 : Int), .bool k2, .int .u32 (n2 : Int)])).run Tryd.prog W = _
  have u0 := Tryd.underlying33
  have u1 := Tryd.underlying31
  have u2 := Tryd.underlying5
  have u3 := Tryd.underlying4
  simp [go_sem]
  by_cases h1 : a = a2 <;> by_cases h2 : k = k2 <;> by_cases h3 : n = n2 <;> simp [h1, h2, h3] <;> omega
theorem univ_at (n : Nat) (hn : n < 4294967296) (w : World) : Calls Tryd.prog 46 #[.int .u32 (n : Int)] w fun e w' => e = .returned (.agg (tgC 0 false n).toArray) ∧ Below w.heap.size w w' := univ_any n hn w
def layK (a : Nat) (k : Bool) (n : Nat) : Nat := if a = 0 ∧ k = false ∧ n = 23 then 1 else if a = 0 ∧ k = false ∧ n = 24 then 2 else 0
def layS : Nat → ByteArray
  | 1 => ⟨#[89, 89, 77, 77, 68, 68, 104, 104, 109, 109, 115, 115, 90]⟩
  | 2 => ⟨#[89, 89, 89, 89, 77, 77, 68, 68, 104, 104, 109, 109, 115, 115, 90]⟩
  | _ => ⟨#[]⟩
set_option linter.unusedSimpArgs false in
set_option linter.unusedVariables false in
set_option maxHeartbeats 4000000 in
set_option maxRecDepth 100000 in
theorem layout_any (a : Nat) (k : Bool) (n : Nat) (w : World) : Calls Tryd.prog 34 #[.agg (tgC a k n).toArray] w fun e w' => e = .returned (.tuple #[.string (layS (layK a k n)), .bool (decide (layK a k n ≠ 0))]) ∧ Below w.heap.size w w' := by
  obtain ⟨g, hg⟩ : ∃ g, w.heap.size = g := ⟨_, rfl⟩
  obtain ⟨w1, hw1⟩ : ∃ w1, w.alloc (.cells (tgC a k n).toArray 33) = w1 := ⟨_, rfl⟩
  have B1 : Hid (Below w.heap.size w w1) := Lib.hid (by rw [← hw1]; exact bel1 w _)
  have K1 : Hid (Bk w1 g 33 (tgC a k n)) := Lib.hid (by rw [← hw1, ← hg]; exact Bk.new w _ _)
  have HW1 := Lib.hid hw1
  have HG := Lib.hid hg
  have C23 : Hid (∀ W, Calls Tryd.prog 46 #[.int .u32 23] W fun e w' => e = .returned (.agg (tgC 0 false 23).toArray) ∧ Below W.heap.size W w') := Lib.hid (fun W => univ_at 23 (by decide) W)
  have C24 : Hid (∀ W, Calls Tryd.prog 46 #[.int .u32 24] W fun e w' => e = .returned (.agg (tgC 0 false 24).toArray) ∧ Below W.heap.size W w') := Lib.hid (fun W => univ_at 24 (by decide) W)
  have E23 := fun W => eqlT a k n 0 false 23 W
  have E24 := fun W => eqlT a k n 0 false 24 W
  have hc : (layK a k n = 1 ∧ (decide (a = 0) && (k == false) && decide (n = 23)) = true) ∨ (layK a k n = 2 ∧ (decide (a = 0) && (k == false) && decide (n = 23)) = false ∧ (decide (a = 0) && (k == false) && decide (n = 24)) = true) ∨ (layK a k n = 0 ∧ (decide (a = 0) && (k == false) && decide (n = 23)) = false ∧ (decide (a = 0) && (k == false) && decide (n = 24)) = false) := by
    unfold layK
    by_cases h1 : a = 0
    · cases k
      · by_cases h2 : n = 23
        · exact .inl (by simp [h1, h2])
        · by_cases h3 : n = 24
          · exact .inr (.inl (by simp [h1, h3]))
          · exact .inr (.inr (by simp [h1, h2, h3]))
      · exact .inr (.inr (by simp))
    · exact .inr (.inr (by simp [h1]))
  have hi : (Tryd.prog.info? 33).map (·.size) = some (tgC a k n).length := infoTg
  generalize tgC a k n = L at *
  generalize tgC 0 false 23 = L23 at *
  generalize tgC 0 false 24 = L24 at *
  clear hw1 hg
  rcases hc with ⟨e1, e2⟩ | ⟨e1, e2, e3⟩ | ⟨e1, e2, e3⟩
  · rw [e2] at E23
    rw [e1]
    clear e1 e2 E24
    go_enter Tryd.func34, Tryd.ntmps34
    go_upto_region 1 with fail
    rw [HW1.out, HG.out]
    go_wp2_with (refine wpList_loadG rfl (.tmp 1) rfl rfl (rangeB K1.out) Tryd.underlying33 rfl hi ?_)
    refine (C23.out _).mono ?_
    rintro e w2 ⟨rfl, hb⟩
    have B2 := bt B1 (Lib.hid hb)
    clear hb
    go_wp2_with fail
    go_ret2
    exact ⟨rfl, B2.out⟩
  · rw [e2] at E23
    rw [e3] at E24
    rw [e1]
    clear e1 e2 e3
    go_enter Tryd.func34, Tryd.ntmps34
    go_upto_region 1 with fail
    rw [HW1.out, HG.out]
    go_wp2_with (refine wpList_loadG rfl (.tmp 1) rfl rfl (rangeB K1.out) Tryd.underlying33 rfl hi ?_)
    refine (C23.out _).mono ?_
    rintro e w2 ⟨rfl, hb⟩
    have B2 := bt B1 (Lib.hid hb)
    clear hb
    go_wp2_with fail
    refine (C24.out _).mono ?_
    rintro e w3 ⟨rfl, hb⟩
    have B3 := bt B2 (Lib.hid hb)
    clear hb
    go_wp2_with fail
    go_ret2
    exact ⟨rfl, B3.out⟩
  · rw [e2] at E23
    rw [e3] at E24
    rw [e1]
    clear e1 e2 e3
    go_enter Tryd.func34, Tryd.ntmps34
    go_upto_region 1 with fail
    rw [HW1.out, HG.out]
    go_wp2_with (refine wpList_loadG rfl (.tmp 1) rfl rfl (rangeB K1.out) Tryd.underlying33 rfl hi ?_)
    refine (C23.out _).mono ?_
    rintro e w2 ⟨rfl, hb⟩
    have B2 := bt B1 (Lib.hid hb)
    clear hb
    go_wp2_with fail
    refine (C24.out _).mono ?_
    rintro e w3 ⟨rfl, hb⟩
    have B3 := bt B2 (Lib.hid hb)
    clear hb
    go_wp2_with fail
    go_ret2
    exact ⟨rfl, B3.out⟩
/-- The tag's number of a year. -/
def tagN (y : Nat) : Nat := if 1950 ≤ y ∧ y ≤ 2049 then 23 else 24
theorem wpList_storeT {w : World} {g : Nat} {t : TypeId} {ops : Array Oper} {rest : List Oper} {o : Oper} {a : Act} {Q : Exit → Act → World → Prop} (hgd : o.guard = none) (x v : Operand) (ho : o.op = .store 33 x v)
    {c n c2 n2 : Nat} {k k2 : Bool} (hx : a.eval x = .pointer (some ⟨g, 0, none⟩)) (hv : a.eval v = .agg (tgC c2 k2 n2).toArray) (hg : Bk w g t (tgC c k n))
    (h : ∀ w', Bk w' g t (tgC c2 k2 n2) → w.grownBy w' (some g) → w'.heap.size = w.heap.size → wpList Tryd.prog ops Q rest (a.put o.dst undef) w') : wpList Tryd.prog ops Q (o :: rest) a w :=
  wpList_storeG hgd x v ho hx hv hg infoTg rfl (tgC_one _ _ _) h
set_option linter.unusedSimpArgs false in
set_option linter.unusedVariables false in
set_option maxHeartbeats 4000000 in
set_option maxRecDepth 100000 in
theorem tagOf_any (y : Nat) (w : World) : Calls Tryd.prog 33 #[.int .i64 (y : Int)] w fun e w' => e = .returned (.agg (tgC 0 false (tagN y)).toArray) ∧ Below w.heap.size w w' := by
  have Z := zTg
  obtain ⟨g, hg⟩ : ∃ g, w.heap.size = g := ⟨_, rfl⟩
  obtain ⟨w1, hw1⟩ : ∃ w1, w.alloc (.cells (tgC 0 false 0).toArray 33) = w1 := ⟨_, rfl⟩
  have B1 : Hid (Below w.heap.size w w1) := Lib.hid (by rw [← hw1]; exact bel1 w _)
  have K1 : Hid (Bk w1 g 33 (tgC 0 false 0)) := Lib.hid (by rw [← hw1, ← hg]; exact Bk.new w _ _)
  have HW1 := Lib.hid hw1
  have HG := Lib.hid hg
  have C23 : Hid (∀ W, Calls Tryd.prog 46 #[.int .u32 23] W fun e w' => e = .returned (.agg (tgC 0 false 23).toArray) ∧ Below W.heap.size W w') := Lib.hid (fun W => univ_at 23 (by decide) W)
  have C24 : Hid (∀ W, Calls Tryd.prog 46 #[.int .u32 24] W fun e w' => e = .returned (.agg (tgC 0 false 24).toArray) ∧ Below W.heap.size W w') := Lib.hid (fun W => univ_at 24 (by decide) W)
  have CI := Lib.hid (fun W => within_any y 1950 2049 W)
  have hc : (inI y 1950 2049 = true ∧ tagN y = 23) ∨ (inI y 1950 2049 = false ∧ tagN y = 24) := by
    unfold inI tagN
    by_cases h : 1950 ≤ y ∧ y ≤ 2049
    · rw [if_pos h]; exact .inl ⟨by simp; omega, rfl⟩
    · rw [if_neg h]; exact .inr ⟨by simp; omega, rfl⟩
  clear hw1 hg
  rcases hc with ⟨e1, e2⟩ | ⟨e1, e2⟩
  · rw [e1] at CI
    rw [e2]
    clear e1 e2
    go_enter Tryd.func33, Tryd.ntmps33
    go_upto_region 1 with fail
    rw [HW1.out, HG.out]
    go_wp2_with fail
    refine (CI.out _).mono ?_
    rintro e w2 ⟨rfl, rfl⟩
    go_wp2_with fail
    refine (C23.out _).mono ?_
    rintro e w2 ⟨rfl, hb⟩
    have B2 := bt B1 (Lib.hid hb)
    have K2 := kt K1 (Lib.hid hb)
    clear hb B1 K1
    go_wp2_with (refine wpList_storeT rfl (.tmp 2) (.tmp 5) rfl rfl rfl K2.out ?_
                 intro w8 hr8 hg8 hz8
                 have B8 := Lib.hid (B2.out.grown hg8 B2.out.size (fun k e => by injection e with e; have := HG.out; omega))
                 have R8 := Lib.hid hr8
                 clear hr8 hg8 hz8)
    exact retG1 rfl rfl (loadTg R8.out) rfl ⟨rfl, B8.out⟩
  · rw [e1] at CI
    rw [e2]
    clear e1 e2
    go_enter Tryd.func33, Tryd.ntmps33
    go_upto_region 1 with fail
    rw [HW1.out, HG.out]
    go_wp2_with fail
    refine (CI.out _).mono ?_
    rintro e w2 ⟨rfl, rfl⟩
    go_wp2_with fail
    refine (C24.out _).mono ?_
    rintro e w2 ⟨rfl, hb⟩
    have B2 := bt B1 (Lib.hid hb)
    have K2 := kt K1 (Lib.hid hb)
    clear hb B1 K1
    go_wp2_with (refine wpList_storeT rfl (.tmp 2) (.tmp 6) rfl rfl rfl K2.out ?_
                 intro w8 hr8 hg8 hz8
                 have B8 := Lib.hid (B2.out.grown hg8 B2.out.size (fun k e => by injection e with e; have := HG.out; omega))
                 have R8 := Lib.hid hr8
                 clear hr8 hg8 hz8)
    exact retG1 rfl rfl (loadTg R8.out) rfl ⟨rfl, B8.out⟩
end Go.Proofs.YtecmgkmonehmfaaDoor.Tim
