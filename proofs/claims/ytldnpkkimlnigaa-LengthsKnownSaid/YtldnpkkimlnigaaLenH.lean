/-
  Layer 3: the examples of the chapter hold: the statements' helper 'lives' returns true; what was there has not turned.
  Conditions: none.
-/
import Derived.Test.YtldnpkkimlnigaaLenG
namespace Go.Proofs.Ytldnpkkimlnigaa
open Go.RowKit

theorem lit_rb (w : World) (l : List Nat) (h : Lt 256 l) : Rb (w.alloc (.cells (cs8 l).toArray 5)) (some ⟨w.heap.size, 0, none⟩) l :=
  ⟨by have := (Bk.new w 5 (cs8 l)).rd 0; simpa using this, h⟩
theorem bel1 (w : World) (o : Obj) : Below w.heap.size w (w.alloc o) := (Below.refl _ _).alloc (Nat.le_refl _) _
theorem lt_lit {l : List Nat} (h : l.all (fun x => decide (x < 256)) = true) : Lt 256 l := fun x hx => by simpa using List.all_eq_true.1 h x hx
theorem bt {a b c : World} (h1 : Hid (Below a.heap.size a b)) (h2 : Hid (Below b.heap.size b c)) : Hid (Below a.heap.size a c) := Lib.hid (h1.out.trans (h2.out.mono h1.out.size))
theorem read_lit (w : World) (l : List Nat) (N n s f : Nat) (h : Lt 256 l) (hN : l.length = N) (hq : getL l = (n, s, f)) :
    Calls Try.prog 13 #[.slice (some ⟨w.heap.size, 0, none⟩) N N, .int .i64 (n : Int), .int .i64 (s : Int), .int .i64 (f : Int)] (w.alloc (.cells (cs8 l).toArray 5)) fun e w' => e = .returned (.bool true) ∧ Below w.heap.size w w' :=
  (read_ok _ l N N n s f _ hN (Nat.le_refl _) (lit_rb w l h) hq).mono fun _ _ ⟨h1, h2⟩ => ⟨h1, (bel1 _ _).trans (h2.mono (bel1 _ _).size)⟩
theorem put_neg1 (w : World) : Calls Try.prog 8 #[.int .i64 (-1)] w (GiveP w [] 1) := put_neg (-1) w (by omega)
theorem put_over (w : World) : Calls Try.prog 8 #[.int .i64 16777216] w (GiveP w [] 3) := put_great 16777216 w (by omega)

set_option maxHeartbeats 3200000 in
set_option maxRecDepth 100000 in
theorem lives1 (w : World) : Calls Try.prog 11 #[] w fun e w' => e = .returned (.bool true) ∧ Below w.heap.size w w' := by
  go_enter Try.func11, Try.ntmps11
  go_wp2_with fail
  refine (put_neg1 w).mono ?_
  rintro e w1 ⟨A1, rfl, _, hb⟩
  have B1 := Lib.hid hb
  clear hb
  go_wp2_with fail
  refine (put_over w1).mono ?_
  rintro e w2 ⟨A2, rfl, _, hb⟩
  have B2 := bt B1 (Lib.hid hb)
  clear hb B1
  go_wp2_with fail
  refine (lput_ok 0 { data := #[0] } 1 w2 (by decide) (by decide +kernel) (by decide)).mono ?_
  rintro e w3 ⟨rfl, hb⟩
  have B3 := bt B2 (Lib.hid hb)
  clear hb B2
  go_wp2_with fail
  refine (lput_ok 127 { data := #[127] } 1 w3 (by decide) (by decide +kernel) (by decide)).mono ?_
  rintro e w4 ⟨rfl, hb⟩
  have B4 := bt B3 (Lib.hid hb)
  clear hb B3
  go_wp2_with fail
  refine (lput_ok 128 { data := #[129, 128] } 2 w4 (by decide) (by decide +kernel) (by decide)).mono ?_
  rintro e w5 ⟨rfl, hb⟩
  have B5 := bt B4 (Lib.hid hb)
  clear hb B4
  go_wp2_with fail
  refine (lput_ok 300 { data := #[130, 1, 44] } 3 w5 (by decide) (by decide +kernel) (by decide)).mono ?_
  rintro e w6 ⟨rfl, hb⟩
  have B6 := bt B5 (Lib.hid hb)
  clear hb B5
  go_wp2_with fail
  refine (lput_ok 65536 { data := #[131, 1, 0, 0] } 4 w6 (by decide) (by decide +kernel) (by decide)).mono ?_
  rintro e w7 ⟨rfl, hb⟩
  have B7 := bt B6 (Lib.hid hb)
  clear hb B6
  go_wp2_with fail
  refine (size_any 255 w7).mono ?_
  rintro e w' ⟨rfl, rfl⟩
  rw [show ((szI 255 : Nat) : Int) = 2 from by decide]
  go_wp2_with fail
  refine (total_any 1 255 w7).mono ?_
  rintro e w' ⟨rfl, rfl⟩
  rw [show totI 1 255 = 258 from by decide]
  go_wp2_with fail
  refine (read_lit w7 [5, 255] 2 5 1 0 (lt_lit rfl) rfl (by decide +kernel)).mono ?_
  rintro e w8 ⟨rfl, hb⟩
  have B8 := bt B7 (Lib.hid hb)
  clear hb B7
  go_wp2_with fail
  refine (read_lit w8 [129, 128] 2 128 2 0 (lt_lit rfl) rfl (by decide +kernel)).mono ?_
  rintro e w9 ⟨rfl, hb⟩
  have B9 := bt B8 (Lib.hid hb)
  clear hb B8
  go_wp2_with fail
  refine (read_lit w9 [130, 1, 44, 0] 4 300 3 0 (lt_lit rfl) rfl (by decide +kernel)).mono ?_
  rintro e w10 ⟨rfl, hb⟩
  have B10 := bt B9 (Lib.hid hb)
  clear hb B9
  go_wp2_with fail
  refine (read_ok none [] 0 0 0 0 7 w10 rfl (Nat.le_refl _) Rb.nil rfl).mono ?_
  rintro e w11 ⟨rfl, hb⟩
  have B11 := bt B10 (Lib.hid hb)
  clear hb B10
  go_wp2_with fail
  refine (read_lit w11 [128] 1 0 0 10 (lt_lit rfl) rfl (by decide +kernel)).mono ?_
  rintro e w12 ⟨rfl, hb⟩
  have B12 := bt B11 (Lib.hid hb)
  clear hb B11
  go_wp2_with fail
  refine (read_lit w12 [132, 0, 0, 0, 1] 5 0 0 10 (lt_lit rfl) rfl (by decide +kernel)).mono ?_
  rintro e w13 ⟨rfl, hb⟩
  have B13 := bt B12 (Lib.hid hb)
  clear hb B12
  go_wp2_with fail
  refine (read_lit w13 [130, 1] 2 0 0 7 (lt_lit rfl) rfl (by decide +kernel)).mono ?_
  rintro e w14 ⟨rfl, hb⟩
  have B14 := bt B13 (Lib.hid hb)
  clear hb B13
  go_wp2_with fail
  refine (read_lit w14 [129, 127] 2 0 0 10 (lt_lit rfl) rfl (by decide +kernel)).mono ?_
  rintro e w15 ⟨rfl, hb⟩
  have B15 := bt B14 (Lib.hid hb)
  clear hb B14
  go_wp2_with fail
  refine (read_lit w15 [130, 0, 255] 3 0 0 10 (lt_lit rfl) rfl (by decide +kernel)).mono ?_
  rintro e w16 ⟨rfl, hb⟩
  have B16 := bt B15 (Lib.hid hb)
  clear hb B15
  go_wp2_with fail
  go_ret
  exact ⟨rfl, B16.out⟩
end Go.Proofs.Ytldnpkkimlnigaa
