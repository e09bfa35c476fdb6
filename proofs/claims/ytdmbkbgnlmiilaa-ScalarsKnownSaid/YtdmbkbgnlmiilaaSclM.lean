/-
  Layer 5: contracts of Nat; the examples of the chapter hold: the statements' helper 'lives' returns true; what was there has not turned.
  Conditions: none.
-/
import Derived.Test.YtdmbkbgnlmiilaaSclL
namespace Go.Proofs.Ytdmbkbgnlmiilaa.Scl
open Go.RowKit

section
variable (w : World)
theorem gbool_lit (l : List Nat) (N : Nat) (v : Bool) (f : Nat) (h : Lt 256 l) (hN : l.length = N) (hv : gbV l = v) (hf : gbE l = f) :
    Calls Try.prog 18 #[.slice (some ⟨w.heap.size, 0, none⟩) N N] (w.alloc (.cells (cs8 l).toArray 5)) fun e w' => e = .returned (.tuple #[.bool v, .int .i64 (f : Int)]) ∧ Below w.heap.size w w' :=
  (gbool_any _ l N N _ (lit_rb w l h) hN).mono fun _ _ ⟨h1, h2⟩ => ⟨by rw [h1, hv, hf], h2 ▸ bel1 _ _⟩
theorem gbool_nil : Calls Try.prog 18 #[.slice none 0 0] w fun e w' => e = .returned (.tuple #[.bool false, .int .i64 11]) ∧ w = w' := gbool_any none [] 0 0 w Rb.nil rfl
theorem pbool_str (v : Bool) (l : List Nat) (N : Nat) (hl : pbL v = l) (hN : l.length = N) : Calls Try.prog 20 #[.bool v] w fun e w' => ∃ A, e = .returned (.slice A N N) ∧ (∀ w2, Below w'.heap.size w' w2 → (convert 22 9 (.slice A N N)).run Try.prog w2 = .ok (.string (bstr l)) w2) ∧ Below w.heap.size w w' := by
  subst hl hN
  exact (pbool_any v w).mono fun _ _ ⟨A, h1, h2, h3, _⟩ => ⟨A, h1, fun _ hb => run_str8 (h2.below hb) _, h3⟩
theorem pint_str (z : Int) (l : List Nat) (N : Nat) (h1 : -9223372036854775808 ≤ z) (h2 : z < 9223372036854775808) (h : Lt 256 l) (hm : minB l = true) (hz : tcv l = z) (hN : l.length = N) :
    Calls Try.prog 8 #[.int .i64 z] w fun e w' => ∃ A, e = .returned (.slice A N N) ∧ (∀ w2, Below w'.heap.size w' w2 → (convert 22 9 (.slice A N N)).run Try.prog w2 = .ok (.string (bstr l)) w2) ∧ Below w.heap.size w w' := by
  subst hN
  have e := putI_of h hm hz
  have := pint_any z w h1 h2
  rw [e] at this
  exact this.mono fun _ _ ⟨A, h1, h2, h3, _⟩ => ⟨A, h1, fun _ hb => run_str8 (h2.below hb) _, h3⟩
theorem integer_lit (l : List Nat) (N : Nat) (z : Int) (f : Nat) (h : Lt 256 l) (hN : l.length = N) (hn : N ≤ 1000) (hz : giV l = z) (hf : giE l = f) :
    Calls Try.prog 11 #[.slice (some ⟨w.heap.size, 0, none⟩) N N, .int .i64 z, .int .i64 (f : Int)] (w.alloc (.cells (cs8 l).toArray 5)) fun e w' => e = .returned (.bool true) ∧ Below w.heap.size w w' :=
  (integer_ok _ l N N z f _ (lit_rb w l h) hN (Nat.le_refl _) (by unfold maxLen; omega) hz hf).mono fun _ _ ⟨h1, h2⟩ => ⟨h1, (bel1 _ _).trans (h2.mono (bel1 _ _).size)⟩
theorem integer_nil : Calls Try.prog 11 #[.slice none 0 0, .int .i64 0, .int .i64 11] w fun e w' => e = .returned (.bool true) ∧ Below w.heap.size w w' := integer_ok none [] 0 0 0 11 w Rb.nil rfl (Nat.le_refl _) (by unfold maxLen; omega) rfl rfl
theorem pnat_lit (l m : List Nat) (N M f : Nat) (h : Lt 256 l) (hN : l.length = N) (hn : N ≤ 1000) (hm : pnL l = m) (hM : m.length = M) (hf : chkN l = f) :
    Calls Try.prog 24 #[.slice (some ⟨w.heap.size, 0, none⟩) N N] (w.alloc (.cells (cs8 l).toArray 5)) fun e w' => ∃ A, e = .returned (.tuple #[.slice A M M, .int .i64 (f : Int)]) ∧ Rb w' A m ∧ Below w.heap.size w w' := by
  subst hm hM hf
  exact (pnat_any _ l N N _ (lit_rb w l h) hN hn).mono fun _ _ ⟨A, h1, h2, h3, _⟩ => ⟨A, h1, h2, (bel1 _ _).trans (h3.mono (bel1 _ _).size)⟩
theorem pnat_nil : Calls Try.prog 24 #[.slice none 0 0] w fun e w' => ∃ A, e = .returned (.tuple #[.slice A 1 1, .int .i64 0]) ∧ Rb w' A [0] ∧ Below w.heap.size w w' :=
  (pnat_any none [] 0 0 w Rb.nil rfl (by omega)).mono fun _ _ ⟨A, h1, h2, h3, _⟩ => ⟨A, h1, h2, h3⟩
theorem same_lit (A : Option Addr) (l : List Nat) (N f : Nat) (hA : Rb w A l) (h : Lt 256 l) (hN : l.length = N) :
    Calls Try.prog 10 #[.slice A N N, .int .i64 (f : Int), .slice (some ⟨w.heap.size, 0, none⟩) N N, .int .i64 (f : Int)] (w.alloc (.cells (cs8 l).toArray 5)) fun e w' => e = .returned (.bool true) ∧ Below w.heap.size w w' :=
  (same_ok A _ l N N f _ (hA.below (bel1 _ _)) (lit_rb w l h) hN).mono fun _ _ ⟨h1, h2⟩ => ⟨h1, h2 ▸ bel1 _ _⟩
theorem natural_lit (l m : List Nat) (N M f : Nat) (h : Lt 256 l) (k : Lt 256 m) (hN : l.length = N) (hM : m.length = M) (hn : N ≤ 1000) (hz : gnL l = m) (hf : gnE l = f) :
    Calls Try.prog 23 #[.slice (some ⟨w.heap.size, 0, none⟩) N N, .slice (some ⟨w.heap.size + 1, 0, none⟩) M M, .int .i64 (f : Int)] ((w.alloc (.cells (cs8 l).toArray 5)).alloc (.cells (cs8 m).toArray 5)) fun e w' => e = .returned (.bool true) ∧ Below w.heap.size w w' :=
  (natural_ok _ _ l m N N M M f _ ((lit_rb w l h).below (bel1 _ _)) (by have := lit_rb (w.alloc (.cells (cs8 l).toArray 5)) m k; rwa [World.size_alloc] at this) hN hM (Nat.le_refl _) (by unfold maxLen; omega) hn hz hf).mono fun _ _ ⟨h1, h2⟩ => ⟨h1, (bel2 _ _ _).trans (h2.mono (bel2 _ _ _).size)⟩
theorem natural_litnil (l : List Nat) (N f : Nat) (h : Lt 256 l) (hN : l.length = N) (hn : N ≤ 1000) (hz : gnL l = []) (hf : gnE l = f) :
    Calls Try.prog 23 #[.slice (some ⟨w.heap.size, 0, none⟩) N N, .slice none 0 0, .int .i64 (f : Int)] (w.alloc (.cells (cs8 l).toArray 5)) fun e w' => e = .returned (.bool true) ∧ Below w.heap.size w w' :=
  (natural_ok _ none l [] N N 0 0 f _ (lit_rb w l h) Rb.nil hN rfl (Nat.le_refl _) (by unfold maxLen; omega) hn hz hf).mono fun _ _ ⟨h1, h2⟩ => ⟨h1, (bel1 _ _).trans (h2.mono (bel1 _ _).size)⟩
theorem int_lit (z : Int) (l : List Nat) (N : Nat) (h1 : -9223372036854775808 ≤ z) (h2 : z < 9223372036854775808) (h : Lt 256 l) (hm : minB l = true) (hz : tcv l = z) (hN : l.length = N) :
    Calls Try.prog 13 #[.int .i64 z] w fun e w' => ∃ A, e = .returned (elV 0 2 false (.slice A N N) (.slice none 0 0)) ∧ Rb w' A l ∧ Below w.heap.size w w' := by
  subst hN
  have e := putI_of h hm hz
  have := int_any z w h1 h2
  rw [e] at this
  exact this
theorem enum_lit (z : Int) (l : List Nat) (N : Nat) (h1 : -9223372036854775808 ≤ z) (h2 : z < 9223372036854775808) (h : Lt 256 l) (hm : minB l = true) (hz : tcv l = z) (hN : l.length = N) :
    Calls Try.prog 14 #[.int .i64 z] w fun e w' => ∃ A, e = .returned (elV 0 10 false (.slice A N N) (.slice none 0 0)) ∧ Rb w' A l ∧ Below w.heap.size w w' := by
  subst hN
  have e := putI_of h hm hz
  have := enum_any z w h1 h2
  rw [e] at this
  exact this
theorem ofint_lit (n : Nat) (A : Option Addr) (l : List Nat) (N : Nat) (z : Int) (f : Nat) (hA : Rb w A l) (hN : l.length = N) (hn : N ≤ 1000) (hz : oiV 0 n false 0 2 l = z) (hf : oiE 0 n false 0 2 l = f) :
    Calls Try.prog 15 #[elV 0 n false (.slice A N N) (.slice none 0 0)] w fun e w' => e = .returned (.tuple #[.int .i64 z, .int .i64 (f : Int)]) ∧ Below w.heap.size w w' := by
  subst hz hf
  exact ofint_any 0 n false A none l N N 0 0 w hA hN (Nat.le_refl _) (by unfold maxLen; omega)
theorem ofenum_lit (n : Nat) (A : Option Addr) (l : List Nat) (N : Nat) (z : Int) (f : Nat) (hA : Rb w A l) (hN : l.length = N) (hn : N ≤ 1000) (hz : oiV 0 n false 0 10 l = z) (hf : oiE 0 n false 0 10 l = f) :
    Calls Try.prog 16 #[elV 0 n false (.slice A N N) (.slice none 0 0)] w fun e w' => e = .returned (.tuple #[.int .i64 z, .int .i64 (f : Int)]) ∧ Below w.heap.size w w' := by
  subst hz hf
  exact ofenum_any 0 n false A none l N N 0 0 w hA hN (Nat.le_refl _) (by unfold maxLen; omega)
theorem ofnull_lit : Calls Try.prog 32 #[.agg #[.int .u8 0, .bool false, .int .u32 5, .slice (some ⟨w.heap.size, 0, none⟩) 1 1, .slice none 0 0]] (w.alloc (.cells #[.int .u8 0] 5)) fun e w' => e = .returned (.int .i64 11) ∧ Below w.heap.size w w' :=
  (ofnull_any 0 5 false _ none 1 1 0 0 _).mono fun _ _ ⟨h1, h2⟩ => ⟨h1, (bel1 _ _).trans (h2.mono (bel1 _ _).size)⟩
end

set_option maxHeartbeats 6400000 in
set_option maxRecDepth 100000 in
theorem lives1 (w : World) : Calls Try.prog 17 #[] w fun e w' => e = .returned (.bool true) ∧ Below w.heap.size w w' := by
  have B0 := Lib.hid (Below.refl w.heap.size w)
  go_enter Try.func17, Try.ntmps17
  go_wp2_with fail
  refine (gbool_lit w [1] 1 false 11 (lt_lit rfl) rfl (by decide +kernel) (by decide +kernel)).mono ?_
  rintro e w1 ⟨rfl, hb⟩
  have B1 := bt B0 (Lib.hid hb)
  clear hb B0
  go_wp2_with fail
  refine (gbool_nil w1).mono ?_
  rintro e w' ⟨rfl, rfl⟩
  go_wp2_with fail
  refine (pbool_str w1 true [255] 1 rfl rfl).mono ?_
  rintro e w2 ⟨A2, rfl, hs, hb⟩
  have s2 := hs _ (Below.refl _ _)
  have q2 : ((bstr [255]).toList != [255]) = false := by decide +kernel
  have p2 : ((bstr [255]).toList == [255]) = true := by decide +kernel
  have B2 := bt B1 (Lib.hid hb)
  clear hb hs B1
  go_wp2_with fail
  refine (pint_str w2 (0) [0] 1 (by decide) (by decide) (lt_lit rfl) rfl (by decide +kernel) rfl).mono ?_
  rintro e w3 ⟨A3, rfl, hs, hb⟩
  have s3 := hs _ (Below.refl _ _)
  have q3 : ((bstr [0]).toList != [0]) = false := by decide +kernel
  have p3 : ((bstr [0]).toList == [0]) = true := by decide +kernel
  have B3 := bt B2 (Lib.hid hb)
  clear hb hs B2
  go_wp2_with fail
  refine (pint_str w3 (127) [127] 1 (by decide) (by decide) (lt_lit rfl) rfl (by decide +kernel) rfl).mono ?_
  rintro e w4 ⟨A4, rfl, hs, hb⟩
  have s4 := hs _ (Below.refl _ _)
  have q4 : ((bstr [127]).toList != [127]) = false := by decide +kernel
  have p4 : ((bstr [127]).toList == [127]) = true := by decide +kernel
  have B4 := bt B3 (Lib.hid hb)
  clear hb hs B3
  go_wp2_with fail
  refine (pint_str w4 (128) [0, 128] 2 (by decide) (by decide) (lt_lit rfl) rfl (by decide +kernel) rfl).mono ?_
  rintro e w5 ⟨A5, rfl, hs, hb⟩
  have s5 := hs _ (Below.refl _ _)
  have q5 : ((bstr [0, 128]).toList != [0, 128]) = false := by decide +kernel
  have p5 : ((bstr [0, 128]).toList == [0, 128]) = true := by decide +kernel
  have B5 := bt B4 (Lib.hid hb)
  clear hb hs B4
  go_wp2_with fail
  refine (pint_str w5 (-128) [128] 1 (by decide) (by decide) (lt_lit rfl) rfl (by decide +kernel) rfl).mono ?_
  rintro e w6 ⟨A6, rfl, hs, hb⟩
  have s6 := hs _ (Below.refl _ _)
  have q6 : ((bstr [128]).toList != [128]) = false := by decide +kernel
  have p6 : ((bstr [128]).toList == [128]) = true := by decide +kernel
  have B6 := bt B5 (Lib.hid hb)
  clear hb hs B5
  go_wp2_with fail
  refine (pint_str w6 (-129) [255, 127] 2 (by decide) (by decide) (lt_lit rfl) rfl (by decide +kernel) rfl).mono ?_
  rintro e w7 ⟨A7, rfl, hs, hb⟩
  have s7 := hs _ (Below.refl _ _)
  have q7 : ((bstr [255, 127]).toList != [255, 127]) = false := by decide +kernel
  have p7 : ((bstr [255, 127]).toList == [255, 127]) = true := by decide +kernel
  have B7 := bt B6 (Lib.hid hb)
  clear hb hs B6
  go_wp2_with fail
  refine (integer_lit w7 [0, 127] 2 0 11 (lt_lit rfl) rfl (by decide) (by decide +kernel) (by decide +kernel)).mono ?_
  rintro e w8 ⟨rfl, hb⟩
  have B8 := bt B7 (Lib.hid hb)
  clear hb B7
  go_wp2_with fail
  refine (integer_lit w8 [255, 128] 2 0 11 (lt_lit rfl) rfl (by decide) (by decide +kernel) (by decide +kernel)).mono ?_
  rintro e w9 ⟨rfl, hb⟩
  have B9 := bt B8 (Lib.hid hb)
  clear hb B8
  go_wp2_with fail
  refine (integer_nil w9).mono ?_
  rintro e w10 ⟨rfl, hb⟩
  have B10 := bt B9 (Lib.hid hb)
  clear hb B9
  go_wp2_with fail
  refine (integer_lit w10 [1, 0, 0, 0, 0, 0, 0, 0, 0] 9 0 3 (lt_lit rfl) rfl (by decide) (by decide +kernel) (by decide +kernel)).mono ?_
  rintro e w11 ⟨rfl, hb⟩
  have B11 := bt B10 (Lib.hid hb)
  clear hb B10
  go_wp2_with fail
  refine (pnat_lit w11 [128] [0, 128] 1 2 0 (lt_lit rfl) rfl (by decide) (by decide +kernel) rfl (by decide +kernel)).mono ?_
  rintro e w12 ⟨A12, rfl, hr, hb⟩
  have RA := Lib.hid hr; clear hr
  have B12 := bt B11 (Lib.hid hb)
  clear hb B11
  go_wp2_with fail
  refine (pnat_nil w12).mono ?_
  rintro e w13 ⟨A13, rfl, hr, hb⟩
  have RB := Lib.hid hr; clear hr
  have RA := Lib.hid (RA.out.below hb)
  have B13 := bt B12 (Lib.hid hb)
  clear hb B12
  go_wp2_with fail
  refine (same_lit w13 A12 [0, 128] 2 0 RA.out (lt_lit rfl) rfl).mono ?_
  rintro e w14 ⟨rfl, hb⟩
  have RB := Lib.hid (RB.out.below hb)
  have B14 := bt B13 (Lib.hid hb)
  clear hb B13
  go_wp2_with fail
  refine (same_lit w14 A13 [0] 1 0 RB.out (lt_lit rfl) rfl).mono ?_
  rintro e w15 ⟨rfl, hb⟩
  have B15 := bt B14 (Lib.hid hb)
  clear hb B14
  go_wp2_with fail
  refine (natural_lit w15 [0, 128] [128] 2 1 0 (lt_lit rfl) (lt_lit rfl) rfl rfl (by decide) (by decide +kernel) (by decide +kernel)).mono ?_
  rintro e w16 ⟨rfl, hb⟩
  have B16 := bt B15 (Lib.hid hb)
  clear hb B15
  go_wp2_with fail
  refine (natural_litnil w16 [128] 1 11 (lt_lit rfl) rfl (by decide) (by decide +kernel) (by decide +kernel)).mono ?_
  rintro e w17 ⟨rfl, hb⟩
  have B17 := bt B16 (Lib.hid hb)
  clear hb B16
  go_wp2_with fail
  refine (natural_litnil w17 [0] 1 0 (lt_lit rfl) rfl (by decide) (by decide +kernel) (by decide +kernel)).mono ?_
  rintro e w18 ⟨rfl, hb⟩
  have B18 := bt B17 (Lib.hid hb)
  clear hb B17
  go_wp2_with fail
  refine (int_lit w18 (-1) [255] 1 (by decide) (by decide) (lt_lit rfl) rfl (by decide +kernel) rfl).mono ?_
  rintro e w19 ⟨A19, rfl, hr, hb⟩
  have RC := Lib.hid hr; clear hr
  have B19 := bt B18 (Lib.hid hb)
  clear hb B18
  go_wp2_with fail
  refine (ofint_lit w19 2 A19 [255] 1 (-1) 0 RC.out rfl (by decide) (by decide +kernel) (by decide +kernel)).mono ?_
  rintro e w20 ⟨rfl, hb⟩
  have B20 := bt B19 (Lib.hid hb)
  clear hb B19
  go_wp2_with fail
  refine (enum_lit w20 5 [5] 1 (by decide) (by decide) (lt_lit rfl) rfl (by decide +kernel) rfl).mono ?_
  rintro e w21 ⟨A21, rfl, hr, hb⟩
  have RD := Lib.hid hr; clear hr
  have B21 := bt B20 (Lib.hid hb)
  clear hb B20
  go_wp2_with fail
  refine (ofint_lit w21 10 A21 [5] 1 0 9 RD.out rfl (by decide) (by decide +kernel) (by decide +kernel)).mono ?_
  rintro e w22 ⟨rfl, hb⟩
  have B22 := bt B21 (Lib.hid hb)
  clear hb B21
  go_wp2_with fail
  refine (enum_lit w22 5 [5] 1 (by decide) (by decide) (lt_lit rfl) rfl (by decide +kernel) rfl).mono ?_
  rintro e w23 ⟨A23, rfl, hr, hb⟩
  have RE := Lib.hid hr; clear hr
  have B23 := bt B22 (Lib.hid hb)
  clear hb B22
  go_wp2_with fail
  refine (ofenum_lit w23 10 A23 [5] 1 5 0 RE.out rfl (by decide) (by decide +kernel) (by decide +kernel)).mono ?_
  rintro e w24 ⟨rfl, hb⟩
  have B24 := bt B23 (Lib.hid hb)
  clear hb B23
  go_wp2_with fail
  refine (ofnull_lit w24).mono ?_
  rintro e w25 ⟨rfl, hb⟩
  have B25 := bt B24 (Lib.hid hb)
  clear hb B24
  go_wp2_with fail
  go_ret
  exact ⟨rfl, B25.out⟩
end Go.Proofs.Ytdmbkbgnlmiilaa.Scl
