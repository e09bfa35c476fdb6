/-
  Layer 2: the examples of the chapter hold: the statements' helper 'lives' returns true; what was there has not turned.
  Conditions: the variables hold what the program's text lays.
-/
import Derived.Test.YtcaolgcpcjodnaaDoorTagN
namespace Go.Proofs.YtcaolgcpcjodnaaDoor
open Go.RowKit

theorem lit_rb (w : World) (l : List Nat) (h : All8 l) : Rb (w.alloc (.cells (cs8 l).toArray 5)) (some ⟨w.heap.size, 0, none⟩) l :=
  ⟨by have := (Bk.new w 5 (cs8 l)).rd 0; simpa using this, h⟩
theorem bel1 (w : World) (o : Obj) : Below w.heap.size w (w.alloc o) := (Below.refl _ _).alloc (Nat.le_refl _) _
theorem bt {a b c : World} (h1 : Hid (Below a.heap.size a b)) (h2 : Hid (Below b.heap.size b c)) : Hid (Below a.heap.size a c) := Lib.hid (h1.out.trans (h2.out.mono h1.out.size))
theorem rt {a b : World} {A : Option Addr} {l : List Nat} (h : Hid (Rb a A l)) (h2 : Hid (Below a.heap.size a b)) : Hid (Rb b A l) := Lib.hid (h.out.below h2.out)
theorem kt {a b : World} {g : Nat} {t : TypeId} {cs : List Value} (h : Hid (Bk a g t cs)) (h2 : Hid (Below a.heap.size a b)) : Hid (Bk b g t cs) := Lib.hid (h.out.below h2.out h.out.lt)
theorem et {a b : World} (h : Hid (Env a)) (h2 : Hid (Below a.heap.size a b)) : Hid (Env b) := Lib.hid (h.out.below h2.out)
theorem all_lit {l : List Nat} (h : l.all (fun x => decide (x < 256)) = true) : All8 l := fun x hx => by simpa using List.all_eq_true.1 h x hx
theorem tag3 {W : World} {g : Nat} {a b c : Value} (h : Hid (Bk W g 25 [a, b, c])) : W.cell? ⟨g, 0, none⟩ = some a ∧ W.cell? ⟨g, 1, none⟩ = some b ∧ W.cell? ⟨g, 2, none⟩ = some c ∧ g < W.heap.size := by
  have r0 := h.out.cell 0; have r1 := h.out.cell 1; have r2 := h.out.cell 2
  simp only [List.getElem?_cons_zero, List.getElem?_cons_succ] at r0 r1 r2
  exact ⟨r0, r1, r2, h.out.lt⟩
theorem put_lit (c n : Nat) (k : Bool) (l : List Nat) (N : Nat) (W : World) (hc : c < 256) (hn : n < 4294967296) (h : chk c n k = 0) (hl : putL c n k = l) (hN : l.length = N) :
    Calls Tryd.prog 13 #[tagV c n k] W fun e w' => ∃ A, e = .returned (.tuple #[.slice A N N, .int .i64 0]) ∧ Hid (Rb w' A l) ∧ Hid (Below W.heap.size W w') :=
  (put_any c n k W hc hn h).mono fun e w' ⟨A, h1, h2, h3⟩ => ⟨A, by rw [h1, hl, hN]; rfl, Lib.hid (hl ▸ h2), Lib.hid h3⟩
theorem same_lit (A : Option Addr) (l : List Nat) (N : Nat) (W : World) (hN : l.length = N) (h8 : All8 l) (hA : Hid (Rb W A l)) :
    Calls Tryd.prog 14 #[.slice A N N, .int .i64 0, .slice (some ⟨W.heap.size, 0, none⟩) N N, .int .i64 0] (W.alloc (.cells (cs8 l).toArray 5)) fun e w' => e = .returned (.bool true) ∧ Hid (Below W.heap.size W w') := by
  subst hN
  exact (same_ok A _ l l.length 0 _ (hA.out.below (bel1 _ _)) (lit_rb W l h8)).mono fun e w' ⟨h1, h2⟩ => ⟨h1, by rw [← h2]; exact Lib.hid (bel1 _ _)⟩
theorem read_lit (l : List Nat) (c n s f : Nat) (k : Bool) (N : Nat) (W : World) (hN : l.length = N) (hm : N ≤ 100) (h8 : All8 l) (hq : rdL l = (c, n, k, s, f)) :
    Calls Tryd.prog 19 #[.slice (some ⟨W.heap.size, 0, none⟩) N N, tagV c n k, .int .i64 (s : Int), .int .i64 (f : Int)] (W.alloc (.cells (cs8 l).toArray 5)) fun e w' => e = .returned (.bool true) ∧ Hid (Below W.heap.size W w') := by
  subst hN
  exact (read_ok _ l l.length c n s f k _ (Nat.le_refl _) (by unfold maxLen; omega) (lit_rb W l h8) hq).mono fun e w' ⟨h1, h2⟩ => ⟨h1, Lib.hid ((bel1 _ _).trans (h2.mono (bel1 _ _).size))⟩
theorem parse_lit (s : ByteArray) (l : List Nat) (c n f : Nat) (k : Bool) (W : World) (hs : s = bstr l) (hm : l.length ≤ 100) (h8 : All8 l) (hq : prsE l = (c, n, k, f)) (hE : Hid (Env W)) :
    Calls Tryd.prog 22 #[.string s] W fun e w' => e = .returned (.tuple #[tagV c n k, .int .i64 (f : Int)]) ∧ Hid (Below W.heap.size W w') := by
  subst hs
  exact (parse_any l W hE.out h8 (by omega)).mono fun e w' ⟨h1, h2⟩ => ⟨by rw [h1, hq], Lib.hid h2⟩
theorem check_lit (c n f : Nat) (k : Bool) (W : World) (hc : c < 256) (hn : n < 4294967296) (h : chk c n k = f) :
    Calls Tryd.prog 11 #[tagV c n k] W fun e w' => e = .returned (.int .i64 (f : Int)) ∧ Hid (Below W.heap.size W w') :=
  (check_any c n k W hc hn).mono fun e w' ⟨h1, h2⟩ => ⟨by rw [h1, h], Lib.hid h2⟩
theorem text_lit (c n : Nat) (k : Bool) (S : ByteArray) (W : World) (hc : c < 256) (hn : n < 4294967296) (h : chk c n k = 0) (hS : bstr (ttext c n k) = S) (hE : Hid (Env W)) :
    Calls Tryd.prog 16 #[tagV c n k] W fun e w' => e = .returned (.string S) ∧ Hid (Below W.heap.size W w') :=
  (text_ok c n k W hE.out hc hn h).mono fun e w' ⟨h1, h2⟩ => ⟨by rw [h1, hS], Lib.hid h2⟩

set_option maxHeartbeats 3200000 in
set_option maxRecDepth 100000 in
theorem lives_any (w : World) (hE : Env w) : Calls Tryd.prog 12 #[] w fun e w' => e = .returned (.bool true) ∧ Below w.heap.size w w' := by
  have E0 := Lib.hid hE
  clear hE
  have S0 := Lib.hid (Bk.new w 25 [.int .u8 0, .bool true, .int .u32 16])
  have B0 := Lib.hid (bel1 w (.cells #[.int .u8 0, .bool true, .int .u32 16] 25))
  go_enter Tryd.func12, Tryd.ntmps12
  go_wp2_with fail
  refine (put_lit 0 16 true [48] 1 _ (by decide) (by decide) (by decide +kernel) (by decide +kernel) rfl).mono ?_
  rintro e w1 ⟨A0, rfl, R0_1, hb1⟩
  have B1 := bt B0 hb1
  have S1 := kt S0 hb1
  clear hb1 B0 S0
  go_wp2_with fail
  refine (put_lit 2 3 false [131] 1 _ (by decide) (by decide) (by decide +kernel) (by decide +kernel) rfl).mono ?_
  rintro e w2 ⟨A1, rfl, R1_2, hb2⟩
  have B2 := bt B1 hb2
  have S2 := kt S1 hb2
  have R0_2 := rt R0_1 hb2
  clear hb2 B1 S1 R0_1
  go_wp2_with fail
  refine (put_lit 3 31 false [223, 31] 2 _ (by decide) (by decide) (by decide +kernel) (by decide +kernel) rfl).mono ?_
  rintro e w3 ⟨A2, rfl, R2_3, hb3⟩
  have B3 := bt B2 hb3
  have S3 := kt S2 hb3
  have R0_3 := rt R0_2 hb3
  have R1_3 := rt R1_2 hb3
  clear hb3 B2 S2 R0_2 R1_2
  go_wp2_with fail
  refine (put_lit 1 200 true [127, 129, 72] 3 _ (by decide) (by decide) (by decide +kernel) (by decide +kernel) rfl).mono ?_
  rintro e w4 ⟨A3, rfl, R3_4, hb4⟩
  have B4 := bt B3 hb4
  have S4 := kt S3 hb4
  have R0_4 := rt R0_3 hb4
  have R1_4 := rt R1_3 hb4
  have R2_4 := rt R2_3 hb4
  clear hb4 B3 S3 R0_3 R1_3 R2_3
  go_wp2_with fail
  refine (put_lit 2 268435455 false [159, 255, 255, 255, 127] 5 _ (by decide) (by decide) (by decide +kernel) (by decide +kernel) rfl).mono ?_
  rintro e w5 ⟨A4, rfl, R4_5, hb5⟩
  have B5 := bt B4 hb5
  have S5 := kt S4 hb5
  have R0_5 := rt R0_4 hb5
  have R1_5 := rt R1_4 hb5
  have R2_5 := rt R2_4 hb5
  have R3_5 := rt R3_4 hb5
  clear hb5 B4 S4 R0_4 R1_4 R2_4 R3_4
  go_wp2_with fail
  clear R4_5
  refine (same_lit A0 [48] 1 _ rfl (all_lit rfl) R0_5).mono ?_
  rintro e w6 ⟨rfl, hb6⟩
  have B6 := bt B5 hb6
  have S6 := kt S5 hb6
  have R0_6 := rt R0_5 hb6
  have R1_6 := rt R1_5 hb6
  have R2_6 := rt R2_5 hb6
  have R3_6 := rt R3_5 hb6
  clear hb6 B5 S5 R0_5 R1_5 R2_5 R3_5
  clear R0_6
  go_wp2_with fail
  refine (same_lit A1 [131] 1 _ rfl (all_lit rfl) R1_6).mono ?_
  rintro e w7 ⟨rfl, hb7⟩
  have B7 := bt B6 hb7
  have S7 := kt S6 hb7
  have R1_7 := rt R1_6 hb7
  have R2_7 := rt R2_6 hb7
  have R3_7 := rt R3_6 hb7
  clear hb7 B6 S6 R1_6 R2_6 R3_6
  clear R1_7
  go_wp2_with fail
  refine (same_lit A2 [223, 31] 2 _ rfl (all_lit rfl) R2_7).mono ?_
  rintro e w8 ⟨rfl, hb8⟩
  have B8 := bt B7 hb8
  have S8 := kt S7 hb8
  have R2_8 := rt R2_7 hb8
  have R3_8 := rt R3_7 hb8
  clear hb8 B7 S7 R2_7 R3_7
  clear R2_8
  go_wp2_with fail
  refine (same_lit A3 [127, 129, 72] 3 _ rfl (all_lit rfl) R3_8).mono ?_
  rintro e w9 ⟨rfl, hb9⟩
  have B9 := bt B8 hb9
  have S9 := kt S8 hb9
  have R3_9 := rt R3_8 hb9
  clear hb9 B8 S8 R3_8
  clear R3_9
  obtain ⟨s0, s1, s2, hsz⟩ := tag3 S9
  go_wp2_with fail
  refine (read_lit [48, 5] 0 16 1 0 true 2 _ rfl (by decide) (all_lit rfl) (by decide +kernel)).mono ?_
  rintro e w10 ⟨rfl, hb10⟩
  have B10 := bt B9 hb10
  have S10 := kt S9 hb10
  try clear s0 s1 s2 hsz
  clear hb10 B9 S9
  go_wp2_with fail
  refine (read_lit [223, 31] 3 31 2 0 false 2 _ rfl (by decide) (all_lit rfl) (by decide +kernel)).mono ?_
  rintro e w11 ⟨rfl, hb11⟩
  have B11 := bt B10 hb11
  have S11 := kt S10 hb11
  try clear s0 s1 s2 hsz
  clear hb11 B10 S10
  go_wp2_with fail
  refine (read_lit [159, 129] 0 0 0 7 false 2 _ rfl (by decide) (all_lit rfl) (by decide +kernel)).mono ?_
  rintro e w12 ⟨rfl, hb12⟩
  have B12 := bt B11 hb12
  have S12 := kt S11 hb12
  try clear s0 s1 s2 hsz
  clear hb12 B11 S11
  go_wp2_with fail
  refine (read_lit [159, 128, 1] 0 0 0 9 false 3 _ rfl (by decide) (all_lit rfl) (by decide +kernel)).mono ?_
  rintro e w13 ⟨rfl, hb13⟩
  have B13 := bt B12 hb13
  have S13 := kt S12 hb13
  try clear s0 s1 s2 hsz
  clear hb13 B12 S12
  go_wp2_with fail
  refine (read_lit [159, 30] 0 0 0 9 false 2 _ rfl (by decide) (all_lit rfl) (by decide +kernel)).mono ?_
  rintro e w14 ⟨rfl, hb14⟩
  have B14 := bt B13 hb14
  have S14 := kt S13 hb14
  try clear s0 s1 s2 hsz
  clear hb14 B13 S13
  go_wp2_with fail
  refine (read_lit [0] 0 0 0 9 false 1 _ rfl (by decide) (all_lit rfl) (by decide +kernel)).mono ?_
  rintro e w15 ⟨rfl, hb15⟩
  have B15 := bt B14 hb15
  have S15 := kt S14 hb15
  try clear s0 s1 s2 hsz
  clear hb15 B14 S14
  go_wp2_with fail
  clear S15
  refine (parse_lit _ [112, 114, 105, 118, 97, 116, 101, 32, 55] 3 7 0 false _ rfl (by decide) (all_lit rfl) (by decide +kernel) (et E0 B15)).mono ?_
  rintro e w16 ⟨rfl, hb16⟩
  have B16 := bt B15 hb16
  have T16 := Lib.hid (Bk.new w16 25 [.int .u8 3, .bool false, .int .u32 7])
  have g1 : Hid (w16.heap.size = w16.heap.size) := Lib.hid rfl
  have C16 := bt B16 (Lib.hid (bel1 w16 (.cells #[.int .u8 3, .bool false, .int .u32 7] 25)))
  clear hb16 B15 B16
  have B16 := C16
  clear C16
  go_wp2_with fail
  refine (parse_lit _ [112, 114, 105, 118, 97, 116, 101, 32, 48, 55] 0 0 6 false _ rfl (by decide) (all_lit rfl) (by decide +kernel) (et E0 B16)).mono ?_
  rintro e w17 ⟨rfl, hb17⟩
  have B17 := bt B16 hb17
  have T170 := kt T16 hb17
  have T17 := kt T170 (Lib.hid (bel1 w17 (.cells #[.int .u8 0, .bool false, .int .u32 0] 25)))
  clear T16 T170
  have C17 := bt B17 (Lib.hid (bel1 w17 (.cells #[.int .u8 0, .bool false, .int .u32 0] 25)))
  clear hb17 B16 B17
  have B17 := C17
  clear C17
  go_wp2_with fail
  refine (parse_lit _ [117, 110, 105, 118, 101, 114, 115, 97, 108, 32, 48] 0 0 9 false _ rfl (by decide) (all_lit rfl) (by decide +kernel) (et E0 B17)).mono ?_
  rintro e w18 ⟨rfl, hb18⟩
  have B18 := bt B17 hb18
  have T180 := kt T17 hb18
  have T18 := kt T180 (Lib.hid (bel1 w18 (.cells #[.int .u8 0, .bool false, .int .u32 0] 25)))
  clear T17 T180
  have C18 := bt B18 (Lib.hid (bel1 w18 (.cells #[.int .u8 0, .bool false, .int .u32 0] 25)))
  clear hb18 B17 B18
  have B18 := C18
  clear C18
  go_wp2_with fail
  refine (check_lit 0 17 9 false _ (by decide) (by decide) (by decide +kernel)).mono ?_
  rintro e w19 ⟨rfl, hb19⟩
  have B19 := bt B18 hb19
  have T19 := kt T18 hb19
  clear hb19 B18 T18
  go_wp2_with fail
  refine (check_lit 4 0 1 false _ (by decide) (by decide) (by decide +kernel)).mono ?_
  rintro e w20 ⟨rfl, hb20⟩
  have B20 := bt B19 hb20
  have T20 := kt T19 hb20
  clear hb20 B19 T19
  go_wp2_with fail
  obtain ⟨S, hS⟩ : ∃ S, bstr (ttext 2 0 true) = S := ⟨_, rfl⟩
  have hSl : (S.toList == ([99, 111, 110, 116, 101, 120, 116, 32, 48, 32, 99, 111, 110, 115, 116, 114, 117, 99, 116, 101, 100] : List UInt8)) = true := by rw [← hS]; decide +kernel
  refine (text_lit 2 0 true S _ (by decide) (by decide) (by decide +kernel) hS (et E0 B20)).mono ?_
  rintro e w21 ⟨rfl, hb21⟩
  have B21 := bt B20 hb21
  have T21 := kt T20 hb21
  obtain ⟨t0, t1, t2, htz⟩ := tag3 T21
  clear hb21 B20 T20 T21 hS
  go_wp2_with fail
  go_ret
  exact ⟨rfl, B21.out⟩
end Go.Proofs.YtcaolgcpcjodnaaDoor
