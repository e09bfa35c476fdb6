/-
  Layer 6: the examples of the chapter hold: the statements' helper 'lives' returns true; what was there has not turned.
  Conditions: the variables hold what the program's text lays.
-/
import Derived.Test.YtndamidmgglneaaDoorOidW
import Derived.Test.YtndamidmgglneaaDoorOidAny
import Derived.Test.YtndamidmgglneaaDoorOidG
namespace Go.Proofs.YtndamidmgglneaaDoor
open Go.RowKit

theorem lit_rb (w : World) (l : List Nat) (h : All8 l) : Rb (w.alloc (.cells (cs8 l).toArray 5)) (some ⟨w.heap.size, 0, none⟩) l :=
  ⟨by have := (Bk.new w 5 (cs8 l)).rd 0; simpa using this, h⟩
theorem all_lit {l : List Nat} (h : l.all (fun x => decide (x < 256)) = true) : All8 l := fun x hx => by simpa using List.all_eq_true.1 h x hx
theorem okO_any : OkO 5 anyL := ⟨by decide, rfl, by decide⟩
theorem okO_lit (l : List Nat) (h1 : l.length ≤ 16) (h : l.all (fun x => decide (x < 4294967296)) = true) : OkO l.length (pad l) := okO_pad h1 fun x hx => by simpa using List.all_eq_true.1 h x hx
theorem put_lit (n : Nat) (l m : List Nat) (N : Nat) (W : World) (ho : OkO n l) (h : chkO n l = 0) (hp : putO n l = m) (hN : m.length = N) :
    Calls Tryd.prog 13 #[oV n l] W fun e w' => ∃ A, e = .returned (.tuple #[.slice A N N, .int .i64 0]) ∧ Hid (Rb w' A m) ∧ Hid (Below W.heap.size W w') := by
  subst hp hN
  exact (put_any n l W ho h).mono fun _ _ ⟨A, h1, h2, h3⟩ => ⟨A, h1, Lib.hid h2, Lib.hid h3⟩
theorem same_lit (A : Option Addr) (l : List Nat) (N : Nat) (W : World) (hN : l.length = N) (h8 : All8 l) (hA : Hid (Rb W A l)) :
    Calls Tryd.prog 17 #[.slice A N N, .int .i64 0, .slice (some ⟨W.heap.size, 0, none⟩) N N, .int .i64 0] (W.alloc (.cells (cs8 l).toArray 5)) fun e w' => e = .returned (.bool true) ∧ Hid (Below W.heap.size W w') :=
  (same_ok A _ l N N 0 _ (hA.out.below (bel1 _ _)) (lit_rb W l h8) hN).mono fun _ _ ⟨h1, h2⟩ => ⟨h1, by rw [← h2]; exact Lib.hid (bel1 _ _)⟩
theorem read_lit (l : List Nat) (N n : Nat) (k : List Nat) (f : Nat) (W : World) (hN : l.length = N) (hm : N ≤ 100) (h8 : All8 l) (hk : k.length = 16) (hq : getO l = (n, k, f)) :
    Calls Tryd.prog 15 #[.slice (some ⟨W.heap.size, 0, none⟩) N N, oV n k, .int .i64 (f : Int)] (W.alloc (.cells (cs8 l).toArray 5)) fun e w' => e = .returned (.bool true) ∧ Hid (Below W.heap.size W w') :=
  (read_ok _ l N N n k f _ hN (Nat.le_refl _) (by unfold maxLen; omega) (lit_rb W l h8) hk hq).mono fun _ _ ⟨h1, h2⟩ => ⟨h1, Lib.hid ((bel1 _ _).trans (h2.mono (bel1 _ _).size))⟩
theorem read_reg (A : Option Addr) (l : List Nat) (N c n : Nat) (k : List Nat) (f : Nat) (W : World) (hN : l.length = N) (hc : N ≤ c) (hm : c ≤ maxLen) (hA : Hid (Rb W A l)) (hk : k.length = 16) (hq : getO l = (n, k, f)) :
    Calls Tryd.prog 15 #[.slice A N c, oV n k, .int .i64 (f : Int)] W fun e w' => e = .returned (.bool true) ∧ Hid (Below W.heap.size W w') :=
  (read_ok A l N c n k f W hN hc hm hA.out hk hq).mono fun _ _ ⟨h1, h2⟩ => ⟨h1, Lib.hid h2⟩
theorem read_nil (n : Nat) (k : List Nat) (f : Nat) (W : World) (hk : k.length = 16) (hq : getO [] = (n, k, f)) :
    Calls Tryd.prog 15 #[.slice none 0 0, oV n k, .int .i64 (f : Int)] W fun e w' => e = .returned (.bool true) ∧ Hid (Below W.heap.size W w') :=
  (read_ok none [] 0 0 n k f W rfl (Nat.le_refl _) (by unfold maxLen; omega) Rb.nil hk hq).mono fun _ _ ⟨h1, h2⟩ => ⟨h1, Lib.hid h2⟩
theorem any_lit (W : World) : Calls Tryd.prog 16 #[] W fun e w' => e = .returned (oV 5 anyL) ∧ Hid (Below W.heap.size W w') := (any_any W).mono fun _ _ ⟨h1, h2⟩ => ⟨h1, Lib.hid h2⟩
theorem rany_lit (l : List Nat) (W : World) (h8 : All8 l) : Calls Tryd.prog 18 #[] (W.alloc (.cells (cs8 l).toArray 5)) fun e w' => e = .returned (oV 5 anyL) ∧ Hid (Rb w' (some ⟨W.heap.size, 0, none⟩) l) ∧ Hid (Below W.heap.size W w') :=
  (rany_any _).mono fun _ _ ⟨h1, h2⟩ => ⟨h1, Lib.hid ((lit_rb W l h8).below h2), Lib.hid ((bel1 _ _).trans (h2.mono (bel1 _ _).size))⟩
theorem of_lit2 (m l : List Nat) (N n : Nat) (L : List Nat) (W : World) (h8 : All8 m) (hN : l.length = N) (hm : N ≤ 100) (ha : l.all (fun x => decide (x < 4294967296)) = true) (h1 : ofN l = n) (h2 : ofL l = L) :
    Calls Tryd.prog 14 #[.slice (some ⟨W.heap.size + 1, 0, none⟩) N N] ((W.alloc (.cells (cs8 m).toArray 5)).alloc (.cells (cs32 l).toArray 23)) fun e w' => e = .returned (oV n L) ∧ Hid (Rb w' (some ⟨W.heap.size, 0, none⟩) m) ∧ Hid (Below W.heap.size W w') := by
  have := of_lit l N n L (W.alloc (.cells (cs8 m).toArray 5)) hN hm ha h1 h2
  rw [World.size_alloc] at this
  exact this.mono fun _ _ ⟨h1, h2⟩ => ⟨h1, Lib.hid ((lit_rb W m h8).below (by have := h2.out; rwa [World.size_alloc])), Lib.hid ((bel1 W _).trans (h2.out.mono (by simp)))⟩
theorem cmp_lit (n : Nat) (l : List Nat) (m : Nat) (k : List Nat) (v : Int) (W : World) (ho : OkO n l) (hp : OkO m k) (h : cmpO n l m k = v) :
    Calls Tryd.prog 11 #[oV n l, oV m k] W fun e w' => e = .returned (.int .i64 v) ∧ Hid (Below W.heap.size W w') := (compare_any n l m k W ho hp).mono fun _ _ ⟨h1, h2⟩ => ⟨by rw [h1, h], Lib.hid h2⟩
theorem has_lit (n : Nat) (l : List Nat) (m : Nat) (k : List Nat) (v : Bool) (W : World) (ho : OkO n l) (hp : OkO m k) (h : hasO n l m k = v) :
    Calls Tryd.prog 12 #[oV n l, oV m k] W fun e w' => e = .returned (.bool v) ∧ Hid (Below W.heap.size W w') := (has_any n l m k W ho hp).mono fun _ _ ⟨h1, h2⟩ => ⟨by rw [h1, h], Lib.hid h2⟩
theorem parsed_lit (S : ByteArray) (l : List Nat) (n : Nat) (k : List Nat) (f : Nat) (W : World) (hS : bstr l = S) (h8 : All8 l) (hl : l.length ≤ 1000000) (hE : Hid (Env W)) (hk : k.length = 16) (hq : prsO l = (n, k, f)) :
    Calls Tryd.prog 8 #[.string S, oV n k, .int .i64 (f : Int)] W fun e w' => e = .returned (.bool true) ∧ Hid (Below W.heap.size W w') := by
  subst hS
  exact (parsed_ok l h8 hl n k f W hE.out hk hq).mono fun _ _ ⟨h1, h2⟩ => ⟨h1, Lib.hid h2⟩
theorem text_lit (n : Nat) (l : List Nat) (S : ByteArray) (W : World) (ho : OkO n l) (hS : bstr (txO n l) = S) (hE : Hid (Env W)) :
    Calls Tryd.prog 9 #[oV n l] W fun e w' => e = .returned (.string S) ∧ Hid (Below W.heap.size W w') := by
  subst hS
  exact (text_any n l W ho hE.out).mono fun _ _ ⟨h1, h2⟩ => ⟨h1, Lib.hid h2⟩

set_option maxHeartbeats 6400000 in
set_option maxRecDepth 100000 in
theorem lives_any (w : World) (hE : Env w) : Calls Tryd.prog 6 #[] w fun e w' => e = .returned (.bool true) ∧ Below w.heap.size w w' := by
  have hz := zero25
  obtain ⟨zl, hzl⟩ : ∃ zl, zeroL = zl := ⟨_, rfl⟩
  have HZ := Lib.hid hzl
  have HZL : Hid (zl.length = 16) := Lib.hid (by rw [← hzl]; exact zeroL_length)
  rw [hzl] at hz
  have S0 := Lib.hid (Bk.new w 26 (oc 0 zl))
  have B0 := Lib.hid (bel1 w (.cells (oc 0 zl).toArray 26))
  have E0 := Lib.hid (hE.below (bel1 w (.cells (oc 0 zl).toArray 26)))
  clear hE hzl
  go_enter Tryd.func6, Tryd.ntmps6
  go_upto_region 2 with fail
  generalize w.alloc (.cells (oc 0 zl).toArray 26) = wa at *
  go_wp2_with (first | (refine wpList_load25g (by rfl) (.tmp 1) rfl rfl S0.out HZL.out ?_) | (refine wpList_load25g (by rfl) (.tmp 1) rfl rfl (S0.out.alloc _) HZL.out ?_))
  refine (any_lit _).mono ?_
  rintro e w1 ⟨rfl, hb⟩
  have B1 := bt B0 hb
  have S1 := kt S0 hb
  have E1 := et E0 hb
  clear hb B0 S0 E0
  go_wp2_with (first | (refine wpList_load25g (by rfl) (.tmp 1) rfl rfl S1.out HZL.out ?_) | (refine wpList_load25g (by rfl) (.tmp 1) rfl rfl (S1.out.alloc _) HZL.out ?_))
  refine (put_lit 5 anyL [85, 29, 32, 0] 4 _ okO_any (by decide +kernel) (by decide +kernel) rfl).mono ?_
  rintro e w2 ⟨A1, rfl, R1, hb⟩
  have B2 := bt B1 hb
  have S2 := kt S1 hb
  have E2 := et E1 hb
  clear hb B1 S1 E1
  go_wp2_with (first | (refine wpList_load25g (by rfl) (.tmp 1) rfl rfl S2.out HZL.out ?_) | (refine wpList_load25g (by rfl) (.tmp 1) rfl rfl (S2.out.alloc _) HZL.out ?_))
  refine (of_lit [1, 2, 840, 113549] 4 4 (pad [1, 2, 840, 113549]) _ rfl (by decide) (by decide) (by decide +kernel) (by decide +kernel)).mono ?_
  rintro e w3 ⟨rfl, hb⟩
  have B3 := bt B2 hb
  have S3 := kt S2 hb
  have E3 := et E2 hb
  have R1x := rt R1 hb
  clear R1
  have R1 := R1x
  clear R1x
  clear hb B2 S2 E2
  go_wp2_with (first | (refine wpList_load25g (by rfl) (.tmp 1) rfl rfl S3.out HZL.out ?_) | (refine wpList_load25g (by rfl) (.tmp 1) rfl rfl (S3.out.alloc _) HZL.out ?_))
  refine (put_lit 4 (pad [1, 2, 840, 113549]) [42, 134, 72, 134, 247, 13] 6 _ (okO_lit [1, 2, 840, 113549] (by decide) (by decide)) (by decide +kernel) (by decide +kernel) rfl).mono ?_
  rintro e w4 ⟨A2, rfl, R2, hb⟩
  have B4 := bt B3 hb
  have S4 := kt S3 hb
  have E4 := et E3 hb
  have R1x := rt R1 hb
  clear R1
  have R1 := R1x
  clear R1x
  clear hb B3 S3 E3
  go_wp2_with (first | (refine wpList_load25g (by rfl) (.tmp 1) rfl rfl S4.out HZL.out ?_) | (refine wpList_load25g (by rfl) (.tmp 1) rfl rfl (S4.out.alloc _) HZL.out ?_))
  refine (of_lit [2, 999] 2 2 (pad [2, 999]) _ rfl (by decide) (by decide) (by decide +kernel) (by decide +kernel)).mono ?_
  rintro e w5 ⟨rfl, hb⟩
  have B5 := bt B4 hb
  have S5 := kt S4 hb
  have E5 := et E4 hb
  have R1x := rt R1 hb
  clear R1
  have R1 := R1x
  clear R1x
  have R2x := rt R2 hb
  clear R2
  have R2 := R2x
  clear R2x
  clear hb B4 S4 E4
  go_wp2_with (first | (refine wpList_load25g (by rfl) (.tmp 1) rfl rfl S5.out HZL.out ?_) | (refine wpList_load25g (by rfl) (.tmp 1) rfl rfl (S5.out.alloc _) HZL.out ?_))
  refine (put_lit 2 (pad [2, 999]) [136, 55] 2 _ (okO_lit [2, 999] (by decide) (by decide)) (by decide +kernel) (by decide +kernel) rfl).mono ?_
  rintro e w6 ⟨A3, rfl, R3, hb⟩
  have B6 := bt B5 hb
  have S6 := kt S5 hb
  have E6 := et E5 hb
  have R1x := rt R1 hb
  clear R1
  have R1 := R1x
  clear R1x
  have R2x := rt R2 hb
  clear R2
  have R2 := R2x
  clear R2x
  clear hb B5 S5 E5
  go_wp2_with (first | (refine wpList_load25g (by rfl) (.tmp 1) rfl rfl S6.out HZL.out ?_) | (refine wpList_load25g (by rfl) (.tmp 1) rfl rfl (S6.out.alloc _) HZL.out ?_))
  refine (same_lit A1 [85, 29, 32, 0] 4 _ rfl (all_lit (by decide)) R1).mono ?_
  rintro e w7 ⟨rfl, hb⟩
  have B7 := bt B6 hb
  have S7 := kt S6 hb
  have E7 := et E6 hb
  clear R1
  have R2x := rt R2 hb
  clear R2
  have R2 := R2x
  clear R2x
  have R3x := rt R3 hb
  clear R3
  have R3 := R3x
  clear R3x
  clear hb B6 S6 E6
  go_wp2_with (first | (refine wpList_load25g (by rfl) (.tmp 1) rfl rfl S7.out HZL.out ?_) | (refine wpList_load25g (by rfl) (.tmp 1) rfl rfl (S7.out.alloc _) HZL.out ?_))
  refine (same_lit A2 [42, 134, 72, 134, 247, 13] 6 _ rfl (all_lit (by decide)) R2).mono ?_
  rintro e w8 ⟨rfl, hb⟩
  have B8 := bt B7 hb
  have S8 := kt S7 hb
  have E8 := et E7 hb
  clear R2
  have R3x := rt R3 hb
  clear R3
  have R3 := R3x
  clear R3x
  clear hb B7 S7 E7
  go_wp2_with (first | (refine wpList_load25g (by rfl) (.tmp 1) rfl rfl S8.out HZL.out ?_) | (refine wpList_load25g (by rfl) (.tmp 1) rfl rfl (S8.out.alloc _) HZL.out ?_))
  refine (same_lit A3 [136, 55] 2 _ rfl (all_lit (by decide)) R3).mono ?_
  rintro e w9 ⟨rfl, hb⟩
  have B9 := bt B8 hb
  have S9 := kt S8 hb
  have E9 := et E8 hb
  clear R3
  clear hb B8 S8 E8
  go_wp2_with (first | (refine wpList_load25g (by rfl) (.tmp 1) rfl rfl S9.out HZL.out ?_) | (refine wpList_load25g (by rfl) (.tmp 1) rfl rfl (S9.out.alloc _) HZL.out ?_))
  refine (rany_lit [85, 29, 32, 0] _ (all_lit (by decide))).mono ?_
  rintro e w10 ⟨rfl, RR, hb⟩
  have B10 := bt B9 hb
  have S10 := kt S9 hb
  have E10 := et E9 hb
  clear hb B9 S9 E9
  go_wp2_with (first | (refine wpList_load25g (by rfl) (.tmp 1) rfl rfl S10.out HZL.out ?_) | (refine wpList_load25g (by rfl) (.tmp 1) rfl rfl (S10.out.alloc _) HZL.out ?_))
  refine (read_reg _ [85, 29, 32, 0] 4 4 5 anyL 0 _ rfl (Nat.le_refl _) (by unfold maxLen; omega) RR rfl (by decide +kernel)).mono ?_
  rintro e w11 ⟨rfl, hb⟩
  have B11 := bt B10 hb
  have S11 := kt S10 hb
  have E11 := et E10 hb
  clear RR
  clear hb B10 S10 E10
  go_wp2_with (first | (refine wpList_load25g (by rfl) (.tmp 1) rfl rfl S11.out HZL.out ?_) | (refine wpList_load25g (by rfl) (.tmp 1) rfl rfl (S11.out.alloc _) HZL.out ?_))
  refine (read_lit [42, 134] 2 0 zl 7 _ rfl (by decide) (all_lit (by decide)) HZL.out (by rw [← HZ.out]; decide +kernel)).mono ?_
  rintro e w12 ⟨rfl, hb⟩
  have B12 := bt B11 hb
  have S12 := kt S11 hb
  have E12 := et E11 hb
  clear hb B11 S11 E11
  go_wp2_with (first | (refine wpList_load25g (by rfl) (.tmp 1) rfl rfl S12.out HZL.out ?_) | (refine wpList_load25g (by rfl) (.tmp 1) rfl rfl (S12.out.alloc _) HZL.out ?_))
  refine (read_lit [42, 128, 1] 3 0 zl 11 _ rfl (by decide) (all_lit (by decide)) HZL.out (by rw [← HZ.out]; decide +kernel)).mono ?_
  rintro e w13 ⟨rfl, hb⟩
  have B13 := bt B12 hb
  have S13 := kt S12 hb
  have E13 := et E12 hb
  clear hb B12 S12 E12
  go_wp2_with (first | (refine wpList_load25g (by rfl) (.tmp 1) rfl rfl S13.out HZL.out ?_) | (refine wpList_load25g (by rfl) (.tmp 1) rfl rfl (S13.out.alloc _) HZL.out ?_))
  refine (read_nil 0 zl 7 _ HZL.out (by rw [← HZ.out]; decide +kernel)).mono ?_
  rintro e w14 ⟨rfl, hb⟩
  have B14 := bt B13 hb
  have S14 := kt S13 hb
  have E14 := et E13 hb
  clear hb B13 S13 E13
  go_wp2_with (first | (refine wpList_load25g (by rfl) (.tmp 1) rfl rfl S14.out HZL.out ?_) | (refine wpList_load25g (by rfl) (.tmp 1) rfl rfl (S14.out.alloc _) HZL.out ?_))
  refine (of_lit2 [143, 255, 255, 255, 127] [2, 4294967215] 2 2 (pad [2, 4294967215]) _ (all_lit (by decide)) rfl (by decide) (by decide) (by decide +kernel) (by decide +kernel)).mono ?_
  rintro e w15 ⟨rfl, RR, hb⟩
  have B15 := bt B14 hb
  have S15 := kt S14 hb
  have E15 := et E14 hb
  clear hb B14 S14 E14
  go_wp2_with (first | (refine wpList_load25g (by rfl) (.tmp 1) rfl rfl S15.out HZL.out ?_) | (refine wpList_load25g (by rfl) (.tmp 1) rfl rfl (S15.out.alloc _) HZL.out ?_))
  refine (read_reg _ [143, 255, 255, 255, 127] 5 5 2 (pad [2, 4294967215]) 0 _ rfl (Nat.le_refl _) (by unfold maxLen; omega) RR rfl (by decide +kernel)).mono ?_
  rintro e w16 ⟨rfl, hb⟩
  have B16 := bt B15 hb
  have S16 := kt S15 hb
  have E16 := et E15 hb
  clear RR
  clear hb B15 S15 E15
  go_wp2_with (first | (refine wpList_load25g (by rfl) (.tmp 1) rfl rfl S16.out HZL.out ?_) | (refine wpList_load25g (by rfl) (.tmp 1) rfl rfl (S16.out.alloc _) HZL.out ?_))
  refine (read_lit [144, 128, 128, 128, 0] 5 0 zl 3 _ rfl (by decide) (all_lit (by decide)) HZL.out (by rw [← HZ.out]; decide +kernel)).mono ?_
  rintro e w17 ⟨rfl, hb⟩
  have B17 := bt B16 hb
  have S17 := kt S16 hb
  have E17 := et E16 hb
  clear hb B16 S16 E16
  go_wp2_with (first | (refine wpList_load25g (by rfl) (.tmp 1) rfl rfl S17.out HZL.out ?_) | (refine wpList_load25g (by rfl) (.tmp 1) rfl rfl (S17.out.alloc _) HZL.out ?_))
  refine (read_lit [1, 1, 1, 1, 1, 1, 1, 1, 1, 1, 1, 1, 1, 1, 1, 1, 1] 17 0 zl 3 _ rfl (by decide) (all_lit (by decide)) HZL.out (by rw [← HZ.out]; decide +kernel)).mono ?_
  rintro e w18 ⟨rfl, hb⟩
  have B18 := bt B17 hb
  have S18 := kt S17 hb
  have E18 := et E17 hb
  clear hb B17 S17 E17
  go_wp2_with (first | (refine wpList_load25g (by rfl) (.tmp 1) rfl rfl S18.out HZL.out ?_) | (refine wpList_load25g (by rfl) (.tmp 1) rfl rfl (S18.out.alloc _) HZL.out ?_))
  refine (of_lit [1, 2, 3] 3 3 (pad [1, 2, 3]) _ rfl (by decide) (by decide) (by decide +kernel) (by decide +kernel)).mono ?_
  rintro e w19 ⟨rfl, hb⟩
  have B19 := bt B18 hb
  have S19 := kt S18 hb
  have E19 := et E18 hb
  clear hb B18 S18 E18
  go_wp2_with (first | (refine wpList_load25g (by rfl) (.tmp 1) rfl rfl S19.out HZL.out ?_) | (refine wpList_load25g (by rfl) (.tmp 1) rfl rfl (S19.out.alloc _) HZL.out ?_))
  refine (of_lit [1, 2, 3, 4] 4 4 (pad [1, 2, 3, 4]) _ rfl (by decide) (by decide) (by decide +kernel) (by decide +kernel)).mono ?_
  rintro e w20 ⟨rfl, hb⟩
  have B20 := bt B19 hb
  have S20 := kt S19 hb
  have E20 := et E19 hb
  clear hb B19 S19 E19
  go_wp2_with (first | (refine wpList_load25g (by rfl) (.tmp 1) rfl rfl S20.out HZL.out ?_) | (refine wpList_load25g (by rfl) (.tmp 1) rfl rfl (S20.out.alloc _) HZL.out ?_))
  refine (cmp_lit 3 (pad [1, 2, 3]) 4 (pad [1, 2, 3, 4]) (-1) _ (okO_lit [1, 2, 3] (by decide) (by decide)) (okO_lit [1, 2, 3, 4] (by decide) (by decide)) (by decide +kernel)).mono ?_
  rintro e w21 ⟨rfl, hb⟩
  have B21 := bt B20 hb
  have S21 := kt S20 hb
  have E21 := et E20 hb
  clear hb B20 S20 E20
  go_wp2_with (first | (refine wpList_load25g (by rfl) (.tmp 1) rfl rfl S21.out HZL.out ?_) | (refine wpList_load25g (by rfl) (.tmp 1) rfl rfl (S21.out.alloc _) HZL.out ?_))
  refine (of_lit [1, 3] 2 2 (pad [1, 3]) _ rfl (by decide) (by decide) (by decide +kernel) (by decide +kernel)).mono ?_
  rintro e w22 ⟨rfl, hb⟩
  have B22 := bt B21 hb
  have S22 := kt S21 hb
  have E22 := et E21 hb
  clear hb B21 S21 E21
  go_wp2_with (first | (refine wpList_load25g (by rfl) (.tmp 1) rfl rfl S22.out HZL.out ?_) | (refine wpList_load25g (by rfl) (.tmp 1) rfl rfl (S22.out.alloc _) HZL.out ?_))
  refine (of_lit [1, 2, 9] 3 3 (pad [1, 2, 9]) _ rfl (by decide) (by decide) (by decide +kernel) (by decide +kernel)).mono ?_
  rintro e w23 ⟨rfl, hb⟩
  have B23 := bt B22 hb
  have S23 := kt S22 hb
  have E23 := et E22 hb
  clear hb B22 S22 E22
  go_wp2_with (first | (refine wpList_load25g (by rfl) (.tmp 1) rfl rfl S23.out HZL.out ?_) | (refine wpList_load25g (by rfl) (.tmp 1) rfl rfl (S23.out.alloc _) HZL.out ?_))
  refine (cmp_lit 2 (pad [1, 3]) 3 (pad [1, 2, 9]) 1 _ (okO_lit [1, 3] (by decide) (by decide)) (okO_lit [1, 2, 9] (by decide) (by decide)) (by decide +kernel)).mono ?_
  rintro e w24 ⟨rfl, hb⟩
  have B24 := bt B23 hb
  have S24 := kt S23 hb
  have E24 := et E23 hb
  clear hb B23 S23 E23
  go_wp2_with (first | (refine wpList_load25g (by rfl) (.tmp 1) rfl rfl S24.out HZL.out ?_) | (refine wpList_load25g (by rfl) (.tmp 1) rfl rfl (S24.out.alloc _) HZL.out ?_))
  refine (of_lit [1, 2, 3] 3 3 (pad [1, 2, 3]) _ rfl (by decide) (by decide) (by decide +kernel) (by decide +kernel)).mono ?_
  rintro e w25 ⟨rfl, hb⟩
  have B25 := bt B24 hb
  have S25 := kt S24 hb
  have E25 := et E24 hb
  clear hb B24 S24 E24
  go_wp2_with (first | (refine wpList_load25g (by rfl) (.tmp 1) rfl rfl S25.out HZL.out ?_) | (refine wpList_load25g (by rfl) (.tmp 1) rfl rfl (S25.out.alloc _) HZL.out ?_))
  refine (of_lit [1, 2, 3, 4] 4 4 (pad [1, 2, 3, 4]) _ rfl (by decide) (by decide) (by decide +kernel) (by decide +kernel)).mono ?_
  rintro e w26 ⟨rfl, hb⟩
  have B26 := bt B25 hb
  have S26 := kt S25 hb
  have E26 := et E25 hb
  clear hb B25 S25 E25
  go_wp2_with (first | (refine wpList_load25g (by rfl) (.tmp 1) rfl rfl S26.out HZL.out ?_) | (refine wpList_load25g (by rfl) (.tmp 1) rfl rfl (S26.out.alloc _) HZL.out ?_))
  refine (has_lit 3 (pad [1, 2, 3]) 4 (pad [1, 2, 3, 4]) true _ (okO_lit [1, 2, 3] (by decide) (by decide)) (okO_lit [1, 2, 3, 4] (by decide) (by decide)) (by decide +kernel)).mono ?_
  rintro e w27 ⟨rfl, hb⟩
  have B27 := bt B26 hb
  have S27 := kt S26 hb
  have E27 := et E26 hb
  clear hb B26 S26 E26
  go_wp2_with (first | (refine wpList_load25g (by rfl) (.tmp 1) rfl rfl S27.out HZL.out ?_) | (refine wpList_load25g (by rfl) (.tmp 1) rfl rfl (S27.out.alloc _) HZL.out ?_))
  refine (of_lit [1, 2, 3] 3 3 (pad [1, 2, 3]) _ rfl (by decide) (by decide) (by decide +kernel) (by decide +kernel)).mono ?_
  rintro e w28 ⟨rfl, hb⟩
  have B28 := bt B27 hb
  have S28 := kt S27 hb
  have E28 := et E27 hb
  clear hb B27 S27 E27
  go_wp2_with (first | (refine wpList_load25g (by rfl) (.tmp 1) rfl rfl S28.out HZL.out ?_) | (refine wpList_load25g (by rfl) (.tmp 1) rfl rfl (S28.out.alloc _) HZL.out ?_))
  refine (of_lit [1, 2, 3] 3 3 (pad [1, 2, 3]) _ rfl (by decide) (by decide) (by decide +kernel) (by decide +kernel)).mono ?_
  rintro e w29 ⟨rfl, hb⟩
  have B29 := bt B28 hb
  have S29 := kt S28 hb
  have E29 := et E28 hb
  clear hb B28 S28 E28
  go_wp2_with (first | (refine wpList_load25g (by rfl) (.tmp 1) rfl rfl S29.out HZL.out ?_) | (refine wpList_load25g (by rfl) (.tmp 1) rfl rfl (S29.out.alloc _) HZL.out ?_))
  refine (has_lit 3 (pad [1, 2, 3]) 3 (pad [1, 2, 3]) false _ (okO_lit [1, 2, 3] (by decide) (by decide)) (okO_lit [1, 2, 3] (by decide) (by decide)) (by decide +kernel)).mono ?_
  rintro e w30 ⟨rfl, hb⟩
  have B30 := bt B29 hb
  have S30 := kt S29 hb
  have E30 := et E29 hb
  clear hb B29 S29 E29
  go_upto_region 11 with fail
  have heq := fun W => eqO (n := 0) HZL.out W
  refine wp_region_held_drew (S := fun W => Bk W w.heap.size 26 (oc 0 zl)) (by kernel_rfl) (S30.out) (fun hS => ?_)
  have B30d := Lib.hid B30.out.drew
  have E30d : Hid (Env w30.drew) := Lib.hid (E30.out.below ⟨rfl, rfl, rfl, Nat.le_refl _, fun _ _ => rfl⟩)
  clear B30 E30
  have hSv := Lib.hid hS
  generalize w30.drew = v0 at *
  refine wpAnyH_take (i := 2) (oi := ⟨some 115, _, _, _, _, _⟩) (v := oV 0 zl) rfl (by kernel_rfl) (by kernel_rfl) (by kernel_rfl) (fun _ _ _ h => h) (yieldsIf_load_mid (by rfl) 26 (.tmp 1) rfl w.heap.size 0 rfl (oc 0 zl) _ (fun W h => range25 h) Tryd.underlying26 rfl (by rw [oc_length, HZL.out]; exact info25)) hS ?_
  simp only [Act.put, List.setIfInBounds_toArray, List.set_cons_zero, List.set_cons_succ]
  refine wpAnyH_ready (rs := [0]) (by kernel_rfl) (by simp) ?_
  refine AllReadyH.cons (o := _) rfl (fun K hK => ?_) (AllReadyH.nil)
  go_simp
  refine hK.out _ _ (hS.alloc _) (fun hS => ?_)
  clear hK K
  (try simp only [Act.put, List.setIfInBounds_toArray, List.set_cons_zero, List.set_cons_succ])
  refine wpAnyH_ready (rs := [1]) (by kernel_rfl) (by simp) ?_
  refine AllReadyH.cons (o := _) rfl (fun K hK => ?_) (AllReadyH.nil)
  go_simp
  refine (of_lit [1, 40] 2 0 zl _ rfl (by decide) (by decide) (by decide +kernel) (by rw [← HZ.out]; decide +kernel)).mono ?_
  rintro e v1 ⟨rfl, hb⟩
  have BV1 := bt B30d hb
  have EV1 := et E30d hb
  have hS1 : Bk v1 w.heap.size 26 (oc 0 zl) := hSv.out.below hb.out hSv.out.lt
  clear hb B30d E30d
  go_simp
  refine hK.out _ _ (hS1) (fun hS => ?_)
  clear hK K hS1
  (try simp only [Act.put, List.setIfInBounds_toArray, List.set_cons_zero, List.set_cons_succ])
  refine wpAnyH_take (i := 3) (oi := ⟨some 116, _, _, _, _, _⟩) (v := .bool true) rfl (by kernel_rfl) (by kernel_rfl) (by kernel_rfl) (fun _ _ _ h => h) (Or.inl ⟨by rfl, fun w hSw => by (try dsimp only at hSw); go_simp⟩) hS ?_
  simp only [Act.put, List.setIfInBounds_toArray, List.set_cons_zero, List.set_cons_succ]
  refine wpAnyH_take (i := 4) (oi := ⟨some 117, _, _, _, _, _⟩) (v := .bool true) rfl (by kernel_rfl) (by kernel_rfl) (by kernel_rfl) (fun _ _ _ h => h) (Or.inl ⟨by rfl, fun w hSw => by (try dsimp only at hSw); go_simp⟩) hS ?_
  simp only [Act.put, List.setIfInBounds_toArray, List.set_cons_zero, List.set_cons_succ]
  refine wpAnyH_take (i := 5) (oi := ⟨some 118, _, _, _, _, _⟩) (v := oV 0 zl) rfl (by kernel_rfl) (by kernel_rfl) (by kernel_rfl) (fun _ _ _ h => h) (yieldsIf_load_mid (by rfl) 26 (.tmp 1) rfl w.heap.size 0 rfl (oc 0 zl) _ (fun W h => range25 h) Tryd.underlying26 rfl (by rw [oc_length, HZL.out]; exact info25)) hS ?_
  simp only [Act.put, List.setIfInBounds_toArray, List.set_cons_zero, List.set_cons_succ]
  refine wpAnyH_ready (rs := [6]) (by kernel_rfl) (by simp) ?_
  refine AllReadyH.cons (o := _) rfl (fun K hK => ?_) (AllReadyH.nil)
  go_simp
  refine (parsed_lit ⟨#[49, 46, 50, 46, 48, 51]⟩ [49, 46, 50, 46, 48, 51] 0 zl 6 _ (by decide +kernel) (all_lit (by decide)) (by decide) EV1 HZL.out (by rw [← HZ.out]; decide +kernel)).mono ?_
  rintro e v2 ⟨rfl, hb⟩
  have BV2 := bt BV1 hb
  have EV2 := et EV1 hb
  have hS2 := (hS.below hb.out hS.lt)
  clear hb BV1 EV1
  go_simp
  refine hK.out _ _ (hS2) (fun hS => ?_)
  clear hK K hS2
  (try simp only [Act.put, List.setIfInBounds_toArray, List.set_cons_zero, List.set_cons_succ])
  refine wpAnyH_take (i := 7) (oi := ⟨some 120, _, _, _, _, _⟩) (v := .bool true) rfl (by kernel_rfl) (by kernel_rfl) (by kernel_rfl) (fun _ _ _ h => h) (Or.inl ⟨by rfl, fun w hSw => by (try dsimp only at hSw); go_simp⟩) hS ?_
  simp only [Act.put, List.setIfInBounds_toArray, List.set_cons_zero, List.set_cons_succ]
  refine wpAnyH_take (i := 8) (oi := ⟨some 121, _, _, _, _, _⟩) (v := .bool true) rfl (by kernel_rfl) (by kernel_rfl) (by kernel_rfl) (fun _ _ _ h => h) (Or.inl ⟨by rfl, fun w hSw => by (try dsimp only at hSw); go_simp⟩) hS ?_
  simp only [Act.put, List.setIfInBounds_toArray, List.set_cons_zero, List.set_cons_succ]
  refine wpAnyH_take (i := 9) (oi := ⟨some 122, _, _, _, _, _⟩) (v := oV 0 zl) rfl (by kernel_rfl) (by kernel_rfl) (by kernel_rfl) (fun _ _ _ h => h) (yieldsIf_load_mid (by rfl) 26 (.tmp 1) rfl w.heap.size 0 rfl (oc 0 zl) _ (fun W h => range25 h) Tryd.underlying26 rfl (by rw [oc_length, HZL.out]; exact info25)) hS ?_
  simp only [Act.put, List.setIfInBounds_toArray, List.set_cons_zero, List.set_cons_succ]
  refine wpAnyH_ready (rs := [10]) (by kernel_rfl) (by simp) ?_
  refine AllReadyH.cons (o := _) rfl (fun K hK => ?_) (AllReadyH.nil)
  go_simp
  refine (parsed_lit ⟨#[49]⟩ [49] 0 zl 1 _ (by decide +kernel) (all_lit (by decide)) (by decide) EV2 HZL.out (by rw [← HZ.out]; decide +kernel)).mono ?_
  rintro e v3 ⟨rfl, hb⟩
  have BV3 := bt BV2 hb
  have EV3 := et EV2 hb
  have hS3 := (hS.below hb.out hS.lt)
  clear hb BV2 EV2
  go_simp
  refine hK.out _ _ (hS3) (fun hS => ?_)
  clear hK K hS3
  (try simp only [Act.put, List.setIfInBounds_toArray, List.set_cons_zero, List.set_cons_succ])
  refine wpAnyH_take (i := 11) (oi := ⟨some 124, _, _, _, _, _⟩) (v := .bool true) rfl (by kernel_rfl) (by kernel_rfl) (by kernel_rfl) (fun _ _ _ h => h) (Or.inl ⟨by rfl, fun w hSw => by (try dsimp only at hSw); go_simp⟩) hS ?_
  simp only [Act.put, List.setIfInBounds_toArray, List.set_cons_zero, List.set_cons_succ]
  refine wpAnyH_take (i := 12) (oi := ⟨some 125, _, _, _, _, _⟩) (v := .bool true) rfl (by kernel_rfl) (by kernel_rfl) (by kernel_rfl) (fun _ _ _ h => h) (Or.inl ⟨by rfl, fun w hSw => by (try dsimp only at hSw); go_simp⟩) hS ?_
  simp only [Act.put, List.setIfInBounds_toArray, List.set_cons_zero, List.set_cons_succ]
  refine wpAnyH_take (i := 13) (oi := ⟨some 126, _, _, _, _, _⟩) (v := oV 0 zl) rfl (by kernel_rfl) (by kernel_rfl) (by kernel_rfl) (fun _ _ _ h => h) (yieldsIf_load_mid (by rfl) 26 (.tmp 1) rfl w.heap.size 0 rfl (oc 0 zl) _ (fun W h => range25 h) Tryd.underlying26 rfl (by rw [oc_length, HZL.out]; exact info25)) hS ?_
  simp only [Act.put, List.setIfInBounds_toArray, List.set_cons_zero, List.set_cons_succ]
  refine wpAnyH_ready (rs := [14]) (by kernel_rfl) (by simp) ?_
  refine AllReadyH.cons (o := _) rfl (fun K hK => ?_) (AllReadyH.nil)
  go_simp
  refine (parsed_lit ⟨#[51, 46, 49]⟩ [51, 46, 49] 0 zl 1 _ (by decide +kernel) (all_lit (by decide)) (by decide) EV3 HZL.out (by rw [← HZ.out]; decide +kernel)).mono ?_
  rintro e v4 ⟨rfl, hb⟩
  have BV4 := bt BV3 hb
  have EV4 := et EV3 hb
  have hS4 := (hS.below hb.out hS.lt)
  clear hb BV3 EV3
  go_simp
  refine hK.out _ _ (hS4) (fun hS => ?_)
  clear hK K hS4
  (try simp only [Act.put, List.setIfInBounds_toArray, List.set_cons_zero, List.set_cons_succ])
  refine wpAnyH_take (i := 15) (oi := ⟨some 128, _, _, _, _, _⟩) (v := .bool true) rfl (by kernel_rfl) (by kernel_rfl) (by kernel_rfl) (fun _ _ _ h => h) (Or.inl ⟨by rfl, fun w hSw => by (try dsimp only at hSw); go_simp⟩) hS ?_
  simp only [Act.put, List.setIfInBounds_toArray, List.set_cons_zero, List.set_cons_succ]
  refine wpAnyH_take (i := 16) (oi := ⟨some 129, _, _, _, _, _⟩) (v := .bool true) rfl (by kernel_rfl) (by kernel_rfl) (by kernel_rfl) (fun _ _ _ h => h) (Or.inl ⟨by rfl, fun w hSw => by (try dsimp only at hSw); go_simp⟩) hS ?_
  simp only [Act.put, List.setIfInBounds_toArray, List.set_cons_zero, List.set_cons_succ]
  refine wpAnyH_take (i := 17) (oi := ⟨some 130, _, _, _, _, _⟩) (v := oV 0 zl) rfl (by kernel_rfl) (by kernel_rfl) (by kernel_rfl) (fun _ _ _ h => h) (yieldsIf_load_mid (by rfl) 26 (.tmp 1) rfl w.heap.size 0 rfl (oc 0 zl) _ (fun W h => range25 h) Tryd.underlying26 rfl (by rw [oc_length, HZL.out]; exact info25)) hS ?_
  simp only [Act.put, List.setIfInBounds_toArray, List.set_cons_zero, List.set_cons_succ]
  refine wpAnyH_ready (rs := [18]) (by kernel_rfl) (by simp) ?_
  refine AllReadyH.cons (o := _) rfl (fun K hK => ?_) (AllReadyH.nil)
  go_simp
  refine (parsed_lit ⟨#[49, 46, 50, 46, 52, 50, 57, 52, 57, 54, 55, 50, 57, 54]⟩ [49, 46, 50, 46, 52, 50, 57, 52, 57, 54, 55, 50, 57, 54] 0 zl 3 _ (by decide +kernel) (all_lit (by decide)) (by decide) EV4 HZL.out (by rw [← HZ.out]; decide +kernel)).mono ?_
  rintro e v5 ⟨rfl, hb⟩
  have BV5 := bt BV4 hb
  have EV5 := et EV4 hb
  have hS5 := (hS.below hb.out hS.lt)
  clear hb BV4 EV4
  go_simp
  refine hK.out _ _ (hS5) (fun hS => ?_)
  clear hK K hS5
  (try simp only [Act.put, List.setIfInBounds_toArray, List.set_cons_zero, List.set_cons_succ])
  refine wpAnyH_take (i := 19) (oi := ⟨some 132, _, _, _, _, _⟩) (v := .bool true) rfl (by kernel_rfl) (by kernel_rfl) (by kernel_rfl) (fun _ _ _ h => h) (Or.inl ⟨by rfl, fun w hSw => by (try dsimp only at hSw); go_simp⟩) hS ?_
  simp only [Act.put, List.setIfInBounds_toArray, List.set_cons_zero, List.set_cons_succ]
  refine wpAnyH_take (i := 20) (oi := ⟨some 133, _, _, _, _, _⟩) (v := .bool true) rfl (by kernel_rfl) (by kernel_rfl) (by kernel_rfl) (fun _ _ _ h => h) (Or.inl ⟨by rfl, fun w hSw => by (try dsimp only at hSw); go_simp⟩) hS ?_
  simp only [Act.put, List.setIfInBounds_toArray, List.set_cons_zero, List.set_cons_succ]
  refine wpAnyH_ready (rs := [21]) (by kernel_rfl) (by simp) ?_
  refine AllReadyH.cons (o := _) rfl (fun K hK => ?_) (AllReadyH.nil)
  go_simp
  refine (any_lit _).mono ?_
  rintro e v6 ⟨rfl, hb⟩
  have BV6 := bt BV5 hb
  have EV6 := et EV5 hb
  have hS6 := (hS.below hb.out hS.lt)
  clear hb BV5 EV5
  go_simp
  refine hK.out _ _ (hS6) (fun hS => ?_)
  clear hK K hS6
  (try simp only [Act.put, List.setIfInBounds_toArray, List.set_cons_zero, List.set_cons_succ])
  refine wpAnyH_ready (rs := [22]) (by kernel_rfl) (by simp) ?_
  refine AllReadyH.cons (o := _) rfl (fun K hK => ?_) (AllReadyH.nil)
  go_simp
  refine (text_lit 5 anyL ⟨#[50, 46, 53, 46, 50, 57, 46, 51, 50, 46, 48]⟩ _ okO_any (by decide +kernel) EV6).mono ?_
  rintro e v7 ⟨rfl, hb⟩
  have BV7 := bt BV6 hb
  have EV7 := et EV6 hb
  have hS7 := (hS.below hb.out hS.lt)
  clear hb BV6 EV6
  go_simp
  refine hK.out _ _ (hS7) (fun hS => ?_)
  clear hK K hS7
  (try simp only [Act.put, List.setIfInBounds_toArray, List.set_cons_zero, List.set_cons_succ])
  refine wpAnyH_take (i := 23) (oi := ⟨some 136, _, _, _, _, _⟩) (v := .bool true) rfl (by kernel_rfl) (by kernel_rfl) (by kernel_rfl) (fun _ _ _ h => h) (Or.inl ⟨by rfl, fun w hSw => by (try dsimp only at hSw); go_simp⟩) hS ?_
  simp only [Act.put, List.setIfInBounds_toArray, List.set_cons_zero, List.set_cons_succ]
  refine wpAnyH_take (i := 24) (oi := ⟨some 137, _, _, _, _, _⟩) (v := .bool true) rfl (by kernel_rfl) (by kernel_rfl) (by kernel_rfl) (fun _ _ _ h => h) (Or.inl ⟨by rfl, fun w hSw => by (try dsimp only at hSw); go_simp⟩) hS ?_
  simp only [Act.put, List.setIfInBounds_toArray, List.set_cons_zero, List.set_cons_succ]
  refine wpAnyH_take (i := 25) (oi := ⟨some 0, _, _, _, _, _⟩) (v := .bool true) rfl (by kernel_rfl) (by kernel_rfl) (by kernel_rfl) (fun _ _ _ h => h) (Or.inl ⟨by rfl, fun w hSw => by (try dsimp only at hSw); go_simp⟩) hS ?_
  simp only [Act.put, List.setIfInBounds_toArray, List.set_cons_zero]
  refine wpAnyH_done (by kernel_rfl) ?_ _
  go_wp2
  go_ret
  exact ⟨rfl, BV7.out⟩
end Go.Proofs.YtndamidmgglneaaDoor
