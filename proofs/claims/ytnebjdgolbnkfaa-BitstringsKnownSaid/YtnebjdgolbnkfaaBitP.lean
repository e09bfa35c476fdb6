/-
  Layer 8: the examples of the chapter hold: the statements' helper lives returns true; what was there has not turned.
  Conditions: none.
-/
import Derived.Test.YtnebjdgolbnkfaaBitO
namespace Go.Proofs.Ytnebjdgolbnkfaa.Bit
open Go.RowKit

theorem lt_lit {l : List Nat} (h : l.all (fun x => decide (x < 256)) = true) : All8 l := fun x hx => by simpa using List.all_eq_true.1 h x hx
theorem lit_rb (w : World) (l : List Nat) (h : All8 l) : Rb (w.alloc (.cells (cs8 l).toArray 5)) (some ⟨w.heap.size, 0, none⟩) l :=
  ⟨by have := (Bk.new w 5 (cs8 l)).rd 0; simpa using this, h⟩
section
variable (w : World)
theorem put_lit (l m : List Nat) (N M : Nat) (n : Int) (f : Nat) (h : All8 l) (hN : l.length = N) (hn : N ≤ 1000) (hn1 : -9223372036854775808 ≤ n) (hn2 : n < 9223372036854775808) (hm : ptB l n = m) (hM : m.length = M) (hf : chkB l n = f) :
    Calls Try.prog 11 #[.slice (some ⟨w.heap.size, 0, none⟩) N N, .int .i64 n] (w.alloc (.cells (cs8 l).toArray 5)) fun e w' => ∃ A, e = .returned (.tuple #[.slice A M M, .int .i64 (f : Int)]) ∧ Rb w' A m ∧ Below w.heap.size w w' := by
  subst hm hM hf
  exact (put_any _ l N N n _ (lit_rb w l h) hN (by omega) (Nat.le_refl _) hn1 hn2).mono fun _ _ ⟨A, n1, h0, h1, h2, h3, _⟩ => ⟨A, by rw [h1, h0], h2, (bel1 _ _).trans (h3.mono (bel1 _ _).size)⟩
theorem put_nil : Calls Try.prog 11 #[.slice none 0 0, .int .i64 0] w fun e w' => ∃ A, e = .returned (.tuple #[.slice A 1 1, .int .i64 0]) ∧ Rb w' A [0] ∧ Below w.heap.size w w' :=
  (put_any none [] 0 0 0 w Rb.nil rfl (by omega) (Nat.le_refl _) (by decide) (by decide)).mono fun _ _ ⟨A, n1, h0, h1, h2, h3, _⟩ => by
    have e1 : ptB [] 0 = [0] := by decide +kernel
    have e2 : chkB [] 0 = 0 := by decide +kernel
    rw [e1] at h0 h2
    rw [e2] at h1
    exact ⟨A, by rw [h1, ← h0]; rfl, h2, h3⟩
theorem same_lit (A : Option Addr) (l : List Nat) (N f : Nat) (hA : Rb w A l) (h : All8 l) (hN : l.length = N) :
    Calls Try.prog 13 #[.slice A N N, .int .i64 (f : Int), .slice (some ⟨w.heap.size, 0, none⟩) N N, .int .i64 (f : Int)] (w.alloc (.cells (cs8 l).toArray 5)) fun e w' => e = .returned (.bool true) ∧ Below w.heap.size w w' :=
  (same_ok A _ l N N f _ (hA.below (bel1 _ _)) (lit_rb w l h) hN).mono fun _ _ ⟨h1, h2⟩ => ⟨h1, h2 ▸ bel1 _ _⟩
theorem same_nil (A : Option Addr) (f : Nat) : Calls Try.prog 13 #[.slice A 0 0, .int .i64 (f : Int), .slice none 0 0, .int .i64 (f : Int)] w fun e w' => e = .returned (.bool true) ∧ Below w.heap.size w w' :=
  (same_ok A none [] 0 0 f _ Rb.nil Rb.nil rfl).mono fun _ _ ⟨h1, h2⟩ => ⟨h1, h2 ▸ Below.refl _ _⟩
theorem read_lit (l m : List Nat) (N M k f : Nat) (h : All8 l) (h' : All8 m) (hN : l.length = N) (hM : m.length = M) (hn : N ≤ 1000) (hz : gtB l = m) (hk : gtK l = k) (hf : gtE l = f) :
    Calls Try.prog 14 #[.slice (some ⟨w.heap.size, 0, none⟩) N N, .slice (some ⟨w.heap.size + 1, 0, none⟩) M M, .int .i64 (k : Int), .int .i64 (f : Int)] ((w.alloc (.cells (cs8 l).toArray 5)).alloc (.cells (cs8 m).toArray 5)) fun e w' => e = .returned (.bool true) ∧ Below w.heap.size w w' :=
  (read_ok _ _ l m N N M M k f _ ((lit_rb w l h).below (bel1 _ _)) (by have := lit_rb (w.alloc (.cells (cs8 l).toArray 5)) m h'; rwa [World.size_alloc] at this) hN hM (Nat.le_refl _) (by omega) hz hk hf).mono fun _ _ ⟨h1, h2⟩ => ⟨h1, (bel2 _ _ _).trans (h2.mono (bel2 _ _ _).size)⟩
theorem read_litnil (l : List Nat) (N k f : Nat) (h : All8 l) (hN : l.length = N) (hn : N ≤ 1000) (hz : gtB l = []) (hk : gtK l = k) (hf : gtE l = f) :
    Calls Try.prog 14 #[.slice (some ⟨w.heap.size, 0, none⟩) N N, .slice none 0 0, .int .i64 (k : Int), .int .i64 (f : Int)] (w.alloc (.cells (cs8 l).toArray 5)) fun e w' => e = .returned (.bool true) ∧ Below w.heap.size w w' :=
  (read_ok _ none l [] N N 0 0 k f _ (lit_rb w l h) Rb.nil hN rfl (Nat.le_refl _) (by omega) hz hk hf).mono fun _ _ ⟨h1, h2⟩ => ⟨h1, (bel1 _ _).trans (h2.mono (bel1 _ _).size)⟩
theorem read_nil : Calls Try.prog 14 #[.slice none 0 0, .slice none 0 0, .int .i64 0, .int .i64 11] w fun e w' => e = .returned (.bool true) ∧ Below w.heap.size w w' :=
  read_ok none none [] [] 0 0 0 0 0 11 w Rb.nil Rb.nil rfl rfl (Nat.le_refl _) (by omega) rfl rfl rfl
theorem bit_lit (l : List Nat) (N : Nat) (n i : Int) (b : Bool) (h : All8 l) (hN : l.length = N) (hn : N ≤ 1000) (hn1 : -1000 ≤ n) (hn2 : n < 1000) (hi1 : -1000 ≤ i) (hi2 : i < 1000) (hb : btB l n i = b) :
    Calls Try.prog 18 #[.slice (some ⟨w.heap.size, 0, none⟩) N N, .int .i64 n, .int .i64 i] (w.alloc (.cells (cs8 l).toArray 5)) fun e w' => e = .returned (.bool b) ∧ Below w.heap.size w w' :=
  (bit_any _ l N N n i _ (lit_rb w l h) hN (by omega) (by omega) (by omega) (by omega) (by omega)).mono fun _ _ ⟨h1, h2⟩ => ⟨by rw [h1, hb], (bel1 _ _).trans (h2.mono (bel1 _ _).size)⟩
theorem putn_str (v : Nat) (l : List Nat) (N : Nat) (hv : v < 1000) (hl : pnB v = l) (hN : l.length = N) : Calls Try.prog 23 #[.int .u64 (v : Int)] w fun e w' => ∃ A, e = .returned (.slice A N N) ∧ (∀ w2, Below w'.heap.size w' w2 → (convert 22 9 (.slice A N N)).run Try.prog w2 = .ok (.string (bstr l)) w2) ∧ Below w.heap.size w w' := by
  subst hl hN
  exact (putn_any v w (by omega)).mono fun _ _ ⟨g, h1, h2, h3, h4, _⟩ => ⟨_, h1, fun _ hb => run_str8 (h2.below hb) _, h4⟩
theorem named_lit (l : List Nat) (N v f : Nat) (h : All8 l) (hN : l.length = N) (hn : N ≤ 1000) (hz : gnV l = v) (hf : gnE l = f) :
    Calls Try.prog 22 #[.slice (some ⟨w.heap.size, 0, none⟩) N N, .int .u64 (v : Int), .int .i64 (f : Int)] (w.alloc (.cells (cs8 l).toArray 5)) fun e w' => e = .returned (.bool true) ∧ Below w.heap.size w w' :=
  (named_ok _ l N N v f _ (lit_rb w l h) hN (Nat.le_refl _) (by omega) hz hf).mono fun _ _ ⟨h1, h2⟩ => ⟨h1, (bel1 _ _).trans (h2.mono (bel1 _ _).size)⟩
theorem octets_lit (l : List Nat) (N : Nat) (h : All8 l) (hN : l.length = N) (hn : N ≤ 1000) :
    Calls Try.prog 27 #[.slice (some ⟨w.heap.size, 0, none⟩) N N] (w.alloc (.cells (cs8 l).toArray 5)) fun e w' => ∃ A, e = .returned (.tuple #[elV 0 4 false (.slice A N N) (.slice none 0 0), .int .i64 0]) ∧ Rb w' A l ∧ Below w.heap.size w w' :=
  (octets_ok _ l N N _ (lit_rb w l h) hN (by omega)).mono fun _ _ ⟨A, n1, h0, h1, h2, h3⟩ => ⟨A, by rw [h1, ← h0, hN], h2, (bel1 _ _).trans (h3.mono (bel1 _ _).size)⟩
theorem element_lit (l m : List Nat) (N M : Nat) (n : Int) (h : All8 l) (hN : l.length = N) (hn : N ≤ 1000) (hn1 : -9223372036854775808 ≤ n) (hn2 : n < 9223372036854775808) (hf : chkB l n = 0) (hm : ptB l n = m) (hM : m.length = M) :
    Calls Try.prog 15 #[.slice (some ⟨w.heap.size, 0, none⟩) N N, .int .i64 n] (w.alloc (.cells (cs8 l).toArray 5)) fun e w' => ∃ A, e = .returned (.tuple #[elV 0 3 false (.slice A M M) (.slice none 0 0), .int .i64 0]) ∧ Rb w' A m ∧ Below w.heap.size w w' := by
  subst hm hM
  exact (element_ok _ l N N n _ (lit_rb w l h) hN (by omega) (Nat.le_refl _) hn1 hn2 hf).mono fun _ _ ⟨A, n1, h0, h1, h2, h3⟩ => ⟨A, by rw [h1, h0], h2, (bel1 _ _).trans (h3.mono (bel1 _ _).size)⟩
theorem ofoct_ok (A : Option Addr) (l : List Nat) (N : Nat) (hA : Rb w A l) (hN : l.length = N) (hn : N ≤ 1000) :
    Calls Try.prog 26 #[elV 0 4 false (.slice A N N) (.slice none 0 0)] w fun e w' => ∃ A, e = .returned (.tuple #[.slice A N N, .int .i64 0]) ∧ Rb w' A l ∧ Below w.heap.size w w' :=
  (ofoct_any 0 4 false A none l N N 0 0 w hA hN (by omega) (Nat.le_refl _)).mono fun _ _ ⟨A1, n1, h0, h1, h2, h3, _⟩ => by
    have e0 : wrg 0 4 false 0 4 = 0 := rfl
    have e1 : ooB 0 4 false 0 l = l := by unfold ooB; rw [if_pos e0, if_neg (by omega)]
    have e2 : ooE 0 4 false 0 l = 0 := by unfold ooE; rw [if_pos e0, if_neg (by omega)]
    rw [e1] at h0 h2
    rw [e2] at h1
    exact ⟨A1, by rw [h1, ← h0, hN]; rfl, h2, h3⟩
theorem ofoct_tag (A : Option Addr) (l : List Nat) (N : Nat) (hA : Rb w A l) (hN : l.length = N) (hn : N ≤ 1000) :
    Calls Try.prog 26 #[elV 0 3 false (.slice A N N) (.slice none 0 0)] w fun e w' => ∃ A, e = .returned (.tuple #[.slice A 0 0, .int .i64 9]) ∧ Below w.heap.size w w' :=
  (ofoct_any 0 3 false A none l N N 0 0 w hA hN (by omega) (Nat.le_refl _)).mono fun _ _ ⟨A1, n1, h0, h1, h2, h3, _⟩ => by
    have e0 : wrg 0 3 false 0 4 = 9 := rfl
    have e1 : ooB 0 3 false 0 l = [] := by unfold ooB; rw [e0]; rfl
    have e2 : ooE 0 3 false 0 l = 9 := by unfold ooE; rw [e0]; rfl
    rw [e1] at h0
    rw [e2] at h1
    obtain rfl : 0 = n1 := h0
    exact ⟨A1, h1, h3⟩
theorem is_lit (A : Option Addr) (l : List Nat) (num N : Nat) (hA : Rb w A l) (h : All8 l) (hN : l.length = N) :
    Calls Try.prog 17 #[elV 0 num false (.slice A N N) (.slice none 0 0), .int .i64 0, .int .u32 (num : Int), .slice (some ⟨w.heap.size, 0, none⟩) N N] (w.alloc (.cells (cs8 l).toArray 5)) fun e w' => e = .returned (.bool true) ∧ Below w.heap.size w w' :=
  (is_ok A _ l num N N _ (hA.below (bel1 _ _)) (lit_rb w l h) hN).mono fun _ _ ⟨h1, h2⟩ => ⟨h1, (bel1 _ _).trans (h2.mono (bel1 _ _).size)⟩
/-- A variable that holds an element: the world in which it is made, and the one in which it is stored. -/
theorem var5 (num : Int) (A : Option Addr) (N : Nat) : ∃ D wz w3, w.heap.size = D ∧ w.alloc (.cells #[.int .u8 0, .bool false, .int .u32 0, .slice none 0 0, .slice none 0 0] 40) = wz ∧ Bk wz D 40 elZ ∧
    ((((wz.setCell ⟨D, 0, none⟩ (.int .u8 0)).setCell ⟨D, 1, none⟩ (.bool false)).setCell ⟨D, 2, none⟩ (.int .u32 num)).setCell ⟨D, 3, none⟩ (.slice A N N)).setCell ⟨D, 4, none⟩ (.slice none 0 0) = w3 ∧ Bk w3 D 40 [.int .u8 0, .bool false, .int .u32 num, .slice A N N, .slice none 0 0] ∧ Below w.heap.size w w3 := by
  have hk := Bk.new w 40 elZ
  have hb := bel1 w (.cells elZ.toArray 40)
  have hl := Nat.le_refl w.heap.size
  exact ⟨_, _, _, rfl, rfl, hk, rfl, ((((hk.store 0 (.int .u8 0)).store 1 (.bool false)).store 2 (.int .u32 num)).store 3 (.slice A N N)).store 4 (.slice none 0 0),
    ((((hb.setCell (p := ⟨w.heap.size, 0, none⟩) hl _).setCell (p := ⟨w.heap.size, 1, none⟩) hl _).setCell (p := ⟨w.heap.size, 2, none⟩) hl _).setCell (p := ⟨w.heap.size, 3, none⟩) hl _).setCell (p := ⟨w.heap.size, 4, none⟩) hl _⟩
end

set_option maxHeartbeats 6400000 in
set_option maxRecDepth 100000 in
theorem lives1 (w : World) : Calls Try.prog 19 #[] w fun e w' => e = .returned (.bool true) ∧ Below w.heap.size w w' := by
  have B0 := Lib.hid (Below.refl w.heap.size w)
  go_enter Try.func19, Try.ntmps19
  go_wp2_with fail
  refine (put_nil w).mono ?_
  rintro e w1 ⟨Aa, rfl, hr, hb⟩
  have RAa := Lib.hid hr
  clear hr
  have B1 := bt B0 (Lib.hid hb)
  clear hb B0
  go_wp2_with fail
  refine (put_lit w1 [160] [5, 160] 1 2 3 0 (lt_lit rfl) rfl (by decide) (by decide) (by decide) (by decide +kernel) rfl (by decide +kernel)).mono ?_
  rintro e w2 ⟨Ab, rfl, hr, hb⟩
  have RAa := Lib.hid (RAa.out.below hb)
  have RAb := Lib.hid hr
  clear hr
  have B2 := bt B1 (Lib.hid hb)
  clear hb B1
  go_wp2_with fail
  refine (put_lit w2 [161] [] 1 0 3 1 (lt_lit rfl) rfl (by decide) (by decide) (by decide) (by decide +kernel) rfl (by decide +kernel)).mono ?_
  rintro e w3 ⟨Ac, rfl, hr, hb⟩
  have RAa := Lib.hid (RAa.out.below hb)
  have RAb := Lib.hid (RAb.out.below hb)
  have RAc := Lib.hid hr
  clear hr
  have B3 := bt B2 (Lib.hid hb)
  clear hb B2
  go_wp2_with fail
  refine (put_lit w3 [160] [] 1 0 9 1 (lt_lit rfl) rfl (by decide) (by decide) (by decide) (by decide +kernel) rfl (by decide +kernel)).mono ?_
  rintro e w4 ⟨Ad, rfl, hr, hb⟩
  have RAa := Lib.hid (RAa.out.below hb)
  have RAb := Lib.hid (RAb.out.below hb)
  have RAc := Lib.hid (RAc.out.below hb)
  have RAd := Lib.hid hr
  clear hr
  have B4 := bt B3 (Lib.hid hb)
  clear hb B3
  go_wp2_with fail
  refine (same_lit w4 Aa [0] 1 0 RAa.out (lt_lit rfl) rfl).mono ?_
  rintro e w5 ⟨rfl, hb⟩
  have RAb := Lib.hid (RAb.out.below hb)
  have RAc := Lib.hid (RAc.out.below hb)
  have RAd := Lib.hid (RAd.out.below hb)
  have B5 := bt B4 (Lib.hid hb)
  clear hb B4
  go_wp2_with fail
  refine (same_lit w5 Ab [5, 160] 2 0 RAb.out (lt_lit rfl) rfl).mono ?_
  rintro e w6 ⟨rfl, hb⟩
  have RAc := Lib.hid (RAc.out.below hb)
  have RAd := Lib.hid (RAd.out.below hb)
  have B6 := bt B5 (Lib.hid hb)
  clear hb B5
  go_wp2_with fail
  refine (same_nil w6 Ac 1).mono ?_
  rintro e w7 ⟨rfl, hb⟩
  have RAd := Lib.hid (RAd.out.below hb)
  have B7 := bt B6 (Lib.hid hb)
  clear hb B6
  go_wp2_with fail
  refine (same_nil w7 Ad 1).mono ?_
  rintro e w8 ⟨rfl, hb⟩
  have B8 := bt B7 (Lib.hid hb)
  clear hb B7
  go_wp2_with fail
  refine (read_lit w8 [5, 160] [160] 2 1 3 0 (lt_lit rfl) (lt_lit rfl) rfl rfl (by decide) (by decide +kernel) (by decide +kernel) (by decide +kernel)).mono ?_
  rintro e w9 ⟨rfl, hb⟩
  have B9 := bt B8 (Lib.hid hb)
  clear hb B8
  go_wp2_with fail
  refine (read_litnil w9 [0] 1 0 0 (lt_lit rfl) rfl (by decide) (by decide +kernel) (by decide +kernel) (by decide +kernel)).mono ?_
  rintro e w10 ⟨rfl, hb⟩
  have B10 := bt B9 (Lib.hid hb)
  clear hb B9
  go_wp2_with fail
  refine (read_litnil w10 [5] 1 0 11 (lt_lit rfl) rfl (by decide) (by decide +kernel) (by decide +kernel) (by decide +kernel)).mono ?_
  rintro e w11 ⟨rfl, hb⟩
  have B11 := bt B10 (Lib.hid hb)
  clear hb B10
  go_wp2_with fail
  refine (read_litnil w11 [8, 0] 2 0 11 (lt_lit rfl) rfl (by decide) (by decide +kernel) (by decide +kernel) (by decide +kernel)).mono ?_
  rintro e w12 ⟨rfl, hb⟩
  have B12 := bt B11 (Lib.hid hb)
  clear hb B11
  go_wp2_with fail
  refine (read_litnil w12 [1, 1] 2 0 11 (lt_lit rfl) rfl (by decide) (by decide +kernel) (by decide +kernel) (by decide +kernel)).mono ?_
  rintro e w13 ⟨rfl, hb⟩
  have B13 := bt B12 (Lib.hid hb)
  clear hb B12
  go_wp2_with fail
  refine (read_nil w13).mono ?_
  rintro e w14 ⟨rfl, hb⟩
  have B14 := bt B13 (Lib.hid hb)
  clear hb B13
  go_wp2_with fail
  refine (bit_lit w14 [160] 1 3 0 true (lt_lit rfl) rfl (by decide) (by decide) (by decide) (by decide) (by decide) (by decide +kernel)).mono ?_
  rintro e w15 ⟨rfl, hb⟩
  have B15 := bt B14 (Lib.hid hb)
  clear hb B14
  go_wp2_with fail
  refine (bit_lit w15 [160] 1 3 1 false (lt_lit rfl) rfl (by decide) (by decide) (by decide) (by decide) (by decide) (by decide +kernel)).mono ?_
  rintro e w16 ⟨rfl, hb⟩
  have B16 := bt B15 (Lib.hid hb)
  clear hb B15
  go_wp2_with fail
  refine (bit_lit w16 [160] 1 3 3 false (lt_lit rfl) rfl (by decide) (by decide) (by decide) (by decide) (by decide) (by decide +kernel)).mono ?_
  rintro e w17 ⟨rfl, hb⟩
  have B17 := bt B16 (Lib.hid hb)
  clear hb B16
  go_wp2_with fail
  refine (putn_str w17 0 [0] 1 (by decide) (by decide +kernel) rfl).mono ?_
  rintro e w18 ⟨A0, rfl, hs, hb⟩
  have s0 := hs _ (Below.refl _ _)
  clear hs
  have q0 : ((bstr [0]).toList != [0]) = false := by decide +kernel
  have p0 : ((bstr [0]).toList == [0]) = true := by decide +kernel
  have B18 := bt B17 (Lib.hid hb)
  clear hb B17
  go_wp2_with fail
  refine (putn_str w18 33 [2, 132] 2 (by decide) (by decide +kernel) rfl).mono ?_
  rintro e w19 ⟨A33, rfl, hs, hb⟩
  have s33 := hs _ (Below.refl _ _)
  clear hs
  have q33 : ((bstr [2, 132]).toList != [2, 132]) = false := by decide +kernel
  have p33 : ((bstr [2, 132]).toList == [2, 132]) = true := by decide +kernel
  have B19 := bt B18 (Lib.hid hb)
  clear hb B18
  
  go_wp2_with fail
  refine (named_lit w19 [2, 132] 2 33 0 (lt_lit rfl) rfl (by decide) (by decide +kernel) (by decide +kernel)).mono ?_
  rintro e w20 ⟨rfl, hb⟩
  have B20 := bt B19 (Lib.hid hb)
  clear hb B19
  clear s0 q0 p0 s33 q33 p33
  go_wp2_with fail
  refine (named_lit w20 [1, 132] 2 0 11 (lt_lit rfl) rfl (by decide) (by decide +kernel) (by decide +kernel)).mono ?_
  rintro e w21 ⟨rfl, hb⟩
  have B21 := bt B20 (Lib.hid hb)
  clear hb B20
  go_wp2_with fail
  refine (named_lit w21 [0, 0] 2 0 11 (lt_lit rfl) rfl (by decide) (by decide +kernel) (by decide +kernel)).mono ?_
  rintro e w22 ⟨rfl, hb⟩
  have B22 := bt B21 (Lib.hid hb)
  clear hb B21
  go_wp2_with fail
  refine (octets_lit w22 [5, 6] 2 (lt_lit rfl) rfl (by decide)).mono ?_
  rintro e w23 ⟨Ao, rfl, hr, hb⟩
  have Ro := Lib.hid hr
  clear hr
  have B23 := bt B22 (Lib.hid hb)
  clear hb B22
  obtain ⟨Da, wza, w24, hD, hwz, hkz, hw3, hk3, hb⟩ := var5 w23 4 Ao 2
  obtain ⟨z0, z1, z2, z3, z4, zz⟩ := Bk.five hkz
  obtain ⟨g0, g1, g2, g3, g4⟩ := Bk.free5 hkz
  obtain ⟨x0, x1, x2, x3, x4, xz⟩ := Bk.five hk3
  have Ro := Lib.hid (Ro.out.below hb)
  have Ka := Lib.hid hk3
  have B24 := bt B23 (Lib.hid hb)
  clear hkz hk3 hb B23
  go_wp2_with fail
  clear z0 z1 z2 z3 z4 zz g0 g1 g2 g3 g4 hw3 hwz hD x0 x1 x2 x3 x4 xz
  refine (ofoct_ok w24 Ao [5, 6] 2 Ro.out rfl (by decide)).mono ?_
  rintro e w25 ⟨Ap, rfl, hr, hb⟩
  have Ro := Lib.hid (Ro.out.below hb)
  have Ka := Lib.hid (Ka.out.below hb Ka.out.lt)
  have Rp := Lib.hid hr
  clear hr
  have B25 := bt B24 (Lib.hid hb)
  clear hb B24
  go_wp2_with fail
  refine (element_lit w25 [160] [5, 160] 1 2 3 (lt_lit rfl) rfl (by decide) (by decide) (by decide) (by decide +kernel) (by decide +kernel) rfl).mono ?_
  rintro e w26 ⟨Ay, rfl, hr, hb⟩
  have Ro := Lib.hid (Ro.out.below hb)
  have Rp := Lib.hid (Rp.out.below hb)
  have Ka := Lib.hid (Ka.out.below hb Ka.out.lt)
  have Ry := Lib.hid hr
  clear hr
  have B26 := bt B25 (Lib.hid hb)
  clear hb B25
  obtain ⟨Db, wzb, w27, hD, hwz, hkz, hw3, hk3, hb⟩ := var5 w26 3 Ay 2
  obtain ⟨z0, z1, z2, z3, z4, zz⟩ := Bk.five hkz
  obtain ⟨g0, g1, g2, g3, g4⟩ := Bk.free5 hkz
  obtain ⟨x0, x1, x2, x3, x4, xz⟩ := Bk.five hk3
  have Ro := Lib.hid (Ro.out.below hb)
  have Rp := Lib.hid (Rp.out.below hb)
  have Ry := Lib.hid (Ry.out.below hb)
  have Ka := Lib.hid (Ka.out.below hb Ka.out.lt)
  have Kb := Lib.hid hk3
  have B27 := bt B26 (Lib.hid hb)
  clear hkz hk3 hb B26
  go_wp2_with fail
  clear z0 z1 z2 z3 z4 zz g0 g1 g2 g3 g4 hw3 hwz hD x0 x1 x2 x3 x4 xz
  refine (ofoct_tag w27 Ay [5, 160] 2 Ry.out rfl (by decide)).mono ?_
  rintro e w28 ⟨Al, rfl, hb⟩
  have Ro := Lib.hid (Ro.out.below hb)
  have Rp := Lib.hid (Rp.out.below hb)
  have Ka := Lib.hid (Ka.out.below hb Ka.out.lt)
  have Kb := Lib.hid (Kb.out.below hb Kb.out.lt)
  obtain ⟨y0, y1, y2, y3, y4, yz⟩ := Bk.five Ka.out
  clear Kb
  have B28 := bt B27 (Lib.hid hb)
  clear hb B27
  go_wp2_with fail
  clear y0 y1 y2 y3 y4 yz
  refine (is_lit w28 Ao [5, 6] 4 2 Ro.out (lt_lit rfl) rfl).mono ?_
  rintro e w29 ⟨rfl, hb⟩
  have Rp := Lib.hid (Rp.out.below hb)
  have Ka := Lib.hid (Ka.out.below hb Ka.out.lt)
  clear Ka
  have B29 := bt B28 (Lib.hid hb)
  clear hb B28
  go_wp2_with fail
  refine (same_lit w29 Ap [5, 6] 2 0 Rp.out (lt_lit rfl) rfl).mono ?_
  rintro e w30 ⟨rfl, hb⟩
  have B30 := bt B29 (Lib.hid hb)
  clear hb B29
  go_wp2_with fail
  go_ret
  exact ⟨by simp, B30.out⟩
end Go.Proofs.Ytnebjdgolbnkfaa.Bit
