/-
  Layer 12: the examples of the chapter hold: the statements' helper lives.
  Conditions: none.
-/
import Derived.Test.YtfbdeefeagednaaFlO
namespace Go.Proofs.Ytfbdeefeagednaa.Fl
open Go.RowKit

section
variable {x : Bool} {S : Nat → Prop} {w : World}
mutual
theorem loosE : ∀ (e : El) (v : Value), RdE x S w e v → RdE false S w e v
  | .mk c n k bs ss, v, h => by
    obtain ⟨h1, h2, h3, A, ca, B, cb, h4, h5, h6, h7, h8, h9, h10, h11⟩ := h
    exact ⟨h1, h2, h3, A, ca, B, cb, h4, h5, h6, h7, h8, h9, fun h => (by cases h), loosS ss B h11⟩
theorem loosS : ∀ (ss : List El) (A : Option Addr), RdS x S w A ss → RdS false S w A ss
  | [], _, _ => trivial
  | e :: ss, A, h => by
    obtain ⟨b, off, v, h1, h2, h3, h4, h5, h6⟩ := h
    exact ⟨b, off, v, h1, h2, h3, h4, loosE e v h5, loosS ss _ h6⟩
end
theorem anyE {e : El} {v : Value} (h : RdE x S w e v) : RdE false (fun _ => True) w e v := RdE.keep (Nat.le_refl _) (fun _ _ _ => rfl) (fun _ _ _ => trivial) _ _ (loosE _ _ h)
end
@[reducible] def knV (B : Option Addr) : Value := elV 0 16 true (.slice none 0 0) (.slice B 2 2)
theorem kn_parts {W : World} {B : Option Addr} (h : RdE false (fun _ => True) W knE (knV B)) : RdS false (fun _ => True) W B [.mk 0 2 false [5] [], .mk 0 1 false [255] []] := by
  obtain ⟨_, _, _, A, ca, B', cb, hv, _, _, _, _, _, _, hRS⟩ := h
  injection hv with hv
  simp at hv
  obtain ⟨_, rfl, _⟩ := hv
  exact hRS
theorem seq_kn (W : World) (B : Option Addr) (c2 n2 : Nat) (k2 : Bool) (l : List Fd) (A : Option Addr) (N ca : Nat) (hE : RdE false (fun _ => True) W knE (knV B)) (hA : Rd W A (csF l)) (hl : l.length = N) (hN : N ≤ 1000) (I P : List Int) (f : Nat) (hR : sqR c2 n2 k2 knE l = (I, P, f)) :
    Calls Try.prog 20 #[knV B, tgV c2 k2 n2, .slice A N ca] W (GiveQ true W I P f) :=
  seq_any 0 16 true _ [] [.mk 0 2 false [5] [], .mk 0 1 false [255] []] B 2 2 c2 n2 k2 l A N ca W rfl (Nat.le_refl _) (by unfold maxLen; omega) (kn_parts hE) hl hA (by omega) I P f hR
/-- What lives keeps. -/
def LvK (w : World) (g1 g2 g3 g4 : Nat) (B : Option Addr) (W : World) : Prop :=
  Bk W g1 29 [.int .u8 0, .bool true, .int .u32 16, .slice none 0 0, .slice B 2 2] ∧ Bk W g2 25 [.int .u8 0, .bool true, .int .u32 16] ∧ Bk W g3 25 [.int .u8 0, .bool false, .int .u32 1] ∧ Bk W g4 25 [.int .u8 0, .bool false, .int .u32 2] ∧ RdE false (fun _ => True) W knE (knV B) ∧ Below w.heap.size w W
theorem LvK.stay {w W W' : World} {g1 g2 g3 g4 : Nat} {B : Option Addr} (h : LvK w g1 g2 g3 g4 B W) (hb : Below W.heap.size W W') : LvK w g1 g2 g3 g4 B W' :=
  let ⟨a, b, c, d, e, f⟩ := h
  ⟨a.below hb a.lt, b.below hb b.lt, c.below hb c.lt, d.below hb d.lt, e.stay hb, f.trans (hb.mono f.size)⟩
theorem lk {w W W' : World} {g1 g2 g3 g4 : Nat} {B : Option Addr} (h : Hid (LvK w g1 g2 g3 g4 B W)) (hb : Hid (Below W.heap.size W W')) : Hid (LvK w g1 g2 g3 g4 B W') := Lib.hid (h.out.stay hb.out)
theorem LvK.cells {w W : World} {g1 g2 g3 g4 : Nat} {B : Option Addr} (h : LvK w g1 g2 g3 g4 B W) :
    W.cell? ⟨g1, 0, none⟩ = some (.int .u8 0) ∧ W.cell? ⟨g1, 1, none⟩ = some (.bool true) ∧ W.cell? ⟨g1, 2, none⟩ = some (.int .u32 16) ∧ W.cell? ⟨g1, 3, none⟩ = some (.slice none 0 0) ∧ W.cell? ⟨g1, 4, none⟩ = some (.slice B 2 2) ∧
    W.cell? ⟨g2, 0, none⟩ = some (.int .u8 0) ∧ W.cell? ⟨g2, 1, none⟩ = some (.bool true) ∧ W.cell? ⟨g2, 2, none⟩ = some (.int .u32 16) ∧
    W.cell? ⟨g3, 0, none⟩ = some (.int .u8 0) ∧ W.cell? ⟨g3, 1, none⟩ = some (.bool false) ∧ W.cell? ⟨g3, 2, none⟩ = some (.int .u32 1) ∧
    W.cell? ⟨g4, 0, none⟩ = some (.int .u8 0) ∧ W.cell? ⟨g4, 1, none⟩ = some (.bool false) ∧ W.cell? ⟨g4, 2, none⟩ = some (.int .u32 2) :=
  let ⟨a, b, c, d, _, _⟩ := h
  ⟨a.cell 0, a.cell 1, a.cell 2, a.cell 3, a.cell 4, b.cell 0, b.cell 1, b.cell 2, c.cell 0, c.cell 1, c.cell 2, d.cell 0, d.cell 1, d.cell 2⟩
theorem bt0 {a b c : World} (h1 : Below a.heap.size a b) (h2 : Below b.heap.size b c) : Below a.heap.size a c := h1.trans (h2.mono h1.size)
theorem fl_rd (W : World) (l : List Fd) : Rd (W.alloc (.cells (csF l).toArray 54)) (some ⟨W.heap.size, 0, none⟩) (csF l) := by
  have := (Bk.new W 54 (csF l)).rd 0; simpa using this
theorem in_rd (W : World) (l : List Int) : Rd (W.alloc (.cells (csZ l).toArray 3)) (some ⟨W.heap.size, 0, none⟩) (csZ l) := by
  have := (Bk.new W 3 (csZ l)).rd 0; simpa using this
theorem inA (W : World) : Rd (W.alloc (.cells #[.int .i64 0, .int .i64 1] 3)) (some ⟨W.heap.size, 0, none⟩) (csZ [0, 1]) := in_rd W [0, 1]
theorem inB (W : World) : Rd (W.alloc (.cells #[.int .i64 0, .int .i64 (-1), .int .i64 1, .int .i64 (-1)] 3)) (some ⟨W.heap.size, 0, none⟩) (csZ [0, -1, 1, -1]) := in_rd W [0, -1, 1, -1]
theorem inAp (W : World) (p : Nat) (hp : W.heap.size = p) : Rd (W.alloc (.cells #[.int .i64 0, .int .i64 1] 3)) (some ⟨p, 0, none⟩) (csZ [0, 1]) := hp ▸ inA W
theorem inBp (W : World) (p : Nat) (hp : W.heap.size = p) : Rd (W.alloc (.cells #[.int .i64 0, .int .i64 (-1), .int .i64 1, .int .i64 (-1)] 3)) (some ⟨p, 0, none⟩) (csZ [0, -1, 1, -1]) := hp ▸ inB W
theorem gf {w : World} {P : List Int} {f : Nat} {e : Ending} {w' : World} (h : GiveF true w P f e w') (N : Nat) (hN : P.length = N) : ∃ A, e = .returned (fvV A N N f) ∧ Rd w' A (csZ P) ∧ Below w.heap.size w w' := by
  obtain ⟨A, n, c, rfl, hl, _, _, hx, hr, hb⟩ := h
  obtain rfl : c = n := hx rfl
  rw [hN] at hl
  subst hl
  exact ⟨A, rfl, hr.rd, hb⟩
theorem rf_pos (f : Nat) (z : Int) (hz : 0 ≤ z) (w : World) : Calls Try.prog 9 #[.int .i64 (f : Int), .int .i64 z] w fun e w' => ∃ A c, e = .returned (fvV A 1 c f) ∧ Rd w' A (csZ [z]) ∧ Below w.heap.size w w' := by
  refine (rfault_any f z w (by omega)).mono ?_
  rintro e w' ⟨A, n, c, rfl, hl, _, _, _, hr, hb⟩
  rw [if_neg (by omega)] at hl hr
  subst hl
  exact ⟨A, c, rfl, hr.rd, hb⟩
theorem rf_neg (f : Nat) (w : World) : Calls Try.prog 9 #[.int .i64 (f : Int), .int .i64 (-1)] w fun e w' => ∃ A c, e = .returned (fvV A 0 c f) ∧ Rd w' A (csZ []) ∧ Below w.heap.size w w' := by
  refine (rfault_any f (-1) w (by omega)).mono ?_
  rintro e w' ⟨A, n, c, rfl, hl, _, _, _, hr, hb⟩
  rw [if_pos (by decide)] at hl
  subst hl
  exact ⟨A, c, rfl, Rd.nil, hb⟩
theorem kn_ok : OKe knE := OKe.of (by decide +kernel)
theorem list_kn (w : World) (B : Option Addr) (lo hi : Int) (P : List Int) (f : Nat) (h : lstR 0 16 true lo hi knE = (P, f) ∧ (-9223372036854775808 ≤ lo ∧ lo < 9223372036854775808) ∧ -9223372036854775808 ≤ hi ∧ hi < 9223372036854775808) (N : Nat) (hN : P.length = N) :
    Calls Try.prog 22 #[knV B, tgV 0 true 16, .int .i64 lo, .int .i64 hi] w fun e w' => ∃ A, e = .returned (fvV A N N f) ∧ Rd w' A (csZ P) ∧ Below w.heap.size w w' :=
  (list_any 0 16 true (.slice none 0 0) [] [.mk 0 2 false [5] [], .mk 0 1 false [255] []] B 2 2 0 16 true lo hi w rfl P f h.1 h.2.1 h.2.2).mono fun _ _ h => gf h N hN
theorem ord_kn (w : World) (B : Option Addr) (h : RdE false (fun _ => True) w knE (knV B)) : Calls Try.prog 12 #[knV B] w fun e w' => ∃ A, e = .returned (fvV A 1 1 13) ∧ Rd w' A (csZ [1]) ∧ Below w.heap.size w w' :=
  (ord_any 0 16 true (.slice none 0 0) [.mk 0 2 false [5] [], .mk 0 1 false [255] []] B 2 2 w rfl (by unfold maxLen; omega) (kn_parts h) (fun e he => by
    obtain ⟨i, hi, rfl⟩ := List.getElem_of_mem he
    have := kn_ok.sub hi
    exact ⟨by have := this.2.1; omega, this.con⟩) [1] 13 (by decide +kernel)).mono fun _ _ h => gf h 1 rfl
theorem off_1_5_0 : offR knE [1] = (5, 0) := by
  have h1 : atE knE [1] = some (.mk 0 1 false [255] []) := by rw [knE, atE, dif_pos (by decide)]; exact atE_nil _
  have h2 : offE knE [1] = 5 := by
    have := offE_cons (c := 0) (n := 16) (k := true) (bs := []) (ss := [.mk 0 2 false [5] [], .mk 0 1 false [255] []]) (i := 1) (t := []) (by decide)
    rw [show offE knE [1] = _ from this, offE]
    decide +kernel
  unfold offR
  rw [if_neg (by decide +kernel), h1, h2]
theorem off_1_0_19 : offR knE [2] = (0, 19) := by
  have h1 : atE knE [2] = none := by rw [knE, atE, dif_neg (by decide)]
  unfold offR
  rw [if_neg (by decide +kernel), h1]
theorem off_0_0_0 : offR knE [] = (0, 0) := by
  unfold offR
  rw [if_neg (by decide +kernel), atE_nil, offE]
theorem rep_5 : repR knE [1] 8 = (5, 8) := by unfold repR; rw [if_neg (by decide), off_1_5_0]
theorem rt {w w' : World} {A : Option Addr} {xs : List Value} (h : Hid (Rd w A xs)) (hb : Hid (Below w.heap.size w w')) : Hid (Rd w' A xs) := Lib.hid (h.out.below hb.out)
set_option linter.unusedSimpArgs false in
set_option maxHeartbeats 8000000 in
set_option maxRecDepth 100000 in
theorem lives_any (w : World) : Calls Try.prog 6 #[] w fun e w' => e = .returned (.bool true) ∧ Below w.heap.size w w' := by
  go_enter Try.func6, Try.ntmps6
  go_wp2_with fail
  refine (known_any _).mono ?_
  rintro e w1 ⟨B, rfl, hE1, hb1⟩
  have E1 := Lib.hid (show RdE false (fun _ => True) w1 knE (knV B) from anyE hE1)
  have B1 := Lib.hid hb1
  clear hE1 hb1
  go_upto_region 2 with fail
  obtain ⟨g1, hg1⟩ : ∃ g, w1.heap.size = g := ⟨_, rfl⟩
  obtain ⟨w2, hw2⟩ : ∃ v, w1.alloc (.cells #[.int .u8 0, .bool true, .int .u32 16, .slice none 0 0, .slice B 2 2] 29) = v := ⟨_, rfl⟩
  have hb2 : Below w1.heap.size w1 w2 := by rw [← hw2]; exact bel1 _ _
  have K2 := Lib.hid (show Bk w2 g1 29 [.int .u8 0, .bool true, .int .u32 16, .slice none 0 0, .slice B 2 2] by rw [← hw2, ← hg1]; exact Bk.new w1 _ [_, _, _, _, _])
  have E2 := Lib.hid (E1.out.stay hb2)
  have B2 := bt B1 (Lib.hid hb2)
  rw [hw2, hg1]
  clear hb2 hw2 hg1 E1 B1
  go_wp2_with fail
  refine (tag_any 0 0 16 true _ (by decide) rfl).mono ?_
  rintro e w3 ⟨rfl, hb3⟩
  go_wp2_with fail
  refine (tag_any 4 0 1 false _ (by decide) rfl).mono ?_
  rintro e w4 ⟨rfl, hb4⟩
  go_wp2_with fail
  refine (tag_any 6 0 2 false _ (by decide) rfl).mono ?_
  rintro e w5 ⟨rfl, hb5⟩
  have B5 := bt (bt (bt B2 (Lib.hid hb3)) (Lib.hid hb4)) (Lib.hid hb5)
  have K5 := kt (kt (kt K2 (Lib.hid hb3)) (Lib.hid hb4)) (Lib.hid hb5)
  have E5 := Lib.hid (((E2.out.stay hb3).stay hb4).stay hb5)
  clear hb3 hb4 hb5 B2 K2 E2
  go_upto_region 3 with fail
  obtain ⟨g2, hg2⟩ : ∃ g, w5.heap.size = g := ⟨_, rfl⟩
  obtain ⟨w6, hw6⟩ : ∃ v, ((w5.alloc (.cells #[.int .u8 0, .bool true, .int .u32 16] 25)).alloc (.cells #[.int .u8 0, .bool false, .int .u32 1] 25)).alloc (.cells #[.int .u8 0, .bool false, .int .u32 2] 25) = v := ⟨_, rfl⟩
  have hb6 : Below w5.heap.size w5 w6 := by rw [← hw6]; exact bel3 _ _ _ _
  have k2 : Bk w6 g2 25 [.int .u8 0, .bool true, .int .u32 16] := by rw [← hw6, ← hg2]; exact ((Bk.new w5 _ [_, _, _]).alloc _).alloc _
  have k3 : Bk w6 (g2 + 1) 25 [.int .u8 0, .bool false, .int .u32 1] := by
    have := (Bk.new (w5.alloc (.cells #[.int .u8 0, .bool true, .int .u32 16] 25)) 25 [.int .u8 0, .bool false, .int .u32 1]).alloc (.cells #[.int .u8 0, .bool false, .int .u32 2] 25)
    rw [World.size_alloc, hg2] at this
    rw [← hw6]; exact this
  have k4 : Bk w6 (g2 + 1 + 1) 25 [.int .u8 0, .bool false, .int .u32 2] := by
    have := Bk.new ((w5.alloc (.cells #[.int .u8 0, .bool true, .int .u32 16] 25)).alloc (.cells #[.int .u8 0, .bool false, .int .u32 1] 25)) 25 [.int .u8 0, .bool false, .int .u32 2]
    rw [World.size_alloc, World.size_alloc, hg2] at this
    rw [← hw6]; exact this
  rw [hw6, hg2]
  obtain ⟨g3, hg3⟩ : ∃ g, g2 + 1 = g := ⟨_, rfl⟩
  rw [hg3] at k3 k4 ⊢
  obtain ⟨g4, hg4⟩ : ∃ g, g3 + 1 = g := ⟨_, rfl⟩
  rw [hg4] at k4 ⊢
  have LK : Hid (LvK w g1 g2 g3 g4 B w6) := Lib.hid ⟨K5.out.below hb6 K5.out.lt, k2, k3, k4, E5.out.stay hb6, B5.out.trans (hb6.mono B5.out.size)⟩
  clear hb6 k2 k3 k4 hw6 hg2 hg3 hg4 K5 E5 B5
  obtain ⟨x1, x2, x3, x4, x5, x6, x7, x8, x9, x10, x11, x12, x13, x14⟩ := LK.out.cells
  go_wp2_with fail
  clear x1 x2 x3 x4 x5 x6 x7 x8 x9 x10 x11 x12 x13 x14
  have hl := fl_rd w6 [⟨0, 2, false, false, false⟩, ⟨0, 1, false, false, false⟩]
  have hbl := Lib.hid (bel1 w6 (.cells (csF [⟨0, 2, false, false, false⟩, ⟨0, 1, false, false, false⟩]).toArray 54))
  have LK_ := lk LK hbl
  clear LK
  have LK := LK_
  clear LK_
  refine (seq_kn _ B 0 16 true [⟨0, 2, false, false, false⟩, ⟨0, 1, false, false, false⟩] (some ⟨w6.heap.size, 0, none⟩) 2 2 LK.out.2.2.2.2.1 hl rfl (by decide) [0, 1] [] 0 (by decide +kernel)).mono ?_
  rintro e w7 ⟨A5, n5, c5, Q6, m5, d5, rfl, hI, _, hcm, hrI, hP, _, hdm, hrP, hx, hb⟩
  obtain ⟨hx1, hx2⟩ := hx rfl
  obtain rfl : n5 = 2 := by simpa using hI.symm
  obtain rfl : m5 = 0 := by simpa using hP.symm
  subst hx1 hx2
  have hbh := Lib.hid hb
  clear hb hx hI hP hcm hdm hl hbl
  have LK_ := lk LK hbh
  clear LK
  have LK := LK_
  clear LK_
  clear hbh
  have RA5 := Lib.hid hrI.rd
  have RQ6 := Lib.hid hrP.rd
  clear hrI hrP
  go_upto_region 4 with fail
  obtain ⟨g6, hg6⟩ : ∃ g, w7.heap.size = g := ⟨_, rfl⟩
  obtain ⟨w8, hw⟩ : ∃ v, w7.alloc (.cells #[.slice Q6 0 0, .int .i64 0] 38) = v := ⟨_, rfl⟩
  have hb := Lib.hid (show Below w7.heap.size w7 w8 by rw [← hw]; exact bel1 _ _)
  have Fg6 := Lib.hid (show Bk w8 g6 38 [.slice Q6 0 0, .int .i64 0] by rw [← hw, ← hg6]; exact Bk.new w7 _ [_, _])
  rw [hw, hg6]
  have LK_ := lk LK hb
  clear LK
  have LK := LK_
  clear LK_
  have RA5_ := rt RA5 hb
  clear RA5
  have RA5 := RA5_
  clear RA5_
  have RQ6_ := rt RQ6 hb
  clear RQ6
  have RQ6 := RQ6_
  clear RQ6_
  clear hb hw hg6
  obtain ⟨x1, x2, x3, x4, x5, x6, x7, x8, x9, x10, x11, x12, x13, x14⟩ := LK.out.cells
  go_wp2_with fail
  clear x1 x2 x3 x4 x5 x6 x7 x8 x9 x10 x11 x12 x13 x14
  have hl := fl_rd w8 [⟨0, 2, false, false, false⟩, ⟨0, 2, false, false, true⟩, ⟨0, 1, false, false, false⟩, ⟨0, 0, false, true, true⟩]
  have hbl := Lib.hid (bel1 w8 (.cells (csF [⟨0, 2, false, false, false⟩, ⟨0, 2, false, false, true⟩, ⟨0, 1, false, false, false⟩, ⟨0, 0, false, true, true⟩]).toArray 54))
  have LK_ := lk LK hbl
  clear LK
  have LK := LK_
  clear LK_
  have RA5_ := rt RA5 hbl
  clear RA5
  have RA5 := RA5_
  clear RA5_
  have RQ6_ := rt RQ6 hbl
  clear RQ6
  have RQ6 := RQ6_
  clear RQ6_
  have Fg6_ := kt Fg6 hbl
  clear Fg6
  have Fg6 := Fg6_
  clear Fg6_
  refine (seq_kn _ B 0 16 true [⟨0, 2, false, false, false⟩, ⟨0, 2, false, false, true⟩, ⟨0, 1, false, false, false⟩, ⟨0, 0, false, true, true⟩] (some ⟨w8.heap.size, 0, none⟩) 4 4 LK.out.2.2.2.2.1 hl rfl (by decide) [0, -1, 1, -1] [] 0 (by decide +kernel)).mono ?_
  rintro e w9 ⟨A7, n5, c5, Q8, m5, d5, rfl, hI, _, hcm, hrI, hP, _, hdm, hrP, hx, hb⟩
  obtain ⟨hx1, hx2⟩ := hx rfl
  obtain rfl : n5 = 4 := by simpa using hI.symm
  obtain rfl : m5 = 0 := by simpa using hP.symm
  subst hx1 hx2
  have hbh := Lib.hid hb
  clear hb hx hI hP hcm hdm hl hbl
  have LK_ := lk LK hbh
  clear LK
  have LK := LK_
  clear LK_
  have RA5_ := rt RA5 hbh
  clear RA5
  have RA5 := RA5_
  clear RA5_
  have RQ6_ := rt RQ6 hbh
  clear RQ6
  have RQ6 := RQ6_
  clear RQ6_
  have Fg6_ := kt Fg6 hbh
  clear Fg6
  have Fg6 := Fg6_
  clear Fg6_
  clear hbh
  have RA7 := Lib.hid hrI.rd
  have RQ8 := Lib.hid hrP.rd
  clear hrI hrP
  go_upto_region 5 with fail
  obtain ⟨g8, hg8⟩ : ∃ g, w9.heap.size = g := ⟨_, rfl⟩
  obtain ⟨w10, hw⟩ : ∃ v, w9.alloc (.cells #[.slice Q8 0 0, .int .i64 0] 38) = v := ⟨_, rfl⟩
  have hb := Lib.hid (show Below w9.heap.size w9 w10 by rw [← hw]; exact bel1 _ _)
  have Fg8 := Lib.hid (show Bk w10 g8 38 [.slice Q8 0 0, .int .i64 0] by rw [← hw, ← hg8]; exact Bk.new w9 _ [_, _])
  rw [hw, hg8]
  have LK_ := lk LK hb
  clear LK
  have LK := LK_
  clear LK_
  have RA5_ := rt RA5 hb
  clear RA5
  have RA5 := RA5_
  clear RA5_
  have RQ6_ := rt RQ6 hb
  clear RQ6
  have RQ6 := RQ6_
  clear RQ6_
  have Fg6_ := kt Fg6 hb
  clear Fg6
  have Fg6 := Fg6_
  clear Fg6_
  have RA7_ := rt RA7 hb
  clear RA7
  have RA7 := RA7_
  clear RA7_
  have RQ8_ := rt RQ8 hb
  clear RQ8
  have RQ8 := RQ8_
  clear RQ8_
  clear hb hw hg8
  have hw1 : IntKind.i64.wrap 1 = 1 := by rw [IntKind.wrap_i64]; omega
  have HSR := Lib.hid (show ∀ W, Below w10.heap.size w10 W → W.cell? ⟨g6, 0, none⟩ = some (.slice Q6 0 0) ∧ W.cell? ⟨g6, 1, none⟩ = some (.int .i64 0) ∧ W.cell? ⟨g8, 0, none⟩ = some (.slice Q8 0 0) ∧ W.cell? ⟨g8, 1, none⟩ = some (.int .i64 0) ∧ Below w10.heap.size w10 W from fun W hW => ⟨(hW.cell (p := ⟨g6, 0, none⟩) Fg6.out.lt).trans (Fg6.out.cell 0), (hW.cell (p := ⟨g6, 1, none⟩) Fg6.out.lt).trans (Fg6.out.cell 1), (hW.cell (p := ⟨g8, 0, none⟩) Fg8.out.lt).trans (Fg8.out.cell 0), (hW.cell (p := ⟨g8, 1, none⟩) Fg8.out.lt).trans (Fg8.out.cell 1), hW⟩)
  go_cut [70] (fun z wx => z = .bool false ∧ Below w10.heap.size w10 wx)
  case first =>
    refine wp_region_held_drew (S := fun W => W.cell? ⟨g6, 0, none⟩ = some (.slice Q6 0 0) ∧ W.cell? ⟨g6, 1, none⟩ = some (.int .i64 0) ∧ W.cell? ⟨g8, 0, none⟩ = some (.slice Q8 0 0) ∧ W.cell? ⟨g8, 1, none⟩ = some (.int .i64 0) ∧ Below w10.heap.size w10 W) (by kernel_rfl) (HSR.out _ (Below.refl w10.heap.size w10).drew) (fun hS => ?_)
    obtain ⟨wd, hwd⟩ : ∃ v, w10.drew = v := ⟨_, rfl⟩
    have d0 : Below w10.heap.size w10 wd := by rw [← hwd]; exact (Below.refl w10.heap.size w10).drew
    rw [hwd] at hS ⊢
    clear hwd
    refine wpAnyH_take (i := 0) (oi := ⟨some 55, _, _, _, _, _⟩) (v := .slice A5 2 2) rfl (by kernel_rfl) (by kernel_rfl) (by kernel_rfl) (fun _ _ _ h => h) (Or.inl ⟨by rfl, fun w hSw => by (try obtain ⟨s1, s2, s3, s4, s5⟩ := hSw); go_simp⟩) hS ?_
    (try simp only [Act.put, List.setIfInBounds_toArray, List.set_cons_zero, List.set_cons_succ])
    refine wpAnyH_take (i := 3) (oi := ⟨some 58, _, _, _, _, _⟩) (v := .slice A7 4 4) rfl (by kernel_rfl) (by kernel_rfl) (by kernel_rfl) (fun _ _ _ h => h) (Or.inl ⟨by rfl, fun w hSw => by (try obtain ⟨s1, s2, s3, s4, s5⟩ := hSw); go_simp⟩) hS ?_
    (try simp only [Act.put, List.setIfInBounds_toArray, List.set_cons_zero, List.set_cons_succ])
    refine wpAnyH_take (i := 7) (oi := ⟨some 62, _, _, _, _, _⟩) (v := .agg #[.slice Q6 0 0, .int .i64 0]) rfl (by kernel_rfl) (by kernel_rfl) (by kernel_rfl) (fun _ _ _ h => h) (Or.inl ⟨by rfl, fun w hSw => by (try obtain ⟨s1, s2, s3, s4, s5⟩ := hSw); go_simp⟩) hS ?_
    (try simp only [Act.put, List.setIfInBounds_toArray, List.set_cons_zero, List.set_cons_succ])
    refine wpAnyH_take (i := 8) (oi := ⟨some 63, _, _, _, _, _⟩) (v := .agg #[.slice none 0 0, .int .i64 0]) rfl (by kernel_rfl) (by kernel_rfl) (by kernel_rfl) (fun _ _ _ h => h) (Or.inl ⟨by rfl, fun w hSw => by (try obtain ⟨s1, s2, s3, s4, s5⟩ := hSw); go_simp⟩) hS ?_
    (try simp only [Act.put, List.setIfInBounds_toArray, List.set_cons_zero, List.set_cons_succ])
    refine wpAnyH_take (i := 11) (oi := ⟨some 66, _, _, _, _, _⟩) (v := .agg #[.slice Q8 0 0, .int .i64 0]) rfl (by kernel_rfl) (by kernel_rfl) (by kernel_rfl) (fun _ _ _ h => h) (Or.inl ⟨by rfl, fun w hSw => by (try obtain ⟨s1, s2, s3, s4, s5⟩ := hSw); go_simp⟩) hS ?_
    (try simp only [Act.put, List.setIfInBounds_toArray, List.set_cons_zero, List.set_cons_succ])
    refine wpAnyH_take (i := 12) (oi := ⟨some 67, _, _, _, _, _⟩) (v := .agg #[.slice none 0 0, .int .i64 0]) rfl (by kernel_rfl) (by kernel_rfl) (by kernel_rfl) (fun _ _ _ h => h) (Or.inl ⟨by rfl, fun w hSw => by (try obtain ⟨s1, s2, s3, s4, s5⟩ := hSw); go_simp⟩) hS ?_
    (try simp only [Act.put, List.setIfInBounds_toArray, List.set_cons_zero, List.set_cons_succ])
    have da := d0.alloc d0.size (.cells #[.int .i64 0, .int .i64 1] 3)
    have db := d0.alloc d0.size (.cells #[.int .i64 0, .int .i64 (-1), .int .i64 1, .int .i64 (-1)] 3)
    have dab := da.alloc da.size (.cells #[.int .i64 0, .int .i64 (-1), .int .i64 1, .int .i64 (-1)] 3)
    have dba := db.alloc db.size (.cells #[.int .i64 0, .int .i64 1] 3)
    refine wpAnyH_ready (rs := [1, 4]) (by kernel_rfl) (by simp) ?_
    refine AllReadyH.cons (o := _) rfl (fun K hK => ?_) (AllReadyH.cons (o := _) rfl (fun K hK => ?_) (AllReadyH.nil))
    · go_simp
      refine hK.out _ _ (HSR.out _ da) (fun hS9 => ?_)
      clear hK K hS
      have hS := hS9
      clear hS9
      (try simp only [Act.put, List.setIfInBounds_toArray, List.set_cons_zero, List.set_cons_succ])
      refine wpAnyH_ready (rs := [2, 4]) (by kernel_rfl) (by simp) ?_
      refine AllReadyH.cons (o := _) rfl (fun K hK => ?_) (AllReadyH.cons (o := _) rfl (fun K hK => ?_) (AllReadyH.nil))
      · go_simp
        refine (ints_eq [0, 1] A5 _ 2 2 2 _ (RA5.out.below da) (inA wd) rfl (by unfold maxLen; omega)).mono ?_
        rintro e v1 ⟨rfl, hv1⟩
        have d1 : Below w10.heap.size w10 v1 := bt0 da hv1
        go_simp
        refine hK.out _ _ (HSR.out _ d1) (fun hS9 => ?_)
        clear hK K hS
        have hS := hS9
        clear hS9
        (try simp only [Act.put, List.setIfInBounds_toArray, List.set_cons_zero, List.set_cons_succ])
        refine wpAnyH_ready (rs := [4]) (by kernel_rfl) (by simp) ?_
        refine AllReadyH.cons (o := _) rfl (fun K hK => ?_) (AllReadyH.nil)
        go_simp
        refine hK.out _ _ (HSR.out _ (d1.alloc d1.size (.cells #[.int .i64 0, .int .i64 (-1), .int .i64 1, .int .i64 (-1)] 3))) (fun hS9 => ?_)
        clear hK K hS
        have hS := hS9
        clear hS9
        (try simp only [Act.put, List.setIfInBounds_toArray, List.set_cons_zero, List.set_cons_succ])
        refine wpAnyH_ready (rs := [5]) (by kernel_rfl) (by simp) ?_
        refine AllReadyH.cons (o := _) rfl (fun K hK => ?_) (AllReadyH.nil)
        go_simp
        refine (ints_eq [0, -1, 1, -1] A7 _ 4 4 4 _ (RA7.out.below (d1.alloc d1.size (.cells #[.int .i64 0, .int .i64 (-1), .int .i64 1, .int .i64 (-1)] 3))) (inB v1) rfl (by unfold maxLen; omega)).mono ?_
        rintro e v2 ⟨rfl, hv2⟩
        have d2 : Below w10.heap.size w10 v2 := bt0 (d1.alloc d1.size (.cells #[.int .i64 0, .int .i64 (-1), .int .i64 1, .int .i64 (-1)] 3)) hv2
        go_simp
        refine hK.out _ _ (HSR.out _ d2) (fun hS9 => ?_)
        clear hK K hS
        have hS := hS9
        clear hS9
        (try simp only [Act.put, List.setIfInBounds_toArray, List.set_cons_zero, List.set_cons_succ])
        refine wpAnyH_take (i := 6) (oi := ⟨some 61, _, _, _, _, _⟩) (v := .int .i64 1) rfl (by kernel_rfl) (by kernel_rfl) (by kernel_rfl) (fun _ _ _ h => h) (Or.inl ⟨by rfl, fun w _ => by go_simp⟩) hS ?_
        (try simp only [Act.put, List.setIfInBounds_toArray, List.set_cons_zero, List.set_cons_succ])
        refine wpAnyH_ready (rs := [9]) (by kernel_rfl) (by simp) ?_
        refine AllReadyH.cons (o := _) rfl (fun K hK => ?_) (AllReadyH.nil)
        go_simp
        refine (lfault_eq [] 0 Q6 none 0 0 _ (RQ6.out.below d2) Rd.nil rfl (by unfold maxLen; omega)).mono ?_
        rintro e v3 ⟨rfl, hv3⟩
        have d3 : Below w10.heap.size w10 v3 := bt0 d2 hv3
        go_simp
        refine hK.out _ _ (HSR.out _ d3) (fun hS9 => ?_)
        clear hK K hS
        have hS := hS9
        clear hS9
        (try simp only [Act.put, List.setIfInBounds_toArray, List.set_cons_zero, List.set_cons_succ])
        refine wpAnyH_take (i := 10) (oi := ⟨some 65, _, _, _, _, _⟩) (v := .int .i64 1) rfl (by kernel_rfl) (by kernel_rfl) (by kernel_rfl) (fun _ _ _ h => h) (Or.inl ⟨by rfl, fun w _ => by go_simp⟩) hS ?_
        (try simp only [Act.put, List.setIfInBounds_toArray, List.set_cons_zero, List.set_cons_succ])
        refine wpAnyH_ready (rs := [13]) (by kernel_rfl) (by simp) ?_
        refine AllReadyH.cons (o := _) rfl (fun K hK => ?_) (AllReadyH.nil)
        go_simp
        refine (lfault_eq [] 0 Q8 none 0 0 _ (RQ8.out.below d3) Rd.nil rfl (by unfold maxLen; omega)).mono ?_
        rintro e v4 ⟨rfl, hv4⟩
        have d4 : Below w10.heap.size w10 v4 := bt0 d3 hv4
        go_simp
        refine hK.out _ _ (HSR.out _ d4) (fun hS9 => ?_)
        clear hK K hS
        have hS := hS9
        clear hS9
        (try simp only [Act.put, List.setIfInBounds_toArray, List.set_cons_zero, List.set_cons_succ])
        refine wpAnyH_take (i := 14) (oi := ⟨some 69, _, _, _, _, _⟩) (v := .int .i64 1) rfl (by kernel_rfl) (by kernel_rfl) (by kernel_rfl) (fun _ _ _ h => h) (Or.inl ⟨by rfl, fun w _ => by go_simp⟩) hS ?_
        (try simp only [Act.put, List.setIfInBounds_toArray, List.set_cons_zero, List.set_cons_succ])
        refine wpAnyH_take (i := 15) (oi := ⟨some 70, _, _, _, _, _⟩) (v := .bool false) rfl (by kernel_rfl) (by kernel_rfl) (by kernel_rfl) (fun _ _ _ h => h) (Or.inl ⟨by rfl, fun w _ => by go_simp⟩) hS ?_
        (try simp only [Act.put, List.setIfInBounds_toArray, List.set_cons_zero, List.set_cons_succ])
        refine wpAnyH_done (by kernel_rfl) ?_ _
        clear hS hw1 hv4 hv3 hv2 hv1 d0 d1 d2 d3 da db dab dba
        have HD4 := Lib.hid d4
        clear d4
        go_wp2_with fail
        go_meet
        exact ⟨rfl, HD4.out⟩
      · go_simp
        refine hK.out _ _ (HSR.out _ dab) (fun hS9 => ?_)
        clear hK K hS
        have hS := hS9
        clear hS9
        (try simp only [Act.put, List.setIfInBounds_toArray, List.set_cons_zero, List.set_cons_succ])
        refine wpAnyH_ready (rs := [2]) (by kernel_rfl) (by simp) ?_
        refine AllReadyH.cons (o := _) rfl (fun K hK => ?_) (AllReadyH.nil)
        go_simp
        refine (ints_eq [0, 1] A5 _ 2 2 2 _ (RA5.out.below dab) ((inA wd).below (bel1 (wd.alloc (.cells #[.int .i64 0, .int .i64 1] 3)) (.cells #[.int .i64 0, .int .i64 (-1), .int .i64 1, .int .i64 (-1)] 3))) rfl (by unfold maxLen; omega)).mono ?_
        rintro e v1 ⟨rfl, hv1⟩
        have d1 : Below w10.heap.size w10 v1 := bt0 dab hv1
        go_simp
        refine hK.out _ _ (HSR.out _ d1) (fun hS9 => ?_)
        clear hK K hS
        have hS := hS9
        clear hS9
        (try simp only [Act.put, List.setIfInBounds_toArray, List.set_cons_zero, List.set_cons_succ])
        refine wpAnyH_ready (rs := [5]) (by kernel_rfl) (by simp) ?_
        refine AllReadyH.cons (o := _) rfl (fun K hK => ?_) (AllReadyH.nil)
        go_simp
        refine (ints_eq [0, -1, 1, -1] A7 _ 4 4 4 _ (RA7.out.below d1) ((inBp (wd.alloc (.cells #[.int .i64 0, .int .i64 1] 3)) (wd.heap.size + 1) (by rw [World.size_alloc])).below hv1) rfl (by unfold maxLen; omega)).mono ?_
        rintro e v2 ⟨rfl, hv2⟩
        have d2 : Below w10.heap.size w10 v2 := bt0 d1 hv2
        go_simp
        refine hK.out _ _ (HSR.out _ d2) (fun hS9 => ?_)
        clear hK K hS
        have hS := hS9
        clear hS9
        (try simp only [Act.put, List.setIfInBounds_toArray, List.set_cons_zero, List.set_cons_succ])
        refine wpAnyH_take (i := 6) (oi := ⟨some 61, _, _, _, _, _⟩) (v := .int .i64 1) rfl (by kernel_rfl) (by kernel_rfl) (by kernel_rfl) (fun _ _ _ h => h) (Or.inl ⟨by rfl, fun w _ => by go_simp⟩) hS ?_
        (try simp only [Act.put, List.setIfInBounds_toArray, List.set_cons_zero, List.set_cons_succ])
        refine wpAnyH_ready (rs := [9]) (by kernel_rfl) (by simp) ?_
        refine AllReadyH.cons (o := _) rfl (fun K hK => ?_) (AllReadyH.nil)
        go_simp
        refine (lfault_eq [] 0 Q6 none 0 0 _ (RQ6.out.below d2) Rd.nil rfl (by unfold maxLen; omega)).mono ?_
        rintro e v3 ⟨rfl, hv3⟩
        have d3 : Below w10.heap.size w10 v3 := bt0 d2 hv3
        go_simp
        refine hK.out _ _ (HSR.out _ d3) (fun hS9 => ?_)
        clear hK K hS
        have hS := hS9
        clear hS9
        (try simp only [Act.put, List.setIfInBounds_toArray, List.set_cons_zero, List.set_cons_succ])
        refine wpAnyH_take (i := 10) (oi := ⟨some 65, _, _, _, _, _⟩) (v := .int .i64 1) rfl (by kernel_rfl) (by kernel_rfl) (by kernel_rfl) (fun _ _ _ h => h) (Or.inl ⟨by rfl, fun w _ => by go_simp⟩) hS ?_
        (try simp only [Act.put, List.setIfInBounds_toArray, List.set_cons_zero, List.set_cons_succ])
        refine wpAnyH_ready (rs := [13]) (by kernel_rfl) (by simp) ?_
        refine AllReadyH.cons (o := _) rfl (fun K hK => ?_) (AllReadyH.nil)
        go_simp
        refine (lfault_eq [] 0 Q8 none 0 0 _ (RQ8.out.below d3) Rd.nil rfl (by unfold maxLen; omega)).mono ?_
        rintro e v4 ⟨rfl, hv4⟩
        have d4 : Below w10.heap.size w10 v4 := bt0 d3 hv4
        go_simp
        refine hK.out _ _ (HSR.out _ d4) (fun hS9 => ?_)
        clear hK K hS
        have hS := hS9
        clear hS9
        (try simp only [Act.put, List.setIfInBounds_toArray, List.set_cons_zero, List.set_cons_succ])
        refine wpAnyH_take (i := 14) (oi := ⟨some 69, _, _, _, _, _⟩) (v := .int .i64 1) rfl (by kernel_rfl) (by kernel_rfl) (by kernel_rfl) (fun _ _ _ h => h) (Or.inl ⟨by rfl, fun w _ => by go_simp⟩) hS ?_
        (try simp only [Act.put, List.setIfInBounds_toArray, List.set_cons_zero, List.set_cons_succ])
        refine wpAnyH_take (i := 15) (oi := ⟨some 70, _, _, _, _, _⟩) (v := .bool false) rfl (by kernel_rfl) (by kernel_rfl) (by kernel_rfl) (fun _ _ _ h => h) (Or.inl ⟨by rfl, fun w _ => by go_simp⟩) hS ?_
        (try simp only [Act.put, List.setIfInBounds_toArray, List.set_cons_zero, List.set_cons_succ])
        refine wpAnyH_done (by kernel_rfl) ?_ _
        clear hS hw1 hv4 hv3 hv2 hv1 d0 d1 d2 d3 da db dab dba
        have HD4 := Lib.hid d4
        clear d4
        go_wp2_with fail
        go_meet
        exact ⟨rfl, HD4.out⟩
    · go_simp
      refine hK.out _ _ (HSR.out _ db) (fun hS9 => ?_)
      clear hK K hS
      have hS := hS9
      clear hS9
      (try simp only [Act.put, List.setIfInBounds_toArray, List.set_cons_zero, List.set_cons_succ])
      refine wpAnyH_ready (rs := [1]) (by kernel_rfl) (by simp) ?_
      refine AllReadyH.cons (o := _) rfl (fun K hK => ?_) (AllReadyH.nil)
      go_simp
      refine hK.out _ _ (HSR.out _ dba) (fun hS9 => ?_)
      clear hK K hS
      have hS := hS9
      clear hS9
      (try simp only [Act.put, List.setIfInBounds_toArray, List.set_cons_zero, List.set_cons_succ])
      refine wpAnyH_ready (rs := [2]) (by kernel_rfl) (by simp) ?_
      refine AllReadyH.cons (o := _) rfl (fun K hK => ?_) (AllReadyH.nil)
      go_simp
      refine (ints_eq [0, 1] A5 _ 2 2 2 _ (RA5.out.below dba) (inAp (wd.alloc (.cells #[.int .i64 0, .int .i64 (-1), .int .i64 1, .int .i64 (-1)] 3)) (wd.heap.size + 1) (by rw [World.size_alloc])) rfl (by unfold maxLen; omega)).mono ?_
      rintro e v1 ⟨rfl, hv1⟩
      have d1 : Below w10.heap.size w10 v1 := bt0 dba hv1
      go_simp
      refine hK.out _ _ (HSR.out _ d1) (fun hS9 => ?_)
      clear hK K hS
      have hS := hS9
      clear hS9
      (try simp only [Act.put, List.setIfInBounds_toArray, List.set_cons_zero, List.set_cons_succ])
      refine wpAnyH_ready (rs := [5]) (by kernel_rfl) (by simp) ?_
      refine AllReadyH.cons (o := _) rfl (fun K hK => ?_) (AllReadyH.nil)
      go_simp
      refine (ints_eq [0, -1, 1, -1] A7 _ 4 4 4 _ (RA7.out.below d1) (((inB wd).below (bel1 (wd.alloc (.cells #[.int .i64 0, .int .i64 (-1), .int .i64 1, .int .i64 (-1)] 3)) (.cells #[.int .i64 0, .int .i64 1] 3))).below hv1) rfl (by unfold maxLen; omega)).mono ?_
      rintro e v2 ⟨rfl, hv2⟩
      have d2 : Below w10.heap.size w10 v2 := bt0 d1 hv2
      go_simp
      refine hK.out _ _ (HSR.out _ d2) (fun hS9 => ?_)
      clear hK K hS
      have hS := hS9
      clear hS9
      (try simp only [Act.put, List.setIfInBounds_toArray, List.set_cons_zero, List.set_cons_succ])
      refine wpAnyH_take (i := 6) (oi := ⟨some 61, _, _, _, _, _⟩) (v := .int .i64 1) rfl (by kernel_rfl) (by kernel_rfl) (by kernel_rfl) (fun _ _ _ h => h) (Or.inl ⟨by rfl, fun w _ => by go_simp⟩) hS ?_
      (try simp only [Act.put, List.setIfInBounds_toArray, List.set_cons_zero, List.set_cons_succ])
      refine wpAnyH_ready (rs := [9]) (by kernel_rfl) (by simp) ?_
      refine AllReadyH.cons (o := _) rfl (fun K hK => ?_) (AllReadyH.nil)
      go_simp
      refine (lfault_eq [] 0 Q6 none 0 0 _ (RQ6.out.below d2) Rd.nil rfl (by unfold maxLen; omega)).mono ?_
      rintro e v3 ⟨rfl, hv3⟩
      have d3 : Below w10.heap.size w10 v3 := bt0 d2 hv3
      go_simp
      refine hK.out _ _ (HSR.out _ d3) (fun hS9 => ?_)
      clear hK K hS
      have hS := hS9
      clear hS9
      (try simp only [Act.put, List.setIfInBounds_toArray, List.set_cons_zero, List.set_cons_succ])
      refine wpAnyH_take (i := 10) (oi := ⟨some 65, _, _, _, _, _⟩) (v := .int .i64 1) rfl (by kernel_rfl) (by kernel_rfl) (by kernel_rfl) (fun _ _ _ h => h) (Or.inl ⟨by rfl, fun w _ => by go_simp⟩) hS ?_
      (try simp only [Act.put, List.setIfInBounds_toArray, List.set_cons_zero, List.set_cons_succ])
      refine wpAnyH_ready (rs := [13]) (by kernel_rfl) (by simp) ?_
      refine AllReadyH.cons (o := _) rfl (fun K hK => ?_) (AllReadyH.nil)
      go_simp
      refine (lfault_eq [] 0 Q8 none 0 0 _ (RQ8.out.below d3) Rd.nil rfl (by unfold maxLen; omega)).mono ?_
      rintro e v4 ⟨rfl, hv4⟩
      have d4 : Below w10.heap.size w10 v4 := bt0 d3 hv4
      go_simp
      refine hK.out _ _ (HSR.out _ d4) (fun hS9 => ?_)
      clear hK K hS
      have hS := hS9
      clear hS9
      (try simp only [Act.put, List.setIfInBounds_toArray, List.set_cons_zero, List.set_cons_succ])
      refine wpAnyH_take (i := 14) (oi := ⟨some 69, _, _, _, _, _⟩) (v := .int .i64 1) rfl (by kernel_rfl) (by kernel_rfl) (by kernel_rfl) (fun _ _ _ h => h) (Or.inl ⟨by rfl, fun w _ => by go_simp⟩) hS ?_
      (try simp only [Act.put, List.setIfInBounds_toArray, List.set_cons_zero, List.set_cons_succ])
      refine wpAnyH_take (i := 15) (oi := ⟨some 70, _, _, _, _, _⟩) (v := .bool false) rfl (by kernel_rfl) (by kernel_rfl) (by kernel_rfl) (fun _ _ _ h => h) (Or.inl ⟨by rfl, fun w _ => by go_simp⟩) hS ?_
      (try simp only [Act.put, List.setIfInBounds_toArray, List.set_cons_zero, List.set_cons_succ])
      refine wpAnyH_done (by kernel_rfl) ?_ _
      clear hS hw1 hv4 hv3 hv2 hv1 d0 d1 d2 d3 da db dab dba
      have HD4 := Lib.hid d4
      clear d4
      go_wp2_with fail
      go_meet
      exact ⟨rfl, HD4.out⟩
  case rest =>
    obtain ⟨rfl, hbx⟩ := hcut
    have hbh := Lib.hid hbx
    clear hbx HSR
    generalize wc = w11 at *
    have LK_ := lk LK hbh
    clear LK
    have LK := LK_
    clear LK_
    have RA5_ := rt RA5 hbh
    clear RA5
    have RA5 := RA5_
    clear RA5_
    have RQ6_ := rt RQ6 hbh
    clear RQ6
    have RQ6 := RQ6_
    clear RQ6_
    have Fg6_ := kt Fg6 hbh
    clear Fg6
    have Fg6 := Fg6_
    clear Fg6_
    have RA7_ := rt RA7 hbh
    clear RA7
    have RA7 := RA7_
    clear RA7_
    have RQ8_ := rt RQ8 hbh
    clear RQ8
    have RQ8 := RQ8_
    clear RQ8_
    have Fg8_ := kt Fg8 hbh
    clear Fg8
    have Fg8 := Fg8_
    clear Fg8_
    clear hbh
    clear RA5 RA7 RQ6 RQ8 Fg6 Fg8
    obtain ⟨x1, x2, x3, x4, x5, x6, x7, x8, x9, x10, x11, x12, x13, x14⟩ := LK.out.cells
    go_wp2_with fail
    clear x1 x2 x3 x4 x5 x6 x7 x8 x9 x10 x11 x12 x13 x14
    have hl := fl_rd w11 [⟨0, 1, false, false, false⟩, ⟨0, 2, false, false, false⟩]
    have hbl := Lib.hid (bel1 w11 (.cells (csF [⟨0, 1, false, false, false⟩, ⟨0, 2, false, false, false⟩]).toArray 54))
    have LK_ := lk LK hbl
    clear LK
    have LK := LK_
    clear LK_
    refine (seq_kn _ B 0 16 true [⟨0, 1, false, false, false⟩, ⟨0, 2, false, false, false⟩] (some ⟨w11.heap.size, 0, none⟩) 2 2 LK.out.2.2.2.2.1 hl rfl (by decide) [] [0] 9 (by decide +kernel)).mono ?_
    rintro e w12 ⟨A9, n5, c5, Q10, m5, d5, rfl, hI, _, hcm, hrI, hP, _, hdm, hrP, hx, hb⟩
    obtain ⟨hx1, hx2⟩ := hx rfl
    obtain rfl : n5 = 0 := by simpa using hI.symm
    obtain rfl : m5 = 1 := by simpa using hP.symm
    subst hx1 hx2
    have hbh := Lib.hid hb
    clear hb hx hI hP hcm hdm hl hbl
    have LK_ := lk LK hbh
    clear LK
    have LK := LK_
    clear LK_
    clear hbh
    have RQ10 := Lib.hid hrP.rd
    clear hrI hrP
    go_upto_region 8 with fail
    obtain ⟨g10, hg10⟩ : ∃ g, w12.heap.size = g := ⟨_, rfl⟩
    obtain ⟨w13, hw⟩ : ∃ v, w12.alloc (.cells #[.slice Q10 1 1, .int .i64 9] 38) = v := ⟨_, rfl⟩
    have hb := Lib.hid (show Below w12.heap.size w12 w13 by rw [← hw]; exact bel1 _ _)
    have Fg10 := Lib.hid (show Bk w13 g10 38 [.slice Q10 1 1, .int .i64 9] by rw [← hw, ← hg10]; exact Bk.new w12 _ [_, _])
    rw [hw, hg10]
    have LK_ := lk LK hb
    clear LK
    have LK := LK_
    clear LK_
    have RQ10_ := rt RQ10 hb
    clear RQ10
    have RQ10 := RQ10_
    clear RQ10_
    clear hb hw hg10
    obtain ⟨x1, x2, x3, x4, x5, x6, x7, x8, x9, x10, x11, x12, x13, x14⟩ := LK.out.cells
    go_wp2_with fail
    clear x1 x2 x3 x4 x5 x6 x7 x8 x9 x10 x11 x12 x13 x14
    have hl := fl_rd w13 [⟨0, 2, false, false, false⟩]
    have hbl := Lib.hid (bel1 w13 (.cells (csF [⟨0, 2, false, false, false⟩]).toArray 54))
    have LK_ := lk LK hbl
    clear LK
    have LK := LK_
    clear LK_
    have RQ10_ := rt RQ10 hbl
    clear RQ10
    have RQ10 := RQ10_
    clear RQ10_
    have Fg10_ := kt Fg10 hbl
    clear Fg10
    have Fg10 := Fg10_
    clear Fg10_
    refine (seq_kn _ B 0 16 true [⟨0, 2, false, false, false⟩] (some ⟨w13.heap.size, 0, none⟩) 1 1 LK.out.2.2.2.2.1 hl rfl (by decide) [] [1] 8 (by decide +kernel)).mono ?_
    rintro e w14 ⟨A11, n5, c5, Q12, m5, d5, rfl, hI, _, hcm, hrI, hP, _, hdm, hrP, hx, hb⟩
    obtain ⟨hx1, hx2⟩ := hx rfl
    obtain rfl : n5 = 0 := by simpa using hI.symm
    obtain rfl : m5 = 1 := by simpa using hP.symm
    subst hx1 hx2
    have hbh := Lib.hid hb
    clear hb hx hI hP hcm hdm hl hbl
    have LK_ := lk LK hbh
    clear LK
    have LK := LK_
    clear LK_
    have RQ10_ := rt RQ10 hbh
    clear RQ10
    have RQ10 := RQ10_
    clear RQ10_
    have Fg10_ := kt Fg10 hbh
    clear Fg10
    have Fg10 := Fg10_
    clear Fg10_
    clear hbh
    have RQ12 := Lib.hid hrP.rd
    clear hrI hrP
    go_upto_region 9 with fail
    obtain ⟨g12, hg12⟩ : ∃ g, w14.heap.size = g := ⟨_, rfl⟩
    obtain ⟨w15, hw⟩ : ∃ v, w14.alloc (.cells #[.slice Q12 1 1, .int .i64 8] 38) = v := ⟨_, rfl⟩
    have hb := Lib.hid (show Below w14.heap.size w14 w15 by rw [← hw]; exact bel1 _ _)
    have Fg12 := Lib.hid (show Bk w15 g12 38 [.slice Q12 1 1, .int .i64 8] by rw [← hw, ← hg12]; exact Bk.new w14 _ [_, _])
    rw [hw, hg12]
    have LK_ := lk LK hb
    clear LK
    have LK := LK_
    clear LK_
    have RQ10_ := rt RQ10 hb
    clear RQ10
    have RQ10 := RQ10_
    clear RQ10_
    have Fg10_ := kt Fg10 hb
    clear Fg10
    have Fg10 := Fg10_
    clear Fg10_
    have RQ12_ := rt RQ12 hb
    clear RQ12
    have RQ12 := RQ12_
    clear RQ12_
    clear hb hw hg12
    obtain ⟨x1, x2, x3, x4, x5, x6, x7, x8, x9, x10, x11, x12, x13, x14⟩ := LK.out.cells
    go_wp2_with fail
    clear x1 x2 x3 x4 x5 x6 x7 x8 x9 x10 x11 x12 x13 x14
    have hl := fl_rd w15 [⟨0, 2, false, false, false⟩, ⟨0, 1, false, false, false⟩, ⟨0, 2, false, false, false⟩]
    have hbl := Lib.hid (bel1 w15 (.cells (csF [⟨0, 2, false, false, false⟩, ⟨0, 1, false, false, false⟩, ⟨0, 2, false, false, false⟩]).toArray 54))
    have LK_ := lk LK hbl
    clear LK
    have LK := LK_
    clear LK_
    have RQ10_ := rt RQ10 hbl
    clear RQ10
    have RQ10 := RQ10_
    clear RQ10_
    have Fg10_ := kt Fg10 hbl
    clear Fg10
    have Fg10 := Fg10_
    clear Fg10_
    have RQ12_ := rt RQ12 hbl
    clear RQ12
    have RQ12 := RQ12_
    clear RQ12_
    have Fg12_ := kt Fg12 hbl
    clear Fg12
    have Fg12 := Fg12_
    clear Fg12_
    refine (seq_kn _ B 0 16 true [⟨0, 2, false, false, false⟩, ⟨0, 1, false, false, false⟩, ⟨0, 2, false, false, false⟩] (some ⟨w15.heap.size, 0, none⟩) 3 3 LK.out.2.2.2.2.1 hl rfl (by decide) [] [] 7 (by decide +kernel)).mono ?_
    rintro e w16 ⟨A13, n5, c5, Q14, m5, d5, rfl, hI, _, hcm, hrI, hP, _, hdm, hrP, hx, hb⟩
    obtain ⟨hx1, hx2⟩ := hx rfl
    obtain rfl : n5 = 0 := by simpa using hI.symm
    obtain rfl : m5 = 0 := by simpa using hP.symm
    subst hx1 hx2
    have hbh := Lib.hid hb
    clear hb hx hI hP hcm hdm hl hbl
    have LK_ := lk LK hbh
    clear LK
    have LK := LK_
    clear LK_
    have RQ10_ := rt RQ10 hbh
    clear RQ10
    have RQ10 := RQ10_
    clear RQ10_
    have Fg10_ := kt Fg10 hbh
    clear Fg10
    have Fg10 := Fg10_
    clear Fg10_
    have RQ12_ := rt RQ12 hbh
    clear RQ12
    have RQ12 := RQ12_
    clear RQ12_
    have Fg12_ := kt Fg12 hbh
    clear Fg12
    have Fg12 := Fg12_
    clear Fg12_
    clear hbh
    have RQ14 := Lib.hid hrP.rd
    clear hrI hrP
    go_upto_region 10 with fail
    obtain ⟨g14, hg14⟩ : ∃ g, w16.heap.size = g := ⟨_, rfl⟩
    obtain ⟨w17, hw⟩ : ∃ v, w16.alloc (.cells #[.slice Q14 0 0, .int .i64 7] 38) = v := ⟨_, rfl⟩
    have hb := Lib.hid (show Below w16.heap.size w16 w17 by rw [← hw]; exact bel1 _ _)
    have Fg14 := Lib.hid (show Bk w17 g14 38 [.slice Q14 0 0, .int .i64 7] by rw [← hw, ← hg14]; exact Bk.new w16 _ [_, _])
    rw [hw, hg14]
    have LK_ := lk LK hb
    clear LK
    have LK := LK_
    clear LK_
    have RQ10_ := rt RQ10 hb
    clear RQ10
    have RQ10 := RQ10_
    clear RQ10_
    have Fg10_ := kt Fg10 hb
    clear Fg10
    have Fg10 := Fg10_
    clear Fg10_
    have RQ12_ := rt RQ12 hb
    clear RQ12
    have RQ12 := RQ12_
    clear RQ12_
    have Fg12_ := kt Fg12 hb
    clear Fg12
    have Fg12 := Fg12_
    clear Fg12_
    have RQ14_ := rt RQ14 hb
    clear RQ14
    have RQ14 := RQ14_
    clear RQ14_
    clear hb hw hg14
    obtain ⟨x1, x2, x3, x4, x5, x6, x7, x8, x9, x10, x11, x12, x13, x14⟩ := LK.out.cells
    go_wp2_with fail
    clear x1 x2 x3 x4 x5 x6 x7 x8 x9 x10 x11 x12 x13 x14
    have hl : Rd w17 none (csF []) := Rd.nil
    refine (seq_kn _ B 0 2 false [] none 0 0 LK.out.2.2.2.2.1 hl rfl (by decide) [] [] 9 (by decide +kernel)).mono ?_
    rintro e w18 ⟨A15, n5, c5, Q16, m5, d5, rfl, hI, _, hcm, hrI, hP, _, hdm, hrP, hx, hb⟩
    obtain ⟨hx1, hx2⟩ := hx rfl
    obtain rfl : n5 = 0 := by simpa using hI.symm
    obtain rfl : m5 = 0 := by simpa using hP.symm
    subst hx1 hx2
    have hbh := Lib.hid hb
    clear hb hx hI hP hcm hdm hl
    have LK_ := lk LK hbh
    clear LK
    have LK := LK_
    clear LK_
    have RQ10_ := rt RQ10 hbh
    clear RQ10
    have RQ10 := RQ10_
    clear RQ10_
    have Fg10_ := kt Fg10 hbh
    clear Fg10
    have Fg10 := Fg10_
    clear Fg10_
    have RQ12_ := rt RQ12 hbh
    clear RQ12
    have RQ12 := RQ12_
    clear RQ12_
    have Fg12_ := kt Fg12 hbh
    clear Fg12
    have Fg12 := Fg12_
    clear Fg12_
    have RQ14_ := rt RQ14 hbh
    clear RQ14
    have RQ14 := RQ14_
    clear RQ14_
    have Fg14_ := kt Fg14 hbh
    clear Fg14
    have Fg14 := Fg14_
    clear Fg14_
    clear hbh
    have RQ16 := Lib.hid hrP.rd
    clear hrI hrP
    go_upto_region 11 with fail
    obtain ⟨g16, hg16⟩ : ∃ g, w18.heap.size = g := ⟨_, rfl⟩
    obtain ⟨w19, hw⟩ : ∃ v, w18.alloc (.cells #[.slice Q16 0 0, .int .i64 9] 38) = v := ⟨_, rfl⟩
    have hb := Lib.hid (show Below w18.heap.size w18 w19 by rw [← hw]; exact bel1 _ _)
    have Fg16 := Lib.hid (show Bk w19 g16 38 [.slice Q16 0 0, .int .i64 9] by rw [← hw, ← hg16]; exact Bk.new w18 _ [_, _])
    rw [hw, hg16]
    have LK_ := lk LK hb
    clear LK
    have LK := LK_
    clear LK_
    have RQ10_ := rt RQ10 hb
    clear RQ10
    have RQ10 := RQ10_
    clear RQ10_
    have Fg10_ := kt Fg10 hb
    clear Fg10
    have Fg10 := Fg10_
    clear Fg10_
    have RQ12_ := rt RQ12 hb
    clear RQ12
    have RQ12 := RQ12_
    clear RQ12_
    have Fg12_ := kt Fg12 hb
    clear Fg12
    have Fg12 := Fg12_
    clear Fg12_
    have RQ14_ := rt RQ14 hb
    clear RQ14
    have RQ14 := RQ14_
    clear RQ14_
    have Fg14_ := kt Fg14 hb
    clear Fg14
    have Fg14 := Fg14_
    clear Fg14_
    have RQ16_ := rt RQ16 hb
    clear RQ16
    have RQ16 := RQ16_
    clear RQ16_
    clear hb hw hg16
    have HSR := Lib.hid (show ∀ W, Below w19.heap.size w19 W → W.cell? ⟨g10, 0, none⟩ = some (.slice Q10 1 1) ∧ W.cell? ⟨g10, 1, none⟩ = some (.int .i64 9) ∧ W.cell? ⟨g12, 0, none⟩ = some (.slice Q12 1 1) ∧ W.cell? ⟨g12, 1, none⟩ = some (.int .i64 8) ∧ W.cell? ⟨g14, 0, none⟩ = some (.slice Q14 0 0) ∧ W.cell? ⟨g14, 1, none⟩ = some (.int .i64 7) ∧ W.cell? ⟨g16, 0, none⟩ = some (.slice Q16 0 0) ∧ W.cell? ⟨g16, 1, none⟩ = some (.int .i64 9) ∧ Below w19.heap.size w19 W from fun W hW => ⟨(hW.cell (p := ⟨g10, 0, none⟩) Fg10.out.lt).trans (Fg10.out.cell 0), (hW.cell (p := ⟨g10, 1, none⟩) Fg10.out.lt).trans (Fg10.out.cell 1), (hW.cell (p := ⟨g12, 0, none⟩) Fg12.out.lt).trans (Fg12.out.cell 0), (hW.cell (p := ⟨g12, 1, none⟩) Fg12.out.lt).trans (Fg12.out.cell 1), (hW.cell (p := ⟨g14, 0, none⟩) Fg14.out.lt).trans (Fg14.out.cell 0), (hW.cell (p := ⟨g14, 1, none⟩) Fg14.out.lt).trans (Fg14.out.cell 1), (hW.cell (p := ⟨g16, 0, none⟩) Fg16.out.lt).trans (Fg16.out.cell 0), (hW.cell (p := ⟨g16, 1, none⟩) Fg16.out.lt).trans (Fg16.out.cell 1), hW⟩)
    have d0 : Below w19.heap.size w19 w19.drew := (Below.refl w19.heap.size w19).drew
    go_upto_region 11 with fail
    go_cut [125] (fun z0 wx => z0 = .bool false ∧ Below w19.heap.size w19 wx)
    case first =>
      go_region_held3 (fun W => W.cell? ⟨g10, 0, none⟩ = some (.slice Q10 1 1) ∧ W.cell? ⟨g10, 1, none⟩ = some (.int .i64 9) ∧ W.cell? ⟨g12, 0, none⟩ = some (.slice Q12 1 1) ∧ W.cell? ⟨g12, 1, none⟩ = some (.int .i64 8) ∧ W.cell? ⟨g14, 0, none⟩ = some (.slice Q14 0 0) ∧ W.cell? ⟨g14, 1, none⟩ = some (.int .i64 7) ∧ W.cell? ⟨g16, 0, none⟩ = some (.slice Q16 0 0) ∧ W.cell? ⟨g16, 1, none⟩ = some (.int .i64 9) ∧ Below w19.heap.size w19 W)
        (first | exact HSR.out _ d8 | exact HSR.out _ d7 | exact HSR.out _ d6 | exact HSR.out _ d5 | exact HSR.out _ d4 | exact HSR.out _ d3 | exact HSR.out _ d2 | exact HSR.out _ d1 | exact HSR.out _ d0)
        (first | (have dz := d7; go_at_call 11; refine (lfault_eq [] 9 Q16 X7 0 c7 _ (RQ16.out.below d7) hr7 rfl (by unfold maxLen; omega)).mono ?_; rintro e v8 ⟨rfl, hv8⟩; have d8 : Below w19.heap.size w19 v8 := (by first | exact bt0 d7 hv8); clear dz) | (have dz := d6; go_at_call 9; refine (rf_neg 9 _).mono ?_; rintro e v7 ⟨X7, c7, rfl, hr7, hv7⟩; have d7 : Below w19.heap.size w19 v7 := (by first | exact bt0 d6 hv7); clear dz) | (have dz := d5; go_at_call 11; refine (lfault_eq [] 7 Q14 X5 0 c5 _ (RQ14.out.below d5) hr5 rfl (by unfold maxLen; omega)).mono ?_; rintro e v6 ⟨rfl, hv6⟩; have d6 : Below w19.heap.size w19 v6 := (by first | exact bt0 d5 hv6); clear dz) | (have dz := d4; go_at_call 9; refine (rf_neg 7 _).mono ?_; rintro e v5 ⟨X5, c5, rfl, hr5, hv5⟩; have d5 : Below w19.heap.size w19 v5 := (by first | exact bt0 d4 hv5); clear dz) | (have dz := d3; go_at_call 11; refine (lfault_eq [1] 8 Q12 X3 1 c3 _ (RQ12.out.below d3) hr3 rfl (by unfold maxLen; omega)).mono ?_; rintro e v4 ⟨rfl, hv4⟩; have d4 : Below w19.heap.size w19 v4 := (by first | exact bt0 d3 hv4); clear dz) | (have dz := d2; go_at_call 9; refine (rf_pos 8 1 (by decide) _).mono ?_; rintro e v3 ⟨X3, c3, rfl, hr3, hv3⟩; have d3 : Below w19.heap.size w19 v3 := (by first | exact bt0 d2 hv3); clear dz) | (have dz := d1; go_at_call 11; refine (lfault_eq [0] 9 Q10 X1 1 c1 _ (RQ10.out.below d1) hr1 rfl (by unfold maxLen; omega)).mono ?_; rintro e v2 ⟨rfl, hv2⟩; have d2 : Below w19.heap.size w19 v2 := (by first | exact bt0 d1 hv2); clear dz) | (go_at_call 9; refine (rf_pos 9 0 (by decide) _).mono ?_; rintro e v1 ⟨X1, c1, rfl, hr1, hv1⟩; have d1 : Below w19.heap.size w19 v1 := (by first | exact bt0 d0 hv1)))
      all_goals go_wp2_with fail
      all_goals go_meet
      all_goals exact ⟨rfl, d8⟩
    case rest =>
      obtain ⟨rfl, hbx⟩ := hcut
      have hbh := Lib.hid hbx
      clear hbx HSR d0
      generalize wc = w20 at *
      have LK_ := lk LK hbh
      clear LK
      have LK := LK_
      clear LK_
      have RQ10_ := rt RQ10 hbh
      clear RQ10
      have RQ10 := RQ10_
      clear RQ10_
      have Fg10_ := kt Fg10 hbh
      clear Fg10
      have Fg10 := Fg10_
      clear Fg10_
      have RQ12_ := rt RQ12 hbh
      clear RQ12
      have RQ12 := RQ12_
      clear RQ12_
      have Fg12_ := kt Fg12 hbh
      clear Fg12
      have Fg12 := Fg12_
      clear Fg12_
      have RQ14_ := rt RQ14 hbh
      clear RQ14
      have RQ14 := RQ14_
      clear RQ14_
      have Fg14_ := kt Fg14 hbh
      clear Fg14
      have Fg14 := Fg14_
      clear Fg14_
      have RQ16_ := rt RQ16 hbh
      clear RQ16
      have RQ16 := RQ16_
      clear RQ16_
      have Fg16_ := kt Fg16 hbh
      clear Fg16
      have Fg16 := Fg16_
      clear Fg16_
      clear hbh
      clear RQ10 RQ12 RQ14 RQ16 Fg10 Fg12 Fg14 Fg16
      have HSR := Lib.hid (show ∀ W, Below w20.heap.size w20 W → W.cell? ⟨g1, 0, none⟩ = some (.int .u8 0) ∧ W.cell? ⟨g1, 1, none⟩ = some (.bool true) ∧ W.cell? ⟨g1, 2, none⟩ = some (.int .u32 16) ∧ W.cell? ⟨g1, 3, none⟩ = some (.slice none 0 0) ∧ W.cell? ⟨g1, 4, none⟩ = some (.slice B 2 2) ∧ W.cell? ⟨g2, 0, none⟩ = some (.int .u8 0) ∧ W.cell? ⟨g2, 1, none⟩ = some (.bool true) ∧ W.cell? ⟨g2, 2, none⟩ = some (.int .u32 16) ∧ Below w20.heap.size w20 W from fun W hW => ⟨(LK.out.stay hW).1.cell 0, (LK.out.stay hW).1.cell 1, (LK.out.stay hW).1.cell 2, (LK.out.stay hW).1.cell 3, (LK.out.stay hW).1.cell 4, (LK.out.stay hW).2.1.cell 0, (LK.out.stay hW).2.1.cell 1, (LK.out.stay hW).2.1.cell 2, hW⟩)
      have d0 : Below w20.heap.size w20 w20.drew := (Below.refl w20.heap.size w20).drew
      go_upto_region 13 with fail
      go_cut [142] (fun z0 wx => z0 = .bool false ∧ Below w20.heap.size w20 wx)
      case first =>
        go_region_held3 (fun W => W.cell? ⟨g1, 0, none⟩ = some (.int .u8 0) ∧ W.cell? ⟨g1, 1, none⟩ = some (.bool true) ∧ W.cell? ⟨g1, 2, none⟩ = some (.int .u32 16) ∧ W.cell? ⟨g1, 3, none⟩ = some (.slice none 0 0) ∧ W.cell? ⟨g1, 4, none⟩ = some (.slice B 2 2) ∧ W.cell? ⟨g2, 0, none⟩ = some (.int .u8 0) ∧ W.cell? ⟨g2, 1, none⟩ = some (.bool true) ∧ W.cell? ⟨g2, 2, none⟩ = some (.int .u32 16) ∧ Below w20.heap.size w20 W)
          (first | exact HSR.out _ d9 | exact HSR.out _ d8 | exact HSR.out _ d7 | exact HSR.out _ d6 | exact HSR.out _ d5 | exact HSR.out _ d4 | exact HSR.out _ d3 | exact HSR.out _ d2 | exact HSR.out _ d1 | exact HSR.out _ d0)
          (first | (have dz := d8; go_at_call 11; refine (lfault_eq [1] 13 X7 X8 1 c8 _ (hq7.below hv8) hr8 rfl (by unfold maxLen; omega)).mono ?_; rintro e v9 ⟨rfl, hv9⟩; have d9 : Below w20.heap.size w20 v9 := (by first | exact bt0 d8 hv9); clear dz) | (have dz := d7; go_at_call 9; refine (rf_pos 13 1 (by decide) _).mono ?_; rintro e v8 ⟨X8, c8, rfl, hr8, hv8⟩; have d8 : Below w20.heap.size w20 v8 := (by first | exact bt0 d7 hv8); clear dz) | (have dz := d6; go_at_call 12; refine (ord_kn _ B (LK.out.2.2.2.2.1.stay d6)).mono ?_; rintro e v7 ⟨X7, rfl, hq7, hv7⟩; have d7 : Below w20.heap.size w20 v7 := (by first | exact bt0 d6 hv7); clear dz) | (have dz := d5; go_at_call 11; refine (lfault_eq [] 7 X4 X5 0 c5 _ (hq4.below hv5) hr5 rfl (by unfold maxLen; omega)).mono ?_; rintro e v6 ⟨rfl, hv6⟩; have d6 : Below w20.heap.size w20 v6 := (by first | exact bt0 d5 hv6); clear dz) | (have dz := d4; go_at_call 9; refine (rf_neg 7 _).mono ?_; rintro e v5 ⟨X5, c5, rfl, hr5, hv5⟩; have d5 : Below w20.heap.size w20 v5 := (by first | exact bt0 d4 hv5); clear dz) | (have dz := d3; go_at_call 22; refine (list_kn _ B 3 4 [] 7 (by decide +kernel) 0 rfl).mono ?_; rintro e v4 ⟨X4, rfl, hq4, hv4⟩; have d4 : Below w20.heap.size w20 v4 := (by first | exact bt0 d3 hv4); clear dz) | (have dz := d2; go_at_call 11; refine (lfault_eq [1] 3 X1 X2 1 c2 _ (hq1.below hv2) hr2 rfl (by unfold maxLen; omega)).mono ?_; rintro e v3 ⟨rfl, hv3⟩; have d3 : Below w20.heap.size w20 v3 := (by first | exact bt0 d2 hv3); clear dz) | (have dz := d1; go_at_call 9; refine (rf_pos 3 1 (by decide) _).mono ?_; rintro e v2 ⟨X2, c2, rfl, hr2, hv2⟩; have d2 : Below w20.heap.size w20 v2 := (by first | exact bt0 d1 hv2); clear dz) | (go_at_call 22; refine (list_kn _ B 1 1 [1] 3 (by decide +kernel) 1 rfl).mono ?_; rintro e v1 ⟨X1, rfl, hq1, hv1⟩; have d1 : Below w20.heap.size w20 v1 := (by first | exact bt0 d0 hv1)))
        all_goals go_wp2_with fail
        all_goals go_meet
        all_goals exact ⟨rfl, d9⟩
      case rest =>
        obtain ⟨rfl, hbx⟩ := hcut
        have hbh := Lib.hid hbx
        clear hbx HSR d0
        generalize wc = w21 at *
        have LK_ := lk LK hbh
        clear LK
        have LK := LK_
        clear LK_
        clear hbh
        obtain ⟨x1, x2, x3, x4, x5, x6, x7, x8, x9, x10, x11, x12, x13, x14⟩ := LK.out.cells
        go_wp2_with fail
        clear x1 x2 x3 x4 x5 x6 x7 x8 x9 x10 x11 x12 x13 x14
        have hl := in_rd w21 [1]
        have hbl := Lib.hid (bel1 w21 (.cells (csZ [1]).toArray 3))
        have LK_ := lk LK hbl
        clear LK
        have LK := LK_
        clear LK_
        refine (off_any knE _ [1] (some ⟨w21.heap.size, 0, none⟩) 1 1 _ LK.out.2.2.2.2.1 (by decide +kernel) kn_ok.con hl rfl (by decide) 5 0 off_1_5_0).mono ?_
        rintro e w22 ⟨rfl, hb⟩
        have hbh := Lib.hid hb
        clear hb hl hbl
        have LK_ := lk LK hbh
        clear LK
        have LK := LK_
        clear LK_
        clear hbh
        obtain ⟨x1, x2, x3, x4, x5, x6, x7, x8, x9, x10, x11, x12, x13, x14⟩ := LK.out.cells
        go_wp2_with fail
        clear x1 x2 x3 x4 x5 x6 x7 x8 x9 x10 x11 x12 x13 x14
        have hl := in_rd w22 [2]
        have hbl := Lib.hid (bel1 w22 (.cells (csZ [2]).toArray 3))
        have LK_ := lk LK hbl
        clear LK
        have LK := LK_
        clear LK_
        refine (off_any knE _ [2] (some ⟨w22.heap.size, 0, none⟩) 1 1 _ LK.out.2.2.2.2.1 (by decide +kernel) kn_ok.con hl rfl (by decide) 0 19 off_1_0_19).mono ?_
        rintro e w23 ⟨rfl, hb⟩
        have hbh := Lib.hid hb
        clear hb hl hbl
        have LK_ := lk LK hbh
        clear LK
        have LK := LK_
        clear LK_
        clear hbh
        obtain ⟨x1, x2, x3, x4, x5, x6, x7, x8, x9, x10, x11, x12, x13, x14⟩ := LK.out.cells
        go_wp2_with fail
        clear x1 x2 x3 x4 x5 x6 x7 x8 x9 x10 x11 x12 x13 x14
        have hl : Rd w23 none (csZ []) := Rd.nil
        refine (off_any knE _ [] none 0 0 _ LK.out.2.2.2.2.1 (by decide +kernel) kn_ok.con hl rfl (by decide) 0 0 off_0_0_0).mono ?_
        rintro e w24 ⟨rfl, hb⟩
        have hbh := Lib.hid hb
        clear hb hl
        have LK_ := lk LK hbh
        clear LK
        have LK := LK_
        clear LK_
        clear hbh
        have HSR := Lib.hid (show ∀ W, Below w24.heap.size w24 W → W.cell? ⟨g1, 0, none⟩ = some (.int .u8 0) ∧ W.cell? ⟨g1, 1, none⟩ = some (.bool true) ∧ W.cell? ⟨g1, 2, none⟩ = some (.int .u32 16) ∧ W.cell? ⟨g1, 3, none⟩ = some (.slice none 0 0) ∧ W.cell? ⟨g1, 4, none⟩ = some (.slice B 2 2) ∧ Below w24.heap.size w24 W from fun W hW => ⟨(LK.out.stay hW).1.cell 0, (LK.out.stay hW).1.cell 1, (LK.out.stay hW).1.cell 2, (LK.out.stay hW).1.cell 3, (LK.out.stay hW).1.cell 4, hW⟩)
        have d0 : Below w24.heap.size w24 w24.drew := (Below.refl w24.heap.size w24).drew
        go_upto_region 18 with fail
        go_cut [23, 24] (fun z0 z1 wx => z0 = .int .i64 5 ∧ z1 = .int .i64 8 ∧ Below w24.heap.size w24 wx)
        case first =>
          go_region_held3 (fun W => W.cell? ⟨g1, 0, none⟩ = some (.int .u8 0) ∧ W.cell? ⟨g1, 1, none⟩ = some (.bool true) ∧ W.cell? ⟨g1, 2, none⟩ = some (.int .u32 16) ∧ W.cell? ⟨g1, 3, none⟩ = some (.slice none 0 0) ∧ W.cell? ⟨g1, 4, none⟩ = some (.slice B 2 2) ∧ Below w24.heap.size w24 W)
            (first | exact HSR.out _ d2 | exact HSR.out _ d1 | exact HSR.out _ d0)
            (first | (have dz := d1; go_at_call 29; refine (report_any knE _ [1] X1 1 c1 8 _ (LK.out.2.2.2.2.1.stay d1) (by decide +kernel) kn_ok.con hr1 rfl (by decide) 5 8 rep_5).mono ?_; rintro e v2 ⟨rfl, hv2⟩; have d2 : Below w24.heap.size w24 v2 := (by first | exact bt0 d1 hv2); clear dz) | (go_at_call 9; refine (rf_pos 8 1 (by decide) _).mono ?_; rintro e v1 ⟨X1, c1, rfl, hr1, hv1⟩; have d1 : Below w24.heap.size w24 v1 := (by first | exact bt0 d0 hv1)))
          all_goals go_wp2_with fail
          all_goals go_meet
          all_goals exact ⟨rfl, rfl, d2⟩
        case rest =>
          obtain ⟨rfl, rfl, hbx⟩ := hcut
          have hbh := Lib.hid hbx
          clear hbx HSR d0
          generalize wc = w25 at *
          have LK_ := lk LK hbh
          clear LK
          have LK := LK_
          clear LK_
          clear hbh
          go_wp2_with fail
          refine (rf_pos 9 1 (by decide) _).mono ?_
          rintro e w26 ⟨X1, c1, rfl, hr1, hb⟩
          have hbh := Lib.hid hb
          clear hb
          have LK_ := lk LK hbh
          clear LK
          have LK := LK_
          clear LK_
          clear hbh
          go_wp2_with fail
          refine (under_any 3 [1] 9 X1 1 c1 _ hr1 rfl (by decide) [3, 1] 9 rfl).mono ?_
          rintro e w27 h9
          obtain ⟨X2, rfl, hr2, hb⟩ := gf h9 2 rfl
          have hbh := Lib.hid hb
          clear hb h9 hr1
          have LK_ := lk LK hbh
          clear LK
          have LK := LK_
          clear LK_
          clear hbh
          have RX2 := Lib.hid hr2
          clear hr2
          go_upto_region 20 with fail
          obtain ⟨g25, hg25⟩ : ∃ g, w27.heap.size = g := ⟨_, rfl⟩
          obtain ⟨w28, hw⟩ : ∃ v, w27.alloc (.cells #[.slice X2 2 2, .int .i64 9] 38) = v := ⟨_, rfl⟩
          have hb := Lib.hid (show Below w27.heap.size w27 w28 by rw [← hw]; exact bel1 _ _)
          have Fg25 := Lib.hid (show Bk w28 g25 38 [.slice X2 2 2, .int .i64 9] by rw [← hw, ← hg25]; exact Bk.new w27 _ [_, _])
          rw [hw, hg25]
          have LK_ := lk LK hb
          clear LK
          have LK := LK_
          clear LK_
          have RX2_ := rt RX2 hb
          clear RX2
          have RX2 := RX2_
          clear RX2_
          clear hb hw hg25
          have q0 : w28.cell? ⟨g25, 0, none⟩ = some (.slice X2 2 2) := Fg25.out.cell 0
          have q1 : w28.cell? ⟨g25, 1, none⟩ = some (.int .i64 9) := Fg25.out.cell 1
          go_wp2_with fail
          refine (lfault_eq [3, 1] 9 X2 (some ⟨w28.heap.size, 0, none⟩) 2 2 _ (RX2.out.below (bel1 _ _)) (in_rd w28 [3, 1]) rfl (by unfold maxLen; omega)).mono ?_
          rintro e w29 ⟨rfl, hb⟩
          have hbh := Lib.hid ((LK.out.2.2.2.2.2.trans ((bel1 w28 (.cells (csZ [3, 1]).toArray 3)).mono LK.out.2.2.2.2.2.size)).trans (hb.mono (Nat.le_trans LK.out.2.2.2.2.2.size (bel1 w28 (.cells (csZ [3, 1]).toArray 3)).size)))
          clear hb q0 q1
          go_wp2_with fail
          go_ret
          exact ⟨rfl, hbh.out⟩
end Go.Proofs.Ytfbdeefeagednaa.Fl
