/-
  Layer 9: the contract of Of.
  Conditions: the element's bytes read as bytes; unicode/utf8's tables hold what its text lays.
-/
import Derived.Test.YthefnfjhnallfaaDoorChsM
namespace Go.Proofs.YthefnfjhnallfaaDoor.Chs
open Go.RowKit Go.Shelf

/-- What Of answers. -/
def of9 (c n : Nat) (kb : Bool) (l : List Nat) (M : Nat) : Nat × List Nat × Nat := if isK n = false ∨ c ≠ 0 ∨ kb = true then (0, [], 9) else if 0 < M then (0, [], 1) else get9 n l
theorem of9_bad {c n : Nat} {kb : Bool} {l : List Nat} {M : Nat} (h : isK n = false ∨ c ≠ 0 ∨ kb = true) : of9 c n kb l M = (0, [], 9) := if_pos h
theorem of9_subs {n : Nat} {l : List Nat} {M : Nat} (h : isK n = true) (hM : 0 < M) : of9 0 n false l M = (0, [], 1) := by unfold of9; rw [if_neg (by rw [h]; simp), if_pos hM]
theorem of9_get {n : Nat} {l : List Nat} {M : Nat} (h : isK n = true) (hM : ¬ 0 < M) : of9 0 n false l M = get9 n l := by unfold of9; rw [if_neg (by rw [h]; simp), if_neg hM]
/-- The cells of an element, with any tag. -/
def eV (c n : Nat) (kb : Bool) (u v : Value) : List Value := [.int .u8 (c : Int), .bool kb, .int .u32 (n : Int), u, v]

set_option linter.unusedSimpArgs false in
set_option maxHeartbeats 4000000 in
set_option maxRecDepth 100000 in
theorem of9_any (c n : Nat) (kb : Bool) (hn : n < 4294967296) (l : List Nat) (A B : Option Addr) (N cA M cB : Nat) (hN : l.length = N) (hc : N ≤ cA) (hcm : cA ≤ maxLen) (w : World) (hA : Rb w A l) (hT : Tab w) :
    Calls Tryd.prog 22 #[.agg (eV c n kb (.slice A N cA) (.slice B M cB)).toArray] w fun e w' => e = .returned (.tuple #[.agg (chL (of9 c n kb l M).1 (bstr (of9 c n kb l M).2.1)).toArray, .int .i64 ((of9 c n kb l M).2.2 : Int)]) ∧ Below w.heap.size w w' := by
  obtain ⟨Sz, hSz⟩ : ∃ s, S0 = s := ⟨_, rfl⟩
  have HSZ := Lib.hid hSz
  have hz : ∀ w : World, (zeroValue 24).run Tryd.prog w = .ok (.agg #[.int .u32 0, .string Sz]) w := by rw [← hSz]; exact zeroCh
  clear hSz
  have hza := zeroAl
  obtain ⟨az, haz⟩ : ∃ az, a0 = az := ⟨_, rfl⟩
  have hzl : az.length = 4 := by rw [← haz]; rfl
  rw [haz] at hza
  clear haz
  have CF := Lib.hid (fun W => find_any n hn W)
  have hal := (alOf_ok n).1
  have hone := (alOf_ok n).2
  obtain ⟨AL, hAL⟩ : ∃ AL, alOf n = AL := ⟨_, rfl⟩
  rw [hAL] at hal hone CF
  have CG := Lib.hid (fun W h1 h2 => get9_any n hn l A N cA hN hc hcm W h1 h2)
  have CT := Lib.hid (fun W => tag_any n W)
  obtain ⟨T, hT2⟩ : ∃ T, of9 c n kb l M = T := ⟨_, rfl⟩
  have HT := Lib.hid hT2
  rw [hT2]
  have HA := Lib.hid hA
  have T0 := Lib.hid hT
  obtain ⟨w1, hw1⟩ : ∃ w1, (w.alloc (.cells (eV c n kb (.slice A N cA) (.slice B M cB)).toArray 40)).alloc (.cells #[.int .u32 0, .string Sz] 24) = w1 := ⟨_, rfl⟩
  have B1 : Hid (Below w.heap.size w w1) := Lib.hid (by rw [← hw1]; exact (bel1 w _).alloc (by simp) _)
  obtain ⟨g, hg⟩ : ∃ g, w.heap.size = g := ⟨_, rfl⟩
  obtain ⟨g2, hg2⟩ : ∃ g2, g + 1 = g2 := ⟨_, rfl⟩
  have K1 : Hid (Bk w1 g 40 (eV c n kb (.slice A N cA) (.slice B M cB))) := Lib.hid (by rw [← hw1, ← hg]; exact (Bk.new w _ (eV c n kb (.slice A N cA) (.slice B M cB))).alloc _)
  have R1 : Hid (Bk w1 g2 24 (chL 0 Sz)) := Lib.hid (by
    rw [← hw1, ← hg2, ← hg]
    have := Bk.new (w.alloc (.cells (eV c n kb (.slice A N cA) (.slice B M cB)).toArray 40)) 24 (chL 0 Sz)
    rwa [World.size_alloc] at this)
  have HW1 := Lib.hid hw1
  have HG := Lib.hid hg
  have HG2 := Lib.hid hg2
  clear hT hT2 hA hw1 hg hg2 hAL hN hc hcm
  go_enter Tryd.func22, Tryd.ntmps22
  go_upto_region 1 with fail
  rw [HW1.out, HG.out, HG2.out]
  have e2 : w1.cell? ⟨g, 2, none⟩ = some (.int .u32 (n : Int)) := by rw [K1.out.cell]; rfl
  go_wp2_with fail
  refine (CF.out _).mono ?_
  rintro e w3 ⟨rfl, hb⟩
  have B3 := bt B1 (Lib.hid hb)
  have R3 := kt R1 (Lib.hid hb)
  have K3 := kt K1 (Lib.hid hb)
  clear hb B1 R1 K1 e2
  obtain ⟨g3, hg3⟩ : ∃ g3, w3.heap.size = g3 := ⟨_, rfl⟩
  obtain ⟨w4, hw4⟩ : ∃ w4, w3.alloc (.cells az.toArray 74) = w4 := ⟨_, rfl⟩
  have A4 : Hid (Bk w4 g3 74 az) := Lib.hid (by rw [← hw4, ← hg3]; exact Bk.new w3 _ az)
  have hb4 : Hid (Below w3.heap.size w3 w4) := Lib.hid (by rw [← hw4]; exact bel1 w3 _)
  have B4 := bt B3 hb4
  have R4 := kt R3 hb4
  have K4 := kt K3 hb4
  have HGS : Hid (w.heap.size ≤ g3) := Lib.hid (by rw [← hg3]; exact B3.out.size)
  have HLT : Hid (g < g3 ∧ g2 < g3) := Lib.hid (by rw [← hg3]; exact ⟨K3.out.lt, R3.out.lt⟩)
  have HW4 := Lib.hid hw4
  have HG3 := Lib.hid hg3
  clear hb4 hw4 hg3 B3 R3 K3
  go_upto_region 3 with (rw [HW4.out, HG3.out]
                         refine wpList_storeG rfl (.tmp 5) (.tmp 13) rfl rfl rfl A4.out (by rw [hal]; exact infoAl) (by rw [hzl, hal]) hone ?_
                         intro w5 A5 hg5 hz5
                         have B5 := Lib.hid (B4.out.grown hg5 B4.out.size (fun k e => by injection e with e; have := HGS.out; omega))
                         have R5 := Lib.hid (R4.out.only hg5 (by intro e; injection e with e; have := HLT.out; omega))
                         have K5 := Lib.hid (K4.out.only hg5 (by intro e; injection e with e; have := HLT.out; omega))
                         clear A5 hg5 hz5 A4 B4 R4 K4)
  cases hK : isK n
  · have HE : Hid (T = (0, [], 9)) := Lib.hid (by rw [← HT.out, of9_bad (.inl hK)])
    clear hK
    have hb5 := Lib.hid ((Below.refl w5.heap.size w5).drew)
    have B6 := bt B5 hb5
    have R6 := kt R5 hb5
    go_region
    go_wp2_with (refine wpList_storeG rfl (.tmp 2) (.tmp 24) rfl rfl (ds := chL 0 Sz) rfl R6.out infoCh rfl (chL_one _ _) ?_
                 intro w7 R7 hg7 hz7
                 have HR7 := Lib.hid R7
                 have B7 := Lib.hid (B6.out.grown hg7 B6.out.size (fun k e => by injection e with e; have := HG.out; have := HG2.out; omega))
                 clear R7 hg7 hz7)
    exact retG2 rfl rfl rfl (loadCh HR7.out) rfl ⟨by rw [HE.out, ← HSZ.out]; rfl, B7.out⟩
  · have HK := Lib.hid hK
    clear hK
    have c0 : w5.cell? ⟨g, 0, none⟩ = some (.int .u8 (c : Int)) := by rw [K5.out.cell]; rfl
    have c1 : w5.cell? ⟨g, 1, none⟩ = some (.bool kb) := by rw [K5.out.cell]; rfl
    have c2 : w5.cell? ⟨g, 2, none⟩ = some (.int .u32 (n : Int)) := by rw [K5.out.cell]; rfl
    have hsz := K5.out.lt
    have b1 := Below.refl w5.heap.size w5
    by_cases hbad : c ≠ 0 ∨ kb = true
    · have HE : Hid (T = (0, [], 9)) := Lib.hid (by rw [← HT.out, of9_bad (.inr hbad)])
      have hc0 : kb = true ∨ ((c : Int) == 0) = false := by
        rcases hbad with h | h
        · exact .inr (by rw [beq_eq_false_iff_ne]; omega)
        · exact .inl h
      clear hbad
      rcases hc0 with rfl | h
      · go_region_held3 (fun w' => w'.cell? ⟨g, 0, none⟩ = some (.int .u8 (c : Int)) ∧ w'.cell? ⟨g, 1, none⟩ = some (.bool true) ∧ w'.cell? ⟨g, 2, none⟩ = some (.int .u32 (n : Int)))
          (first | exact ⟨c0, c1, c2⟩ | exact ⟨(hb1.cell (p := ⟨g, 0, none⟩) hsz).trans c0, (hb1.cell (p := ⟨g, 1, none⟩) hsz).trans c1, (hb1.cell (p := ⟨g, 2, none⟩) hsz).trans c2⟩)
          (first | (go_at_call 35; refine (CT.out _).mono ?_; rintro e w6 ⟨rfl, hb1⟩))
        have HB1 := Lib.hid (b1.drew.trans (hb1.mono b1.drew.size))
        have K6 := kt K5 HB1
        have R6 := kt R5 HB1
        have B6 := bt B5 HB1
        clear hb1 b1 c0 c1 c2 hsz HB1 B5 K5 R5
        go_wp2_with (refine wpList_storeG rfl (.tmp 2) (.tmp 24) rfl rfl (ds := chL 0 Sz) rfl R6.out infoCh rfl (chL_one _ _) ?_
                     intro w7 R7 hg7 hz7
                     have HR7 := Lib.hid R7
                     have B7 := Lib.hid (B6.out.grown hg7 B6.out.size (fun k e => by injection e with e; have := HG.out; have := HG2.out; omega))
                     clear R7 hg7 hz7)
        exact retG2 rfl rfl rfl (loadCh HR7.out) rfl ⟨by rw [HE.out, ← HSZ.out]; rfl, B7.out⟩
      · go_region_held3 (fun w' => w'.cell? ⟨g, 0, none⟩ = some (.int .u8 (c : Int)) ∧ w'.cell? ⟨g, 1, none⟩ = some (.bool kb) ∧ w'.cell? ⟨g, 2, none⟩ = some (.int .u32 (n : Int)))
          (first | exact ⟨c0, c1, c2⟩ | exact ⟨(hb1.cell (p := ⟨g, 0, none⟩) hsz).trans c0, (hb1.cell (p := ⟨g, 1, none⟩) hsz).trans c1, (hb1.cell (p := ⟨g, 2, none⟩) hsz).trans c2⟩)
          (first | (go_at_call 35; refine (CT.out _).mono ?_; rintro e w6 ⟨rfl, hb1⟩))
        have HB1 := Lib.hid (b1.drew.trans (hb1.mono b1.drew.size))
        have K6 := kt K5 HB1
        have R6 := kt R5 HB1
        have B6 := bt B5 HB1
        clear hb1 b1 c0 c1 c2 hsz HB1 B5 K5 R5
        go_wp2_with (refine wpList_storeG rfl (.tmp 2) (.tmp 24) rfl rfl (ds := chL 0 Sz) rfl R6.out infoCh rfl (chL_one _ _) ?_
                     intro w7 R7 hg7 hz7
                     have HR7 := Lib.hid R7
                     have B7 := Lib.hid (B6.out.grown hg7 B6.out.size (fun k e => by injection e with e; have := HG.out; have := HG2.out; omega))
                     clear R7 hg7 hz7)
        exact retG2 rfl rfl rfl (loadCh HR7.out) rfl ⟨by rw [HE.out, ← HSZ.out]; rfl, B7.out⟩
    · obtain ⟨rfl, rfl⟩ : c = 0 ∧ kb = false := by
        refine ⟨Decidable.byContradiction fun h => hbad (.inl h), ?_⟩
        cases kb with
        | false => rfl
        | true => exact absurd (.inr rfl) hbad
      clear hbad
      have c0 : w5.cell? ⟨g, 0, none⟩ = some (.int .u8 0) := c0
      go_region_held3 (fun w' => w'.cell? ⟨g, 0, none⟩ = some (.int .u8 0) ∧ w'.cell? ⟨g, 1, none⟩ = some (.bool false) ∧ w'.cell? ⟨g, 2, none⟩ = some (.int .u32 (n : Int)))
        (first | exact ⟨c0, c1, c2⟩ | exact ⟨(hb1.cell (p := ⟨g, 0, none⟩) hsz).trans c0, (hb1.cell (p := ⟨g, 1, none⟩) hsz).trans c1, (hb1.cell (p := ⟨g, 2, none⟩) hsz).trans c2⟩)
        (first | (go_at_call 35; refine (CT.out _).mono ?_; rintro e w6 ⟨rfl, hb1⟩))
      have HB1 := Lib.hid (b1.drew.trans (hb1.mono b1.drew.size))
      have K6 := kt K5 HB1
      have R6 := kt R5 HB1
      have B6 := bt B5 HB1
      clear hb1 b1 c0 c1 c2 hsz HB1 B5 K5 R5
      have d4 : w6.cell? ⟨g, 4, none⟩ = some (.slice B M cB) := by rw [K6.out.cell]; rfl
      have d3 : w6.cell? ⟨g, 3, none⟩ = some (.slice A N cA) := by rw [K6.out.cell]; rfl
      by_cases hM : 0 < M
      · have HE : Hid (T = (0, [], 1)) := Lib.hid (by rw [← HT.out]; exact of9_subs HK.out hM)
        have hMi : (0 : Int) < (M : Int) := by omega
        clear hM
        go_wp2_with (refine wpList_storeG rfl (.tmp 2) (.tmp 29) rfl rfl (ds := chL 0 Sz) rfl R6.out infoCh rfl (chL_one _ _) ?_
                     intro w7 R7 hg7 hz7
                     have HR7 := Lib.hid R7
                     have B7 := Lib.hid (B6.out.grown hg7 B6.out.size (fun k e => by injection e with e; have := HG.out; have := HG2.out; omega))
                     clear R7 hg7 hz7)
        exact retG2 rfl rfl rfl (loadCh HR7.out) rfl ⟨by rw [HE.out, ← HSZ.out]; rfl, B7.out⟩
      · have HE : Hid (T = get9 n l) := Lib.hid (by rw [← HT.out]; exact of9_get HK.out hM)
        have hMi : ¬ (0 : Int) < (M : Int) := by omega
        clear hM
        rw [← HE.out] at CG
        go_wp2_with fail
        refine (CG.out _ (HA.out.below B6.out) (T0.out.below B6.out)).mono ?_
        rintro e w7 ⟨rfl, hb⟩
        have B7 := bt B6 (Lib.hid hb)
        have R7 := kt R6 (Lib.hid hb)
        clear hb B6 R6 d3 d4
        obtain ⟨SS, hSS⟩ : ∃ SS, bstr T.2.1 = SS := ⟨_, rfl⟩
        rw [hSS]
        go_wp2_with (refine wpList_storeG rfl (.tmp 2) (.tmp 34) rfl rfl (ds := chL T.1 SS) rfl R7.out infoCh rfl (chL_one _ _) ?_
                     intro w8 R8 hg8 hz8
                     have HR8 := Lib.hid R8
                     have B8 := Lib.hid (B7.out.grown hg8 B7.out.size (fun k e => by injection e with e; have := HG.out; have := HG2.out; omega))
                     clear R8 hg8 hz8)
        exact retG2 rfl rfl rfl (loadCh HR8.out) rfl ⟨by rw [hSS]; rfl, B8.out⟩
end Go.Proofs.YthefnfjhnallfaaDoor.Chs
