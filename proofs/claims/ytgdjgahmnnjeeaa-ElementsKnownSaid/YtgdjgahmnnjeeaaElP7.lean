/-
  Layer 4, the statement ElementsKnown: the examples of the chapter; 16 levels and 17; 8192 elements and one more; encodings of 2^20 bytes and one more.
  Conditions: none.
-/
import Derived.Test.YtgdjgahmnnjeeaaElKn
namespace Go.Proofs.Ytgdjgahmnnjeeaa
open Go.RowKit

theorem a8 {l : List Nat} (h : l.all (fun x => decide (x < 256)) = true) : All8 l := fun x hx => by simpa using List.all_eq_true.1 h x hx
set_option maxRecDepth 100000 in
theorem sl4 (b off : Nat) (W : World) : (Instr.slice 26 (.slice (some ⟨b, off, none⟩) 16386 16386) (some (.int .i64 4)) none none).run Try.prog W = .ok (.slice (some ⟨b, off + 4, none⟩) 16382 16382) W := by
  have hsz : (sizeOf (Try.prog.elem 26)).run Try.prog W = .ok 1 W := by kernel_rfl
  rw [run_slice_l (P := Try.prog) W 26 _ _ _ (by kernel_rfl) .i64 4 (by decide) (by decide), hsz]
  simp [Result.andThen, sliced, addr_add]
/-- What is asked of an encoding that Put has returned: where it lies. -/
theorem give_at {W W' : World} {Q : Option Addr} {l : List Nat} (hQ : RdX (fun i => W.heap.size ≤ i) W' Q (cs8 l)) (h8 : All8 l) {N : Nat} (hN : l.length = N) (h0 : 0 < N) : ∃ pb po, Q = some ⟨pb, po, none⟩ ∧ pb < W'.heap.size ∧ Rb W' (some ⟨pb, po, none⟩) l := by
  have hn : cs8 l ≠ [] := by intro h; have := congrArg List.length h; rw [cs8_len, hN] at this; simp at this; omega
  obtain ⟨pb, po, e, hb, _, hc⟩ := hQ hn
  subst e
  exact ⟨pb, po, rfl, hb, fun _ => ⟨pb, po, rfl, hb, hc⟩, h8⟩
set_option linter.unusedSimpArgs false in
set_option maxHeartbeats 16000000 in
set_option maxRecDepth 100000 in
theorem known_walk (w : World) : Calls Try.prog 9 #[] w fun e w' => e = .returned (.bool true) ∧ Below w.heap.size w w' := by
  have HL1 := Lib.hid nest_len
  have HL2 := Lib.hid wide_len
  have HL3 := Lib.hid (big_len 1048571 put71)
  have HG1 := Lib.hid nest_get
  have HO1 := Lib.hid nest_over
  have HG2 := Lib.hid wide_get
  have HF2 := Lib.hid wide_fault
  have HW2 := Lib.hid wide_over
  have HG3 := Lib.hid (big_put put71 (by decide)).2.2
  have P1 := Lib.hid (fun (W : World) (u : Value) (h : RdE true (fun _ => True) W (nestE 15) u) => put_n h)
  have P2 := Lib.hid (fun (W : World) (u : Value) (h : RdE false (fun _ => True) W (wideE 8191) u) => put_w h)
  have P3 := Lib.hid (fun (W : World) (u : Value) (h : RdE false (fun _ => True) W (bigE 1048571) u) => put_b h)
  generalize hl1 : encE (nestE 15) = l1 at *
  generalize hl2 : encE (wideE 8191) = l2 at *
  generalize hl3 : encE (bigE 1048571) = l3 at *
  clear hl1 hl2 hl3
  have B := Lib.hid (Below.refl w.heap.size w)
  go_enter Try.func9, Try.ntmps9
  go_wp2_with fail
  refine (n16 _).mono ?_
  rintro r W1 ⟨u, rfl, hu, hb⟩
  have Bq := Lib.hid (B.out.trans (hb.mono B.out.size))
  clear B
  have B := Bq
  clear Bq
  have U := Lib.hid (RdE.keep (T := fun _ => True) (Nat.le_refl _) (fun _ _ _ => rfl) (fun _ _ _ => trivial) _ _ hu)
  clear hu
  clear hb
  go_wp2_with fail
  refine (P1.out _ _ U.out).mono ?_
  rintro r W2 ⟨Q, rfl, hQ, h8, hb⟩
  have Bq := Lib.hid (B.out.trans (hb.mono B.out.size))
  clear B
  have B := Bq
  clear Bq
  rw [HL1.out]
  obtain ⟨pb, po, rfl, hpl, hrb⟩ := give_at hQ h8 HL1.out (by decide)
  have Z := Lib.hid hpl
  have Y := Lib.hid hrb
  clear hQ h8 hpl hrb U
  clear hb
  go_wp2_with fail
  refine (n16 _).mono ?_
  rintro r W3 ⟨u, rfl, hu, hb⟩
  have Bq := Lib.hid (B.out.trans (hb.mono B.out.size))
  have Yq := Lib.hid (Y.out.below hb)
  have Zq := Lib.hid (Nat.lt_of_lt_of_le Z.out hb.size)
  clear B Y Z
  have B := Bq
  have Y := Yq
  have Z := Zq
  clear Bq Yq Zq
  have U := Lib.hid (RdE.keep (T := fun _ => True) (Nat.le_refl _) (fun _ _ _ => rfl) (fun _ _ _ => trivial) _ _ hu)
  clear hu
  clear hb
  go_wp2_with fail
  refine (dep_n U.out).mono ?_
  rintro r W4 ⟨rfl, hb⟩
  have Bq := Lib.hid (B.out.trans (hb.mono B.out.size))
  have Yq := Lib.hid (Y.out.below hb)
  have Zq := Lib.hid (Nat.lt_of_lt_of_le Z.out hb.size)
  clear B Y Z
  have B := Bq
  have Y := Yq
  have Z := Zq
  clear Bq Yq Zq
  clear U
  clear hb
  go_wp2_with fail
  refine (n17 _).mono ?_
  rintro r W5 ⟨u, rfl, hu, hb⟩
  have Bq := Lib.hid (B.out.trans (hb.mono B.out.size))
  have Yq := Lib.hid (Y.out.below hb)
  have Zq := Lib.hid (Nat.lt_of_lt_of_le Z.out hb.size)
  clear B Y Z
  have B := Bq
  have Y := Yq
  have Z := Zq
  clear Bq Yq Zq
  have U := Lib.hid (RdE.keep (T := fun _ => True) (Nat.le_refl _) (fun _ _ _ => rfl) (fun _ _ _ => trivial) _ _ hu)
  clear hu
  clear hb
  go_wp2_with fail
  refine (chk_n U.out).mono ?_
  rintro r W6 ⟨rfl, hb⟩
  have Bq := Lib.hid (B.out.trans (hb.mono B.out.size))
  have Yq := Lib.hid (Y.out.below hb)
  have Zq := Lib.hid (Nat.lt_of_lt_of_le Z.out hb.size)
  clear B Y Z
  have B := Bq
  have Y := Yq
  have Z := Zq
  clear Bq Yq Zq
  clear U
  clear hb
  go_wp2_with fail
  refine (n16 _).mono ?_
  rintro r W7 ⟨u, rfl, hu, hb⟩
  have Bq := Lib.hid (B.out.trans (hb.mono B.out.size))
  have Yq := Lib.hid (Y.out.below hb)
  have Zq := Lib.hid (Nat.lt_of_lt_of_le Z.out hb.size)
  clear B Y Z
  have B := Bq
  have Y := Yq
  have Z := Zq
  clear Bq Yq Zq
  have U := Lib.hid (RdE.keep (T := fun _ => True) (Nat.le_refl _) (fun _ _ _ => rfl) (fun _ _ _ => trivial) _ _ hu)
  clear hu
  clear hb
  go_wp2_with fail
  refine (got_any (L := 32) (cap := 32) _ Y.out HL1.out (by decide) (by unfold maxLen; decide) (.inr ⟨pb, po, rfl, Z.out⟩) (x := nestE 15) (a := 0) (f := 0) HG1.out (by rw [manE_eq, nest_cnt]; decide) U.out).mono ?_
  rintro r W8 ⟨rfl, hb⟩
  have Bq := Lib.hid (B.out.trans (hb.mono B.out.size))
  have Yq := Lib.hid (Y.out.below hb)
  have Zq := Lib.hid (Nat.lt_of_lt_of_le Z.out hb.size)
  clear B Y Z
  have B := Bq
  have Y := Yq
  have Z := Zq
  clear Bq Yq Zq
  clear U
  clear hb
  go_upto_region 4 with fail
  obtain ⟨v2, wa, hrun, hown, h82, hba⟩ := lit_app (w := W8) (W := W8.alloc (.cells #[.int .u8 48, .int .u8 32] 5)) [48, 32] (a8 (by decide)) (by decide) (by exact Below.refl _ _) (Y.out.below (bel1 W8 _)) (by rw [HL1.out]; decide) 32 32 2 HL1.out rfl
  obtain ⟨C, kc, rfl, hrc, hck, hcm, hcA⟩ := own_bytes hown h82
  have hlen : ([48, 32] ++ l1).length = 34 := by rw [List.length_append, HL1.out]; rfl
  rw [hlen] at hck hrun
  have HRUN := Lib.hid hrun
  have HC := Lib.hid (got_any (L := 34) (cap := kc) wa hrc hlen hck hcm hcA (x := zE) (a := 32) (f := 12) HO1.out (by decide +kernel) (rd_zero false (fun _ => True) wa))
  have Bq := Lib.hid (B.out.trans (hba.mono B.out.size))
  have Yq := Lib.hid (Y.out.below hba)
  have Zq := Lib.hid (Nat.lt_of_lt_of_le Z.out hba.size)
  clear B Y Z
  have B := Bq
  have Y := Yq
  have Z := Zq
  clear Bq Yq Zq hba
  clear hrun hown h82 hrc hck hcm hcA hlen
  go_wp2_with (at_builtin; refine Len.wpList_app (o := ⟨some 42, _, _, _, _, _⟩) rfl _ _ _ _ rfl _ _ rfl rfl HRUN.out ?_)
  refine (HC.out).mono ?_
  rintro r W9 ⟨rfl, hb⟩
  have Bq := Lib.hid (B.out.trans (hb.mono B.out.size))
  have Yq := Lib.hid (Y.out.below hb)
  have Zq := Lib.hid (Nat.lt_of_lt_of_le Z.out hb.size)
  clear B Y Z
  have B := Bq
  have Y := Yq
  have Z := Zq
  clear Bq Yq Zq
  clear HC HRUN Y Z
  clear hb
  go_wp2_with fail
  refine (d92 _).mono ?_
  rintro r W10 ⟨u, rfl, hu, hb⟩
  have Bq := Lib.hid (B.out.trans (hb.mono B.out.size))
  clear B
  have B := Bq
  clear Bq
  have U := Lib.hid (RdE.keep (T := fun _ => True) (Nat.le_refl _) (fun _ _ _ => rfl) (fun _ _ _ => trivial) _ _ hu)
  clear hu
  clear hb
  go_wp2_with fail
  refine (P2.out _ _ U.out).mono ?_
  rintro r W11 ⟨Q, rfl, hQ, h8, hb⟩
  have Bq := Lib.hid (B.out.trans (hb.mono B.out.size))
  clear B
  have B := Bq
  clear Bq
  rw [HL2.out]
  obtain ⟨pb2, po2, rfl, hpl, hrb⟩ := give_at hQ h8 HL2.out (by decide)
  have Z := Lib.hid hpl
  have Y := Lib.hid hrb
  clear hQ h8 hpl hrb U
  clear hb
  go_wp2_with fail
  refine (d92 _).mono ?_
  rintro r W12 ⟨u, rfl, hu, hb⟩
  have Bq := Lib.hid (B.out.trans (hb.mono B.out.size))
  have Yq := Lib.hid (Y.out.below hb)
  have Zq := Lib.hid (Nat.lt_of_lt_of_le Z.out hb.size)
  clear B Y Z
  have B := Bq
  have Y := Yq
  have Z := Zq
  clear Bq Yq Zq
  have U := Lib.hid (RdE.keep (T := fun _ => True) (Nat.le_refl _) (fun _ _ _ => rfl) (fun _ _ _ => trivial) _ _ hu)
  clear hu
  clear hb
  go_wp2_with fail
  refine (cnt_w U.out).mono ?_
  rintro r W13 ⟨rfl, hb⟩
  have Bq := Lib.hid (B.out.trans (hb.mono B.out.size))
  have Yq := Lib.hid (Y.out.below hb)
  have Zq := Lib.hid (Nat.lt_of_lt_of_le Z.out hb.size)
  clear B Y Z
  have B := Bq
  have Y := Yq
  have Z := Zq
  clear Bq Yq Zq
  clear U
  clear hb
  go_wp2_with fail
  refine (d93 _).mono ?_
  rintro r W14 ⟨u, rfl, hu, hb⟩
  have Bq := Lib.hid (B.out.trans (hb.mono B.out.size))
  have Yq := Lib.hid (Y.out.below hb)
  have Zq := Lib.hid (Nat.lt_of_lt_of_le Z.out hb.size)
  clear B Y Z
  have B := Bq
  have Y := Yq
  have Z := Zq
  clear Bq Yq Zq
  have U := Lib.hid (RdE.keep (T := fun _ => True) (Nat.le_refl _) (fun _ _ _ => rfl) (fun _ _ _ => trivial) _ _ hu)
  clear hu
  clear hb
  go_wp2_with fail
  refine (chk_w U.out).mono ?_
  rintro r W15 ⟨rfl, hb⟩
  have Bq := Lib.hid (B.out.trans (hb.mono B.out.size))
  have Yq := Lib.hid (Y.out.below hb)
  have Zq := Lib.hid (Nat.lt_of_lt_of_le Z.out hb.size)
  clear B Y Z
  have B := Bq
  have Y := Yq
  have Z := Zq
  clear Bq Yq Zq
  clear U
  clear hb
  go_wp2_with fail
  refine (d92 _).mono ?_
  rintro r W16 ⟨u, rfl, hu, hb⟩
  have Bq := Lib.hid (B.out.trans (hb.mono B.out.size))
  have Yq := Lib.hid (Y.out.below hb)
  have Zq := Lib.hid (Nat.lt_of_lt_of_le Z.out hb.size)
  clear B Y Z
  have B := Bq
  have Y := Yq
  have Z := Zq
  clear Bq Yq Zq
  have U := Lib.hid (RdE.keep (T := fun _ => True) (Nat.le_refl _) (fun _ _ _ => rfl) (fun _ _ _ => trivial) _ _ hu)
  clear hu
  clear hb
  go_wp2_with fail
  refine (got_any (L := 16386) (cap := 16386) _ Y.out HL2.out (by decide) (by unfold maxLen; decide) (.inr ⟨pb2, po2, rfl, Z.out⟩) (x := wideE 8191) (a := 0) (f := 0) HG2.out (by rw [manE_eq, wide_cnt]; decide) U.out).mono ?_
  rintro r W17 ⟨rfl, hb⟩
  have Bq := Lib.hid (B.out.trans (hb.mono B.out.size))
  have Yq := Lib.hid (Y.out.below hb)
  have Zq := Lib.hid (Nat.lt_of_lt_of_le Z.out hb.size)
  clear B Y Z
  have B := Bq
  have Y := Yq
  have Z := Zq
  clear Bq Yq Zq
  clear U
  clear hb
  go_upto_region 9 with fail
  have hsl := sl4 pb2 po2
  have hl24 : (l2.drop 4).length = 16382 := by rw [List.length_drop, HL2.out]
  obtain ⟨v2, wa, hrun, hown, h82, hba⟩ := lit_app (w := W17) (W := W17.alloc (.cells #[.int .u8 49, .int .u8 130, .int .u8 64, .int .u8 0] 5)) [49, 130, 64, 0] (a8 (by decide)) (by decide) (by exact Below.refl _ _) ((Y.out.below (bel1 W17 _)).drop_ 4) (by rw [hl24]; decide) 16382 16382 4 hl24 rfl
  have hrl : Rb (wa.alloc (.cells #[.int .u8 5, .int .u8 0] 5)) (some ⟨wa.heap.size, 0, none⟩) [5, 0] := ⟨(Bk.new wa 5 (cs8 [5, 0])).rd 0, a8 (by decide)⟩
  obtain ⟨v3, wb, hrun2, hown2, hbb⟩ := Len.app_src (P := Try.prog) (t := 26) (ty := 26) Try.underlying26 info5 rfl (hown.alloc (.cells #[.int .u8 5, .int .u8 0] 5)) (c := 2) hrl.1 (cs8_ones [5, 0]) (by have := hba.size; simp; omega) (by rw [cs8_length, cs8_length, List.length_append, hl24]; decide) (by rw [cs8_length, cs8_length, List.length_append, hl24]; unfold maxLen; decide)
  rw [cs8_cat] at hown2
  obtain ⟨C, kc, rfl, hrc, hck, hcm, hcA⟩ := own_bytes hown2 (h82.append hrl.2)
  rw [← HW2.out] at hrc hck hrun2
  have hlen : (encE (wideE 8192)).length = 16388 := by rw [HW2.out, List.length_append, List.length_append, hl24]; rfl
  rw [hlen] at hck hrun2
  have HRUN := Lib.hid hrun
  have HRUN2 := Lib.hid hrun2
  have hbc : Below W17.heap.size W17 wb := (hba.alloc hba.size _).trans hbb
  have HC := Lib.hid (got_any (L := 16388) (cap := kc) wb hrc hlen hck hcm hcA (x := zE) (a := 16386) (f := 3) HF2.out (by decide +kernel) (rd_zero false (fun _ => True) wb))
  have Bq := Lib.hid (B.out.trans (hbc.mono B.out.size))
  have Yq := Lib.hid (Y.out.below hbc)
  have Zq := Lib.hid (Nat.lt_of_lt_of_le Z.out hbc.size)
  clear B Y Z
  have B := Bq
  have Y := Yq
  have Z := Zq
  clear Bq Yq Zq hbc
  clear hrun hown h82 hrc hck hcm hcA hlen hrun2 hown2 hrl hl24 hba hbb
  go_wp2_with (first | (at_builtin; refine Len.wpList_app (o := ⟨some 77, _, _, _, _, _⟩) rfl _ _ _ _ rfl _ _ rfl rfl HRUN.out ?_) | (at_builtin; refine Len.wpList_app (o := ⟨some 79, _, _, _, _, _⟩) rfl _ _ _ _ rfl _ _ rfl rfl HRUN2.out ?_))
  refine (HC.out).mono ?_
  rintro r W18 ⟨rfl, hb⟩
  have Bq := Lib.hid (B.out.trans (hb.mono B.out.size))
  have Yq := Lib.hid (Y.out.below hb)
  have Zq := Lib.hid (Nat.lt_of_lt_of_le Z.out hb.size)
  clear B Y Z
  have B := Bq
  have Y := Yq
  have Z := Zq
  clear Bq Yq Zq
  clear HC HRUN HRUN2 Y Z hsl
  clear hb
  go_upto_region 11 with fail
  obtain ⟨zs, wm, hzs, hmk, hzr, hbm⟩ := make_lit 1048571 (by decide) 1048571 rfl W18
  obtain ⟨g, hg⟩ : ∃ g, W18.heap.size = g := ⟨_, rfl⟩
  rw [hg] at hmk hzr
  have HE := Lib.hid (rd_big hzs hzr (by unfold maxLen; decide))
  have Bq := Lib.hid (B.out.trans (hbm.mono B.out.size))
  clear B
  have B := Bq
  clear Bq hbm
  obtain ⟨D, hD⟩ : ∃ D, wm.heap.size = D := ⟨_, rfl⟩
  obtain ⟨wz, hwz⟩ : ∃ wz, wm.alloc (.cells #[.int .u8 0, .bool false, .int .u32 0, .slice none 0 0, .slice none 0 0] 29) = wz := ⟨_, rfl⟩
  have hkz : Bk wz D 29 elZ := by rw [← hwz, ← hD]; exact Bk.new wm _ elZ
  have hbz : Below D wm wz := by rw [← hwz, ← hD]; exact bel1 wm _
  obtain ⟨z0, z1, z2, z3, z4, zz⟩ := hkz.five
  obtain ⟨g0, g1, g2, g3, g4⟩ := hkz.free5
  obtain ⟨w4, hw4⟩ : ∃ w4, (((((wz.setCell ⟨D, 0, none⟩ (.int .u8 0)).setCell ⟨D, 1, none⟩ (.bool false)).setCell ⟨D, 2, none⟩ (.int .u32 4)).setCell ⟨D, 3, none⟩ (.slice (some ⟨g, 0, none⟩) 1048571 1048571)).setCell ⟨D, 4, none⟩ (.slice none 0 0)) = w4 := ⟨_, rfl⟩
  have hk4 : Bk w4 D 29 [.int .u8 0, .bool false, .int .u32 4, .slice (some ⟨g, 0, none⟩) 1048571 1048571, .slice none 0 0] := by rw [← hw4]; exact ((((hkz.store 0 (.int .u8 0)).store 1 (.bool false)).store 2 (.int .u32 4)).store 3 (.slice (some ⟨g, 0, none⟩) 1048571 1048571)).store 4 (.slice none 0 0)
  have hl := Nat.le_refl D
  have hb4 : Below wm.heap.size wm w4 := by rw [hD, ← hw4]; exact ((((hbz.setCell (p := ⟨D, 0, none⟩) hl _).setCell (p := ⟨D, 1, none⟩) hl _).setCell (p := ⟨D, 2, none⟩) hl _).setCell (p := ⟨D, 3, none⟩) hl _).setCell (p := ⟨D, 4, none⟩) hl _
  have KD := Lib.hid hk4
  have HDW := Lib.hid (show w.heap.size ≤ D from by have := B.out.size; omega)
  have U := Lib.hid (HE.out.stay hb4)
  have Bq := Lib.hid (B.out.trans (hb4.mono B.out.size))
  clear B
  have B := Bq
  clear Bq hb4
  clear hkz hbz hk4 hl hzs hzr HE
  go_upto_region 12 with fail
  clear hmk hg
  clear z0 z1 z2 z3 z4 zz g0 g1 g2 g3 g4 hw4 hwz 
  obtain ⟨x0, x1, x2, x3, x4, xz⟩ := KD.out.five
  go_wp2_with fail
  clear x0 x1 x2 x3 x4 xz
  refine (P3.out _ _ U.out).mono ?_
  rintro r W19 ⟨Q, rfl, hQ, h8, hb⟩
  have Bq := Lib.hid (B.out.trans (hb.mono B.out.size))
  have KDq := Lib.hid (KD.out.below hb KD.out.lt)
  have Uq := Lib.hid (U.out.stay hb)
  clear B KD U
  have B := Bq
  have KD := KDq
  have U := Uq
  clear Bq KDq Uq
  rw [HL3.out]
  obtain ⟨pb3, po3, rfl, hpl, hrb⟩ := give_at hQ h8 HL3.out (by decide)
  have Z := Lib.hid hpl
  have Y := Lib.hid hrb
  clear hQ h8 hpl hrb
  clear hb
  obtain ⟨x0, x1, x2, x3, x4, xz⟩ := KD.out.five
  go_wp2_with fail
  clear x0 x1 x2 x3 x4 xz
  refine (siz_b U.out).mono ?_
  rintro r W20 ⟨rfl, hb⟩
  have Bq := Lib.hid (B.out.trans (hb.mono B.out.size))
  have KDq := Lib.hid (KD.out.below hb KD.out.lt)
  have Uq := Lib.hid (U.out.stay hb)
  have Yq := Lib.hid (Y.out.below hb)
  have Zq := Lib.hid (Nat.lt_of_lt_of_le Z.out hb.size)
  clear B KD U Y Z
  have B := Bq
  have KD := KDq
  have U := Uq
  have Y := Yq
  have Z := Zq
  clear Bq KDq Uq Yq Zq
  clear U
  clear hb
  go_upto_region 15 with fail
  have hrl : Rb (W20.alloc (.cells #[.int .u8 0] 5)) (some ⟨W20.heap.size, 0, none⟩) [0] := ⟨(Bk.new W20 5 (cs8 [0])).rd 0, a8 (by decide)⟩
  obtain ⟨v3, wb, hrun, hown, h82, hbb⟩ := full_app (Y.out.below (bel1 W20 (.cells #[.int .u8 0] 5))) W20.heap.size 0 rfl hrl (by decide) (by rw [HL3.out]; decide) 1 1048576 1 HL3.out rfl
  obtain ⟨C, kc, rfl, hrc, hck, hcm, hcA⟩ := own_bytes hown h82
  have hlen : (l3 ++ [0]).length = 1048577 := by rw [List.length_append, HL3.out]; rfl
  rw [hlen] at hck hrun
  have HRUN := Lib.hid hrun
  have hget := get_el (L := 1048577) (cap := kc) wb hrc hlen hck hcm hcA
  rw [getX_long (by rw [hlen]; decide)] at hget
  have HC := Lib.hid hget
  have hbc : Below W20.heap.size W20 wb := (bel1 W20 (.cells #[.int .u8 0] 5)).trans (hbb.mono (by simp))
  have Bq := Lib.hid (B.out.trans (hbc.mono B.out.size))
  have KDq := Lib.hid (KD.out.below hbc KD.out.lt)
  have Yq := Lib.hid (Y.out.below hbc)
  have Zq := Lib.hid (Nat.lt_of_lt_of_le Z.out hbc.size)
  clear B KD Y Z
  have B := Bq
  have KD := KDq
  have Y := Yq
  have Z := Zq
  clear Bq KDq Yq Zq hbc
  clear hrun hown h82 hrc hck hcm hcA hlen hrl hget hbb
  go_wp2_with (at_builtin; refine Len.wpList_app (o := ⟨some 106, _, _, _, _, _⟩) rfl _ _ _ _ rfl _ _ rfl rfl HRUN.out ?_)
  refine (HC.out).mono ?_
  rintro r W21 ⟨_, rfl, hb⟩
  have Bq := Lib.hid (B.out.trans (hb.mono B.out.size))
  have KDq := Lib.hid (KD.out.below hb KD.out.lt)
  have Yq := Lib.hid (Y.out.below hb)
  have Zq := Lib.hid (Nat.lt_of_lt_of_le Z.out hb.size)
  clear B KD Y Z
  have B := Bq
  have KD := KDq
  have Y := Yq
  have Z := Zq
  clear Bq KDq Yq Zq
  clear HC HRUN
  clear hb
  obtain ⟨T, hT⟩ : ∃ T, W21.heap.size = T := ⟨_, rfl⟩
  obtain ⟨wz, hwz⟩ : ∃ wz, W21.alloc (.cells #[.int .u8 0, .bool false, .int .u32 0, .slice none 0 0, .slice none 0 0] 29) = wz := ⟨_, rfl⟩
  have hkz : Bk wz T 29 elZ := by rw [← hwz, ← hT]; exact Bk.new W21 _ elZ
  have hbz : Below T W21 wz := by rw [← hwz, ← hT]; exact bel1 W21 _
  obtain ⟨z0, z1, z2, z3, z4, zz⟩ := hkz.five
  obtain ⟨g0, g1, g2, g3, g4⟩ := hkz.free5
  obtain ⟨w5, hw4⟩ : ∃ w4, (((((wz.setCell ⟨T, 0, none⟩ (.int .u8 0)).setCell ⟨T, 1, none⟩ (.bool false)).setCell ⟨T, 2, none⟩ (.int .u32 0)).setCell ⟨T, 3, none⟩ (.slice none 0 0)).setCell ⟨T, 4, none⟩ (.slice none 0 0)) = w4 := ⟨_, rfl⟩
  have hk4 : Bk w5 T 29 [.int .u8 0, .bool false, .int .u32 0, .slice none 0 0, .slice none 0 0] := by rw [← hw4]; exact ((((hkz.store 0 (.int .u8 0)).store 1 (.bool false)).store 2 (.int .u32 0)).store 3 (.slice none 0 0)).store 4 (.slice none 0 0)
  have hl := Nat.le_refl T
  have hb4 : Below W21.heap.size W21 w5 := by rw [hT, ← hw4]; exact ((((hbz.setCell (p := ⟨T, 0, none⟩) hl _).setCell (p := ⟨T, 1, none⟩) hl _).setCell (p := ⟨T, 2, none⟩) hl _).setCell (p := ⟨T, 3, none⟩) hl _).setCell (p := ⟨T, 4, none⟩) hl _
  have Bq := Lib.hid (B.out.trans (hb4.mono B.out.size))
  have KDq := Lib.hid (KD.out.below hb4 KD.out.lt)
  have Yq := Lib.hid (Y.out.below hb4)
  have Zq := Lib.hid (Nat.lt_of_lt_of_le Z.out hb4.size)
  clear B KD Y Z
  have B := Bq
  have KD := KDq
  have Y := Yq
  have Z := Zq
  clear Bq KDq Yq Zq hb4
  clear hkz hbz hk4 hl
  have hc := get_res (L := 1048576) (cap := 1048576) w5 Y.out HL3.out (by decide) (by unfold maxLen; decide) (.inr ⟨pb3, po3, rfl, Z.out⟩) HG3.out
  have HC := Lib.hid hc
  clear hc
  go_upto_region 16 with fail
  clear z0 z1 z2 z3 z4 zz g0 g1 g2 g3 g4 hw4 hwz hT
  go_wp2_with fail
  refine (HC.out).mono ?_
  rintro r W22 ⟨u, rfl, hu, hb⟩
  have Bq := Lib.hid (B.out.trans (hb.mono B.out.size))
  have KDq := Lib.hid (KD.out.below hb KD.out.lt)
  have Yq := Lib.hid (Y.out.below hb)
  have Zq := Lib.hid (Nat.lt_of_lt_of_le Z.out hb.size)
  clear B KD Y Z
  have B := Bq
  have KD := KDq
  have Y := Yq
  have Z := Zq
  clear Bq KDq Yq Zq
  obtain ⟨uc, un, uk, A9, l9, q9, B9, m9, s9, rfl⟩ := hu.form
  clear HC hu
  clear hb
  obtain ⟨H, hH⟩ : ∃ H, W22.heap.size = H := ⟨_, rfl⟩
  obtain ⟨wz, hwz⟩ : ∃ wz, W22.alloc (.cells #[.int .u8 0, .bool false, .int .u32 0, .slice none 0 0, .slice none 0 0] 29) = wz := ⟨_, rfl⟩
  have hkz : Bk wz H 29 elZ := by rw [← hwz, ← hH]; exact Bk.new W22 _ elZ
  have hbz : Below H W22 wz := by rw [← hwz, ← hH]; exact bel1 W22 _
  obtain ⟨z0, z1, z2, z3, z4, zz⟩ := hkz.five
  obtain ⟨g0, g1, g2, g3, g4⟩ := hkz.free5
  obtain ⟨w6, hw4⟩ : ∃ w4, (((((wz.setCell ⟨H, 0, none⟩ (.int .u8 (uc : Int))).setCell ⟨H, 1, none⟩ (.bool uk)).setCell ⟨H, 2, none⟩ (.int .u32 (un : Int))).setCell ⟨H, 3, none⟩ (.slice A9 l9 q9)).setCell ⟨H, 4, none⟩ (.slice B9 m9 s9)) = w4 := ⟨_, rfl⟩
  have hk4 : Bk w6 H 29 [.int .u8 (uc : Int), .bool uk, .int .u32 (un : Int), .slice A9 l9 q9, .slice B9 m9 s9] := by rw [← hw4]; exact ((((hkz.store 0 (.int .u8 (uc : Int))).store 1 (.bool uk)).store 2 (.int .u32 (un : Int))).store 3 (.slice A9 l9 q9)).store 4 (.slice B9 m9 s9)
  have hl := Nat.le_refl H
  have hb4 : Below W22.heap.size W22 w6 := by rw [hH, ← hw4]; exact ((((hbz.setCell (p := ⟨H, 0, none⟩) hl _).setCell (p := ⟨H, 1, none⟩) hl _).setCell (p := ⟨H, 2, none⟩) hl _).setCell (p := ⟨H, 3, none⟩) hl _).setCell (p := ⟨H, 4, none⟩) hl _
  have Bq := Lib.hid (B.out.trans (hb4.mono B.out.size))
  have KDq := Lib.hid (KD.out.below hb4 KD.out.lt)
  clear B KD
  have B := Bq
  have KD := KDq
  clear Bq KDq hb4
  clear hkz hbz hk4 hl Y Z
  go_upto_region 17 with fail
  clear z0 z1 z2 z3 z4 zz g0 g1 g2 g3 g4 hw4 hwz hH
  obtain ⟨zs, wm, hzs, hmk, hzr, hbm⟩ := make_lit 1048572 (by decide) 1048572 rfl w6
  obtain ⟨g2, hg2⟩ : ∃ g2, w6.heap.size = g2 := ⟨_, rfl⟩
  have hDg : D ≠ g2 := by have := KD.out.lt; omega
  rw [hg2] at hmk hzr
  have Bq := Lib.hid (B.out.trans (hbm.mono B.out.size))
  have KDq := Lib.hid (KD.out.below hbm KD.out.lt)
  clear B KD
  have B := Bq
  have KD := KDq
  clear Bq KDq hbm
  obtain ⟨w7, hw7⟩ : ∃ w7, wm.setCell ⟨D, 3, none⟩ (.slice (some ⟨g2, 0, none⟩) 1048572 1048572) = w7 := ⟨_, rfl⟩
  have hk7 : Bk w7 D 29 [.int .u8 0, .bool false, .int .u32 4, .slice (some ⟨g2, 0, none⟩) 1048572 1048572, .slice none 0 0] := by rw [← hw7]; exact KD.out.store 3 _
  have hDw : w.heap.size ≤ D := HDW.out
  have hB7 : Below w.heap.size w w7 := by rw [← hw7]; exact B.out.setCell (p := ⟨D, 3, none⟩) hDw _
  have hz7 : Rb w7 (some ⟨g2, 0, none⟩) zs := by rw [← hw7]; exact hzr.far (B := D) (fun q hq => by injection hq with hq; rw [← hq]; exact hDg.symm) _
  have U := Lib.hid (rd_big hzs hz7 (by unfold maxLen; decide))
  have d3 := KD.out.cell 3
  simp only [List.getElem?_cons_succ, List.getElem?_cons_zero] at d3
  have df := KD.out.free 3
  have KD7 := Lib.hid hk7
  have B7 := Lib.hid hB7
  clear KD B hk7 hB7 hzs hzr hz7 hDw
  have KD := KD7
  have B := B7
  clear KD7 B7
  go_upto_region 18 with fail
  clear d3 df hw7 hmk hg2
  obtain ⟨x0, x1, x2, x3, x4, xz⟩ := KD.out.five
  go_wp2_with fail
  clear x0 x1 x2 x3 x4 xz
  refine (put_c U.out).mono ?_
  rintro r W23 ⟨Q, rfl, hQ, h8, hb⟩
  have Bq := Lib.hid (B.out.trans (hb.mono B.out.size))
  have KDq := Lib.hid (KD.out.below hb KD.out.lt)
  have Uq := Lib.hid (U.out.stay hb)
  clear B KD U
  have B := Bq
  have KD := KDq
  have U := Uq
  clear Bq KDq Uq
  clear hQ h8
  clear hb
  obtain ⟨x0, x1, x2, x3, x4, xz⟩ := KD.out.five
  go_wp2_with fail
  clear x0 x1 x2 x3 x4 xz
  refine (siz_c U.out).mono ?_
  rintro r W24 ⟨rfl, hb⟩
  have Bq := Lib.hid (B.out.trans (hb.mono B.out.size))
  have KDq := Lib.hid (KD.out.below hb KD.out.lt)
  have Uq := Lib.hid (U.out.stay hb)
  clear B KD U
  have B := Bq
  have KD := KDq
  have U := Uq
  clear Bq KDq Uq
  clear U
  clear hb
  go_wp2_with fail
  refine (lives_any _).mono ?_
  rintro r W25 ⟨rfl, hb⟩
  have Bq := Lib.hid (B.out.trans (hb.mono B.out.size))
  clear B
  have B := Bq
  clear Bq
  clear hb
  go_wp2_with fail
  go_ret
  exact ⟨rfl, B.out⟩

open Go.ChangeShapes Go.WideShapes Go.ChangeAt
set_option maxRecDepth 100000 in
theorem elementsKnown_lifted (os : Os) (started : os.Started) (H : Type) (enc : TypeId × Value → H) :
    ReturnsInHanded {} Try.checked os 9 .any (Rows.elementsKnownSpec.pre6 enc Try.prog Try.f9 Rows.elementsKnownRow.domain false) (Rows.elementsKnownSpec.post enc Try.prog Try.f9 false true false false) := by
  refine returnsInHanded_of_change (C := Try.checked) x_own started (by kernel_rfl) Try.func9
    (ChangeSpec.witness6 (enc := enc) (C := Try.checked) false ⟨#[], #[], []⟩ 8 (by kernel_rfl) (by kernel_rfl) (by kernel_rfl) (by kernel_rfl)) ?_
  intro W base args ds gs before hval0 hW hcnd _
  have hval : ∀ (j : Nat) t v, Try.f9.params[j]? = some t → args[j]? = some v → Value.okWide Try.prog W .any base t v := hval0
  have hW' := hW
  obtain ⟨p, q, hA0, hV, rfl, hfz, hnd⟩ := hW
  have hA : DataW.TrodAll enc Try.prog W 0 (fun _ => true) true Try.f9.params.toList args.toList ds p := hA0
  rw [Try.params9] at hA hval
  obtain ⟨rfl, rfl, rfl⟩ := trodAll_none hA
  obtain ⟨rfl, rfl⟩ := trodVars_none hV
  clear hA0 hval0
  refine (known_walk W).mono fun e W' ⟨he, hb⟩ => ?_
  subst he
  exact ⟨_, rfl, law_post (tb := 4) x_laid (by decide +kernel) rfl rfl (by kernel_rfl) Try.underlying4 hW' hb⟩

/-- The statement. -/
theorem elementsKnown_holds : Rows.ElementsKnownSaid :=
  OpenClaim.holds_of_wide 9 Try.f9 rfl rfl rfl rfl rfl rfl rfl ⟨rfl, rfl, rfl, rfl, rfl⟩ rfl rfl rfl rfl rfl (by kernel_rfl) Try.func9 (by kernel_rfl)
    (of_decide_eq_true (by kernel_rfl)) (by unfold Func.isWrapper; first | (rw [if_pos (by decide +kernel)]; kernel_rfl) | (rw [if_neg (by decide +kernel)]; exact ⟨rfl, rfl⟩))
    (fun os started H enc _ => elementsKnown_lifted os started H enc)
end Go.Proofs.Ytgdjgahmnnjeeaa
