/-
  Layer 10, the statement TimesBack: the element and the text of a time are those of the definition, and are read as the time again; the examples hold.
  Conditions: the package-level variables that the row lists hold what the program's text lays (the card ties them).
-/
import Derived.Test.YtecmgkmonehmfaaDoorTimLi
import Derived.Test.YtecmgkmonehmfaaDoorTimRw
import Derived.Deep.DeepCutAuto
import Derived.Deep.CutBlock
namespace Go.Proofs.YtecmgkmonehmfaaDoor.Tim
open Go.RowKit Go.Shelf

set_option linter.unusedSimpArgs false in
set_option linter.unusedVariables false in
set_option maxHeartbeats 6400000 in
set_option maxRecDepth 100000 in
theorem back_walk (a b c d e f : Nat) (hr : PtR a b c d e f) (w : World) (hT : Env w) :
    Calls Tryd.prog 4 #[.agg (ptL a b c d e f).toArray] w fun x w' => x = .returned (.bool true) ∧ Below w.heap.size w w' := by
  have Z : ∀ w : World, (zeroValue 23).run Tryd.prog w = .ok (.agg #[.int .i64 0, .int .i64 0, .int .i64 0, .int .i64 0, .int .i64 0, .int .i64 0]) w := zTm
  have K0 := Lib.hid (St.start hT)
  obtain ⟨y, hy⟩ : ∃ y, a % 10000 = y := ⟨_, rfl⟩
  obtain ⟨m, hm⟩ : ∃ m, 1 + b % 12 = m := ⟨_, rfl⟩
  obtain ⟨dd, hdd⟩ : ∃ dd, ofD a b c = dd := ⟨_, rfl⟩
  obtain ⟨h, hh⟩ : ∃ h, d % 24 = h := ⟨_, rfl⟩
  obtain ⟨mi, hmi⟩ : ∃ mi, e % 60 = mi := ⟨_, rfl⟩
  obtain ⟨s, hs⟩ : ∃ s, f % 60 = s := ⟨_, rfl⟩
  have hc : ck y m dd h mi s = 0 := by have := of_ck a b c d e f; rwa [hy, hm, hdd, hh, hmi, hs] at this
  obtain ⟨k, hk⟩ : ∃ k, tagN y = k := ⟨_, rfl⟩
  have hk2 : k = 23 ∨ k = 24 := by rw [← hk]; exact tagN_two y
  obtain ⟨l, hl⟩ : ∃ l, txtE k y m dd h mi s = l := ⟨_, rfl⟩
  obtain ⟨N, hN⟩ : ∃ N, l.length = N := ⟨_, rfl⟩
  have h8 : All8 l := by rw [← hl]; exact all_E _ _ _ _ _ _ _
  have hlen := len_E k y m dd h mi s hk2
  rw [hl] at hlen
  obtain ⟨S, hS⟩ : ∃ S, bstr l = S := ⟨_, rfl⟩
  obtain ⟨lx, hlx⟩ : ∃ l, txtX y m dd h mi s = l := ⟨_, rfl⟩
  have hx8 : All8 lx := by rw [← hlx]; exact all_X _ _ _ _ _ _
  have hxl := len_X y m dd h mi s
  rw [hlx] at hxl
  obtain ⟨SX, hSX⟩ : ∃ S, bstr lx = S := ⟨_, rfl⟩
  obtain ⟨k2, hkk⟩ : ∃ k2 : Nat, 47 - k = k2 := ⟨_, rfl⟩
  have hk22 : k2 = 23 ∨ k2 = 24 := by omega
  have hsub : IntKind.u32.wrap (47 - (k : Int)) = (k2 : Int) := by rw [IntKind.wrap_u32]; omega
  have hsub2 : (47 - (k : Int)) % 4294967296 = (k2 : Int) := by omega
  have HANS := Lib.hid (yesE y m dd h mi s hc hk hl)
  have HANX := Lib.hid (yesX y m dd h mi s hc hlx)
  have HNO : Hid (AnsE k2 l (tL 0 0 0 0 0 0) 11) := Lib.hid (noLen hk22 (by
    rw [hlen]
    rcases hk2 with rfl | rfl
    · obtain rfl : k2 = 24 := by omega
      decide
    · obtain rfl : k2 = 23 := by omega
      decide))
  have HLM : Hid (l.length ≤ 1000000) := Lib.hid (by rw [hlen]; split <;> omega)
  have HNM : Hid (N ≤ 1000000) := Lib.hid (by rw [← hN, hlen]; split <;> omega)
  have HXM : Hid (lx.length ≤ 1000000) := Lib.hid (by omega)
  have HR := Lib.hid hr
  have HL := Lib.hid (And.intro hy (And.intro hm (And.intro hdd (And.intro hh (And.intro hmi hs)))))
  have HC := Lib.hid hc
  have HK := Lib.hid hk
  have HK2 := Lib.hid hk2
  have HK22 := Lib.hid hk22
  have HLL := Lib.hid hl
  have HN := Lib.hid hN
  have H8 := Lib.hid h8
  have HS := Lib.hid hS
  have HX8 := Lib.hid hx8
  have HSX := Lib.hid hSX
  have HSX2 : Hid (bstr (txtX y m dd h mi s) = SX) := Lib.hid (by rw [hlx, hSX])
  have HSE : Hid (bstr (txtE k y m dd h mi s) = S) := Lib.hid (by rw [hl, hS])
  clear hr hT hy hm hdd hh hmi hs hc hk hk2 hl hN h8 hlen hS hlx hx8 hxl hSX hkk hk22
  go_enter Tryd.func4, Tryd.ntmps4
  go_upto_region 1 with fail
  obtain ⟨g1, hg1⟩ : ∃ g, w.heap.size = g := ⟨_, rfl⟩
  obtain ⟨w1, hw1⟩ : ∃ v, w.alloc (.cells (ptL a b c d e f).toArray 44) = v := ⟨_, rfl⟩
  have hbk : Hid (Bk w1 g1 44 (ptL a b c d e f)) := Lib.hid (by rw [← hw1, ← hg1]; exact Bk.new w _ (ptL a b c d e f))
  have hb : Hid (Below w.heap.size w w1) := Lib.hid (by rw [← hw1]; exact bel1 w _)
  have GE_g1 : Hid (w.heap.size ≤ g1) := Lib.hid (by rw [← hg1]; exact K0.out.b.size)
  rw [hw1, hg1]
  have K1 := kp K0 hb
  clear hb K0
  have Kn := kb K1 hbk
  clear hbk K1 hg1 hw1
  have K1 := Kn
  clear Kn
  go_wp2_with (refine wpList_loadGg (by rfl) (.tmp 1) rfl rfl (rangeB (K1.out.k (g1, 44, ptL a b c d e f) (by simp))) Tryd.underlying44 rfl infoPt ?_)
  refine (tof_at w1 a b c d e f HR.out y m dd h mi s HL.out.1 HL.out.2.1 HL.out.2.2.1 HL.out.2.2.2.1 HL.out.2.2.2.2.1 HL.out.2.2.2.2.2).mono ?_
  rintro e w2 ⟨rfl, hb⟩
  have K2 := kp K1 hb
  clear hb K1
  go_upto_region 2 with fail
  obtain ⟨g3, hg3⟩ : ∃ g, w2.heap.size = g := ⟨_, rfl⟩
  obtain ⟨w3, hw3⟩ : ∃ v, w2.alloc (.cells #[.int .i64 (y : Int), .int .i64 (m : Int), .int .i64 (dd : Int), .int .i64 (h : Int), .int .i64 (mi : Int), .int .i64 (s : Int)] 23) = v := ⟨_, rfl⟩
  have hbk : Hid (Bk w3 g3 23 (tL y m dd h mi s)) := Lib.hid (by rw [← hw3, ← hg3]; exact Bk.new w2 _ (tL y m dd h mi s))
  have hb : Hid (Below w2.heap.size w2 w3) := Lib.hid (by rw [← hw3]; exact bel1 w2 _)
  have GE_g3 : Hid (w.heap.size ≤ g3) := Lib.hid (by rw [← hg3]; exact K2.out.b.size)
  rw [hw3, hg3]
  have K3 := kp K2 hb
  clear hb K2
  have Kn := kb K3 hbk
  clear hbk K3 hg3 hw3
  have K3 := Kn
  clear Kn
  go_wp2_with (refine wpList_loadGg (by rfl) (.tmp 3) rfl rfl (rangeB (K3.out.k (g3, 23, tL y m dd h mi s) (by simp))) Tryd.underlying23 rfl infoTm ?_)
  refine (elem_at w3 y m dd h mi s HC.out k HK.out l HLL.out N HN.out K3.out.t).mono ?_
  rintro e w4 ⟨A, rfl, hr, hb⟩
  have K4 := kp K3 hb
  clear hb K3
  have Kn := ka K4 hr
  clear hr K4
  have K4 := Kn
  clear Kn
  go_upto_region 3 with fail
  obtain ⟨g4, hg4⟩ : ∃ g, w4.heap.size = g := ⟨_, rfl⟩
  obtain ⟨w5, hw5⟩ : ∃ v, w4.alloc (.cells #[.int .u8 0, .bool false, .int .u32 (k : Int), .slice A N N, .slice none 0 0] 37) = v := ⟨_, rfl⟩
  have hbk : Hid (Bk w5 g4 37 (elC k (.slice A N N))) := Lib.hid (by rw [← hw5, ← hg4]; exact Bk.new w4 _ (elC k (.slice A N N)))
  have hb : Hid (Below w4.heap.size w4 w5) := Lib.hid (by rw [← hw5]; exact bel1 w4 _)
  have GE_g4 : Hid (w.heap.size ≤ g4) := Lib.hid (by rw [← hg4]; exact K4.out.b.size)
  rw [hw5, hg4]
  have K5 := kp K4 hb
  clear hb K4
  have Kn := kb K5 hbk
  clear hbk K5 hg4 hw5
  have K5 := Kn
  clear Kn
  go_wp2_with (refine wpList_loadGg (by rfl) (.tmp 3) rfl rfl (rangeB (K5.out.k (g3, 23, tL y m dd h mi s) (by simp))) Tryd.underlying23 rfl infoTm ?_)
  refine (relem_at w5 y m dd h mi s HC.out k HK.out S HSE.out).mono ?_
  rintro e w6 ⟨rfl, hb⟩
  have K6 := kp K5 hb
  clear hb K5
  go_wp2_with (refine wpList_loadGg (by rfl) (.tmp 4) rfl rfl (rangeB (K6.out.k (g4, 37, elC k (.slice A N N)) (by simp))) Tryd.underlying37 rfl infoEl ?_)
  refine (is_at w6 A l H8.out N k HN.out HNM.out S HS.out (K6.out.r (A, cs8 l) (by simp))).mono ?_
  rintro e w7 ⟨rfl, hb⟩
  have K7 := kp K6 hb
  clear hb K6
  go_wp2_with (refine wpList_loadGg (by rfl) (.tmp 3) rfl rfl (rangeB (K7.out.k (g3, 23, tL y m dd h mi s) (by simp))) Tryd.underlying23 rfl infoTm ?_)
  refine (lof_at w7 k HK2.out l H8.out HLM.out S HS.out y m dd h mi s 0 HANS.out K7.out.t).mono ?_
  rintro e w8 ⟨rfl, hb⟩
  have K8 := kp K7 hb
  clear hb K7
  go_wp2_with fail
  refine (lof_at w8 k2 HK22.out l H8.out HLM.out S HS.out 0 0 0 0 0 0 11 HNO.out K8.out.t).mono ?_
  rintro e w9 ⟨rfl, hb⟩
  have K9 := kp K8 hb
  clear hb K8
  clear hsub hsub2
  go_upto_region 8 with fail
  have hdr : Hid (Below w9.heap.size w9 w9.drew) := Lib.hid (Below.refl _ _).drew
  have KD := kp K9 hdr
  clear K9 hdr
  refine wp_region_held_drew (S := fun W => Bk W g3 23 (tL y m dd h mi s)) (by kernel_rfl) (KD.out.k (g3, 23, tL y m dd h mi s) (by simp)) (fun hS => ?_)
  generalize w9.drew = w10 at *
  have K10 := KD
  clear KD
  refine wpAnyH_take (i := 0) (oi := ⟨some 39, _, _, _, _, _⟩) (v := .agg (tL y m dd h mi s).toArray) rfl (by kernel_rfl) (by kernel_rfl) (by kernel_rfl) (fun _ _ _ h => h) (yieldsIf_load_mid (by rfl) 23 (.tmp 3) rfl g3 0 rfl (tL y m dd h mi s) _ (fun W h => rangeB h) Tryd.underlying23 rfl infoTm) hS ?_
  (try simp only [Act.put, List.setIfInBounds_toArray, List.set_cons_zero, List.set_cons_succ])
  refine wpAnyH_take (i := 2) (oi := ⟨some 41, _, _, _, _, _⟩) (v := .agg (tL y m dd h mi s).toArray) rfl (by kernel_rfl) (by kernel_rfl) (by kernel_rfl) (fun _ _ _ h => h) (yieldsIf_load_mid (by rfl) 23 (.tmp 3) rfl g3 0 rfl (tL y m dd h mi s) _ (fun W h => rangeB h) Tryd.underlying23 rfl infoTm) hS ?_
  (try simp only [Act.put, List.setIfInBounds_toArray, List.set_cons_zero, List.set_cons_succ])
  refine wpAnyH_ready (rs := [1]) (by kernel_rfl) (by simp) ?_
  refine AllReadyH.cons (o := _) rfl (fun K hK => ?_) (AllReadyH.nil)
  go_simp
  refine (text_at w10 y m dd h mi s HC.out SX HSX2.out K10.out.t).mono ?_
  rintro e w11 ⟨rfl, hb⟩
  have K11 := kp K10 hb
  clear hb K10
  go_simp
  refine hK.out _ _ (K11.out.k (g3, 23, tL y m dd h mi s) (by simp)) (fun hS => ?_)
  clear hK K
  (try simp only [Act.put, List.setIfInBounds_toArray, List.set_cons_zero, List.set_cons_succ])
  refine wpAnyH_ready (rs := [3]) (by kernel_rfl) (by simp) ?_
  refine AllReadyH.cons (o := _) rfl (fun K hK => ?_) (AllReadyH.nil)
  go_simp
  refine (rtext_at w11 y m dd h mi s HC.out SX HSX2.out).mono ?_
  rintro e w12 ⟨rfl, hb⟩
  have K12 := kp K11 hb
  clear hb K11
  go_simp
  refine hK.out _ _ (K12.out.k (g3, 23, tL y m dd h mi s) (by simp)) (fun hS => ?_)
  clear hK K
  (try simp only [Act.put, List.setIfInBounds_toArray, List.set_cons_zero, List.set_cons_succ])
  refine wpAnyH_take (i := 4) (oi := ⟨some 43, _, _, _, _, _⟩) (v := .bool true) rfl (by kernel_rfl) (by kernel_rfl) (by kernel_rfl) (fun _ _ _ h => h) (Or.inl ⟨by rfl, fun w hSw => by (try dsimp only at hSw); go_simp⟩) hS ?_
  simp only [Act.put, List.setIfInBounds_toArray, List.set_cons_zero, List.set_cons_succ]
  refine wpAnyH_take (i := 5) (oi := ⟨some 44, _, _, _, _, _⟩) (v := .bool true) rfl (by kernel_rfl) (by kernel_rfl) (by kernel_rfl) (fun _ _ _ h => h) (Or.inl ⟨by rfl, fun w hSw => by (try dsimp only at hSw); go_simp⟩) hS ?_
  simp only [Act.put, List.setIfInBounds_toArray, List.set_cons_zero, List.set_cons_succ]
  refine wpAnyH_take (i := 6) (oi := ⟨some 45, _, _, _, _, _⟩) (v := .agg (tL y m dd h mi s).toArray) rfl (by kernel_rfl) (by kernel_rfl) (by kernel_rfl) (fun _ _ _ h => h) (yieldsIf_load_mid (by rfl) 23 (.tmp 3) rfl g3 0 rfl (tL y m dd h mi s) _ (fun W h => rangeB h) Tryd.underlying23 rfl infoTm) hS ?_
  (try simp only [Act.put, List.setIfInBounds_toArray, List.set_cons_zero, List.set_cons_succ])
  refine wpAnyH_take (i := 8) (oi := ⟨some 47, _, _, _, _, _⟩) (v := .agg (tL y m dd h mi s).toArray) rfl (by kernel_rfl) (by kernel_rfl) (by kernel_rfl) (fun _ _ _ h => h) (yieldsIf_load_mid (by rfl) 23 (.tmp 3) rfl g3 0 rfl (tL y m dd h mi s) _ (fun W h => rangeB h) Tryd.underlying23 rfl infoTm) hS ?_
  (try simp only [Act.put, List.setIfInBounds_toArray, List.set_cons_zero, List.set_cons_succ])
  refine wpAnyH_ready (rs := [7]) (by kernel_rfl) (by simp) ?_
  refine AllReadyH.cons (o := _) rfl (fun K hK => ?_) (AllReadyH.nil)
  go_simp
  refine (rtext_at w12 y m dd h mi s HC.out SX HSX2.out).mono ?_
  rintro e w13 ⟨rfl, hb⟩
  have K13 := kp K12 hb
  clear hb K12
  go_simp
  refine hK.out _ _ (K13.out.k (g3, 23, tL y m dd h mi s) (by simp)) (fun hS => ?_)
  clear hK K
  (try simp only [Act.put, List.setIfInBounds_toArray, List.set_cons_zero, List.set_cons_succ])
  refine wpAnyH_ready (rs := [9]) (by kernel_rfl) (by simp) ?_
  refine AllReadyH.cons (o := _) rfl (fun K hK => ?_) (AllReadyH.nil)
  go_simp
  refine (parsed_at w13 lx HX8.out HXM.out SX HSX.out y m dd h mi s 0 HANX.out K13.out.t).mono ?_
  rintro e w14 ⟨rfl, hb⟩
  have K14 := kp K13 hb
  clear hb K13
  go_simp
  refine hK.out _ _ (K14.out.k (g3, 23, tL y m dd h mi s) (by simp)) (fun hS => ?_)
  clear hK K
  (try simp only [Act.put, List.setIfInBounds_toArray, List.set_cons_zero, List.set_cons_succ])
  refine wpAnyH_take (i := 10) (oi := ⟨some 49, _, _, _, _, _⟩) (v := .bool true) rfl (by kernel_rfl) (by kernel_rfl) (by kernel_rfl) (fun _ _ _ h => h) (Or.inl ⟨by rfl, fun w hSw => by (try dsimp only at hSw); go_simp⟩) hS ?_
  simp only [Act.put, List.setIfInBounds_toArray, List.set_cons_zero, List.set_cons_succ]
  refine wpAnyH_take (i := 11) (oi := ⟨some 50, _, _, _, _, _⟩) (v := .bool true) rfl (by kernel_rfl) (by kernel_rfl) (by kernel_rfl) (fun _ _ _ h => h) (Or.inl ⟨by rfl, fun w hSw => by (try dsimp only at hSw); go_simp⟩) hS ?_
  simp only [Act.put, List.setIfInBounds_toArray, List.set_cons_zero, List.set_cons_succ]
  refine wpAnyH_ready (rs := [12]) (by kernel_rfl) (by simp) ?_
  refine AllReadyH.cons (o := _) rfl (fun K hK => ?_) (AllReadyH.nil)
  go_simp
  refine (lives_at w14 K14.out.t).mono ?_
  rintro e w15 ⟨rfl, hb⟩
  have K15 := kp K14 hb
  clear hb K14
  go_simp
  refine hK.out _ _ (K15.out.k (g3, 23, tL y m dd h mi s) (by simp)) (fun hS => ?_)
  clear hK K
  (try simp only [Act.put, List.setIfInBounds_toArray, List.set_cons_zero, List.set_cons_succ])
  refine wpAnyH_take (i := 13) (oi := ⟨some 52, _, _, _, _, _⟩) (v := .bool true) rfl (by kernel_rfl) (by kernel_rfl) (by kernel_rfl) (fun _ _ _ h => h) (Or.inl ⟨by rfl, fun w hSw => by (try dsimp only at hSw); go_simp⟩) hS ?_
  simp only [Act.put, List.setIfInBounds_toArray, List.set_cons_zero, List.set_cons_succ]
  refine wpAnyH_take (i := 14) (oi := ⟨some 2, _, _, _, _, _⟩) (v := .bool true) rfl (by kernel_rfl) (by kernel_rfl) (by kernel_rfl) (fun _ _ _ h => h) (Or.inl ⟨by rfl, fun w hSw => by (try dsimp only at hSw); go_simp⟩) hS ?_
  simp only [Act.put, List.setIfInBounds_toArray, List.set_cons_zero, List.set_cons_succ]
  refine wpAnyH_done (by kernel_rfl) ?_ _
  clear hS
  go_wp2_with fail
  go_ret
  exact ⟨rfl, K15.out.b⟩

open Go.ChangeShapes Go.WideShapes Go.ChangeAt Go.WideMaps Go.WideElems
set_option maxRecDepth 100000 in
theorem timesBack_lifted (os : Os) (started : os.Started) (H : Type) (enc : TypeId × Value → H) :
    ReturnsInHanded {} Tryd.checked os 4 .any (fun w args => (Rows.timesBackSpec.pre enc Tryd.prog Tryd.f4 [] false w args ∧ laidMetH Tryd.prog laidL w) ∧ sizedMet enc Tryd.prog Tryd.f4 (OpenSpec.ofChange Rows.timesBackSpec) false w args)
      (Rows.timesBackSpec.post enc Tryd.prog Tryd.f4 false true false false) := by
  refine returnsInHanded_of_change_and (C := Tryd.checked) (X := fun w _ => laidMetH Tryd.prog laidL w) (fun _ _ _ hh h => h.of_heap hh) x_own started (by kernel_rfl) Tryd.func4
    (ChangeSpec.witness_shaped (enc := enc) (C := Tryd.checked) (os := os) (X := fun w _ => laidMetH Tryd.prog laidL w) false (World.laidAll Tryd.prog os laidL) #[.agg #[.int .u16 0, .int .u8 0, .int .u8 0, .int .u8 0, .int .u8 0, .int .u8 0]] 8 (World.laidAll_os _ _ _) (World.shaped_of_ZipB (by kernel_rfl) (by kernel_rfl)) (by kernel_rfl) (by kernel_rfl) (by kernel_rfl) (door_met os _)) ?_
  intro W base args ds gs before hval0 hW _ _ hL _
  have hval : ∀ (j : Nat) t v, Tryd.f4.params[j]? = some t → args[j]? = some v → Value.okWide Tryd.prog W .any base t v := hval0
  have hW' := hW
  obtain ⟨p, q, hA0, hV, rfl, hfz, hnd⟩ := hW
  have hA : DataW.TrodAll enc Tryd.prog W 0 (fun _ => true) true Tryd.f4.params.toList args.toList ds p := hA0
  rw [Tryd.params4] at hA hval
  obtain ⟨v0, d0, rfl, rfl, h0⟩ := trodAll_one hA
  obtain ⟨rfl, rfl⟩ := trodVars_none hV
  obtain ⟨a, b, c, d, e, f, rfl, hr⟩ := open_T (hval 0 _ v0 rfl rfl) h0
  have hE := of_laid hL
  clear hA0 hval0
  simp only [List.append_nil] at hW'
  refine (back_walk a b c d e f hr W hE).mono fun e W' ⟨he, hb⟩ => ?_
  subst he
  exact ⟨_, rfl, law_post (tb := 4) x_laid (by decide +kernel) rfl rfl (by kernel_rfl) Tryd.underlying4 hW' hb⟩

/-- The row's statement. -/
theorem timesBack_row : Rows.TimesBackSaid :=
  OpenClaim.holds_of_wide 4 Tryd.f4 rfl rfl rfl rfl rfl rfl rfl ⟨rfl, rfl, rfl, rfl, rfl⟩ rfl rfl rfl rfl rfl (by kernel_rfl) Tryd.func4 (by kernel_rfl)
    (of_decide_eq_true (by kernel_rfl)) (by unfold Func.isWrapper; first | (rw [if_pos (by decide +kernel)]; kernel_rfl) | (rw [if_neg (by decide +kernel)]; exact ⟨rfl, rfl⟩))
    (fun os started H enc _ => timesBack_lifted os started H enc)

/-- The statement: the card. -/
theorem timesBack_holds : Rows.TimesBackCardSaid :=
  Claim7.holds_tied_plain_at .later [] [.data] true Rows.timesBackCard.stood.harness Rows.timesBackCard.stood.looks
    timesBack_row (fun _ h => by cases h) (by kernel_rfl) (fun _ h => by cases h) timesBack_row_tie rfl ⟨rfl, rfl⟩ (by kernel_rfl) rfl
    (fun f fn hf hfn => by
      obtain rfl : f = 4 := Option.some.inj ((show Tryd.prog.funcNamed "vidimus/vidimuslaw10.TimesBack" = some 4 by kernel_rfl).symm.trans hf) |>.symm
      obtain rfl : fn = Tryd.f4 := (Option.some.inj (Tryd.func4.symm.trans hfn)).symm
      exact ⟨by kernel_rfl, fun j t ht => by
        rw [Tryd.params4] at ht
        have hm : t ∈ Tryd.f4.params.toList := by rw [Tryd.params4]; exact Array.mem_toList_iff.2 (Array.mem_of_getElem? ht)
        have hall : (Tryd.f4.params.toList.all fun u => !Tryd.prog.wantsStandIn u) = true := by kernel_rfl
        exact (show Tryd.prog.wantsStandIn t = false by simpa using List.all_eq_true.1 hall t hm)⟩)
    (by kernel_rfl)
end Go.Proofs.YtecmgkmonehmfaaDoor.Tim
