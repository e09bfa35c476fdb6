/-
  Layer 10: Of, of the program, where what it reads is a time.
  Conditions: what read makes of the content is known.
-/
import Derived.Test.YtecmgkmonehmfaaDoorTimZb
import Derived.Test.YtecmgkmonehmfaaDoorShelf
namespace Go.Proofs.YtecmgkmonehmfaaDoor.Tim
open Go.RowKit
attribute [local go_sem] Oper.semAt_some

theorem neqT (a : Nat) (k : Bool) (n a2 : Nat) (k2 : Bool) (n2 : Nat) (W : World) : (binOp .neq 33 (.agg (tgC a k n).toArray) (.agg (tgC a2 k2 n2).toArray)).run Tryd.prog W = .ok (.bool (!(decide (a = a2) && (k == k2) && decide (n = n2)))) W := by
  show (binOp .neq 33 (.agg #[.int .u8 (a : Int), .bool k, .int .u32 (n : Int)]) (.agg #[.int .u8 (a2 : Int), .bool k2, .int .u32 (n2 : Int)])).run Tryd.prog W = _
  have u0 := Tryd.underlying33
  have u1 := Tryd.underlying31
  have u2 := Tryd.underlying5
  have u3 := Tryd.underlying4
  simp [go_sem]
  by_cases h1 : a = a2 <;> by_cases h2 : k = k2 <;> by_cases h3 : n = n2 <;> simp [h1, h2, h3] <;> omega
set_option linter.unusedSimpArgs false in
set_option linter.unusedVariables false in
set_option maxHeartbeats 4000000 in
set_option maxRecDepth 100000 in
theorem of_okU (l : List Nat) (N ca : Nat) (hN : l.length = N) (A : Option Addr) (B : Option Addr) (cb : Nat) (a0 : Int) (y m d h mi s : Nat) (hy : y ≤ 1000000) (hm : m ≤ 1000000) (hd : d ≤ 1000000) (hh : h ≤ 1000000) (hmi : mi ≤ 1000000) (hs : s ≤ 1000000) (hz1 : -1000000 ≤ a0) (hz2 : a0 ≤ 1000000) (hyf : fullI a0 = (y : Int)) (h8 : All8 l) (CR : ∀ W, Calls Tryd.prog 39 #[.string ⟨#[89, 89, 77, 77, 68, 68, 104, 104, 109, 109, 115, 115, 90]⟩, .string (bstr l)] W fun e w' => e = .returned (.agg (tL a0 m d h mi s).toArray) ∧ Below W.heap.size W w') (hck : ck y m d h mi s = 0) (w : World) (hE : Env w) (hA : Rb w A l) :
    Calls Tryd.prog 26 #[.agg (elF 0 false 23 (.slice A N ca) (.slice B 0 cb)).toArray] w fun e w' => e = .returned (if tagN y = 23 ∧ txtE (tagN y) y m d h mi s = l then .tuple #[.agg (tL y m d h mi s).toArray, .int .i64 0] else .tuple #[.agg (tL 0 0 0 0 0 0).toArray, .int .i64 11]) ∧ Below w.heap.size w w' := by
  have Z := zTm
  have ZE := zEl
  obtain ⟨S, hS⟩ : ∃ S, bstr l = S := ⟨_, rfl⟩
  rw [hS] at CR
  have HCR := Lib.hid CR
  have HE := Lib.hid hE
  have HYF := Lib.hid hyf
  clear hyf
  obtain ⟨g, hg⟩ : ∃ g, w.heap.size = g := ⟨_, rfl⟩
  obtain ⟨g2, hg2⟩ : ∃ g2, g + 1 = g2 := ⟨_, rfl⟩
  obtain ⟨w1, hw1⟩ : ∃ w1, (w.alloc (.cells (elF 0 false 23 (.slice A N ca) (.slice B 0 cb)).toArray 37)).alloc (.cells (tL 0 0 0 0 0 0).toArray 23) = w1 := ⟨_, rfl⟩
  have B1 : Hid (Below w.heap.size w w1) := Lib.hid (by rw [← hw1]; exact (bel1 w _).alloc (by simp) _)
  have K1 : Hid (Bk w1 g 37 (elF 0 false 23 (.slice A N ca) (.slice B 0 cb))) := Lib.hid (by rw [← hw1, ← hg]; exact (Bk.new w _ _).alloc _)
  have R1 : Hid (Bk w1 g2 23 (tL 0 0 0 0 0 0)) := Lib.hid (by
    rw [← hw1, ← hg2, ← hg]
    have := Bk.new (w.alloc (.cells (elF 0 false 23 (.slice A N ca) (.slice B 0 cb)).toArray 37)) 23 (tL 0 0 0 0 0 0)
    rwa [World.size_alloc] at this)
  have HW1 := Lib.hid hw1
  have HG := Lib.hid hg
  have HG2 := Lib.hid hg2
  have CL : Hid (∀ W, Calls Tryd.prog 34 #[.agg (tgC 0 false 23).toArray] W fun e w' => e = .returned (.tuple #[.string ⟨#[89, 89, 77, 77, 68, 68, 104, 104, 109, 109, 115, 115, 90]⟩, .bool true]) ∧ Below W.heap.size W w') := Lib.hid (fun W => layout_any 0 false 23 W)
  have RT := Lib.hid (rangeF K1.out)
  have hi : (Tryd.prog.info? 33).map (·.size) = some (tgC 0 false 23).length := infoTg
  have hr3 : ∀ W, Hid (Below w.heap.size w W) → (convert 34 9 (.slice A N ca)).run Tryd.prog W = .ok (.string S) W := fun W hb => by
    have := run_str (P := Tryd.prog) (src := 34) (dst := 9) Tryd.underlying34 Tryd.underlying5 Tryd.underlying9 (hA.below hb.out) ca
    rwa [hN, hS] at this
  have HR3 := Lib.hid hr3
  have HQ := fun W => neqT 0 false (tagN y) 0 false 23 W
  obtain ⟨q, hq⟩ : ∃ q, decide (tagN y = 23) = q := ⟨_, rfl⟩
  rw [show (decide ((0 : Nat) = 0) && (false == false) && decide (tagN y = 23)) = q by rw [hq]; simp] at HQ
  obtain ⟨RV, hRV⟩ : ∃ v, (if tagN y = 23 ∧ txtE (tagN y) y m d h mi s = l then Value.tuple #[.agg (tL y m d h mi s).toArray, .int .i64 0] else .tuple #[.agg (tL 0 0 0 0 0 0).toArray, .int .i64 11]) = v := ⟨_, rfl⟩
  rw [hRV]
  have HRV := Lib.hid hRV
  have HQQ := Lib.hid hq
  have HTT := Lib.hid (bstr_dec (all_E (tagN y) y m d h mi s) h8)
  rw [hS] at HTT
  have HA8 := Lib.hid (all_E (tagN y) y m d h mi s)
  clear hRV hq h8
  have CF := Lib.hid (fun W => full_int a0 hz1 hz2 W)
  clear hw1 hg hg2 hS CR hE hN hA hr3
  go_enter Tryd.func26, Tryd.ntmps26
  go_upto_region 1 with fail
  rw [HW1.out, HG.out, HG2.out]
  go_wp2_with (refine wpList_loadG rfl (.tmp 10) rfl rfl RT.out Tryd.underlying33 rfl hi ?_)
  refine (CL.out _).mono ?_
  rintro e w3 ⟨rfl, hb⟩
  have B3 := bt B1 (Lib.hid hb)
  have K3 := kt K1 (Lib.hid hb)
  have R3 := kt R1 (Lib.hid hb)
  have c4 : w3.cell? ⟨g, 4, none⟩ = some (.slice B 0 cb) := by rw [K3.out.cell]; rfl
  have c3 : w3.cell? ⟨g, 3, none⟩ = some (.slice A N ca) := by rw [K3.out.cell]; rfl
  have s0 := HR3.out w3 B3
  clear hb B1 K1 R1
  go_wp2_with fail
  refine (HCR.out _).mono ?_
  rintro e w4 ⟨rfl, hb⟩
  have B4 := bt B3 (Lib.hid hb)
  have K4 := kt K3 (Lib.hid hb)
  have R4 := kt R3 (Lib.hid hb)
  clear hb B3 K3 R3 c4 c3 s0
  obtain ⟨g6, hg6⟩ : ∃ g6, w4.heap.size = g6 := ⟨_, rfl⟩
  have HG6 := Lib.hid hg6
  have hn2 : g2 ≠ g6 := by have := R4.out.lt; omega
  have hn1 : g ≠ g6 := by have := K4.out.lt; omega
  have hwg : w.heap.size ≤ g6 := by have := B4.out.size; omega
  clear hg6
  go_upto_region 7 with (refine wpList_storeG rfl (.tmp 6) (.tmp 27) rfl rfl (ds := tL a0 m d h mi s) rfl (Bk.new w4 23 (tL 0 0 0 0 0 0)) infoTm rfl (tL_one _ _ _ _ _ _) ?_; intro w5 hk5 hg5 hz5; have B5 := Lib.hid ((B4.out.alloc B4.out.size _).grown hg5 (Nat.le_trans B4.out.size (by simp)) (fun k e => by injection e with e; have := HG6.out; omega)); have R5 : Hid (Bk w5 g2 23 (tL 0 0 0 0 0 0)) := Lib.hid ((R4.out.alloc _).only hg5 (fun e => by injection e with e; have := HG6.out; omega)); have T5 : Hid (Bk w5 g6 23 (tL a0 m d h mi s)) := Lib.hid (by have := hk5; rw [HG6.out] at this; exact this); have K5 : Hid (Bk w5 g 37 (elF 0 false 23 (.slice A N ca) (.slice B 0 cb))) := Lib.hid ((K4.out.alloc _).only hg5 (fun e => by injection e with e; have := HG6.out; omega)); clear hk5 hg5 hz5)
  rw [HG6.out]
  clear K4 R4 B4
  have t0 : w5.cell? ⟨g6, 0, none⟩ = some (.int .i64 a0) := by rw [T5.out.cell]; rfl
  have f0 := T5.out.free 0
  go_wp2_with fail
  refine (CF.out _).mono ?_
  rintro e w5b ⟨rfl, rfl⟩
  go_upto_region 9 with fail
  have T6 : Hid (Bk (w5.setCell ⟨g6, 0, none⟩ (.int .i64 (fullI a0))) g6 23 (tL (fullI a0) m d h mi s)) := Lib.hid (T5.out.store 0 _)
  have K6 : Hid (Bk (w5.setCell ⟨g6, 0, none⟩ (.int .i64 (fullI a0))) g 37 (elF 0 false 23 (.slice A N ca) (.slice B 0 cb))) := Lib.hid (K5.out.far (p := ⟨g6, 0, none⟩) hn1 _)
  have R6 : Hid (Bk (w5.setCell ⟨g6, 0, none⟩ (.int .i64 (fullI a0))) g2 23 (tL 0 0 0 0 0 0)) := Lib.hid (R5.out.far (p := ⟨g6, 0, none⟩) hn2 _)
  have B6 : Hid (Below w.heap.size w (w5.setCell ⟨g6, 0, none⟩ (.int .i64 (fullI a0)))) := Lib.hid (B5.out.setCell (p := ⟨g6, 0, none⟩) hwg _)
  rw [HYF.out] at *
  generalize w5.setCell ⟨g6, 0, none⟩ (.int .i64 (y : Int)) = w6 at *
  clear T5 R5 B5 K5 t0 f0
  have E6 := et HE B6
  have CE := Lib.hid (elem_ok y m d h mi s hy hm hd hh hmi hs hck w6 E6.out)
  obtain ⟨TX, hTX⟩ : ∃ T, txtE (tagN y) y m d h mi s = T := ⟨_, rfl⟩
  rw [hTX] at CE HTT HRV HA8
  obtain ⟨on, hon⟩ : ∃ o, tagN y = o := ⟨_, rfl⟩
  rw [hon] at CE HRV HQQ HQ
  clear hTX hon hck
  go_wp2_with (refine wpList_loadG rfl (.tmp 6) rfl rfl (rangeB T6.out) Tryd.underlying23 rfl infoTm ?_)
  refine CE.out.mono ?_
  rintro e w7 ⟨gb, hgb, rfl, hrd, hb⟩
  have B7 := bt B6 (Lib.hid hb)
  have R7 := kt R6 (Lib.hid hb)
  have K7 := kt K6 (Lib.hid hb)
  have T7 := kt T6 (Lib.hid hb)
  have HRD := Lib.hid (show Rb w7 (some ⟨gb, 0, none⟩) TX from ⟨hrd, HA8.out⟩)
  clear hb hrd B6 R6 T6 K6 CE
  obtain ⟨TL, hTL⟩ : ∃ T, TX.length = T := ⟨_, rfl⟩
  rw [hTL]
  have HTL := Lib.hid hTL
  obtain ⟨g7, hg7⟩ : ∃ g7, w7.heap.size = g7 := ⟨_, rfl⟩
  have HG7 := Lib.hid hg7
  clear hTL hg7
  go_upto_region 10 with (refine wpList_storeG rfl (.tmp 7) (.tmp 37) rfl rfl (ds := elC on (.slice (some ⟨gb, 0, none⟩) TL TL)) rfl (Bk.new w7 37 (elC 0 (.slice none 0 0))) infoEl rfl rfl ?_; intro w8 hk8 hg8 hz8; have HB8 : Hid (Below w7.heap.size w7 w8) := Lib.hid (((Below.refl _ w7).alloc (Nat.le_refl _) _).grown hg8 (by simp) (fun k e => by injection e with e; omega)); have O8 : Hid (Bk w8 g7 37 (elC on (.slice (some ⟨gb, 0, none⟩) TL TL))) := Lib.hid (by have := hk8; rw [HG7.out] at this; exact this); clear hk8 hg8 hz8)
  rw [HG7.out]
  have B8 := bt B7 HB8
  have R8 := kt R7 HB8
  have K8 := kt K7 HB8
  have T8 := kt T7 HB8
  have s1 : (convert 34 9 (.slice (some ⟨gb, 0, none⟩) TL TL)).run Tryd.prog w8 = .ok (.string (bstr TX)) w8 := by
    have := run_str (P := Tryd.prog) (src := 34) (dst := 9) Tryd.underlying34 Tryd.underlying5 Tryd.underlying9 (HRD.out.below HB8.out) TL
    rwa [HTL.out] at this
  have CQ := Lib.hid (Tryd.bytes_Equal_strs _ _ _ _ w8 s1 (HR3.out w8 B8))
  rw [HTT.out] at CQ
  have o3 : w8.cell? ⟨g7, 3, none⟩ = some (.slice (some ⟨gb, 0, none⟩) TL TL) := by rw [O8.out.cell]; rfl
  have c3 : w8.cell? ⟨g, 3, none⟩ = some (.slice A N ca) := by rw [K8.out.cell]; rfl
  have RO := Lib.hid (rangeT O8.out)
  have RK := Lib.hid (rangeF K8.out)
  clear s1 B7 R7 K7 T7
  cases q
  · go_wp2_with (first | (refine wpList_loadGg (by rfl) (.tmp 42) rfl rfl RO.out Tryd.underlying33 rfl infoTg ?_) | (refine wpList_loadGg (by rfl) (.tmp 44) rfl rfl RK.out Tryd.underlying33 rfl infoTg ?_) | (refine wpList_storeG rfl (.tmp 2) (.tmp 56) rfl rfl (ds := tL 0 0 0 0 0 0) rfl R8.out infoTm rfl (tL_one _ _ _ _ _ _) ?_; intro w9 hr9 hg9 hz9; have B9 := Lib.hid (B8.out.grown hg9 B8.out.size (fun k e => by injection e with e; have := HG.out; have := HG2.out; omega)); have R9 := Lib.hid hr9; clear hr9 hg9 hz9) | (refine wpList_loadG rfl (.tmp 6) rfl rfl (rangeB T8.out) Tryd.underlying23 rfl infoTm ?_) | (refine wpList_storeG rfl (.tmp 2) (.tmp 57) rfl rfl (ds := tL y m d h mi s) rfl R8.out infoTm rfl (tL_one _ _ _ _ _ _) ?_; intro w9 hr9 hg9 hz9; have B9 := Lib.hid (B8.out.grown hg9 B8.out.size (fun k e => by injection e with e; have := HG.out; have := HG2.out; omega)); have R9 := Lib.hid hr9; clear hr9 hg9 hz9))
    exact retG2 rfl rfl rfl (loadTm R9.out) rfl ⟨by rw [← HRV.out, if_neg (fun h => of_decide_eq_false HQQ.out h.1)]; rfl, B9.out⟩
  · by_cases heq : TX = l
    · rw [decide_eq_true heq] at CQ
      have HEQ := Lib.hid heq
      clear heq
      go_wp2_with (first | (refine wpList_loadGg (by rfl) (.tmp 42) rfl rfl RO.out Tryd.underlying33 rfl infoTg ?_) | (refine wpList_loadGg (by rfl) (.tmp 44) rfl rfl RK.out Tryd.underlying33 rfl infoTg ?_) | (refine wpList_storeG rfl (.tmp 2) (.tmp 56) rfl rfl (ds := tL 0 0 0 0 0 0) rfl R8.out infoTm rfl (tL_one _ _ _ _ _ _) ?_; intro w9 hr9 hg9 hz9; have B9 := Lib.hid (B8.out.grown hg9 B8.out.size (fun k e => by injection e with e; have := HG.out; have := HG2.out; omega)); have R9 := Lib.hid hr9; clear hr9 hg9 hz9) | (refine wpList_loadG rfl (.tmp 6) rfl rfl (rangeB T8.out) Tryd.underlying23 rfl infoTm ?_) | (refine wpList_storeG rfl (.tmp 2) (.tmp 57) rfl rfl (ds := tL y m d h mi s) rfl R8.out infoTm rfl (tL_one _ _ _ _ _ _) ?_; intro w9 hr9 hg9 hz9; have B9 := Lib.hid (B8.out.grown hg9 B8.out.size (fun k e => by injection e with e; have := HG.out; have := HG2.out; omega)); have R9 := Lib.hid hr9; clear hr9 hg9 hz9))
      refine CQ.out.mono ?_
      rintro e w9 ⟨rfl, rfl⟩
      go_wp2_with (first | (refine wpList_loadGg (by rfl) (.tmp 42) rfl rfl RO.out Tryd.underlying33 rfl infoTg ?_) | (refine wpList_loadGg (by rfl) (.tmp 44) rfl rfl RK.out Tryd.underlying33 rfl infoTg ?_) | (refine wpList_storeG rfl (.tmp 2) (.tmp 56) rfl rfl (ds := tL 0 0 0 0 0 0) rfl R8.out infoTm rfl (tL_one _ _ _ _ _ _) ?_; intro w9 hr9 hg9 hz9; have B9 := Lib.hid (B8.out.grown hg9 B8.out.size (fun k e => by injection e with e; have := HG.out; have := HG2.out; omega)); have R9 := Lib.hid hr9; clear hr9 hg9 hz9) | (refine wpList_loadG rfl (.tmp 6) rfl rfl (rangeB T8.out) Tryd.underlying23 rfl infoTm ?_) | (refine wpList_storeG rfl (.tmp 2) (.tmp 57) rfl rfl (ds := tL y m d h mi s) rfl R8.out infoTm rfl (tL_one _ _ _ _ _ _) ?_; intro w9 hr9 hg9 hz9; have B9 := Lib.hid (B8.out.grown hg9 B8.out.size (fun k e => by injection e with e; have := HG.out; have := HG2.out; omega)); have R9 := Lib.hid hr9; clear hr9 hg9 hz9))
      exact retG2 rfl rfl rfl (loadTm R9.out) rfl ⟨by rw [← HRV.out, if_pos ⟨of_decide_eq_true HQQ.out, HEQ.out⟩]; rfl, B9.out⟩
    · rw [decide_eq_false heq] at CQ
      have HEQ := Lib.hid heq
      clear heq
      go_wp2_with (first | (refine wpList_loadGg (by rfl) (.tmp 42) rfl rfl RO.out Tryd.underlying33 rfl infoTg ?_) | (refine wpList_loadGg (by rfl) (.tmp 44) rfl rfl RK.out Tryd.underlying33 rfl infoTg ?_) | (refine wpList_storeG rfl (.tmp 2) (.tmp 56) rfl rfl (ds := tL 0 0 0 0 0 0) rfl R8.out infoTm rfl (tL_one _ _ _ _ _ _) ?_; intro w9 hr9 hg9 hz9; have B9 := Lib.hid (B8.out.grown hg9 B8.out.size (fun k e => by injection e with e; have := HG.out; have := HG2.out; omega)); have R9 := Lib.hid hr9; clear hr9 hg9 hz9) | (refine wpList_loadG rfl (.tmp 6) rfl rfl (rangeB T8.out) Tryd.underlying23 rfl infoTm ?_) | (refine wpList_storeG rfl (.tmp 2) (.tmp 57) rfl rfl (ds := tL y m d h mi s) rfl R8.out infoTm rfl (tL_one _ _ _ _ _ _) ?_; intro w9 hr9 hg9 hz9; have B9 := Lib.hid (B8.out.grown hg9 B8.out.size (fun k e => by injection e with e; have := HG.out; have := HG2.out; omega)); have R9 := Lib.hid hr9; clear hr9 hg9 hz9))
      refine CQ.out.mono ?_
      rintro e w9 ⟨rfl, rfl⟩
      go_wp2_with (first | (refine wpList_loadGg (by rfl) (.tmp 42) rfl rfl RO.out Tryd.underlying33 rfl infoTg ?_) | (refine wpList_loadGg (by rfl) (.tmp 44) rfl rfl RK.out Tryd.underlying33 rfl infoTg ?_) | (refine wpList_storeG rfl (.tmp 2) (.tmp 56) rfl rfl (ds := tL 0 0 0 0 0 0) rfl R8.out infoTm rfl (tL_one _ _ _ _ _ _) ?_; intro w9 hr9 hg9 hz9; have B9 := Lib.hid (B8.out.grown hg9 B8.out.size (fun k e => by injection e with e; have := HG.out; have := HG2.out; omega)); have R9 := Lib.hid hr9; clear hr9 hg9 hz9) | (refine wpList_loadG rfl (.tmp 6) rfl rfl (rangeB T8.out) Tryd.underlying23 rfl infoTm ?_) | (refine wpList_storeG rfl (.tmp 2) (.tmp 57) rfl rfl (ds := tL y m d h mi s) rfl R8.out infoTm rfl (tL_one _ _ _ _ _ _) ?_; intro w9 hr9 hg9 hz9; have B9 := Lib.hid (B8.out.grown hg9 B8.out.size (fun k e => by injection e with e; have := HG.out; have := HG2.out; omega)); have R9 := Lib.hid hr9; clear hr9 hg9 hz9))
      exact retG2 rfl rfl rfl (loadTm R9.out) rfl ⟨by rw [← HRV.out, if_neg (fun h => HEQ.out h.2)]; rfl, B9.out⟩
set_option linter.unusedSimpArgs false in
set_option linter.unusedVariables false in
set_option maxHeartbeats 4000000 in
set_option maxRecDepth 100000 in
theorem of_okG (l : List Nat) (N ca : Nat) (hN : l.length = N) (A : Option Addr) (B : Option Addr) (cb : Nat) (a0 : Int) (y m d h mi s : Nat) (hy : y ≤ 1000000) (hm : m ≤ 1000000) (hd : d ≤ 1000000) (hh : h ≤ 1000000) (hmi : mi ≤ 1000000) (hs : s ≤ 1000000) (hyf : a0 = (y : Int)) (h8 : All8 l) (CR : ∀ W, Calls Tryd.prog 39 #[.string ⟨#[89, 89, 89, 89, 77, 77, 68, 68, 104, 104, 109, 109, 115, 115, 90]⟩, .string (bstr l)] W fun e w' => e = .returned (.agg (tL a0 m d h mi s).toArray) ∧ Below W.heap.size W w') (hck : ck y m d h mi s = 0) (w : World) (hE : Env w) (hA : Rb w A l) :
    Calls Tryd.prog 26 #[.agg (elF 0 false 24 (.slice A N ca) (.slice B 0 cb)).toArray] w fun e w' => e = .returned (if tagN y = 24 ∧ txtE (tagN y) y m d h mi s = l then .tuple #[.agg (tL y m d h mi s).toArray, .int .i64 0] else .tuple #[.agg (tL 0 0 0 0 0 0).toArray, .int .i64 11]) ∧ Below w.heap.size w w' := by
  have Z := zTm
  have ZE := zEl
  obtain ⟨S, hS⟩ : ∃ S, bstr l = S := ⟨_, rfl⟩
  rw [hS] at CR
  have HCR := Lib.hid CR
  have HE := Lib.hid hE
  have HYF := Lib.hid hyf
  clear hyf
  obtain ⟨g, hg⟩ : ∃ g, w.heap.size = g := ⟨_, rfl⟩
  obtain ⟨g2, hg2⟩ : ∃ g2, g + 1 = g2 := ⟨_, rfl⟩
  obtain ⟨w1, hw1⟩ : ∃ w1, (w.alloc (.cells (elF 0 false 24 (.slice A N ca) (.slice B 0 cb)).toArray 37)).alloc (.cells (tL 0 0 0 0 0 0).toArray 23) = w1 := ⟨_, rfl⟩
  have B1 : Hid (Below w.heap.size w w1) := Lib.hid (by rw [← hw1]; exact (bel1 w _).alloc (by simp) _)
  have K1 : Hid (Bk w1 g 37 (elF 0 false 24 (.slice A N ca) (.slice B 0 cb))) := Lib.hid (by rw [← hw1, ← hg]; exact (Bk.new w _ _).alloc _)
  have R1 : Hid (Bk w1 g2 23 (tL 0 0 0 0 0 0)) := Lib.hid (by
    rw [← hw1, ← hg2, ← hg]
    have := Bk.new (w.alloc (.cells (elF 0 false 24 (.slice A N ca) (.slice B 0 cb)).toArray 37)) 23 (tL 0 0 0 0 0 0)
    rwa [World.size_alloc] at this)
  have HW1 := Lib.hid hw1
  have HG := Lib.hid hg
  have HG2 := Lib.hid hg2
  have CL : Hid (∀ W, Calls Tryd.prog 34 #[.agg (tgC 0 false 24).toArray] W fun e w' => e = .returned (.tuple #[.string ⟨#[89, 89, 89, 89, 77, 77, 68, 68, 104, 104, 109, 109, 115, 115, 90]⟩, .bool true]) ∧ Below W.heap.size W w') := Lib.hid (fun W => layout_any 0 false 24 W)
  have RT := Lib.hid (rangeF K1.out)
  have hi : (Tryd.prog.info? 33).map (·.size) = some (tgC 0 false 24).length := infoTg
  have hr3 : ∀ W, Hid (Below w.heap.size w W) → (convert 34 9 (.slice A N ca)).run Tryd.prog W = .ok (.string S) W := fun W hb => by
    have := run_str (P := Tryd.prog) (src := 34) (dst := 9) Tryd.underlying34 Tryd.underlying5 Tryd.underlying9 (hA.below hb.out) ca
    rwa [hN, hS] at this
  have HR3 := Lib.hid hr3
  have HQ := fun W => neqT 0 false (tagN y) 0 false 24 W
  obtain ⟨q, hq⟩ : ∃ q, decide (tagN y = 24) = q := ⟨_, rfl⟩
  rw [show (decide ((0 : Nat) = 0) && (false == false) && decide (tagN y = 24)) = q by rw [hq]; simp] at HQ
  obtain ⟨RV, hRV⟩ : ∃ v, (if tagN y = 24 ∧ txtE (tagN y) y m d h mi s = l then Value.tuple #[.agg (tL y m d h mi s).toArray, .int .i64 0] else .tuple #[.agg (tL 0 0 0 0 0 0).toArray, .int .i64 11]) = v := ⟨_, rfl⟩
  rw [hRV]
  have HRV := Lib.hid hRV
  have HQQ := Lib.hid hq
  have HTT := Lib.hid (bstr_dec (all_E (tagN y) y m d h mi s) h8)
  rw [hS] at HTT
  have HA8 := Lib.hid (all_E (tagN y) y m d h mi s)
  clear hRV hq h8
  have hne : ((⟨#[89, 89, 89, 89, 77, 77, 68, 68, 104, 104, 109, 109, 115, 115, 90]⟩ : ByteArray).toList == (⟨#[89, 89, 77, 77, 68, 68, 104, 104, 109, 109, 115, 115, 90]⟩ : ByteArray).toList) = false := by decide +kernel
  have hne2 : ¬ (⟨#[89, 89, 89, 89, 77, 77, 68, 68, 104, 104, 109, 109, 115, 115, 90]⟩ : ByteArray).toList = (⟨#[89, 89, 77, 77, 68, 68, 104, 104, 109, 109, 115, 115, 90]⟩ : ByteArray).toList := by decide +kernel
  clear hw1 hg hg2 hS CR hE hN hA hr3
  go_enter Tryd.func26, Tryd.ntmps26
  go_upto_region 1 with fail
  rw [HW1.out, HG.out, HG2.out]
  go_wp2_with (refine wpList_loadG rfl (.tmp 10) rfl rfl RT.out Tryd.underlying33 rfl hi ?_)
  refine (CL.out _).mono ?_
  rintro e w3 ⟨rfl, hb⟩
  have B3 := bt B1 (Lib.hid hb)
  have K3 := kt K1 (Lib.hid hb)
  have R3 := kt R1 (Lib.hid hb)
  have c4 : w3.cell? ⟨g, 4, none⟩ = some (.slice B 0 cb) := by rw [K3.out.cell]; rfl
  have c3 : w3.cell? ⟨g, 3, none⟩ = some (.slice A N ca) := by rw [K3.out.cell]; rfl
  have s0 := HR3.out w3 B3
  clear hb B1 K1 R1
  go_wp2_with fail
  refine (HCR.out _).mono ?_
  rintro e w4 ⟨rfl, hb⟩
  have B4 := bt B3 (Lib.hid hb)
  have K4 := kt K3 (Lib.hid hb)
  have R4 := kt R3 (Lib.hid hb)
  clear hb B3 K3 R3 c4 c3 s0
  obtain ⟨g6, hg6⟩ : ∃ g6, w4.heap.size = g6 := ⟨_, rfl⟩
  have HG6 := Lib.hid hg6
  have hn2 : g2 ≠ g6 := by have := R4.out.lt; omega
  have hn1 : g ≠ g6 := by have := K4.out.lt; omega
  have hwg : w.heap.size ≤ g6 := by have := B4.out.size; omega
  clear hg6
  go_upto_region 7 with (refine wpList_storeG rfl (.tmp 6) (.tmp 27) rfl rfl (ds := tL a0 m d h mi s) rfl (Bk.new w4 23 (tL 0 0 0 0 0 0)) infoTm rfl (tL_one _ _ _ _ _ _) ?_; intro w5 hk5 hg5 hz5; have B5 := Lib.hid ((B4.out.alloc B4.out.size _).grown hg5 (Nat.le_trans B4.out.size (by simp)) (fun k e => by injection e with e; have := HG6.out; omega)); have R5 : Hid (Bk w5 g2 23 (tL 0 0 0 0 0 0)) := Lib.hid ((R4.out.alloc _).only hg5 (fun e => by injection e with e; have := HG6.out; omega)); have T5 : Hid (Bk w5 g6 23 (tL a0 m d h mi s)) := Lib.hid (by have := hk5; rw [HG6.out] at this; exact this); have K5 : Hid (Bk w5 g 37 (elF 0 false 24 (.slice A N ca) (.slice B 0 cb))) := Lib.hid ((K4.out.alloc _).only hg5 (fun e => by injection e with e; have := HG6.out; omega)); clear hk5 hg5 hz5)
  rw [HG6.out]
  clear K4 R4 B4
  go_upto_region 9 with fail
  have T6 := T5
  have R6 := R5
  have K6 := K5
  have B6 := B5
  generalize w5 = w6 at *
  clear T5 R5 B5 K5
  have h0 := HYF.out
  subst h0
  have E6 := et HE B6
  have CE := Lib.hid (elem_ok y m d h mi s hy hm hd hh hmi hs hck w6 E6.out)
  obtain ⟨TX, hTX⟩ : ∃ T, txtE (tagN y) y m d h mi s = T := ⟨_, rfl⟩
  rw [hTX] at CE HTT HRV HA8
  obtain ⟨on, hon⟩ : ∃ o, tagN y = o := ⟨_, rfl⟩
  rw [hon] at CE HRV HQQ HQ
  clear hTX hon hck
  go_wp2_with (refine wpList_loadG rfl (.tmp 6) rfl rfl (rangeB T6.out) Tryd.underlying23 rfl infoTm ?_)
  refine CE.out.mono ?_
  rintro e w7 ⟨gb, hgb, rfl, hrd, hb⟩
  have B7 := bt B6 (Lib.hid hb)
  have R7 := kt R6 (Lib.hid hb)
  have K7 := kt K6 (Lib.hid hb)
  have T7 := kt T6 (Lib.hid hb)
  have HRD := Lib.hid (show Rb w7 (some ⟨gb, 0, none⟩) TX from ⟨hrd, HA8.out⟩)
  clear hb hrd B6 R6 T6 K6 CE
  obtain ⟨TL, hTL⟩ : ∃ T, TX.length = T := ⟨_, rfl⟩
  rw [hTL]
  have HTL := Lib.hid hTL
  obtain ⟨g7, hg7⟩ : ∃ g7, w7.heap.size = g7 := ⟨_, rfl⟩
  have HG7 := Lib.hid hg7
  clear hTL hg7
  go_upto_region 10 with (refine wpList_storeG rfl (.tmp 7) (.tmp 37) rfl rfl (ds := elC on (.slice (some ⟨gb, 0, none⟩) TL TL)) rfl (Bk.new w7 37 (elC 0 (.slice none 0 0))) infoEl rfl rfl ?_; intro w8 hk8 hg8 hz8; have HB8 : Hid (Below w7.heap.size w7 w8) := Lib.hid (((Below.refl _ w7).alloc (Nat.le_refl _) _).grown hg8 (by simp) (fun k e => by injection e with e; omega)); have O8 : Hid (Bk w8 g7 37 (elC on (.slice (some ⟨gb, 0, none⟩) TL TL))) := Lib.hid (by have := hk8; rw [HG7.out] at this; exact this); clear hk8 hg8 hz8)
  rw [HG7.out]
  have B8 := bt B7 HB8
  have R8 := kt R7 HB8
  have K8 := kt K7 HB8
  have T8 := kt T7 HB8
  have s1 : (convert 34 9 (.slice (some ⟨gb, 0, none⟩) TL TL)).run Tryd.prog w8 = .ok (.string (bstr TX)) w8 := by
    have := run_str (P := Tryd.prog) (src := 34) (dst := 9) Tryd.underlying34 Tryd.underlying5 Tryd.underlying9 (HRD.out.below HB8.out) TL
    rwa [HTL.out] at this
  have CQ := Lib.hid (Tryd.bytes_Equal_strs _ _ _ _ w8 s1 (HR3.out w8 B8))
  rw [HTT.out] at CQ
  have o3 : w8.cell? ⟨g7, 3, none⟩ = some (.slice (some ⟨gb, 0, none⟩) TL TL) := by rw [O8.out.cell]; rfl
  have c3 : w8.cell? ⟨g, 3, none⟩ = some (.slice A N ca) := by rw [K8.out.cell]; rfl
  have RO := Lib.hid (rangeT O8.out)
  have RK := Lib.hid (rangeF K8.out)
  clear s1 B7 R7 K7 T7
  cases q
  · go_wp2_with (first | (refine wpList_loadGg (by rfl) (.tmp 42) rfl rfl RO.out Tryd.underlying33 rfl infoTg ?_) | (refine wpList_loadGg (by rfl) (.tmp 44) rfl rfl RK.out Tryd.underlying33 rfl infoTg ?_) | (refine wpList_storeG rfl (.tmp 2) (.tmp 56) rfl rfl (ds := tL 0 0 0 0 0 0) rfl R8.out infoTm rfl (tL_one _ _ _ _ _ _) ?_; intro w9 hr9 hg9 hz9; have B9 := Lib.hid (B8.out.grown hg9 B8.out.size (fun k e => by injection e with e; have := HG.out; have := HG2.out; omega)); have R9 := Lib.hid hr9; clear hr9 hg9 hz9) | (refine wpList_loadG rfl (.tmp 6) rfl rfl (rangeB T8.out) Tryd.underlying23 rfl infoTm ?_) | (refine wpList_storeG rfl (.tmp 2) (.tmp 57) rfl rfl (ds := tL y m d h mi s) rfl R8.out infoTm rfl (tL_one _ _ _ _ _ _) ?_; intro w9 hr9 hg9 hz9; have B9 := Lib.hid (B8.out.grown hg9 B8.out.size (fun k e => by injection e with e; have := HG.out; have := HG2.out; omega)); have R9 := Lib.hid hr9; clear hr9 hg9 hz9))
    exact retG2 rfl rfl rfl (loadTm R9.out) rfl ⟨by rw [← HRV.out, if_neg (fun h => of_decide_eq_false HQQ.out h.1)]; rfl, B9.out⟩
  · by_cases heq : TX = l
    · rw [decide_eq_true heq] at CQ
      have HEQ := Lib.hid heq
      clear heq
      go_wp2_with (first | (refine wpList_loadGg (by rfl) (.tmp 42) rfl rfl RO.out Tryd.underlying33 rfl infoTg ?_) | (refine wpList_loadGg (by rfl) (.tmp 44) rfl rfl RK.out Tryd.underlying33 rfl infoTg ?_) | (refine wpList_storeG rfl (.tmp 2) (.tmp 56) rfl rfl (ds := tL 0 0 0 0 0 0) rfl R8.out infoTm rfl (tL_one _ _ _ _ _ _) ?_; intro w9 hr9 hg9 hz9; have B9 := Lib.hid (B8.out.grown hg9 B8.out.size (fun k e => by injection e with e; have := HG.out; have := HG2.out; omega)); have R9 := Lib.hid hr9; clear hr9 hg9 hz9) | (refine wpList_loadG rfl (.tmp 6) rfl rfl (rangeB T8.out) Tryd.underlying23 rfl infoTm ?_) | (refine wpList_storeG rfl (.tmp 2) (.tmp 57) rfl rfl (ds := tL y m d h mi s) rfl R8.out infoTm rfl (tL_one _ _ _ _ _ _) ?_; intro w9 hr9 hg9 hz9; have B9 := Lib.hid (B8.out.grown hg9 B8.out.size (fun k e => by injection e with e; have := HG.out; have := HG2.out; omega)); have R9 := Lib.hid hr9; clear hr9 hg9 hz9))
      refine CQ.out.mono ?_
      rintro e w9 ⟨rfl, rfl⟩
      go_wp2_with (first | (refine wpList_loadGg (by rfl) (.tmp 42) rfl rfl RO.out Tryd.underlying33 rfl infoTg ?_) | (refine wpList_loadGg (by rfl) (.tmp 44) rfl rfl RK.out Tryd.underlying33 rfl infoTg ?_) | (refine wpList_storeG rfl (.tmp 2) (.tmp 56) rfl rfl (ds := tL 0 0 0 0 0 0) rfl R8.out infoTm rfl (tL_one _ _ _ _ _ _) ?_; intro w9 hr9 hg9 hz9; have B9 := Lib.hid (B8.out.grown hg9 B8.out.size (fun k e => by injection e with e; have := HG.out; have := HG2.out; omega)); have R9 := Lib.hid hr9; clear hr9 hg9 hz9) | (refine wpList_loadG rfl (.tmp 6) rfl rfl (rangeB T8.out) Tryd.underlying23 rfl infoTm ?_) | (refine wpList_storeG rfl (.tmp 2) (.tmp 57) rfl rfl (ds := tL y m d h mi s) rfl R8.out infoTm rfl (tL_one _ _ _ _ _ _) ?_; intro w9 hr9 hg9 hz9; have B9 := Lib.hid (B8.out.grown hg9 B8.out.size (fun k e => by injection e with e; have := HG.out; have := HG2.out; omega)); have R9 := Lib.hid hr9; clear hr9 hg9 hz9))
      exact retG2 rfl rfl rfl (loadTm R9.out) rfl ⟨by rw [← HRV.out, if_pos ⟨of_decide_eq_true HQQ.out, HEQ.out⟩]; rfl, B9.out⟩
    · rw [decide_eq_false heq] at CQ
      have HEQ := Lib.hid heq
      clear heq
      go_wp2_with (first | (refine wpList_loadGg (by rfl) (.tmp 42) rfl rfl RO.out Tryd.underlying33 rfl infoTg ?_) | (refine wpList_loadGg (by rfl) (.tmp 44) rfl rfl RK.out Tryd.underlying33 rfl infoTg ?_) | (refine wpList_storeG rfl (.tmp 2) (.tmp 56) rfl rfl (ds := tL 0 0 0 0 0 0) rfl R8.out infoTm rfl (tL_one _ _ _ _ _ _) ?_; intro w9 hr9 hg9 hz9; have B9 := Lib.hid (B8.out.grown hg9 B8.out.size (fun k e => by injection e with e; have := HG.out; have := HG2.out; omega)); have R9 := Lib.hid hr9; clear hr9 hg9 hz9) | (refine wpList_loadG rfl (.tmp 6) rfl rfl (rangeB T8.out) Tryd.underlying23 rfl infoTm ?_) | (refine wpList_storeG rfl (.tmp 2) (.tmp 57) rfl rfl (ds := tL y m d h mi s) rfl R8.out infoTm rfl (tL_one _ _ _ _ _ _) ?_; intro w9 hr9 hg9 hz9; have B9 := Lib.hid (B8.out.grown hg9 B8.out.size (fun k e => by injection e with e; have := HG.out; have := HG2.out; omega)); have R9 := Lib.hid hr9; clear hr9 hg9 hz9))
      refine CQ.out.mono ?_
      rintro e w9 ⟨rfl, rfl⟩
      go_wp2_with (first | (refine wpList_loadGg (by rfl) (.tmp 42) rfl rfl RO.out Tryd.underlying33 rfl infoTg ?_) | (refine wpList_loadGg (by rfl) (.tmp 44) rfl rfl RK.out Tryd.underlying33 rfl infoTg ?_) | (refine wpList_storeG rfl (.tmp 2) (.tmp 56) rfl rfl (ds := tL 0 0 0 0 0 0) rfl R8.out infoTm rfl (tL_one _ _ _ _ _ _) ?_; intro w9 hr9 hg9 hz9; have B9 := Lib.hid (B8.out.grown hg9 B8.out.size (fun k e => by injection e with e; have := HG.out; have := HG2.out; omega)); have R9 := Lib.hid hr9; clear hr9 hg9 hz9) | (refine wpList_loadG rfl (.tmp 6) rfl rfl (rangeB T8.out) Tryd.underlying23 rfl infoTm ?_) | (refine wpList_storeG rfl (.tmp 2) (.tmp 57) rfl rfl (ds := tL y m d h mi s) rfl R8.out infoTm rfl (tL_one _ _ _ _ _ _) ?_; intro w9 hr9 hg9 hz9; have B9 := Lib.hid (B8.out.grown hg9 B8.out.size (fun k e => by injection e with e; have := HG.out; have := HG2.out; omega)); have R9 := Lib.hid hr9; clear hr9 hg9 hz9))
      exact retG2 rfl rfl rfl (loadTm R9.out) rfl ⟨by rw [← HRV.out, if_neg (fun h => HEQ.out h.2)]; rfl, B9.out⟩
end Go.Proofs.YtecmgkmonehmfaaDoor.Tim
