/-
  Layer 10: Of, of the program, where what it reads is no time.
  Conditions: what read makes of the content is known.
-/
import Derived.Test.YtecmgkmonehmfaaDoorTimZa
namespace Go.Proofs.YtecmgkmonehmfaaDoor.Tim
open Go.RowKit
attribute [local go_sem] Oper.semAt_some

def fullI (z : Int) : Int := if z < 50 then z + 2000 else z + 1900
set_option linter.unusedSimpArgs false in
set_option linter.unusedVariables false in
set_option maxHeartbeats 4000000 in
set_option maxRecDepth 100000 in
theorem full_int (z : Int) (h1 : -1000000 ≤ z) (h2 : z ≤ 1000000) (w : World) : Calls Tryd.prog 40 #[.int .i64 z] w fun e w' => e = .returned (.int .i64 (fullI z)) ∧ w = w' := by
  unfold fullI
  by_cases h : z < 50
  · rw [if_pos h]
    have q : IntKind.i64.wrap (z + 2000) = z + 2000 := by rw [IntKind.wrap_i64]; omega
    go_enter Tryd.func40, Tryd.ntmps40
    go_wp2_with fail
    go_ret
    exact ⟨rfl, rfl⟩
  · rw [if_neg h]
    have q : IntKind.i64.wrap (z + 1900) = z + 1900 := by rw [IntKind.wrap_i64]; omega
    go_enter Tryd.func40, Tryd.ntmps40
    go_wp2_with fail
    go_ret
    exact ⟨rfl, rfl⟩
set_option linter.unusedSimpArgs false in
set_option linter.unusedVariables false in
set_option maxHeartbeats 4000000 in
set_option maxRecDepth 100000 in
theorem of_badU (l : List Nat) (N ca : Nat) (hN : l.length = N) (A : Option Addr) (B : Option Addr) (cb : Nat) (a0 a1 a2 a3 a4 a5 : Int) (h1 : I64 a1) (hz1 : -1000000 ≤ a0) (hz2 : a0 ≤ 1000000) (CR : ∀ W, Calls Tryd.prog 39 #[.string ⟨#[89, 89, 77, 77, 68, 68, 104, 104, 109, 109, 115, 115, 90]⟩, .string (bstr l)] W fun e w' => e = .returned (.agg (tL a0 a1 a2 a3 a4 a5).toArray) ∧ Below W.heap.size W w') (hck : ck (fullI a0) a1 a2 a3 a4 a5 = 1) (w : World) (hE : Env w) (hA : Rb w A l) :
    Calls Tryd.prog 26 #[.agg (elF 0 false 23 (.slice A N ca) (.slice B 0 cb)).toArray] w fun e w' => e = .returned (.tuple #[.agg (tL 0 0 0 0 0 0).toArray, .int .i64 11]) ∧ Below w.heap.size w w' := by
  have Z := zTm
  have ZE := zEl
  obtain ⟨S, hS⟩ : ∃ S, bstr l = S := ⟨_, rfl⟩
  rw [hS] at CR
  have HCR := Lib.hid CR
  have HE := Lib.hid hE
  obtain ⟨g, hg⟩ : ∃ g, w.heap.size = g := ⟨_, rfl⟩
  obtain ⟨g2, hg2⟩ : ∃ g2, g + 1 = g2 := ⟨_, rfl⟩
  obtain ⟨w1, hw1⟩ : ∃ w1, (w.alloc (.cells (elF 0 false 23 (.slice A N ca) (.slice B 0 cb)).toArray 37)).alloc (.cells (tL 0 0 0 0 0 0).toArray 23) = w1 := ⟨_, rfl⟩
  have B1 : Hid (Below w.heap.size w w1) := Lib.hid (by rw [← hw1]; exact (bel1 w _).alloc (by simp) _)
  have K1 : Hid (Bk w1 g 37 (elF 0 false 23 (.slice A N ca) (.slice B 0 cb))) := Lib.hid (by rw [← hw1, ← hg]; exact (Bk.new w _ _).alloc _)
  have R1 : Hid (Bk w1 g2 23 (tL 0 0 0 0 0 0)) := Lib.hid (by
    rw [← hw1, ← hg2, ← hg]
    have := Bk.new (w.alloc (.cells (elF 0 false 23 (.slice A N ca) (.slice B 0 cb)).toArray 37)) 23 (tL 0 0 0 0 0 0)
    rwa [World.size_alloc] at this)
  have HW1 := Lib.hid hw1
  have HG := Lib.hid hg
  have HG2 := Lib.hid hg2
  have CL : Hid (∀ W, Calls Tryd.prog 34 #[.agg (tgC 0 false 23).toArray] W fun e w' => e = .returned (.tuple #[.string ⟨#[89, 89, 77, 77, 68, 68, 104, 104, 109, 109, 115, 115, 90]⟩, .bool true]) ∧ Below W.heap.size W w') := Lib.hid (fun W => layout_any 0 false 23 W)
  have RT := Lib.hid (rangeF K1.out)
  have hi : (Tryd.prog.info? 33).map (·.size) = some (tgC 0 false 23).length := infoTg
  have hr3 : ∀ W, Hid (Below w.heap.size w W) → (convert 34 9 (.slice A N ca)).run Tryd.prog W = .ok (.string S) W := fun W hb => by
    have := run_str (P := Tryd.prog) (src := 34) (dst := 9) Tryd.underlying34 Tryd.underlying5 Tryd.underlying9 (hA.below hb.out) ca
    rwa [hN, hS] at this
  have HR3 := Lib.hid hr3
  generalize tgC 0 false 23 = LT at *
  have CF := Lib.hid (fun W => full_int a0 hz1 hz2 W)
  clear hw1 hg hg2 hS CR hE hN hA hr3
  go_enter Tryd.func26, Tryd.ntmps26
  go_upto_region 1 with fail
  rw [HW1.out, HG.out, HG2.out]
  go_wp2_with (refine wpList_loadG rfl (.tmp 10) rfl rfl RT.out Tryd.underlying33 rfl hi ?_)
  refine (CL.out _).mono ?_
  rintro e w3 ⟨rfl, hb⟩
  have B3 := bt B1 (Lib.hid hb)
  have K3 := kt K1 (Lib.hid hb)
  have R3 := kt R1 (Lib.hid hb)
  have c4 : w3.cell? ⟨g, 4, none⟩ = some (.slice B 0 cb) := by rw [K3.out.cell]; rfl
  have c3 : w3.cell? ⟨g, 3, none⟩ = some (.slice A N ca) := by rw [K3.out.cell]; rfl
  have s0 := HR3.out w3 B3
  clear hb B1 K1 R1
  go_wp2_with fail
  refine (HCR.out _).mono ?_
  rintro e w4 ⟨rfl, hb⟩
  have B4 := bt B3 (Lib.hid hb)
  have K4 := kt K3 (Lib.hid hb)
  have R4 := kt R3 (Lib.hid hb)
  clear hb B3 K3 R3 c4 c3 s0
  obtain ⟨g6, hg6⟩ : ∃ g6, w4.heap.size = g6 := ⟨_, rfl⟩
  have HG6 := Lib.hid hg6
  have hn2 : g2 ≠ g6 := by have := R4.out.lt; omega
  have hn1 : g ≠ g6 := by have := K4.out.lt; omega
  have hwg : w.heap.size ≤ g6 := by have := B4.out.size; omega
  clear hg6
  go_upto_region 7 with (refine wpList_storeG rfl (.tmp 6) (.tmp 27) rfl rfl (ds := tL a0 a1 a2 a3 a4 a5) rfl (Bk.new w4 23 (tL 0 0 0 0 0 0)) infoTm rfl (tL_one _ _ _ _ _ _) ?_; intro w5 hk5 hg5 hz5; have B5 := Lib.hid ((B4.out.alloc B4.out.size _).grown hg5 (Nat.le_trans B4.out.size (by simp)) (fun k e => by injection e with e; have := HG6.out; omega)); have R5 : Hid (Bk w5 g2 23 (tL 0 0 0 0 0 0)) := Lib.hid ((R4.out.alloc _).only hg5 (fun e => by injection e with e; have := HG6.out; omega)); have T5 : Hid (Bk w5 g6 23 (tL a0 a1 a2 a3 a4 a5)) := Lib.hid (by have := hk5; rw [HG6.out] at this; exact this); clear hk5 hg5 hz5)
  rw [HG6.out]
  clear K4 R4 B4
  have t0 : w5.cell? ⟨g6, 0, none⟩ = some (.int .i64 a0) := by rw [T5.out.cell]; rfl
  have f0 := T5.out.free 0
  go_wp2_with fail
  refine (CF.out _).mono ?_
  rintro e w5b ⟨rfl, rfl⟩
  go_upto_region 9 with fail
  have T6 : Hid (Bk (w5.setCell ⟨g6, 0, none⟩ (.int .i64 (fullI a0))) g6 23 (tL (fullI a0) a1 a2 a3 a4 a5)) := Lib.hid (T5.out.store 0 _)
  have R6 : Hid (Bk (w5.setCell ⟨g6, 0, none⟩ (.int .i64 (fullI a0))) g2 23 (tL 0 0 0 0 0 0)) := Lib.hid (R5.out.far (p := ⟨g6, 0, none⟩) hn2 _)
  have B6 : Hid (Below w.heap.size w (w5.setCell ⟨g6, 0, none⟩ (.int .i64 (fullI a0)))) := Lib.hid (B5.out.setCell (p := ⟨g6, 0, none⟩) hwg _)
  generalize w5.setCell ⟨g6, 0, none⟩ (.int .i64 (fullI a0)) = w6 at *
  generalize fullI a0 = y0 at *
  clear T5 R5 B5 t0 f0
  have E6 := et HE B6
  have CE := Lib.hid (elem_bad y0 a1 a2 a3 a4 a5 h1 hck w6 E6.out)
  go_wp2_with (refine wpList_loadG rfl (.tmp 6) rfl rfl (rangeB T6.out) Tryd.underlying23 rfl infoTm ?_)
  refine CE.out.mono ?_
  rintro e w7 ⟨rfl, hb⟩
  have B7 := bt B6 (Lib.hid hb)
  have R7 := kt R6 (Lib.hid hb)
  clear hb B6 R6 T6 CE
  go_upto_region 10 with (refine wpList_storeG rfl (.tmp 7) (.tmp 37) rfl rfl (ds := elC 0 (.slice none 0 0)) rfl (Bk.new w7 37 (elC 0 (.slice none 0 0))) infoEl rfl rfl ?_; intro w8 hk8 hg8 hz8; have B8 := Lib.hid ((B7.out.alloc B7.out.size _).grown hg8 (Nat.le_trans B7.out.size (by simp)) (fun k e => by injection e with e; have := B7.out.size; omega)); have R8 : Hid (Bk w8 g2 23 (tL 0 0 0 0 0 0)) := Lib.hid ((R7.out.alloc _).only hg8 (fun e => by injection e with e; have := R7.out.lt; omega)); clear hk8 hg8 hz8)
  go_wp2_with (refine wpList_storeG rfl (.tmp 2) (.tmp 56) rfl rfl (ds := tL 0 0 0 0 0 0) rfl R8.out infoTm rfl (tL_one _ _ _ _ _ _) ?_; intro w9 hr9 hg9 hz9; have B9 := Lib.hid (B8.out.grown hg9 B8.out.size (fun k e => by injection e with e; have := HG.out; have := HG2.out; omega)); have R9 := Lib.hid hr9; clear hr9 hg9 hz9)
  exact retG2 rfl rfl rfl (loadTm R9.out) rfl ⟨rfl, B9.out⟩
set_option linter.unusedSimpArgs false in
set_option linter.unusedVariables false in
set_option maxHeartbeats 4000000 in
set_option maxRecDepth 100000 in
theorem of_badG (l : List Nat) (N ca : Nat) (hN : l.length = N) (A : Option Addr) (B : Option Addr) (cb : Nat) (a0 a1 a2 a3 a4 a5 : Int) (h1 : I64 a1) (CR : ∀ W, Calls Tryd.prog 39 #[.string ⟨#[89, 89, 89, 89, 77, 77, 68, 68, 104, 104, 109, 109, 115, 115, 90]⟩, .string (bstr l)] W fun e w' => e = .returned (.agg (tL a0 a1 a2 a3 a4 a5).toArray) ∧ Below W.heap.size W w') (hck : ck a0 a1 a2 a3 a4 a5 = 1) (w : World) (hE : Env w) (hA : Rb w A l) :
    Calls Tryd.prog 26 #[.agg (elF 0 false 24 (.slice A N ca) (.slice B 0 cb)).toArray] w fun e w' => e = .returned (.tuple #[.agg (tL 0 0 0 0 0 0).toArray, .int .i64 11]) ∧ Below w.heap.size w w' := by
  have Z := zTm
  have ZE := zEl
  obtain ⟨S, hS⟩ : ∃ S, bstr l = S := ⟨_, rfl⟩
  rw [hS] at CR
  have HCR := Lib.hid CR
  have HE := Lib.hid hE
  obtain ⟨g, hg⟩ : ∃ g, w.heap.size = g := ⟨_, rfl⟩
  obtain ⟨g2, hg2⟩ : ∃ g2, g + 1 = g2 := ⟨_, rfl⟩
  obtain ⟨w1, hw1⟩ : ∃ w1, (w.alloc (.cells (elF 0 false 24 (.slice A N ca) (.slice B 0 cb)).toArray 37)).alloc (.cells (tL 0 0 0 0 0 0).toArray 23) = w1 := ⟨_, rfl⟩
  have B1 : Hid (Below w.heap.size w w1) := Lib.hid (by rw [← hw1]; exact (bel1 w _).alloc (by simp) _)
  have K1 : Hid (Bk w1 g 37 (elF 0 false 24 (.slice A N ca) (.slice B 0 cb))) := Lib.hid (by rw [← hw1, ← hg]; exact (Bk.new w _ _).alloc _)
  have R1 : Hid (Bk w1 g2 23 (tL 0 0 0 0 0 0)) := Lib.hid (by
    rw [← hw1, ← hg2, ← hg]
    have := Bk.new (w.alloc (.cells (elF 0 false 24 (.slice A N ca) (.slice B 0 cb)).toArray 37)) 23 (tL 0 0 0 0 0 0)
    rwa [World.size_alloc] at this)
  have HW1 := Lib.hid hw1
  have HG := Lib.hid hg
  have HG2 := Lib.hid hg2
  have CL : Hid (∀ W, Calls Tryd.prog 34 #[.agg (tgC 0 false 24).toArray] W fun e w' => e = .returned (.tuple #[.string ⟨#[89, 89, 89, 89, 77, 77, 68, 68, 104, 104, 109, 109, 115, 115, 90]⟩, .bool true]) ∧ Below W.heap.size W w') := Lib.hid (fun W => layout_any 0 false 24 W)
  have RT := Lib.hid (rangeF K1.out)
  have hi : (Tryd.prog.info? 33).map (·.size) = some (tgC 0 false 24).length := infoTg
  have hr3 : ∀ W, Hid (Below w.heap.size w W) → (convert 34 9 (.slice A N ca)).run Tryd.prog W = .ok (.string S) W := fun W hb => by
    have := run_str (P := Tryd.prog) (src := 34) (dst := 9) Tryd.underlying34 Tryd.underlying5 Tryd.underlying9 (hA.below hb.out) ca
    rwa [hN, hS] at this
  have HR3 := Lib.hid hr3
  generalize tgC 0 false 24 = LT at *
  have hne : ((⟨#[89, 89, 89, 89, 77, 77, 68, 68, 104, 104, 109, 109, 115, 115, 90]⟩ : ByteArray).toList == (⟨#[89, 89, 77, 77, 68, 68, 104, 104, 109, 109, 115, 115, 90]⟩ : ByteArray).toList) = false := by decide +kernel
  have hne2 : ¬ (⟨#[89, 89, 89, 89, 77, 77, 68, 68, 104, 104, 109, 109, 115, 115, 90]⟩ : ByteArray).toList = (⟨#[89, 89, 77, 77, 68, 68, 104, 104, 109, 109, 115, 115, 90]⟩ : ByteArray).toList := by decide +kernel
  clear hw1 hg hg2 hS CR hE hN hA hr3
  go_enter Tryd.func26, Tryd.ntmps26
  go_upto_region 1 with fail
  rw [HW1.out, HG.out, HG2.out]
  go_wp2_with (refine wpList_loadG rfl (.tmp 10) rfl rfl RT.out Tryd.underlying33 rfl hi ?_)
  refine (CL.out _).mono ?_
  rintro e w3 ⟨rfl, hb⟩
  have B3 := bt B1 (Lib.hid hb)
  have K3 := kt K1 (Lib.hid hb)
  have R3 := kt R1 (Lib.hid hb)
  have c4 : w3.cell? ⟨g, 4, none⟩ = some (.slice B 0 cb) := by rw [K3.out.cell]; rfl
  have c3 : w3.cell? ⟨g, 3, none⟩ = some (.slice A N ca) := by rw [K3.out.cell]; rfl
  have s0 := HR3.out w3 B3
  clear hb B1 K1 R1
  go_wp2_with fail
  refine (HCR.out _).mono ?_
  rintro e w4 ⟨rfl, hb⟩
  have B4 := bt B3 (Lib.hid hb)
  have K4 := kt K3 (Lib.hid hb)
  have R4 := kt R3 (Lib.hid hb)
  clear hb B3 K3 R3 c4 c3 s0
  obtain ⟨g6, hg6⟩ : ∃ g6, w4.heap.size = g6 := ⟨_, rfl⟩
  have HG6 := Lib.hid hg6
  have hn2 : g2 ≠ g6 := by have := R4.out.lt; omega
  have hn1 : g ≠ g6 := by have := K4.out.lt; omega
  have hwg : w.heap.size ≤ g6 := by have := B4.out.size; omega
  clear hg6
  go_upto_region 7 with (refine wpList_storeG rfl (.tmp 6) (.tmp 27) rfl rfl (ds := tL a0 a1 a2 a3 a4 a5) rfl (Bk.new w4 23 (tL 0 0 0 0 0 0)) infoTm rfl (tL_one _ _ _ _ _ _) ?_; intro w5 hk5 hg5 hz5; have B5 := Lib.hid ((B4.out.alloc B4.out.size _).grown hg5 (Nat.le_trans B4.out.size (by simp)) (fun k e => by injection e with e; have := HG6.out; omega)); have R5 : Hid (Bk w5 g2 23 (tL 0 0 0 0 0 0)) := Lib.hid ((R4.out.alloc _).only hg5 (fun e => by injection e with e; have := HG6.out; omega)); have T5 : Hid (Bk w5 g6 23 (tL a0 a1 a2 a3 a4 a5)) := Lib.hid (by have := hk5; rw [HG6.out] at this; exact this); clear hk5 hg5 hz5)
  rw [HG6.out]
  clear K4 R4 B4
  go_upto_region 9 with fail
  have T6 := T5
  have R6 := R5
  have B6 := B5
  generalize w5 = w6 at *
  clear T5 R5 B5
  have E6 := et HE B6
  have CE := Lib.hid (elem_bad a0 a1 a2 a3 a4 a5 h1 hck w6 E6.out)
  go_wp2_with (refine wpList_loadG rfl (.tmp 6) rfl rfl (rangeB T6.out) Tryd.underlying23 rfl infoTm ?_)
  refine CE.out.mono ?_
  rintro e w7 ⟨rfl, hb⟩
  have B7 := bt B6 (Lib.hid hb)
  have R7 := kt R6 (Lib.hid hb)
  clear hb B6 R6 T6 CE
  go_upto_region 10 with (refine wpList_storeG rfl (.tmp 7) (.tmp 37) rfl rfl (ds := elC 0 (.slice none 0 0)) rfl (Bk.new w7 37 (elC 0 (.slice none 0 0))) infoEl rfl rfl ?_; intro w8 hk8 hg8 hz8; have B8 := Lib.hid ((B7.out.alloc B7.out.size _).grown hg8 (Nat.le_trans B7.out.size (by simp)) (fun k e => by injection e with e; have := B7.out.size; omega)); have R8 : Hid (Bk w8 g2 23 (tL 0 0 0 0 0 0)) := Lib.hid ((R7.out.alloc _).only hg8 (fun e => by injection e with e; have := R7.out.lt; omega)); clear hk8 hg8 hz8)
  go_wp2_with (refine wpList_storeG rfl (.tmp 2) (.tmp 56) rfl rfl (ds := tL 0 0 0 0 0 0) rfl R8.out infoTm rfl (tL_one _ _ _ _ _ _) ?_; intro w9 hr9 hg9 hz9; have B9 := Lib.hid (B8.out.grown hg9 B8.out.size (fun k e => by injection e with e; have := HG.out; have := HG2.out; omega)); have R9 := Lib.hid hr9; clear hr9 hg9 hz9)
  exact retG2 rfl rfl rfl (loadTm R9.out) rfl ⟨rfl, B9.out⟩
end Go.Proofs.YtecmgkmonehmfaaDoor.Tim
