/-
  Layer 10: Of, of the reference.
  Conditions: the element has no subs (or it is refused for them).
-/
import Derived.Test.YtecmgkmonehmfaaDoorTimPb
import Derived.Test.YtecmgkmonehmfaaDoorTimSt
import Derived.Deep.DeepCutAuto
import Derived.Deep.CutBlock
namespace Go.Proofs.YtecmgkmonehmfaaDoor.Tim
open Go.RowKit Go.Shelf
attribute [local go_sem] Oper.semAt_some

set_option linter.unusedSimpArgs false in
set_option linter.unusedVariables false in
set_option maxHeartbeats 6400000 in
set_option maxRecDepth 100000 in
theorem rof_tag (c : Nat) (kf : Bool) (k : Nat) (A B : Option Addr) (N ca M cb : Nat) (hk : layK c kf k = 0) (w : World) (hE : Env w) :
    Calls Tryd.prog 27 #[.agg (elF c kf k (.slice A N ca) (.slice B M cb)).toArray] w fun e w' => e = .returned (.tuple #[.agg (tL 0 0 0 0 0 0).toArray, .int .i64 9]) ∧ Below w.heap.size w w' := by
  have Z := zTm
  have ZT : ∀ w : World, (zeroValue 33).run Tryd.prog w = .ok (.agg #[.int .u8 0, .bool false, .int .u32 0]) w := zTg
  have K0 := Lib.hid (St.start hE)
  have HT0 := Lib.hid hE
  have hno : ¬ (c = 0 ∧ kf = false ∧ k = 23) ∧ ¬ (c = 0 ∧ kf = false ∧ k = 24) := by
    unfold layK at hk
    refine ⟨fun h => ?_, fun h => ?_⟩
    · rw [if_pos h] at hk; cases hk
    · by_cases h2 : c = 0 ∧ kf = false ∧ k = 23
      · rw [if_pos h2] at hk; cases hk
      · rw [if_neg h2, if_pos h] at hk; cases hk
  have q1 : ∀ W, (binOp .neq 33 (.agg (tgC c kf k).toArray) (.agg (tgC 0 false 23).toArray)).run Tryd.prog W = .ok (.bool true) W := fun W => by
    refine (neqT c kf k 0 false 23 W).trans ?_
    rw [show (decide (c = 0) && (kf == false) && decide (k = 23)) = false by
      rw [Bool.eq_false_iff, ne_eq, Bool.and_eq_true, Bool.and_eq_true, decide_eq_true_eq, decide_eq_true_eq, beq_iff_eq]; exact fun h => hno.1 ⟨h.1.1, h.1.2, h.2⟩]
    rfl
  have q2 : ∀ W, (binOp .neq 33 (.agg (tgC c kf k).toArray) (.agg (tgC 0 false 24).toArray)).run Tryd.prog W = .ok (.bool true) W := fun W => by
    refine (neqT c kf k 0 false 24 W).trans ?_
    rw [show (decide (c = 0) && (kf == false) && decide (k = 24)) = false by
      rw [Bool.eq_false_iff, ne_eq, Bool.and_eq_true, Bool.and_eq_true, decide_eq_true_eq, decide_eq_true_eq, beq_iff_eq]; exact fun h => hno.2 ⟨h.1.1, h.1.2, h.2⟩]
    rfl
  clear hE hk hno
  obtain ⟨g, hg⟩ : ∃ g, w.heap.size = g := ⟨_, rfl⟩
  obtain ⟨g2, hg2⟩ : ∃ g2, g + 1 = g2 := ⟨_, rfl⟩
  obtain ⟨w1, hw1⟩ : ∃ w1, (w.alloc (.cells (elF c kf k (.slice A N ca) (.slice B M cb)).toArray 37)).alloc (.cells (tL 0 0 0 0 0 0).toArray 23) = w1 := ⟨_, rfl⟩
  have hb : Hid (Below w.heap.size w w1) := Lib.hid (by rw [← hw1]; exact (bel1 w _).alloc (by simp) _)
  have hk1 : Hid (Bk w1 g 37 (elF c kf k (.slice A N ca) (.slice B M cb))) := Lib.hid (by rw [← hw1, ← hg]; exact (Bk.new w _ _).alloc _)
  have hk2 : Hid (Bk w1 g2 23 (tL 0 0 0 0 0 0)) := Lib.hid (by
    rw [← hw1, ← hg2, ← hg]
    have := Bk.new (w.alloc (.cells (elF c kf k (.slice A N ca) (.slice B M cb)).toArray 37)) 23 (tL 0 0 0 0 0 0)
    rwa [World.size_alloc] at this)
  have hz1 : w1.heap.size = g2 + 1 := by rw [← hw1, ← hg2, ← hg]; simp
  have GE_g : Hid (w.heap.size ≤ g) := Lib.hid (by omega)
  have GE_g2 : Hid (w.heap.size ≤ g2) := Lib.hid (by omega)
  have LT_g_g2 : Hid (g < g2) := Lib.hid (by omega)
  have HZ1 := Lib.hid hz1
  have K1 := Tim.kb (Tim.kb (kp K0 hb) hk1) hk2
  have HW1 := Lib.hid hw1
  have HG := Lib.hid hg
  have HG2 := Lib.hid hg2
  clear hb hk1 hk2 hw1 hg hg2 hz1 K0
  go_enter Tryd.func27, Tryd.ntmps27
  go_upto_region 1 with fail
  rw [HW1.out, HG.out, HG2.out]
  clear HW1
  go_upto_region 2 with fail
  rw [HZ1.out]
  obtain ⟨g3, hg3⟩ : ∃ g3, g2 + 1 = g3 := ⟨_, rfl⟩
  obtain ⟨g4, hg4⟩ : ∃ g4, g3 + 1 = g4 := ⟨_, rfl⟩
  obtain ⟨w2, hw2⟩ : ∃ w2, (w1.alloc (.cells #[.int .u8 0, .bool false, .int .u32 23] 33)).alloc (.cells #[.int .u8 0, .bool false, .int .u32 24] 33) = w2 := ⟨_, rfl⟩
  have hb : Hid (Below w1.heap.size w1 w2) := Lib.hid (by rw [← hw2]; exact (bel1 w1 _).alloc (by simp) _)
  have hk3 : Hid (Bk w2 g3 33 (tgC 0 false 23)) := Lib.hid (by
    rw [← hw2, ← hg3, ← HZ1.out]
    exact (Bk.new w1 33 (tgC 0 false 23)).alloc _)
  have hk4 : Hid (Bk w2 g4 33 (tgC 0 false 24)) := Lib.hid (by
    rw [← hw2, ← hg4, ← hg3, ← HZ1.out]
    have := Bk.new (w1.alloc (.cells (tgC 0 false 23).toArray 33)) 33 (tgC 0 false 24)
    rwa [World.size_alloc] at this)
  have K2 := Tim.kb (Tim.kb (kp K1 hb) hk3) hk4
  have HW2 := Lib.hid hw2
  have HG3 := Lib.hid hg3
  have HG4 := Lib.hid hg4
  have LT_g2_g3 : Hid (g2 < g3) := Lib.hid (by omega)
  clear hb hk3 hk4 hw2 hg3 hg4 K1
  rw [HW2.out, HG3.out, HG4.out]
  clear HW2 HG3 HG4
  go_wp2_with (first | (refine wpList_loadGg (by rfl) (.tmp 13) rfl rfl (rangeF (K2.out.k (g, 37, elF c kf k (.slice A N ca) (.slice B M cb)) (by simp))) Tryd.underlying33 rfl infoTg ?_) | (refine wpList_loadGg (by rfl) (.tmp 18) rfl rfl (rangeF (K2.out.k (g, 37, elF c kf k (.slice A N ca) (.slice B M cb)) (by simp))) Tryd.underlying33 rfl infoTg ?_) | (refine wpList_loadGg (by rfl) (.tmp 4) rfl rfl (rangeB (K2.out.k (g3, 33, tgC 0 false 23) (by simp))) Tryd.underlying33 rfl infoTg ?_) | (refine wpList_loadGg (by rfl) (.tmp 5) rfl rfl (rangeB (K2.out.k (g4, 33, tgC 0 false 24) (by simp))) Tryd.underlying33 rfl infoTg ?_) | (refine wpList_storeG rfl (.tmp 2) (.tmp 23) rfl rfl (ds := tL 0 0 0 0 0 0) rfl (K2.out.k (g2, 23, tL 0 0 0 0 0 0) (by simp)) infoTm rfl (tL_one _ _ _ _ _ _) ?_; intro w9 hr9 hg9 hz9; have B9 := Lib.hid (K2.out.b.grown hg9 K2.out.b.size (fun k e => by injection e with e; have := GE_g2.out; omega)); have R9 := Lib.hid hr9; clear hr9 hg9 hz9))
  exact retG2 rfl rfl rfl (loadTm R9.out) rfl ⟨rfl, B9.out⟩
set_option linter.unusedSimpArgs false in
set_option linter.unusedVariables false in
set_option maxHeartbeats 6400000 in
set_option maxRecDepth 100000 in
theorem rof_subs (k : Nat) (A B : Option Addr) (N ca M cb : Nat) (hk : k = 23 ∨ k = 24) (hM : 0 < M) (w : World) (hE : Env w) :
    Calls Tryd.prog 27 #[.agg (elF 0 false k (.slice A N ca) (.slice B M cb)).toArray] w fun e w' => e = .returned (.tuple #[.agg (tL 0 0 0 0 0 0).toArray, .int .i64 1]) ∧ Below w.heap.size w w' := by
  have Z := zTm
  have ZT : ∀ w : World, (zeroValue 33).run Tryd.prog w = .ok (.agg #[.int .u8 0, .bool false, .int .u32 0]) w := zTg
  have q1 : ∀ W, (binOp .neq 33 (.agg (tgC 0 false k).toArray) (.agg (tgC 0 false 23).toArray)).run Tryd.prog W = .ok (.bool (!decide (k = 23))) W := fun W => by
    refine (neqT 0 false k 0 false 23 W).trans ?_
    simp
  have q2 : ∀ W, (binOp .neq 33 (.agg (tgC 0 false k).toArray) (.agg (tgC 0 false 24).toArray)).run Tryd.prog W = .ok (.bool (!decide (k = 24))) W := fun W => by
    refine (neqT 0 false k 0 false 24 W).trans ?_
    simp
  have K0 := Lib.hid (St.start hE)
  have hMi : (0 : Int) < (M : Int) := by omega
  have hMd : decide ((0 : Int) < (M : Int)) = true := by rw [decide_eq_true_eq]; exact hMi
  have hMn : decide (0 < M) = true := by rw [decide_eq_true_eq]; exact hM
  clear hE
  obtain ⟨g, hg⟩ : ∃ g, w.heap.size = g := ⟨_, rfl⟩
  obtain ⟨g2, hg2⟩ : ∃ g2, g + 1 = g2 := ⟨_, rfl⟩
  obtain ⟨w1, hw1⟩ : ∃ w1, (w.alloc (.cells (elF 0 false k (.slice A N ca) (.slice B M cb)).toArray 37)).alloc (.cells (tL 0 0 0 0 0 0).toArray 23) = w1 := ⟨_, rfl⟩
  have hb : Hid (Below w.heap.size w w1) := Lib.hid (by rw [← hw1]; exact (bel1 w _).alloc (by simp) _)
  have hk1 : Hid (Bk w1 g 37 (elF 0 false k (.slice A N ca) (.slice B M cb))) := Lib.hid (by rw [← hw1, ← hg]; exact (Bk.new w _ _).alloc _)
  have hk2 : Hid (Bk w1 g2 23 (tL 0 0 0 0 0 0)) := Lib.hid (by
    rw [← hw1, ← hg2, ← hg]
    have := Bk.new (w.alloc (.cells (elF 0 false k (.slice A N ca) (.slice B M cb)).toArray 37)) 23 (tL 0 0 0 0 0 0)
    rwa [World.size_alloc] at this)
  have hz1 : w1.heap.size = g2 + 1 := by rw [← hw1, ← hg2, ← hg]; simp
  have GE_g : Hid (w.heap.size ≤ g) := Lib.hid (by omega)
  have GE_g2 : Hid (w.heap.size ≤ g2) := Lib.hid (by omega)
  have LT_g_g2 : Hid (g < g2) := Lib.hid (by omega)
  have HZ1 := Lib.hid hz1
  have K1 := Tim.kb (Tim.kb (kp K0 hb) hk1) hk2
  have HW1 := Lib.hid hw1
  have HG := Lib.hid hg
  have HG2 := Lib.hid hg2
  clear hb hk1 hk2 hw1 hg hg2 hz1 K0
  go_enter Tryd.func27, Tryd.ntmps27
  go_upto_region 1 with fail
  rw [HW1.out, HG.out, HG2.out]
  clear HW1
  go_upto_region 2 with fail
  rw [HZ1.out]
  obtain ⟨g3, hg3⟩ : ∃ g3, g2 + 1 = g3 := ⟨_, rfl⟩
  obtain ⟨g4, hg4⟩ : ∃ g4, g3 + 1 = g4 := ⟨_, rfl⟩
  obtain ⟨w2, hw2⟩ : ∃ w2, (w1.alloc (.cells #[.int .u8 0, .bool false, .int .u32 23] 33)).alloc (.cells #[.int .u8 0, .bool false, .int .u32 24] 33) = w2 := ⟨_, rfl⟩
  have hb : Hid (Below w1.heap.size w1 w2) := Lib.hid (by rw [← hw2]; exact (bel1 w1 _).alloc (by simp) _)
  have hk3 : Hid (Bk w2 g3 33 (tgC 0 false 23)) := Lib.hid (by
    rw [← hw2, ← hg3, ← HZ1.out]
    exact (Bk.new w1 33 (tgC 0 false 23)).alloc _)
  have hk4 : Hid (Bk w2 g4 33 (tgC 0 false 24)) := Lib.hid (by
    rw [← hw2, ← hg4, ← hg3, ← HZ1.out]
    have := Bk.new (w1.alloc (.cells (tgC 0 false 23).toArray 33)) 33 (tgC 0 false 24)
    rwa [World.size_alloc] at this)
  have K2 := Tim.kb (Tim.kb (kp K1 hb) hk3) hk4
  have HW2 := Lib.hid hw2
  have HG3 := Lib.hid hg3
  have HG4 := Lib.hid hg4
  have LT_g2_g3 : Hid (g2 < g3) := Lib.hid (by omega)
  clear hb hk3 hk4 hw2 hg3 hg4 K1
  rw [HW2.out, HG3.out, HG4.out]
  clear HW2 HG3 HG4
  go_cut [22] (fun v wx => v = .bool false ∧ St w [] [(g4, 33, tgC 0 false 24), (g3, 33, tgC 0 false 23), (g2, 23, tL 0 0 0 0 0 0), (g, 37, elF 0 false k (.slice A N ca) (.slice B M cb))] wx)
  case first =>
    rcases hk with hk | hk
    · rw [show (!decide (k = 23)) = false by rw [hk]; rfl] at q1
      rw [show (!decide (k = 24)) = true by rw [hk]; rfl] at q2
      clear hk
      go_wp2_with (first | (refine wpList_loadGg (by rfl) (.tmp 13) rfl rfl (rangeF (K2.out.k (g, 37, elF 0 false k (.slice A N ca) (.slice B M cb)) (by simp))) Tryd.underlying33 rfl infoTg ?_) | (refine wpList_loadGg (by rfl) (.tmp 18) rfl rfl (rangeF (K2.out.k (g, 37, elF 0 false k (.slice A N ca) (.slice B M cb)) (by simp))) Tryd.underlying33 rfl infoTg ?_) | (refine wpList_loadGg (by rfl) (.tmp 4) rfl rfl (rangeB (K2.out.k (g3, 33, tgC 0 false 23) (by simp))) Tryd.underlying33 rfl infoTg ?_) | (refine wpList_loadGg (by rfl) (.tmp 5) rfl rfl (rangeB (K2.out.k (g4, 33, tgC 0 false 24) (by simp))) Tryd.underlying33 rfl infoTg ?_))
      go_meet
      exact ⟨rfl, K2.out⟩
    · rw [show (!decide (k = 23)) = true by rw [hk]; rfl] at q1
      rw [show (!decide (k = 24)) = false by rw [hk]; rfl] at q2
      clear hk
      go_wp2_with (first | (refine wpList_loadGg (by rfl) (.tmp 13) rfl rfl (rangeF (K2.out.k (g, 37, elF 0 false k (.slice A N ca) (.slice B M cb)) (by simp))) Tryd.underlying33 rfl infoTg ?_) | (refine wpList_loadGg (by rfl) (.tmp 18) rfl rfl (rangeF (K2.out.k (g, 37, elF 0 false k (.slice A N ca) (.slice B M cb)) (by simp))) Tryd.underlying33 rfl infoTg ?_) | (refine wpList_loadGg (by rfl) (.tmp 4) rfl rfl (rangeB (K2.out.k (g3, 33, tgC 0 false 23) (by simp))) Tryd.underlying33 rfl infoTg ?_) | (refine wpList_loadGg (by rfl) (.tmp 5) rfl rfl (rangeB (K2.out.k (g4, 33, tgC 0 false 24) (by simp))) Tryd.underlying33 rfl infoTg ?_))
      go_meet
      exact ⟨rfl, K2.out⟩
  case rest =>
    obtain ⟨rfl, hst⟩ := hcut
    have K3 := Lib.hid hst
    clear hst K2
    generalize wc = w3 at *
    have c_g_4 : w3.cell? ⟨g, 4, none⟩ = some (.slice B M cb) := by rw [(K3.out.k (g, 37, elF 0 false k (.slice A N ca) (.slice B M cb)) (by simp)).cell]; rfl
    go_wp2_with (refine wpList_storeG rfl (.tmp 2) (.tmp 28) rfl rfl (ds := tL 0 0 0 0 0 0) rfl (K3.out.k (g2, 23, tL 0 0 0 0 0 0) (by simp)) infoTm rfl (tL_one _ _ _ _ _ _) ?_; intro w9 hr9 hg9 hz9; have B9 := Lib.hid (K3.out.b.grown hg9 K3.out.b.size (fun k e => by injection e with e; have := GE_g2.out; omega)); have R9 := Lib.hid hr9; clear hr9 hg9 hz9)
    exact retG2 rfl rfl rfl (loadTm R9.out) rfl ⟨rfl, B9.out⟩
end Go.Proofs.YtecmgkmonehmfaaDoor.Tim
