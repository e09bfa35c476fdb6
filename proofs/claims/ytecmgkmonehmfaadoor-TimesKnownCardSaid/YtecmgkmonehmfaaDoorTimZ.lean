/-
  Layer 10: is, where the element is what is asked.
  Conditions: the slice reads as the content.
-/
import Derived.Test.YtecmgkmonehmfaaDoorTimY
namespace Go.Proofs.YtecmgkmonehmfaaDoor.Tim
open Go.RowKit
attribute [local go_sem] Oper.semAt_some

theorem rangeT {w : World} {g n : Nat} {v : Value} {t : TypeId} (h : Bk w g t (elC n v)) : w.rangeAt g 0 (tgC 0 false n) := fun j u hj => by
  obtain ⟨hlt, rfl⟩ := List.getElem?_eq_some_iff.1 hj
  have h3 : j < 3 := hlt
  rw [Nat.zero_add, h.cell]
  rcases (show j = 0 ∨ j = 1 ∨ j = 2 by omega) with rfl | rfl | rfl <;> rfl
set_option linter.unusedSimpArgs false in
set_option linter.unusedVariables false in
set_option maxHeartbeats 4000000 in
set_option maxRecDepth 100000 in
theorem is_any (A : Option Addr) (l : List Nat) (N n : Nat) (hN : l.length = N) (hm : N ≤ 1000000) (w : World) (hA : Rb w A l) :
    Calls Tryd.prog 22 #[.agg (elC n (.slice A N N)).toArray, .int .i64 0, .int .u32 (n : Int), .string (bstr l)] w fun e w' => e = .returned (.bool true) ∧ Below w.heap.size w w' := by
  have Z : ∀ w : World, (zeroValue 33).run Tryd.prog w = .ok (.agg #[.int .u8 0, .bool false, .int .u32 0]) w := zTg
  obtain ⟨g, hg⟩ : ∃ g, w.heap.size = g := ⟨_, rfl⟩
  obtain ⟨w1, hw1⟩ : ∃ w1, w.alloc (.cells (elC n (.slice A N N)).toArray 37) = w1 := ⟨_, rfl⟩
  have B1 : Hid (Below w.heap.size w w1) := Lib.hid (by rw [← hw1]; exact bel1 w _)
  have K1 : Hid (Bk w1 g 37 (elC n (.slice A N N))) := Lib.hid (by rw [← hw1, ← hg]; exact Bk.new w _ _)
  obtain ⟨g2, hg2⟩ : ∃ g2, w1.heap.size = g2 := ⟨_, rfl⟩
  obtain ⟨w2, hw2⟩ : ∃ w2, w1.alloc (.cells #[.int .u8 0, .bool false, .int .u32 (n : Int)] 33) = w2 := ⟨_, rfl⟩
  have B2 : Hid (Below w.heap.size w w2) := Lib.hid (by rw [← hw2]; exact B1.out.alloc B1.out.size _)
  have K2 : Hid (Bk w2 g 37 (elC n (.slice A N N))) := Lib.hid (by rw [← hw2]; exact K1.out.alloc _)
  have T2 : Hid (Bk w2 g2 33 (tgC 0 false n)) := Lib.hid (by rw [← hw2, ← hg2]; exact Bk.new w1 _ (tgC 0 false n))
  have hr := hA.below B2.out
  have s0 : (convert 34 9 (.slice A N N)).run Tryd.prog w2 = .ok (.string (bstr l)) w2 := by
    have := run_str (P := Tryd.prog) (src := 34) (dst := 9) Tryd.underlying34 Tryd.underlying5 Tryd.underlying9 hr N
    rwa [hN] at this
  have c3 : w2.cell? ⟨g, 3, none⟩ = some (.slice A N N) := by rw [K2.out.cell]; rfl
  have c4 : w2.cell? ⟨g, 4, none⟩ = some (.slice none 0 0) := by rw [K2.out.cell]; rfl
  have HQ := fun W => eqlT 0 false n 0 false n W
  rw [show (decide ((0 : Nat) = 0) && (false == false) && decide (n = n)) = true by simp] at HQ
  have HW1 := Lib.hid hw1
  have HW2 := Lib.hid hw2
  have HG := Lib.hid hg
  have HG2 := Lib.hid hg2
  obtain ⟨S, hS⟩ : ∃ S, bstr l = S := ⟨_, rfl⟩
  rw [hS] at s0 ⊢
  have RT := Lib.hid (rangeT K2.out)
  have RT2 := Lib.hid (rangeB T2.out)
  have hi : (Tryd.prog.info? 33).map (·.size) = some (tgC 0 false n).length := infoTg
  generalize tgC 0 false n = LT at *
  clear hS hw1 hw2 hg hg2 hA hr T2 hN
  go_enter Tryd.func22, Tryd.ntmps22
  go_upto_region 1 with fail
  rw [HW1.out, HG.out]
  go_upto_region 2 with fail
  rw [HW2.out, HG2.out]
  clear K1 B1 HW1 HW2
  go_wp2_with (first | (refine wpList_loadGg (by rfl) (.tmp 15) rfl rfl RT.out Tryd.underlying33 rfl hi ?_) | (refine wpList_loadGg (by rfl) (.tmp 9) rfl rfl RT2.out Tryd.underlying33 rfl hi ?_))
  go_ret
  exact ⟨rfl, B2.out⟩
end Go.Proofs.YtecmgkmonehmfaaDoor.Tim
