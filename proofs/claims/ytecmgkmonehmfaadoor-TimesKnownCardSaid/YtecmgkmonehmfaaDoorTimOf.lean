/-
  Layer 10: the statements' own helper of, where Of answers what is asked.
  Conditions: what Of answers is known.
-/
import Derived.Test.YtecmgkmonehmfaaDoorTimSt
import Derived.Deep.DeepCutAuto
import Derived.Deep.CutBlock
namespace Go.Proofs.YtecmgkmonehmfaaDoor.Tim
open Go.RowKit Go.Shelf
attribute [local go_sem] Oper.semAt_some

set_option linter.unusedSimpArgs false in
set_option linter.unusedVariables false in
set_option maxHeartbeats 6400000 in
set_option maxRecDepth 100000 in
theorem lof_any (k : Nat) (l : List Nat) (h8 : All8 l) (hlm : l.length ≤ 1000000) (b0 b1 b2 b3 b4 b5 f : Int) (w : World) (hE : Env w)
    (CP : ∀ A ca W, Env W → Rb W A l → Calls Tryd.prog 26 #[.agg (elF 0 false k (.slice A l.length ca) (.slice none 0 0)).toArray] W fun e w' => e = .returned (.tuple #[.agg (tL b0 b1 b2 b3 b4 b5).toArray, .int .i64 f]) ∧ Below W.heap.size W w') :
    Calls Tryd.prog 23 #[.int .u32 (k : Int), .string (bstr l), tV b0 b1 b2 b3 b4 b5, .int .i64 f] w fun e w' => e = .returned (.bool true) ∧ Below w.heap.size w w' := by
  have Z := zTm
  have ZT : ∀ w : World, (zeroValue 33).run Tryd.prog w = .ok (.agg #[.int .u8 0, .bool false, .int .u32 0]) w := zTg
  have ZE : ∀ w : World, (zeroValue 37).run Tryd.prog w = .ok (.agg #[.int .u8 0, .bool false, .int .u32 0, .slice none 0 0, .slice none 0 0]) w := zEl
  obtain ⟨g, hg⟩ : ∃ g, w.heap.size = g := ⟨_, rfl⟩
  obtain ⟨w1, hw1⟩ : ∃ w1, w.alloc (.cells #[.int .i64 b0, .int .i64 b1, .int .i64 b2, .int .i64 b3, .int .i64 b4, .int .i64 b5] 23) = w1 := ⟨_, rfl⟩
  have B1 : Hid (Below w.heap.size w w1) := Lib.hid (by rw [← hw1]; exact bel1 w _)
  have K1 : Hid (Bk w1 g 23 (tL b0 b1 b2 b3 b4 b5)) := Lib.hid (by rw [← hw1, ← hg]; exact Bk.new w _ (tL b0 b1 b2 b3 b4 b5))
  obtain ⟨c, w2, hrun, hBm, hb2, hc1, hc2, hz2⟩ := conv_m w1 l h8 hlm
  have HR2 : Hid (Rb w2 (some ⟨w1.heap.size, 0, none⟩) l) := Lib.hid ⟨fun _ => ⟨_, 0, rfl, hBm.lt, fun j u hu => by
    have hj : j < (cs8 l).length := (List.getElem?_eq_some_iff.1 hu).1
    rw [Nat.zero_add, hBm.cell]
    unfold cs8 at hu hj ⊢
    rw [List.map_append, List.getElem?_append_left hj]
    exact hu⟩, h8⟩
  have B2 := bt B1 (Lib.hid hb2)
  have K2 := kt K1 (Lib.hid hb2)
  have E2 := et (Lib.hid hE) B2
  obtain ⟨g5, hg5⟩ : ∃ g5, w1.heap.size = g5 := ⟨_, rfl⟩
  obtain ⟨N, hN⟩ : ∃ N, l.length = N := ⟨_, rfl⟩
  obtain ⟨S, hS⟩ : ∃ S, bstr l = S := ⟨_, rfl⟩
  rw [hg5, hN, hS] at hrun
  rw [hg5] at HR2
  rw [hN] at CP
  rw [hS]
  have HCP := Lib.hid (CP (some ⟨g5, 0, none⟩) c w2 E2.out HR2.out)
  have HW1 := Lib.hid hw1
  have HG := Lib.hid hg
  have HQ := fun W => eqlTm b0 b1 b2 b3 b4 b5 b0 b1 b2 b3 b4 b5 W
  rw [show decide (b0 = b0 ∧ b1 = b1 ∧ b2 = b2 ∧ b3 = b3 ∧ b4 = b4 ∧ b5 = b5) = true by simp] at HQ
  have hff : (f == f) = true := by rw [beq_iff_eq]
  obtain ⟨LA, hLA⟩ : ∃ L, tL b0 b1 b2 b3 b4 b5 = L := ⟨_, rfl⟩
  rw [hLA] at HQ HCP K2
  have HLA := Lib.hid hLA
  clear hBm hb2 hc1 hc2 hz2 hg5 hN hS hw1 hg hE CP hLA B1 K1 E2 HR2
  go_enter Tryd.func23, Tryd.ntmps23
  go_upto_region 1 with fail
  rw [HW1.out, HG.out]
  go_wp2_with fail
  refine HCP.out.mono ?_
  rintro e w3 ⟨rfl, hb⟩
  have B3 := bt B2 (Lib.hid hb)
  have K3 := kt K2 (Lib.hid hb)
  clear hb B2 K2 hrun HCP
  obtain ⟨g4, hg4⟩ : ∃ g4, w3.heap.size = g4 := ⟨_, rfl⟩
  have HG4 := Lib.hid hg4
  have hgg : g ≠ g4 := by have := K3.out.lt; omega
  have hla : LA.length = 6 := by rw [← HLA.out]; rfl
  have hi6 : (Tryd.prog.info? 23).map (·.size) = some LA.length := by rw [hla]; exact infoTm
  have hone : LA.all (·.oneCell') = true := by rw [← HLA.out]; rfl
  clear hg4
  go_upto_region 2 with
                (refine wpList_storeG rfl (.tmp 9) (.tmp 18) rfl rfl (ds := LA) rfl (Bk.new w3 23 (tL 0 0 0 0 0 0)) hi6 (by rw [hla]; rfl) hone ?_
                 intro w5 hk5 hg5 hz5
                 have B5 := Lib.hid ((B3.out.alloc B3.out.size _).grown hg5 (Nat.le_trans B3.out.size (by simp)) (fun k e => by injection e with e; have := HG4.out; have := B3.out.size; omega))
                 have K5 : Hid (Bk w5 g 23 LA) := Lib.hid ((K3.out.alloc _).only hg5 (fun e => by injection e with e; have := HG4.out; omega))
                 have R5 : Hid (Bk w5 g4 23 LA) := Lib.hid (by have := hk5; rw [HG4.out] at this; exact this)
                 clear hk5 hg5 hz5)
  rw [HG4.out]
  go_wp2_with (first | (refine wpList_loadG rfl (.tmp 9) rfl rfl (rangeB R5.out) Tryd.underlying23 rfl hi6 ?_) | (refine wpList_loadG rfl (.tmp 6) rfl rfl (rangeB K5.out) Tryd.underlying23 rfl hi6 ?_))
  go_ret
  exact ⟨rfl, B5.out⟩
end Go.Proofs.YtecmgkmonehmfaaDoor.Tim
