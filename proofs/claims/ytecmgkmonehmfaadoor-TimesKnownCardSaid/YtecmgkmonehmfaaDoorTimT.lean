/-
  Layer 10: read.
  Conditions: the layout is short.
-/
import Derived.Test.YtecmgkmonehmfaaDoorTimS
namespace Go.Proofs.YtecmgkmonehmfaaDoor.Tim
open Go.RowKit
attribute [local go_sem] Oper.semAt_some

set_option linter.unusedSimpArgs false in
set_option linter.unusedVariables false in
set_option maxHeartbeats 4000000 in
set_option maxRecDepth 100000 in
theorem read_no (L s : List Nat) (hne : s.length ≠ L.length) (hl : L.length ≤ 100) (hsl : s.length ≤ 1000000) (w : World) :
    Calls Tryd.prog 39 #[.string (bstr L), .string (bstr s)] w fun e w' => e = .returned (.agg (tL 0 0 0 0 0 0).toArray) ∧ Below w.heap.size w w' := by
  have Z := zTm
  have hsz := bstr_size L
  have hsz1 := bstr_size s
  obtain ⟨S, hS⟩ : ∃ S, bstr L = S := ⟨_, rfl⟩
  obtain ⟨T, hT⟩ : ∃ T, bstr s = T := ⟨_, rfl⟩
  rw [hS] at hsz ⊢
  rw [hT] at hsz1 ⊢
  obtain ⟨g, hg⟩ : ∃ g, w.heap.size = g := ⟨_, rfl⟩
  obtain ⟨g1, hg1⟩ : ∃ g1, g + 1 = g1 := ⟨_, rfl⟩
  obtain ⟨g2, hg2⟩ : ∃ g2, g1 + 1 = g2 := ⟨_, rfl⟩
  obtain ⟨w1, hw1⟩ : ∃ w1, ((w.alloc (.cells #[.string S] 9)).alloc (.cells #[.string T] 9)).alloc (.cells (tL 0 0 0 0 0 0).toArray 23) = w1 := ⟨_, rfl⟩
  have B1 : Hid (Below w.heap.size w w1) := Lib.hid (by rw [← hw1]; exact ((bel1 w _).alloc (by simp) _).alloc (by simp; omega) _)
  have K1 : Hid (Bk w1 g 9 [.string S]) := Lib.hid (by rw [← hw1, ← hg]; exact ((Bk.new w _ [.string S]).alloc _).alloc _)
  have L1 : Hid (Bk w1 g1 9 [.string T]) := Lib.hid (by
    rw [← hw1, ← hg1, ← hg]
    have := (Bk.new (w.alloc (.cells #[.string S] 9)) 9 [.string T]).alloc (.cells (tL 0 0 0 0 0 0).toArray 23)
    rwa [World.size_alloc] at this)
  have R1 : Hid (Bk w1 g2 23 (tL 0 0 0 0 0 0)) := Lib.hid (by
    rw [← hw1, ← hg2, ← hg1, ← hg]
    have := Bk.new ((w.alloc (.cells #[.string S] 9)).alloc (.cells #[.string T] 9)) 23 (tL 0 0 0 0 0 0)
    rwa [World.size_alloc, World.size_alloc] at this)
  have HW1 := Lib.hid hw1
  have HG := Lib.hid hg
  have HG1 := Lib.hid hg1
  have HG2 := Lib.hid hg2
  have cs : w1.cell? ⟨g, 0, none⟩ = some (.string S) := by rw [K1.out.cell]; rfl
  have ct : w1.cell? ⟨g1, 0, none⟩ = some (.string T) := by rw [L1.out.cell]; rfl
  obtain ⟨N, hN⟩ : ∃ N, L.length = N := ⟨_, rfl⟩
  obtain ⟨M, hM⟩ : ∃ M, s.length = M := ⟨_, rfl⟩
  rw [hN] at hsz hne
  rw [hM] at hsz1 hne
  have hb : ((M : Int) != (N : Int)) = true := by rw [bne_iff_ne]; omega
  clear hS hT hw1 hg hg1 hg2 hN hM
  go_enter Tryd.func39, Tryd.ntmps39
  go_upto_region 1 with fail
  rw [HW1.out, HG.out, HG1.out, HG2.out]
  go_wp2_with (refine wpList_storeG rfl (.tmp 4) (.tmp 11) rfl rfl (ds := tL 0 0 0 0 0 0) rfl R1.out infoTm rfl (tL_one _ _ _ _ _ _) ?_
               intro w8 hr8 hg8 hz8
               have B8 := Lib.hid (B1.out.grown hg8 B1.out.size (fun k e => by injection e with e; have := HG.out; have := HG1.out; have := HG2.out; omega))
               have R8 := Lib.hid hr8
               clear hr8 hg8 hz8)
  exact retG1 rfl rfl (loadTm R8.out) rfl ⟨rfl, B8.out⟩
set_option linter.unusedSimpArgs false in
set_option linter.unusedVariables false in
set_option maxHeartbeats 4000000 in
set_option maxRecDepth 100000 in
theorem read_yes (L s : List Nat) (hL8 : All8 L) (hs8 : All8 s) (heq : s.length = L.length) (hl : L.length ≤ 100) (w : World) :
    Calls Tryd.prog 39 #[.string (bstr L), .string (bstr s)] w fun e w' => e = .returned (.agg (tL (rdG L s 89 L.length) (rdG L s 77 L.length) (rdG L s 68 L.length) (rdG L s 104 L.length) (rdG L s 109 L.length) (rdG L s 115 L.length)).toArray) ∧ Below w.heap.size w w' := by
  obtain ⟨N, hN⟩ : ∃ N, L.length = N := ⟨_, rfl⟩
  have Z := zTm
  have hsz := bstr_size L
  have hsz1 := bstr_size s
  obtain ⟨S, hS⟩ : ∃ S, bstr L = S := ⟨_, rfl⟩
  obtain ⟨T, hT⟩ : ∃ T, bstr s = T := ⟨_, rfl⟩
  rw [hS] at hsz ⊢
  rw [hT] at hsz1 ⊢
  obtain ⟨g, hg⟩ : ∃ g, w.heap.size = g := ⟨_, rfl⟩
  obtain ⟨g1, hg1⟩ : ∃ g1, g + 1 = g1 := ⟨_, rfl⟩
  obtain ⟨g2, hg2⟩ : ∃ g2, g1 + 1 = g2 := ⟨_, rfl⟩
  obtain ⟨w1, hw1⟩ : ∃ w1, ((w.alloc (.cells #[.string S] 9)).alloc (.cells #[.string T] 9)).alloc (.cells (tL 0 0 0 0 0 0).toArray 23) = w1 := ⟨_, rfl⟩
  have B1 : Hid (Below w.heap.size w w1) := Lib.hid (by rw [← hw1]; exact ((bel1 w _).alloc (by simp) _).alloc (by simp; omega) _)
  have K1 : Hid (Bk w1 g 9 [.string S]) := Lib.hid (by rw [← hw1, ← hg]; exact ((Bk.new w _ [.string S]).alloc _).alloc _)
  have L1 : Hid (Bk w1 g1 9 [.string T]) := Lib.hid (by
    rw [← hw1, ← hg1, ← hg]
    have := (Bk.new (w.alloc (.cells #[.string S] 9)) 9 [.string T]).alloc (.cells (tL 0 0 0 0 0 0).toArray 23)
    rwa [World.size_alloc] at this)
  have R1 : Hid (Bk w1 g2 23 (tL 0 0 0 0 0 0)) := Lib.hid (by
    rw [← hw1, ← hg2, ← hg1, ← hg]
    have := Bk.new ((w.alloc (.cells #[.string S] 9)).alloc (.cells #[.string T] 9)) 23 (tL 0 0 0 0 0 0)
    rwa [World.size_alloc, World.size_alloc] at this)
  have HW1 := Lib.hid hw1
  have HG := Lib.hid hg
  have HG1 := Lib.hid hg1
  have HG2 := Lib.hid hg2
  have cs : w1.cell? ⟨g, 0, none⟩ = some (.string S) := by rw [K1.out.cell]; rfl
  have ct : w1.cell? ⟨g1, 0, none⟩ = some (.string T) := by rw [L1.out.cell]; rfl
  rw [heq] at hsz1
  have C0 := Lib.hid (fun W h1 h2 => field_any L s hL8 hs8 L.length rfl heq hl 89 (by decide) g g1 W h1 h2)
  have C1 := Lib.hid (fun W h1 h2 => field_any L s hL8 hs8 L.length rfl heq hl 77 (by decide) g g1 W h1 h2)
  have C2 := Lib.hid (fun W h1 h2 => field_any L s hL8 hs8 L.length rfl heq hl 68 (by decide) g g1 W h1 h2)
  have C3 := Lib.hid (fun W h1 h2 => field_any L s hL8 hs8 L.length rfl heq hl 104 (by decide) g g1 W h1 h2)
  have C4 := Lib.hid (fun W h1 h2 => field_any L s hL8 hs8 L.length rfl heq hl 109 (by decide) g g1 W h1 h2)
  have C5 := Lib.hid (fun W h1 h2 => field_any L s hL8 hs8 L.length rfl heq hl 115 (by decide) g g1 W h1 h2)
  rw [hS, hT] at C0 C1 C2 C3 C4 C5
  obtain ⟨v0, hv0⟩ : ∃ v, rdG L s 89 L.length = v := ⟨_, rfl⟩
  rw [hv0] at C0
  obtain ⟨v1, hv1⟩ : ∃ v, rdG L s 77 L.length = v := ⟨_, rfl⟩
  rw [hv1] at C1
  obtain ⟨v2, hv2⟩ : ∃ v, rdG L s 68 L.length = v := ⟨_, rfl⟩
  rw [hv2] at C2
  obtain ⟨v3, hv3⟩ : ∃ v, rdG L s 104 L.length = v := ⟨_, rfl⟩
  rw [hv3] at C3
  obtain ⟨v4, hv4⟩ : ∃ v, rdG L s 109 L.length = v := ⟨_, rfl⟩
  rw [hv4] at C4
  obtain ⟨v5, hv5⟩ : ∃ v, rdG L s 115 L.length = v := ⟨_, rfl⟩
  rw [hv5] at C5
  rw [hv0, hv1, hv2, hv3, hv4, hv5]
  rw [hN] at hsz hsz1
  have ZT : ∀ w : World, (zeroValue 23).run Tryd.prog w = .ok (.agg #[.int .i64 0, .int .i64 0, .int .i64 0, .int .i64 0, .int .i64 0, .int .i64 0]) w := zTm
  clear hS hT hw1 hg hg1 hg2 hN heq hv0 hv1 hv2 hv3 hv4 hv5 hL8 hs8
  go_enter Tryd.func39, Tryd.ntmps39
  go_upto_region 1 with fail
  rw [HW1.out, HG.out, HG1.out, HG2.out]
  go_wp2_with fail
  refine (C0.out _ cs ct).mono ?_
  rintro e w4 ⟨rfl, rfl⟩
  go_wp2_with fail
  refine (C1.out _ cs ct).mono ?_
  rintro e w4 ⟨rfl, rfl⟩
  go_wp2_with fail
  refine (C2.out _ cs ct).mono ?_
  rintro e w4 ⟨rfl, rfl⟩
  go_wp2_with fail
  refine (C3.out _ cs ct).mono ?_
  rintro e w4 ⟨rfl, rfl⟩
  go_wp2_with fail
  refine (C4.out _ cs ct).mono ?_
  rintro e w4 ⟨rfl, rfl⟩
  go_wp2_with fail
  refine (C5.out _ cs ct).mono ?_
  rintro e w4 ⟨rfl, rfl⟩
  clear ZT
  go_wp2_with (refine wpList_storeG rfl (.tmp 4) (.tmp 25) rfl rfl (ds := tL v0 v1 v2 v3 v4 v5) rfl R1.out infoTm rfl (tL_one _ _ _ _ _ _) ?_
               intro w8 hr8 hg8 hz8
               have B8 := Lib.hid (B1.out.grown hg8 B1.out.size (fun k e => by injection e with e; have := HG.out; have := HG1.out; have := HG2.out; omega))
               have R8 := Lib.hid hr8
               clear hr8 hg8 hz8)
  exact retG1 rfl rfl (loadTm R8.out) rfl ⟨rfl, B8.out⟩
end Go.Proofs.YtecmgkmonehmfaaDoor.Tim
