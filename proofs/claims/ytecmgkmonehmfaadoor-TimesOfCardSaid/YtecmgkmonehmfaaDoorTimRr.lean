/-
  Layer 10: Of, of the reference, where the text has 15 characters.
  Conditions: a length.
-/
import Derived.Test.YtecmgkmonehmfaaDoorTimRq
import Derived.Deep.RegionHeld3
namespace Go.Proofs.YtecmgkmonehmfaaDoor.Tim
open Go.RowKit Go.Shelf
attribute [local go_sem] Oper.semAt_some

set_option linter.unusedSimpArgs false in
set_option linter.unusedVariables false in
set_option maxHeartbeats 6400000 in
set_option maxRecDepth 100000 in
theorem rof_ok (k : Nat) (hk : k = 23 ∨ k = 24) (l : List Nat) (A B : Option Addr) (N ca cb : Nat) (hN : l.length = N) (h8 : All8 l) (hlm : l.length ≤ 1000000) (w : World) (hA : Rd w A (cs8 l)) (hE : Env w) (h15 : (refS k l).length = 15) (y m d h mi s6 : Nat) (hv : NmF (refS k l) 0 4 4 6 6 8 8 10 10 12 12 14 y m d h mi s6) (hck : ck y m d h mi s6 = 0) :
    Calls Tryd.prog 27 #[.agg (elF 0 false k (.slice A N ca) (.slice B 0 cb)).toArray] w fun e w' => e = .returned (if tagN y = k ∧ txtE (tagN y) y m d h mi s6 = l then Value.tuple #[.agg (tL y m d h mi s6).toArray, .int .i64 0] else .tuple #[.agg (tL 0 0 0 0 0 0).toArray, .int .i64 11]) ∧ Below w.heap.size w w' := by
  have Z : ∀ w : World, (zeroValue 23).run Tryd.prog w = .ok (.agg #[.int .i64 0, .int .i64 0, .int .i64 0, .int .i64 0, .int .i64 0, .int .i64 0]) w := zTm
  have ZT : ∀ w : World, (zeroValue 33).run Tryd.prog w = .ok (.agg #[.int .u8 0, .bool false, .int .u32 0]) w := zTg
  have q1 : ∀ W, (binOp .neq 33 (.agg (tgC 0 false k).toArray) (.agg (tgC 0 false 23).toArray)).run Tryd.prog W = .ok (.bool (!decide (k = 23))) W := fun W => by
    refine (neqT 0 false k 0 false 23 W).trans ?_
    simp
  have q2 : ∀ W, (binOp .neq 33 (.agg (tgC 0 false k).toArray) (.agg (tgC 0 false 24).toArray)).run Tryd.prog W = .ok (.bool (!decide (k = 24))) W := fun W => by
    refine (neqT 0 false k 0 false 24 W).trans ?_
    simp
  have q3 : ∀ W, (binOp .eql 33 (.agg (tgC 0 false k).toArray) (.agg (tgC 0 false 23).toArray)).run Tryd.prog W = .ok (.bool (decide (k = 23))) W := fun W => by
    refine (eqlT 0 false k 0 false 23 W).trans ?_
    simp
  have K0 := ka (Lib.hid (St.start hE)) (Lib.hid hA)
  obtain ⟨s, hs⟩ : ∃ s, refS k l = s := ⟨_, rfl⟩
  have hs8 : All8 s := by rw [← hs]; exact refS_8 h8
  have hsl : s.length ≤ l.length + 2 := by rw [← hs]; exact refS_len
  have hcase : (k = 23 ∧ N = 13 ∧ s = cen (l.getD 0 0) ++ l) ∨ (k = 23 ∧ N ≠ 13 ∧ s = l) ∨ (k = 24 ∧ s = l) := by
    rw [← hs]
    unfold refS
    rw [hN]
    rcases hk with rfl | rfl
    · by_cases h : N = 13
      · exact .inl ⟨rfl, h, by rw [if_pos ⟨rfl, h⟩]⟩
      · exact .inr (.inl ⟨rfl, h, by rw [if_neg (fun e => h e.2)]⟩)
    · exact .inr (.inr ⟨rfl, by rw [if_neg (fun h => absurd h.1 (by decide))]⟩)
  obtain ⟨x, hx⟩ : ∃ x, l.getD 0 0 = x := ⟨_, rfl⟩
  rw [hx] at hcase
  have hix : N = 13 → ∀ W, (Instr.index 9 (.string (bstr l)) (.int .i64 0)).run Tryd.prog W = .ok (.int .u8 (x : Int)) W := fun h W => by
    have h0 : 0 < l.length := by omega
    have := idx_str l h8 0 h0 W
    rw [← hx, List.getD_eq_getElem?_getD, List.getElem?_eq_getElem h0]
    exact this
  have hsz := bstr_size l
  obtain ⟨SL, hSL⟩ : ∃ S, bstr l = S := ⟨_, rfl⟩
  obtain ⟨SS, hSS⟩ : ∃ S, bstr s = S := ⟨_, rfl⟩
  have hca : (k = 23 ∧ N = 13 ∧ x < 53 ∧ SS = ⟨#[50, 48]⟩ ++ SL) ∨ (k = 23 ∧ N = 13 ∧ ¬ x < 53 ∧ SS = ⟨#[49, 57]⟩ ++ SL) ∨ (k = 23 ∧ N ≠ 13 ∧ SS = SL) ∨ (k = 24 ∧ SS = SL) := by
    rw [← hSS, ← hSL]
    rcases hcase with ⟨h1, h2, h3⟩ | ⟨h1, h2, h3⟩ | ⟨h1, h3⟩
    · by_cases hx5 : x < 53
      · exact .inl ⟨h1, h2, hx5, by rw [h3, ← bstr_app]; unfold cen; rw [if_pos hx5]; rfl⟩
      · exact .inr (.inl ⟨h1, h2, hx5, by rw [h3, ← bstr_app]; unfold cen; rw [if_neg hx5]; rfl⟩)
    · exact .inr (.inr (.inl ⟨h1, h2, by rw [h3]⟩))
    · exact .inr (.inr (.inr ⟨h1, by rw [h3]⟩))
  have hsz2 := bstr_size s
  obtain ⟨M, hM⟩ : ∃ M, s.length = M := ⟨_, rfl⟩
  rw [hSL, hN] at hsz
  rw [hSS, hM] at hsz2
  rw [hSL] at hix
  have hNm : N ≤ 1000000 := by omega
  have hMm : M ≤ 1000002 := by omega
  have HIX := Lib.hid hix
  have HCA := Lib.hid hca
  have HK := Lib.hid hk
  have HN := Lib.hid hN
  have H8 := Lib.hid h8
  have HSL := Lib.hid hSL
  have hs15 : s.length = 15 := by rw [← hs]; exact h15
  have hM15 : M = 15 := by rw [← hM]; exact hs15
  have hMb : ((M : Int) != 15) = false := by rw [hM15]; rfl
  have hMi : (M : Int) = 15 := by rw [hM15]; rfl
  have C0 := Lib.hid (fun W => number_any (pc s 0 4) (pc_8 _ _ _ hs8) (by rw [pc_len _ _ _ (by omega)]; omega) W)
  have C1 := Lib.hid (fun W => number_any (pc s 4 6) (pc_8 _ _ _ hs8) (by rw [pc_len _ _ _ (by omega)]; omega) W)
  have C2 := Lib.hid (fun W => number_any (pc s 6 8) (pc_8 _ _ _ hs8) (by rw [pc_len _ _ _ (by omega)]; omega) W)
  have C3 := Lib.hid (fun W => number_any (pc s 8 10) (pc_8 _ _ _ hs8) (by rw [pc_len _ _ _ (by omega)]; omega) W)
  have C4 := Lib.hid (fun W => number_any (pc s 10 12) (pc_8 _ _ _ hs8) (by rw [pc_len _ _ _ (by omega)]; omega) W)
  have C5 := Lib.hid (fun W => number_any (pc s 12 14) (pc_8 _ _ _ hs8) (by rw [pc_len _ _ _ (by omega)]; omega) W)
  have s0 : ∀ W, (Instr.slice 9 (.string (bstr s)) none (some (.int .i64 4)) none).run Tryd.prog W = .ok (.string (bstr (pc s 0 4))) W := slice_h s 4 (by omega)
  have s1 : ∀ W, (Instr.slice 9 (.string (bstr s)) (some (.int .i64 4)) (some (.int .i64 6)) none).run Tryd.prog W = .ok (.string (bstr (pc s 4 6))) W := slice_lh s 4 6 (by omega) (by omega)
  have s2 : ∀ W, (Instr.slice 9 (.string (bstr s)) (some (.int .i64 6)) (some (.int .i64 8)) none).run Tryd.prog W = .ok (.string (bstr (pc s 6 8))) W := slice_lh s 6 8 (by omega) (by omega)
  have s3 : ∀ W, (Instr.slice 9 (.string (bstr s)) (some (.int .i64 8)) (some (.int .i64 10)) none).run Tryd.prog W = .ok (.string (bstr (pc s 8 10))) W := slice_lh s 8 10 (by omega) (by omega)
  have s4 : ∀ W, (Instr.slice 9 (.string (bstr s)) (some (.int .i64 10)) (some (.int .i64 12)) none).run Tryd.prog W = .ok (.string (bstr (pc s 10 12))) W := slice_lh s 10 12 (by omega) (by omega)
  have s5 : ∀ W, (Instr.slice 9 (.string (bstr s)) (some (.int .i64 12)) (some (.int .i64 14)) none).run Tryd.prog W = .ok (.string (bstr (pc s 12 14))) W := slice_lh s 12 14 (by omega) (by omega)
  rw [hSS] at s0 s1 s2 s3 s4 s5
  rw [hs] at hv
  obtain ⟨hv0, hv1, hv2, hv3, hv4, hv5⟩ := hv
  unfold numP at hv0 hv1 hv2 hv3 hv4 hv5
  rw [hv0] at C0
  rw [hv1] at C1
  rw [hv2] at C2
  rw [hv3] at C3
  rw [hv4] at C4
  rw [hv5] at C5
  have hnn := ck_nat hck
  have CK := Lib.hid (fun W => rcheck_any y m d h mi s6 W)
  rw [hck] at CK
  have CE := Lib.hid (fun W => relem_any y m d h mi s6 (by omega) (by omega) (by omega) (by omega) (by omega) (by omega) W)
  obtain ⟨RV, hRV⟩ : ∃ v, (if tagN y = k ∧ txtE (tagN y) y m d h mi s6 = l then Value.tuple #[.agg (tL y m d h mi s6).toArray, .int .i64 0] else .tuple #[.agg (tL 0 0 0 0 0 0).toArray, .int .i64 11]) = v := ⟨_, rfl⟩
  rw [hRV]
  obtain ⟨k9, hk9⟩ : ∃ k9, tagN y = k9 := ⟨_, rfl⟩
  obtain ⟨l9, hl9⟩ : ∃ l9, txtE k9 y m d h mi s6 = l9 := ⟨_, rfl⟩
  obtain ⟨S9, hS9⟩ : ∃ S9, bstr l9 = S9 := ⟨_, rfl⟩
  have h98 : All8 l9 := by rw [← hl9]; exact all_E _ _ _ _ _ _ _
  rw [hk9, hl9, hS9] at CE
  rw [hk9, hl9] at hRV
  have hns : (S9.toList != SL.toList) = !decide (l9 = l) := by rw [← hS9, ← hSL, bne, bstr_dec h98 h8]
  have HNS := Lib.hid hns
  have HRV := Lib.hid hRV
  generalize bstr (pc s 0 4) = P0 at *
  generalize bstr (pc s 4 6) = P1 at *
  generalize bstr (pc s 6 8) = P2 at *
  generalize bstr (pc s 8 10) = P3 at *
  generalize bstr (pc s 10 12) = P4 at *
  generalize bstr (pc s 12 14) = P5 at *
  clear hs hs8 hsl hcase hx hix hSL hSS hca hM hN h8 hlm h15 hM15 hs15 hck hv0 hv1 hv2 hv3 hv4 hv5 hnn hRV hk9 hl9 hS9 h98 hns
  obtain ⟨g, hg⟩ : ∃ g, w.heap.size = g := ⟨_, rfl⟩
  obtain ⟨g2, hg2⟩ : ∃ g2, g + 1 = g2 := ⟨_, rfl⟩
  obtain ⟨w1, hw1⟩ : ∃ w1, (w.alloc (.cells (elF 0 false k (.slice A N ca) (.slice B 0 cb)).toArray 37)).alloc (.cells #[.int .i64 0, .int .i64 0, .int .i64 0, .int .i64 0, .int .i64 0, .int .i64 0] 23) = w1 := ⟨_, rfl⟩
  have hb : Hid (Below w.heap.size w w1) := Lib.hid (by rw [← hw1]; exact (bel1 w _).alloc (by simp) _)
  have hk1 : Hid (Bk w1 g 37 (elF 0 false k (.slice A N ca) (.slice B 0 cb))) := Lib.hid (by rw [← hw1, ← hg]; exact (Bk.new w _ _).alloc _)
  have hk2 : Hid (Bk w1 g2 23 (tL 0 0 0 0 0 0)) := Lib.hid (by
    rw [← hw1, ← hg2, ← hg]
    have := Bk.new (w.alloc (.cells (elF 0 false k (.slice A N ca) (.slice B 0 cb)).toArray 37)) 23 (tL 0 0 0 0 0 0)
    rwa [World.size_alloc] at this)
  have hz1 : w1.heap.size = g2 + 1 := by rw [← hw1, ← hg2, ← hg]; simp
  have GE_g : Hid (w.heap.size ≤ g) := Lib.hid (by omega)
  have GE_g2 : Hid (w.heap.size ≤ g2) := Lib.hid (by omega)
  have LT_g_g2 : Hid (g < g2) := Lib.hid (by omega)
  have HZ1 := Lib.hid hz1
  have K1 := Tim.kb (Tim.kb (kp K0 hb) hk1) hk2
  have HW1 := Lib.hid hw1
  have HG := Lib.hid hg
  have HG2 := Lib.hid hg2
  clear hb hk1 hk2 hw1 hg hg2 hz1 K0
  clear hE hA hk
  go_enter Tryd.func27, Tryd.ntmps27
  go_upto_region 1 with fail
  rw [HW1.out, HG.out, HG2.out]
  clear HW1
  go_upto_region 2 with fail
  rw [HZ1.out]
  obtain ⟨g3, hg3⟩ : ∃ g3, g2 + 1 = g3 := ⟨_, rfl⟩
  obtain ⟨g4, hg4⟩ : ∃ g4, g3 + 1 = g4 := ⟨_, rfl⟩
  obtain ⟨w2, hw2⟩ : ∃ w2, (w1.alloc (.cells #[.int .u8 0, .bool false, .int .u32 23] 33)).alloc (.cells #[.int .u8 0, .bool false, .int .u32 24] 33) = w2 := ⟨_, rfl⟩
  have hb : Hid (Below w1.heap.size w1 w2) := Lib.hid (by rw [← hw2]; exact (bel1 w1 _).alloc (by simp) _)
  have hk3 : Hid (Bk w2 g3 33 (tgC 0 false 23)) := Lib.hid (by
    rw [← hw2, ← hg3, ← HZ1.out]
    exact (Bk.new w1 33 (tgC 0 false 23)).alloc _)
  have hk4 : Hid (Bk w2 g4 33 (tgC 0 false 24)) := Lib.hid (by
    rw [← hw2, ← hg4, ← hg3, ← HZ1.out]
    have := Bk.new (w1.alloc (.cells (tgC 0 false 23).toArray 33)) 33 (tgC 0 false 24)
    rwa [World.size_alloc] at this)
  have K2 := Tim.kb (Tim.kb (kp K1 hb) hk3) hk4
  have HW2 := Lib.hid hw2
  have HG3 := Lib.hid hg3
  have HG4 := Lib.hid hg4
  have LT_g2_g3 : Hid (g2 < g3) := Lib.hid (by omega)
  clear hb hk3 hk4 hw2 hg3 hg4 K1
  rw [HW2.out, HG3.out, HG4.out]
  clear HW2 HG3 HG4
  have hk := HK.out
  go_cut [22] (fun v wx => v = .bool false ∧ St w [(A, cs8 l)] [(g4, 33, tgC 0 false 24), (g3, 33, tgC 0 false 23), (g2, 23, tL 0 0 0 0 0 0), (g, 37, elF 0 false k (.slice A N ca) (.slice B 0 cb))] wx)
  case first =>
    rcases hk with hk | hk
    · rw [show (!decide (k = 23)) = false by rw [hk]; rfl] at q1
      rw [show (!decide (k = 24)) = true by rw [hk]; rfl] at q2
      clear hk
      go_wp2_with (first | (refine wpList_loadGg (by rfl) (.tmp 13) rfl rfl (rangeF (K2.out.k (g, 37, elF 0 false k (.slice A N ca) (.slice B 0 cb)) (by simp))) Tryd.underlying33 rfl infoTg ?_) | (refine wpList_loadGg (by rfl) (.tmp 18) rfl rfl (rangeF (K2.out.k (g, 37, elF 0 false k (.slice A N ca) (.slice B 0 cb)) (by simp))) Tryd.underlying33 rfl infoTg ?_) | (refine wpList_loadGg (by rfl) (.tmp 4) rfl rfl (rangeB (K2.out.k (g3, 33, tgC 0 false 23) (by simp))) Tryd.underlying33 rfl infoTg ?_) | (refine wpList_loadGg (by rfl) (.tmp 5) rfl rfl (rangeB (K2.out.k (g4, 33, tgC 0 false 24) (by simp))) Tryd.underlying33 rfl infoTg ?_))
      go_meet
      exact ⟨rfl, K2.out⟩
    · rw [show (!decide (k = 23)) = true by rw [hk]; rfl] at q1
      rw [show (!decide (k = 24)) = false by rw [hk]; rfl] at q2
      clear hk
      go_wp2_with (first | (refine wpList_loadGg (by rfl) (.tmp 13) rfl rfl (rangeF (K2.out.k (g, 37, elF 0 false k (.slice A N ca) (.slice B 0 cb)) (by simp))) Tryd.underlying33 rfl infoTg ?_) | (refine wpList_loadGg (by rfl) (.tmp 18) rfl rfl (rangeF (K2.out.k (g, 37, elF 0 false k (.slice A N ca) (.slice B 0 cb)) (by simp))) Tryd.underlying33 rfl infoTg ?_) | (refine wpList_loadGg (by rfl) (.tmp 4) rfl rfl (rangeB (K2.out.k (g3, 33, tgC 0 false 23) (by simp))) Tryd.underlying33 rfl infoTg ?_) | (refine wpList_loadGg (by rfl) (.tmp 5) rfl rfl (rangeB (K2.out.k (g4, 33, tgC 0 false 24) (by simp))) Tryd.underlying33 rfl infoTg ?_))
      go_meet
      exact ⟨rfl, K2.out⟩
  case rest =>
    obtain ⟨rfl, hst⟩ := hcut
    have K3 := Lib.hid hst
    clear hst K2
    generalize wc = w3 at *
    clear q1 q2
    have c_g_4 : w3.cell? ⟨g, 4, none⟩ = some (.slice B 0 cb) := by rw [(K3.out.k (g, 37, elF 0 false k (.slice A N ca) (.slice B 0 cb)) (by simp)).cell]; rfl
    have c_g_3 : w3.cell? ⟨g, 3, none⟩ = some (.slice A N ca) := by rw [(K3.out.k (g, 37, elF 0 false k (.slice A N ca) (.slice B 0 cb)) (by simp)).cell]; rfl
    have hcv : (convert 34 9 (.slice A N ca)).run Tryd.prog w3 = .ok (.string SL) w3 := by
      have := run_str (P := Tryd.prog) (src := 34) (dst := 9) Tryd.underlying34 Tryd.underlying5 Tryd.underlying9 (show Rb w3 A l from ⟨(K3.out.r (A, cs8 l) (by simp)), H8.out⟩) ca
      rw [HN.out, HSL.out] at this
      exact this
    go_upto_region 7 with fail
    clear hcv c_g_4 c_g_3
    obtain ⟨bU, hbU⟩ : ∃ b, (decide (k = 23) && decide (N = 13)) = b := ⟨_, rfl⟩
    have HBU := Lib.hid hbU
    clear hbU
    go_cut [40] (fun v wx => v = .bool bU ∧ St w [(A, cs8 l)] [(g4, 33, tgC 0 false 24), (g3, 33, tgC 0 false 23), (g2, 23, tL 0 0 0 0 0 0), (g, 37, elF 0 false k (.slice A N ca) (.slice B 0 cb))] wx)
    case first =>
      have hbu := HBU.out
      by_cases h23 : k = 23
      · rw [decide_eq_true h23] at q3 hbu
        rw [Bool.true_and] at hbu
        have hd : decide ((N : Int) = 13) = bU := by rw [← hbu]; congr 1; exact propext (by omega)
        have hd2 : ((N : Int) == 13) = bU := by rw [← hbu, Bool.eq_iff_iff, beq_iff_eq, decide_eq_true_eq]; omega
        clear hbu h23
        cases bU
        · try (have hn13 : ¬ (N : Int) = 13 := by simpa using hd)
          try (have hn13 : (N : Int) = 13 := by simpa using hd)
          go_wp2_with (first | (refine wpList_loadGg (by rfl) (.tmp 32) rfl rfl (rangeF (K3.out.k (g, 37, elF 0 false k (.slice A N ca) (.slice B 0 cb)) (by simp))) Tryd.underlying33 rfl infoTg ?_) | (refine wpList_loadGg (by rfl) (.tmp 4) rfl rfl (rangeB (K3.out.k (g3, 33, tgC 0 false 23) (by simp))) Tryd.underlying33 rfl infoTg ?_))
          go_meet
          exact ⟨rfl, K3.out⟩
        · try (have hn13 : ¬ (N : Int) = 13 := by simpa using hd)
          try (have hn13 : (N : Int) = 13 := by simpa using hd)
          go_wp2_with (first | (refine wpList_loadGg (by rfl) (.tmp 32) rfl rfl (rangeF (K3.out.k (g, 37, elF 0 false k (.slice A N ca) (.slice B 0 cb)) (by simp))) Tryd.underlying33 rfl infoTg ?_) | (refine wpList_loadGg (by rfl) (.tmp 4) rfl rfl (rangeB (K3.out.k (g3, 33, tgC 0 false 23) (by simp))) Tryd.underlying33 rfl infoTg ?_))
          go_meet
          exact ⟨rfl, K3.out⟩
      · rw [decide_eq_false h23] at q3 hbu
        rw [Bool.false_and] at hbu
        subst hbu
        clear h23
        go_wp2_with (first | (refine wpList_loadGg (by rfl) (.tmp 32) rfl rfl (rangeF (K3.out.k (g, 37, elF 0 false k (.slice A N ca) (.slice B 0 cb)) (by simp))) Tryd.underlying33 rfl infoTg ?_) | (refine wpList_loadGg (by rfl) (.tmp 4) rfl rfl (rangeB (K3.out.k (g3, 33, tgC 0 false 23) (by simp))) Tryd.underlying33 rfl infoTg ?_))
        go_meet
        exact ⟨rfl, K3.out⟩
    case rest =>
      obtain ⟨rfl, hst⟩ := hcut
      have K4 := Lib.hid hst
      clear hst K3
      generalize wc = w4 at *
      clear q3
      go_upto_if 40 with fail
      go_cut [6] (fun v wx => v = .string SS ∧ St w [(A, cs8 l)] [(g4, 33, tgC 0 false 24), (g3, 33, tgC 0 false 23), (g2, 23, tL 0 0 0 0 0 0), (g, 37, elF 0 false k (.slice A N ca) (.slice B 0 cb))] wx)
      case first =>
        have hbu := HBU.out
        rcases HCA.out with ⟨h1, h2, h3, h4⟩ | ⟨h1, h2, h3, h4⟩ | ⟨h1, h2, h4⟩ | ⟨h1, h4⟩
        · rw [decide_eq_true h1, decide_eq_true h2, Bool.and_self] at hbu
          subst hbu
          have hi := HIX.out h2
          have hxd : decide (x < 53) = true := by rw [decide_eq_true_eq]; omega
          have hxi : decide ((x : Int) < 53) = true := by rw [decide_eq_true_eq]; omega
          have hxp : (x : Int) < 53 := by omega
          have H4 := Lib.hid h4
          clear h1 h2 h3 h4
          go_wp2_with fail
          go_meet
          exact ⟨by rw [H4.out], K4.out⟩
        · rw [decide_eq_true h1, decide_eq_true h2, Bool.and_self] at hbu
          subst hbu
          have hi := HIX.out h2
          have hxd : decide (x < 53) = false := by rw [decide_eq_false_iff_not]; omega
          have hxi : decide ((x : Int) < 53) = false := by rw [decide_eq_false_iff_not]; omega
          have hxp : ¬ (x : Int) < 53 := by omega
          have H4 := Lib.hid h4
          clear h1 h2 h3 h4
          go_wp2_with fail
          go_meet
          exact ⟨by rw [H4.out], K4.out⟩
        · rw [decide_eq_false h2, Bool.and_false] at hbu
          subst hbu
          have H4 := Lib.hid h4
          clear h1 h2 h4
          go_wp2_with fail
          go_meet
          exact ⟨by rw [H4.out], K4.out⟩
        · rw [decide_eq_false (show ¬ k = 23 by omega), Bool.false_and] at hbu
          subst hbu
          have H4 := Lib.hid h4
          clear h1 h4
          go_wp2_with fail
          go_meet
          exact ⟨by rw [H4.out], K4.out⟩
      case rest =>
        obtain ⟨rfl, hst⟩ := hcut
        have K5 := Lib.hid hst
        clear hst K4
        generalize wc = w5 at *
        go_upto_region 14 with fail
        go_cut [8] (fun p wx => ∃ g8, p = .pointer (some ⟨g8, 0, none⟩) ∧ g2 < g8 ∧ St w [(A, cs8 l)] [(g8, 23, tL y m d h mi s6), (g2, 23, tL 0 0 0 0 0 0), (g, 37, elF 0 false k (.slice A N ca) (.slice B 0 cb))] wx)
        case first =>
          have hst := K5.out
          have hlt2 := (K5.out.k (g2, 23, tL 0 0 0 0 0 0) (by simp)).lt
          go_region_held3 (fun w' => True)
            (trivial)
            (first | (go_at_call 42; have dn6 := dn5; refine (C5.out _).mono ?_; rintro e w40 ⟨rfl, rfl⟩) | (go_at_call 42; have dn5 := dn4; refine (C4.out _).mono ?_; rintro e w40 ⟨rfl, rfl⟩) | (go_at_call 42; have dn4 := dn3; refine (C3.out _).mono ?_; rintro e w40 ⟨rfl, rfl⟩) | (go_at_call 42; have dn3 := dn2; refine (C2.out _).mono ?_; rintro e w40 ⟨rfl, rfl⟩) | (go_at_call 42; have dn2 := dn1; refine (C1.out _).mono ?_; rintro e w40 ⟨rfl, rfl⟩) | (go_at_call 42; have dn1 := True.intro; refine (C0.out _).mono ?_; rintro e w40 ⟨rfl, rfl⟩))
          all_goals
            go_wp2_with fail
            go_meet
            have hst2 := (hst.below ((bel1 w5 (.cells (tL y m d h mi s6).toArray 23)).drew)).blk (Bk.new w5 23 (tL y m d h mi s6))
            exact ⟨_, rfl, hlt2, hst2.b, hst2.t, hst2.r, fun y hy => hst2.k y (by simp only [List.mem_cons, List.not_mem_nil, or_false] at hy ⊢; rcases hy with h | h | h <;> simp [h])⟩
        case rest =>
          obtain ⟨g8, rfl, hg28, hst⟩ := hcut
          have LT_g2_g8 := Lib.hid hg28
          clear hg28
          have K6 := Lib.hid hst
          clear hst K5
          generalize wc = w6 at *
          go_wp2_with (refine wpList_loadGg (by rfl) (.tmp 8) rfl rfl (rangeB (K6.out.k (g8, 23, tL y m d h mi s6) (by simp))) Tryd.underlying23 rfl infoTm ?_)
          refine (CK.out _).mono ?_
          rintro e w7 ⟨rfl, hb⟩
          have hb := Lib.hid hb
          have K7 := kp K6 hb
          clear hb K6
          go_wp2_with (refine wpList_loadGg (by rfl) (.tmp 8) rfl rfl (rangeB (K7.out.k (g8, 23, tL y m d h mi s6) (by simp))) Tryd.underlying23 rfl infoTm ?_)
          refine (CE.out _).mono ?_
          rintro e w8 ⟨rfl, hb⟩
          have hb := Lib.hid hb
          have K8 := kp K7 hb
          clear hb K7
          have c_g_2 : w8.cell? ⟨g, 2, none⟩ = some (.int .u32 (k : Int)) := by rw [(K8.out.k (g, 37, elF 0 false k (.slice A N ca) (.slice B 0 cb)) (by simp)).cell]; rfl
          have c_g_3 : w8.cell? ⟨g, 3, none⟩ = some (.slice A N ca) := by rw [(K8.out.k (g, 37, elF 0 false k (.slice A N ca) (.slice B 0 cb)) (by simp)).cell]; rfl
          have hcv : (convert 34 9 (.slice A N ca)).run Tryd.prog w8 = .ok (.string SL) w8 := by
            have := run_str (P := Tryd.prog) (src := 34) (dst := 9) Tryd.underlying34 Tryd.underlying5 Tryd.underlying9 (show Rb w8 A l from ⟨(K8.out.r (A, cs8 l) (by simp)), H8.out⟩) ca
            rw [HN.out, HSL.out] at this
            exact this
          by_cases hkk : k9 = k
          · have hkb : ((k9 : Int) != (k : Int)) = false := by rw [hkk]; simp
            have hkp : (k9 : Int) = (k : Int) := by rw [hkk]
            by_cases hll : l9 = l
            · have hnb : (S9.toList != SL.toList) = false := by rw [HNS.out, decide_eq_true hll]; rfl
              have hq : (S9.toList == SL.toList) = true := by have h := hnb; rw [bne, Bool.not_eq_false'] at h; exact h
              have hq2 : S9.toList = SL.toList := eq_of_beq hq
              have HANS : Hid (k9 = k ∧ l9 = l) := Lib.hid ⟨hkk, hll⟩
              clear hkk hll
              go_wp2_with (first | (refine wpList_loadGg (by rfl) (.tmp 8) rfl rfl (rangeB (K8.out.k (g8, 23, tL y m d h mi s6) (by simp))) Tryd.underlying23 rfl infoTm ?_) | (refine wpList_storeG rfl (.tmp 2) (.tmp 92) rfl rfl (ds := tL y m d h mi s6) rfl (K8.out.k (g2, 23, tL 0 0 0 0 0 0) (by simp)) infoTm rfl (tL_one _ _ _ _ _ _) ?_; intro w9 hr9 hg9 hz9; have B9 := Lib.hid (K8.out.b.grown hg9 K8.out.b.size (fun k e => by injection e with e; have := GE_g2.out; omega)); have R9 := Lib.hid hr9; clear hr9 hg9 hz9))
              exact retG2 rfl rfl rfl (loadTm R9.out) rfl ⟨by rw [← HRV.out, if_pos HANS.out]; rfl, B9.out⟩
            · have hnb : (S9.toList != SL.toList) = true := by rw [HNS.out, decide_eq_false hll]; rfl
              have hq : (S9.toList == SL.toList) = false := by have h := hnb; rw [bne, Bool.not_eq_true'] at h; exact h
              have hq2 : ¬ S9.toList = SL.toList := by rw [beq_eq_false_iff_ne] at hq; exact hq
              have HANS : Hid (¬ (k9 = k ∧ l9 = l)) := Lib.hid (fun h => hll h.2)
              clear hkk hll
              go_wp2_with (refine wpList_storeG rfl (.tmp 2) (.tmp 91) rfl rfl (ds := tL 0 0 0 0 0 0) rfl (K8.out.k (g2, 23, tL 0 0 0 0 0 0) (by simp)) infoTm rfl (tL_one _ _ _ _ _ _) ?_; intro w9 hr9 hg9 hz9; have B9 := Lib.hid (K8.out.b.grown hg9 K8.out.b.size (fun k e => by injection e with e; have := GE_g2.out; omega)); have R9 := Lib.hid hr9; clear hr9 hg9 hz9)
              exact retG2 rfl rfl rfl (loadTm R9.out) rfl ⟨by rw [← HRV.out, if_neg HANS.out]; rfl, B9.out⟩
          · have hkb : ((k9 : Int) != (k : Int)) = true := by rw [bne_iff_ne]; omega
            have hkb2 : ¬ k9 = k := hkk
            have HANS : Hid (¬ (k9 = k ∧ l9 = l)) := Lib.hid (fun h => hkk h.1)
            clear hkk
            go_wp2_with (refine wpList_storeG rfl (.tmp 2) (.tmp 91) rfl rfl (ds := tL 0 0 0 0 0 0) rfl (K8.out.k (g2, 23, tL 0 0 0 0 0 0) (by simp)) infoTm rfl (tL_one _ _ _ _ _ _) ?_; intro w9 hr9 hg9 hz9; have B9 := Lib.hid (K8.out.b.grown hg9 K8.out.b.size (fun k e => by injection e with e; have := GE_g2.out; omega)); have R9 := Lib.hid hr9; clear hr9 hg9 hz9)
            exact retG2 rfl rfl rfl (loadTm R9.out) rfl ⟨by rw [← HRV.out, if_neg HANS.out]; rfl, B9.out⟩
/-- What the reference's Of answers, of one of its two tags. -/
theorem rof_ans (k : Nat) (hk : k = 23 ∨ k = 24) (l : List Nat) (A B : Option Addr) (N ca cb : Nat) (hN : l.length = N) (h8 : All8 l) (hlm : l.length ≤ 1000000) (w : World) (hA : Rd w A (cs8 l)) (hE : Env w) :
    Calls Tryd.prog 27 #[.agg (elF 0 false k (.slice A N ca) (.slice B 0 cb)).toArray] w fun e w' => ∃ T f, AnsE k l T f ∧ e = .returned (.tuple #[.agg T.toArray, .int .i64 f]) ∧ Below w.heap.size w w' := by
  by_cases h15 : (refS k l).length = 15
  · rcases ck_01 (numP (refS k l) 0 4) (numP (refS k l) 4 6) (numP (refS k l) 6 8) (numP (refS k l) 8 10) (numP (refS k l) 10 12) (numP (refS k l) 12 14) with hc | hc
    · obtain ⟨y, m, d, h, mi, s, e0, e1, e2, e3, e4, e5⟩ := ck_letters hc
      have HR : NmF (refS k l) 0 4 4 6 6 8 8 10 10 12 12 14 y m d h mi s := ⟨e0, e1, e2, e3, e4, e5⟩
      rw [e0, e1, e2, e3, e4, e5] at hc
      refine (rof_ok k hk l A B N ca cb hN h8 hlm w hA hE h15 y m d h mi s HR hc).mono ?_
      rintro e w' ⟨rfl, hb⟩
      by_cases hg : tagN y = k ∧ txtE (tagN y) y m d h mi s = l
      · rw [if_pos hg]
        exact ⟨_, _, .inl ⟨y, m, d, h, mi, s, ⟨hc, hg.1, by have := hg.2; rwa [hg.1] at this⟩, rfl, rfl⟩, rfl, hb⟩
      · rw [if_neg hg]
        refine ⟨_, _, .inr ⟨?_, rfl, rfl⟩, rfl, hb⟩
        intro y2 m2 d2 h2 mi2 s2 g2
        obtain ⟨b0, b1, b2, b3, b4, b5⟩ := HR.uniq (g2.refS hk).2
        obtain rfl : y = y2 := by omega
        obtain rfl : m = m2 := by omega
        obtain rfl : d = d2 := by omega
        obtain rfl : h = h2 := by omega
        obtain rfl : mi = mi2 := by omega
        obtain rfl : s = s2 := by omega
        exact hg ⟨g2.2.1, by rw [g2.2.1]; exact g2.2.2⟩
    · refine (rof_bad k hk l A B N ca cb hN h8 hlm w hA hE h15 hc).mono ?_
      rintro e w' ⟨rfl, hb⟩
      refine ⟨_, _, .inr ⟨?_, rfl, rfl⟩, rfl, hb⟩
      intro y2 m2 d2 h2 mi2 s2 g2
      obtain ⟨b0, b1, b2, b3, b4, b5⟩ := (g2.refS hk).2
      have hc2 := g2.1
      rw [b0, b1, b2, b3, b4, b5, hc2] at hc
      cases hc
  · refine (rof_no k hk l A B N ca cb hN h8 hlm w hA hE h15).mono ?_
    rintro e w' ⟨rfl, hb⟩
    refine ⟨_, _, .inr ⟨?_, rfl, rfl⟩, rfl, hb⟩
    intro y2 m2 d2 h2 mi2 s2 g2
    exact h15 (g2.refS hk).1
end Go.Proofs.YtecmgkmonehmfaaDoor.Tim
