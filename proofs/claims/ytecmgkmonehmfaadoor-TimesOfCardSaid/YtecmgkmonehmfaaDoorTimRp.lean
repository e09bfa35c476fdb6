/-
  Layer 10: Of, of the reference, where the tag is one of the two and there are no subs.
  Conditions: a length.
-/
import Derived.Test.YtecmgkmonehmfaaDoorTimRo
namespace Go.Proofs.YtecmgkmonehmfaaDoor.Tim
open Go.RowKit Go.Shelf
attribute [local go_sem] Oper.semAt_some

/-- The text that the reference reads. -/
def refS (k : Nat) (l : List Nat) : List Nat := if k = 23 ∧ l.length = 13 then cen (l.getD 0 0) ++ l else l
theorem cen_len (x : Nat) : (cen x).length = 2 := by unfold cen; split <;> rfl
theorem cen_8 (x : Nat) : All8 (cen x) := by
  unfold cen
  split
  · exact all_L rfl
  · exact all_L rfl
theorem refS_8 {k : Nat} {l : List Nat} (h8 : All8 l) : All8 (refS k l) := by
  unfold refS
  split
  · exact all_app (cen_8 _) h8
  · exact h8
theorem refS_len {k : Nat} {l : List Nat} : (refS k l).length ≤ l.length + 2 := by
  unfold refS
  split
  · rw [List.length_append, cen_len]; omega
  · omega
theorem GoodE.refS {k : Nat} {l : List Nat} {y m d h mi s : Nat} (hk : k = 23 ∨ k = 24) (g : GoodE k l y m d h mi s) : (refS k l).length = 15 ∧ NmF (refS k l) 0 4 4 6 6 8 8 10 10 12 12 14 y m d h mi s := by
  have hl : l.length = if k = 23 then 13 else 15 := by rw [← g.2.2]; exact len_E _ _ _ _ _ _ _ hk
  rcases hk with rfl | rfl
  · have e : Tim.refS 23 l = cen (l.getD 0 0) ++ l := by unfold Tim.refS; rw [if_pos ⟨rfl, hl⟩]
    rw [e]
    exact ⟨by rw [List.length_append, cen_len, hl]; rfl, g.refU⟩
  · have e : Tim.refS 24 l = l := by unfold Tim.refS; rw [if_neg (fun h => absurd h.1 (by decide))]
    rw [e]
    exact ⟨hl, g.refG⟩
set_option linter.unusedSimpArgs false in
set_option linter.unusedVariables false in
set_option maxHeartbeats 6400000 in
set_option maxRecDepth 100000 in
theorem rof_no (k : Nat) (hk : k = 23 ∨ k = 24) (l : List Nat) (A B : Option Addr) (N ca cb : Nat) (hN : l.length = N) (h8 : All8 l) (hlm : l.length ≤ 1000000) (w : World) (hA : Rd w A (cs8 l)) (hE : Env w) (h15 : (refS k l).length ≠ 15) :
    Calls Tryd.prog 27 #[.agg (elF 0 false k (.slice A N ca) (.slice B 0 cb)).toArray] w fun e w' => e = .returned (.tuple #[.agg (tL 0 0 0 0 0 0).toArray, .int .i64 11]) ∧ Below w.heap.size w w' := by
  have Z := zTm
  have ZT : ∀ w : World, (zeroValue 33).run Tryd.prog w = .ok (.agg #[.int .u8 0, .bool false, .int .u32 0]) w := zTg
  have q1 : ∀ W, (binOp .neq 33 (.agg (tgC 0 false k).toArray) (.agg (tgC 0 false 23).toArray)).run Tryd.prog W = .ok (.bool (!decide (k = 23))) W := fun W => by
    refine (neqT 0 false k 0 false 23 W).trans ?_
    simp
  have q2 : ∀ W, (binOp .neq 33 (.agg (tgC 0 false k).toArray) (.agg (tgC 0 false 24).toArray)).run Tryd.prog W = .ok (.bool (!decide (k = 24))) W := fun W => by
    refine (neqT 0 false k 0 false 24 W).trans ?_
    simp
  have q3 : ∀ W, (binOp .eql 33 (.agg (tgC 0 false k).toArray) (.agg (tgC 0 false 23).toArray)).run Tryd.prog W = .ok (.bool (decide (k = 23))) W := fun W => by
    refine (eqlT 0 false k 0 false 23 W).trans ?_
    simp
  have K0 := ka (Lib.hid (St.start hE)) (Lib.hid hA)
  obtain ⟨s, hs⟩ : ∃ s, refS k l = s := ⟨_, rfl⟩
  have hs8 : All8 s := by rw [← hs]; exact refS_8 h8
  have hsl : s.length ≤ l.length + 2 := by rw [← hs]; exact refS_len
  have hcase : (k = 23 ∧ N = 13 ∧ s = cen (l.getD 0 0) ++ l) ∨ (k = 23 ∧ N ≠ 13 ∧ s = l) ∨ (k = 24 ∧ s = l) := by
    rw [← hs]
    unfold refS
    rw [hN]
    rcases hk with rfl | rfl
    · by_cases h : N = 13
      · exact .inl ⟨rfl, h, by rw [if_pos ⟨rfl, h⟩]⟩
      · exact .inr (.inl ⟨rfl, h, by rw [if_neg (fun e => h e.2)]⟩)
    · exact .inr (.inr ⟨rfl, by rw [if_neg (fun h => absurd h.1 (by decide))]⟩)
  obtain ⟨x, hx⟩ : ∃ x, l.getD 0 0 = x := ⟨_, rfl⟩
  rw [hx] at hcase
  have hix : N = 13 → ∀ W, (Instr.index 9 (.string (bstr l)) (.int .i64 0)).run Tryd.prog W = .ok (.int .u8 (x : Int)) W := fun h W => by
    have h0 : 0 < l.length := by omega
    have := idx_str l h8 0 h0 W
    rw [← hx, List.getD_eq_getElem?_getD, List.getElem?_eq_getElem h0]
    exact this
  have hsz := bstr_size l
  obtain ⟨SL, hSL⟩ : ∃ S, bstr l = S := ⟨_, rfl⟩
  obtain ⟨SS, hSS⟩ : ∃ S, bstr s = S := ⟨_, rfl⟩
  have hca : (k = 23 ∧ N = 13 ∧ x < 53 ∧ SS = ⟨#[50, 48]⟩ ++ SL) ∨ (k = 23 ∧ N = 13 ∧ ¬ x < 53 ∧ SS = ⟨#[49, 57]⟩ ++ SL) ∨ (k = 23 ∧ N ≠ 13 ∧ SS = SL) ∨ (k = 24 ∧ SS = SL) := by
    rw [← hSS, ← hSL]
    rcases hcase with ⟨h1, h2, h3⟩ | ⟨h1, h2, h3⟩ | ⟨h1, h3⟩
    · by_cases hx5 : x < 53
      · exact .inl ⟨h1, h2, hx5, by rw [h3, ← bstr_app]; unfold cen; rw [if_pos hx5]; rfl⟩
      · exact .inr (.inl ⟨h1, h2, hx5, by rw [h3, ← bstr_app]; unfold cen; rw [if_neg hx5]; rfl⟩)
    · exact .inr (.inr (.inl ⟨h1, h2, by rw [h3]⟩))
    · exact .inr (.inr (.inr ⟨h1, by rw [h3]⟩))
  have hsz2 := bstr_size s
  obtain ⟨M, hM⟩ : ∃ M, s.length = M := ⟨_, rfl⟩
  rw [hSL, hN] at hsz
  rw [hSS, hM] at hsz2
  rw [hSL] at hix
  have hNm : N ≤ 1000000 := by omega
  have hMm : M ≤ 1000002 := by omega
  have HIX := Lib.hid hix
  have HCA := Lib.hid hca
  have HK := Lib.hid hk
  have HN := Lib.hid hN
  have H8 := Lib.hid h8
  have HSL := Lib.hid hSL
  have hM15 : M ≠ 15 := by rw [← hM, ← hs]; exact h15
  have hMb : ((M : Int) != 15) = true := by rw [bne_iff_ne]; omega
  have hMi : ¬ (M : Int) = 15 := by omega
  clear hs hs8 hsl hcase hx hix hSL hSS hca hM hN h8 hlm h15 hM15
  obtain ⟨g, hg⟩ : ∃ g, w.heap.size = g := ⟨_, rfl⟩
  obtain ⟨g2, hg2⟩ : ∃ g2, g + 1 = g2 := ⟨_, rfl⟩
  obtain ⟨w1, hw1⟩ : ∃ w1, (w.alloc (.cells (elF 0 false k (.slice A N ca) (.slice B 0 cb)).toArray 37)).alloc (.cells (tL 0 0 0 0 0 0).toArray 23) = w1 := ⟨_, rfl⟩
  have hb : Hid (Below w.heap.size w w1) := Lib.hid (by rw [← hw1]; exact (bel1 w _).alloc (by simp) _)
  have hk1 : Hid (Bk w1 g 37 (elF 0 false k (.slice A N ca) (.slice B 0 cb))) := Lib.hid (by rw [← hw1, ← hg]; exact (Bk.new w _ _).alloc _)
  have hk2 : Hid (Bk w1 g2 23 (tL 0 0 0 0 0 0)) := Lib.hid (by
    rw [← hw1, ← hg2, ← hg]
    have := Bk.new (w.alloc (.cells (elF 0 false k (.slice A N ca) (.slice B 0 cb)).toArray 37)) 23 (tL 0 0 0 0 0 0)
    rwa [World.size_alloc] at this)
  have hz1 : w1.heap.size = g2 + 1 := by rw [← hw1, ← hg2, ← hg]; simp
  have GE_g : Hid (w.heap.size ≤ g) := Lib.hid (by omega)
  have GE_g2 : Hid (w.heap.size ≤ g2) := Lib.hid (by omega)
  have LT_g_g2 : Hid (g < g2) := Lib.hid (by omega)
  have HZ1 := Lib.hid hz1
  have K1 := Tim.kb (Tim.kb (kp K0 hb) hk1) hk2
  have HW1 := Lib.hid hw1
  have HG := Lib.hid hg
  have HG2 := Lib.hid hg2
  clear hb hk1 hk2 hw1 hg hg2 hz1 K0
  clear hE hA hk
  go_enter Tryd.func27, Tryd.ntmps27
  go_upto_region 1 with fail
  rw [HW1.out, HG.out, HG2.out]
  clear HW1
  go_upto_region 2 with fail
  rw [HZ1.out]
  obtain ⟨g3, hg3⟩ : ∃ g3, g2 + 1 = g3 := ⟨_, rfl⟩
  obtain ⟨g4, hg4⟩ : ∃ g4, g3 + 1 = g4 := ⟨_, rfl⟩
  obtain ⟨w2, hw2⟩ : ∃ w2, (w1.alloc (.cells #[.int .u8 0, .bool false, .int .u32 23] 33)).alloc (.cells #[.int .u8 0, .bool false, .int .u32 24] 33) = w2 := ⟨_, rfl⟩
  have hb : Hid (Below w1.heap.size w1 w2) := Lib.hid (by rw [← hw2]; exact (bel1 w1 _).alloc (by simp) _)
  have hk3 : Hid (Bk w2 g3 33 (tgC 0 false 23)) := Lib.hid (by
    rw [← hw2, ← hg3, ← HZ1.out]
    exact (Bk.new w1 33 (tgC 0 false 23)).alloc _)
  have hk4 : Hid (Bk w2 g4 33 (tgC 0 false 24)) := Lib.hid (by
    rw [← hw2, ← hg4, ← hg3, ← HZ1.out]
    have := Bk.new (w1.alloc (.cells (tgC 0 false 23).toArray 33)) 33 (tgC 0 false 24)
    rwa [World.size_alloc] at this)
  have K2 := Tim.kb (Tim.kb (kp K1 hb) hk3) hk4
  have HW2 := Lib.hid hw2
  have HG3 := Lib.hid hg3
  have HG4 := Lib.hid hg4
  have LT_g2_g3 : Hid (g2 < g3) := Lib.hid (by omega)
  clear hb hk3 hk4 hw2 hg3 hg4 K1
  rw [HW2.out, HG3.out, HG4.out]
  clear HW2 HG3 HG4
  have hk := HK.out
  go_cut [22] (fun v wx => v = .bool false ∧ St w [(A, cs8 l)] [(g4, 33, tgC 0 false 24), (g3, 33, tgC 0 false 23), (g2, 23, tL 0 0 0 0 0 0), (g, 37, elF 0 false k (.slice A N ca) (.slice B 0 cb))] wx)
  case first =>
    rcases hk with hk | hk
    · rw [show (!decide (k = 23)) = false by rw [hk]; rfl] at q1
      rw [show (!decide (k = 24)) = true by rw [hk]; rfl] at q2
      clear hk
      go_wp2_with (first | (refine wpList_loadGg (by rfl) (.tmp 13) rfl rfl (rangeF (K2.out.k (g, 37, elF 0 false k (.slice A N ca) (.slice B 0 cb)) (by simp))) Tryd.underlying33 rfl infoTg ?_) | (refine wpList_loadGg (by rfl) (.tmp 18) rfl rfl (rangeF (K2.out.k (g, 37, elF 0 false k (.slice A N ca) (.slice B 0 cb)) (by simp))) Tryd.underlying33 rfl infoTg ?_) | (refine wpList_loadGg (by rfl) (.tmp 4) rfl rfl (rangeB (K2.out.k (g3, 33, tgC 0 false 23) (by simp))) Tryd.underlying33 rfl infoTg ?_) | (refine wpList_loadGg (by rfl) (.tmp 5) rfl rfl (rangeB (K2.out.k (g4, 33, tgC 0 false 24) (by simp))) Tryd.underlying33 rfl infoTg ?_))
      go_meet
      exact ⟨rfl, K2.out⟩
    · rw [show (!decide (k = 23)) = true by rw [hk]; rfl] at q1
      rw [show (!decide (k = 24)) = false by rw [hk]; rfl] at q2
      clear hk
      go_wp2_with (first | (refine wpList_loadGg (by rfl) (.tmp 13) rfl rfl (rangeF (K2.out.k (g, 37, elF 0 false k (.slice A N ca) (.slice B 0 cb)) (by simp))) Tryd.underlying33 rfl infoTg ?_) | (refine wpList_loadGg (by rfl) (.tmp 18) rfl rfl (rangeF (K2.out.k (g, 37, elF 0 false k (.slice A N ca) (.slice B 0 cb)) (by simp))) Tryd.underlying33 rfl infoTg ?_) | (refine wpList_loadGg (by rfl) (.tmp 4) rfl rfl (rangeB (K2.out.k (g3, 33, tgC 0 false 23) (by simp))) Tryd.underlying33 rfl infoTg ?_) | (refine wpList_loadGg (by rfl) (.tmp 5) rfl rfl (rangeB (K2.out.k (g4, 33, tgC 0 false 24) (by simp))) Tryd.underlying33 rfl infoTg ?_))
      go_meet
      exact ⟨rfl, K2.out⟩
  case rest =>
    obtain ⟨rfl, hst⟩ := hcut
    have K3 := Lib.hid hst
    clear hst K2
    generalize wc = w3 at *
    clear q1 q2
    have c_g_4 : w3.cell? ⟨g, 4, none⟩ = some (.slice B 0 cb) := by rw [(K3.out.k (g, 37, elF 0 false k (.slice A N ca) (.slice B 0 cb)) (by simp)).cell]; rfl
    have c_g_3 : w3.cell? ⟨g, 3, none⟩ = some (.slice A N ca) := by rw [(K3.out.k (g, 37, elF 0 false k (.slice A N ca) (.slice B 0 cb)) (by simp)).cell]; rfl
    have hcv : (convert 34 9 (.slice A N ca)).run Tryd.prog w3 = .ok (.string SL) w3 := by
      have := run_str (P := Tryd.prog) (src := 34) (dst := 9) Tryd.underlying34 Tryd.underlying5 Tryd.underlying9 (show Rb w3 A l from ⟨(K3.out.r (A, cs8 l) (by simp)), H8.out⟩) ca
      rw [HN.out, HSL.out] at this
      exact this
    go_upto_region 7 with fail
    clear hcv c_g_4 c_g_3
    obtain ⟨bU, hbU⟩ : ∃ b, (decide (k = 23) && decide (N = 13)) = b := ⟨_, rfl⟩
    have HBU := Lib.hid hbU
    clear hbU
    go_cut [40] (fun v wx => v = .bool bU ∧ St w [(A, cs8 l)] [(g4, 33, tgC 0 false 24), (g3, 33, tgC 0 false 23), (g2, 23, tL 0 0 0 0 0 0), (g, 37, elF 0 false k (.slice A N ca) (.slice B 0 cb))] wx)
    case first =>
      have hbu := HBU.out
      by_cases h23 : k = 23
      · rw [decide_eq_true h23] at q3 hbu
        rw [Bool.true_and] at hbu
        have hd : decide ((N : Int) = 13) = bU := by rw [← hbu]; congr 1; exact propext (by omega)
        have hd2 : ((N : Int) == 13) = bU := by rw [← hbu, Bool.eq_iff_iff, beq_iff_eq, decide_eq_true_eq]; omega
        clear hbu h23
        cases bU
        · try (have hn13 : ¬ (N : Int) = 13 := by simpa using hd)
          try (have hn13 : (N : Int) = 13 := by simpa using hd)
          go_wp2_with (first | (refine wpList_loadGg (by rfl) (.tmp 32) rfl rfl (rangeF (K3.out.k (g, 37, elF 0 false k (.slice A N ca) (.slice B 0 cb)) (by simp))) Tryd.underlying33 rfl infoTg ?_) | (refine wpList_loadGg (by rfl) (.tmp 4) rfl rfl (rangeB (K3.out.k (g3, 33, tgC 0 false 23) (by simp))) Tryd.underlying33 rfl infoTg ?_))
          go_meet
          exact ⟨rfl, K3.out⟩
        · try (have hn13 : ¬ (N : Int) = 13 := by simpa using hd)
          try (have hn13 : (N : Int) = 13 := by simpa using hd)
          go_wp2_with (first | (refine wpList_loadGg (by rfl) (.tmp 32) rfl rfl (rangeF (K3.out.k (g, 37, elF 0 false k (.slice A N ca) (.slice B 0 cb)) (by simp))) Tryd.underlying33 rfl infoTg ?_) | (refine wpList_loadGg (by rfl) (.tmp 4) rfl rfl (rangeB (K3.out.k (g3, 33, tgC 0 false 23) (by simp))) Tryd.underlying33 rfl infoTg ?_))
          go_meet
          exact ⟨rfl, K3.out⟩
      · rw [decide_eq_false h23] at q3 hbu
        rw [Bool.false_and] at hbu
        subst hbu
        clear h23
        go_wp2_with (first | (refine wpList_loadGg (by rfl) (.tmp 32) rfl rfl (rangeF (K3.out.k (g, 37, elF 0 false k (.slice A N ca) (.slice B 0 cb)) (by simp))) Tryd.underlying33 rfl infoTg ?_) | (refine wpList_loadGg (by rfl) (.tmp 4) rfl rfl (rangeB (K3.out.k (g3, 33, tgC 0 false 23) (by simp))) Tryd.underlying33 rfl infoTg ?_))
        go_meet
        exact ⟨rfl, K3.out⟩
    case rest =>
      obtain ⟨rfl, hst⟩ := hcut
      have K4 := Lib.hid hst
      clear hst K3
      generalize wc = w4 at *
      clear q3
      go_upto_if 40 with fail
      go_cut [6] (fun v wx => v = .string SS ∧ St w [(A, cs8 l)] [(g4, 33, tgC 0 false 24), (g3, 33, tgC 0 false 23), (g2, 23, tL 0 0 0 0 0 0), (g, 37, elF 0 false k (.slice A N ca) (.slice B 0 cb))] wx)
      case first =>
        have hbu := HBU.out
        rcases HCA.out with ⟨h1, h2, h3, h4⟩ | ⟨h1, h2, h3, h4⟩ | ⟨h1, h2, h4⟩ | ⟨h1, h4⟩
        · rw [decide_eq_true h1, decide_eq_true h2, Bool.and_self] at hbu
          subst hbu
          have hi := HIX.out h2
          have hxd : decide (x < 53) = true := by rw [decide_eq_true_eq]; omega
          have hxi : decide ((x : Int) < 53) = true := by rw [decide_eq_true_eq]; omega
          have hxp : (x : Int) < 53 := by omega
          have H4 := Lib.hid h4
          clear h1 h2 h3 h4
          go_wp2_with fail
          go_meet
          exact ⟨by rw [H4.out], K4.out⟩
        · rw [decide_eq_true h1, decide_eq_true h2, Bool.and_self] at hbu
          subst hbu
          have hi := HIX.out h2
          have hxd : decide (x < 53) = false := by rw [decide_eq_false_iff_not]; omega
          have hxi : decide ((x : Int) < 53) = false := by rw [decide_eq_false_iff_not]; omega
          have hxp : ¬ (x : Int) < 53 := by omega
          have H4 := Lib.hid h4
          clear h1 h2 h3 h4
          go_wp2_with fail
          go_meet
          exact ⟨by rw [H4.out], K4.out⟩
        · rw [decide_eq_false h2, Bool.and_false] at hbu
          subst hbu
          have H4 := Lib.hid h4
          clear h1 h2 h4
          go_wp2_with fail
          go_meet
          exact ⟨by rw [H4.out], K4.out⟩
        · rw [decide_eq_false (show ¬ k = 23 by omega), Bool.false_and] at hbu
          subst hbu
          have H4 := Lib.hid h4
          clear h1 h4
          go_wp2_with fail
          go_meet
          exact ⟨by rw [H4.out], K4.out⟩
      case rest =>
        obtain ⟨rfl, hst⟩ := hcut
        have K5 := Lib.hid hst
        clear hst K4
        generalize wc = w5 at *
        go_wp2_with (refine wpList_storeG rfl (.tmp 2) (.tmp 50) rfl rfl (ds := tL 0 0 0 0 0 0) rfl (K5.out.k (g2, 23, tL 0 0 0 0 0 0) (by simp)) infoTm rfl (tL_one _ _ _ _ _ _) ?_; intro w9 hr9 hg9 hz9; have B9 := Lib.hid (K5.out.b.grown hg9 K5.out.b.size (fun k e => by injection e with e; have := GE_g2.out; omega)); have R9 := Lib.hid hr9; clear hr9 hg9 hz9)
        exact retG2 rfl rfl rfl (loadTm R9.out) rfl ⟨rfl, B9.out⟩
end Go.Proofs.YtecmgkmonehmfaaDoor.Tim
