/-
  Layer 5, the statement ScalarsErrors: numbers that are not valid, and elements of other tags, or with Subs, are refused, with the first error; the examples of the chapter hold.
  Conditions: none.
-/
import Derived.Test.YtdmbkbgnlmiilaaSclN
import Derived.Deep.DeepCutAuto
namespace Go.Proofs.Ytdmbkbgnlmiilaa.Scl
open Go.RowKit

theorem errE (a : Nat) : a = 0 ∨ ((a : Int) != 0) = true := by
  rcases Nat.eq_zero_or_pos a with h | h
  · exact .inl h
  · right; simp; omega
set_option maxHeartbeats 6400000 in
set_option maxRecDepth 100000 in
theorem errors_walk (A0 : Option Addr) (m0 : List Nat) (c0 c n : Nat) (k : Bool) (A B : Option Addr) (l : List Nat) (ca S cb : Nat) (w : World) (h0 : Rb w A0 m0) (h : Rb w A l) (_hlc0 : m0.length ≤ c0) (_hcm0 : c0 ≤ maxLen) (hlc : l.length ≤ ca) (hcm : ca ≤ maxLen) :
    Calls Try.prog 6 #[.slice A0 m0.length c0, elV c n k (.slice A l.length ca) (.slice B S cb)] w fun e w' => e = .returned (.bool true) ∧ Below w.heap.size w w' := by
  obtain ⟨N, hN⟩ : ∃ N, m0.length = N := ⟨_, rfl⟩
  obtain ⟨L, hL⟩ : ∃ L, l.length = L := ⟨_, rfl⟩
  rw [hN] at _hlc0 ⊢
  rw [hL] at hlc ⊢
  have hb0 := bel1 w (.cells [.int .u8 (c : Int), .bool k, .int .u32 (n : Int), .slice A L ca, .slice B S cb].toArray 34)
  have hk0 := Bk.new w 34 [.int .u8 (c : Int), .bool k, .int .u32 (n : Int), .slice A L ca, .slice B S cb]
  have HB0 := Lib.hid hb0
  obtain ⟨x0, x1, x2, x3, x4, xz⟩ := Bk.five hk0
  by_cases hbig : 80 < N ∨ 80 < L
  · have hd : (decide ((N : Int) > 80) = true) ∨ (decide ((N : Int) > 80) = false ∧ decide ((L : Int) > 80) = true) := by
      rcases hbig with h | h
      · left; simp; omega
      · by_cases h2 : 80 < N
        · left; simp; omega
        · right; exact ⟨by simp; omega, by simp; omega⟩
    clear h h0 hN hL hbig hb0 hk0
    rcases hd with hd | ⟨hd, hd2⟩
    · go_enter Try.func6, Try.ntmps6
      go_wp2_with fail
      refine (lives1 _).mono ?_
      rintro e w1 ⟨rfl, hb⟩
      have HB1 := bt HB0 (Lib.hid hb)
      clear hb
      go_wp2_with fail
      go_ret
      exact ⟨rfl, HB1.out⟩
    · go_enter Try.func6, Try.ntmps6
      go_wp2_with fail
      refine (lives1 _).mono ?_
      rintro e w1 ⟨rfl, hb⟩
      have HB1 := bt HB0 (Lib.hid hb)
      clear hb
      go_wp2_with fail
      go_ret
      exact ⟨rfl, HB1.out⟩
  have hd : decide ((N : Int) > 80) = false := by simp; omega
  have hd2 : decide ((L : Int) > 80) = false := by simp; omega
  have hN80 : N ≤ 80 := by omega
  have hL80 : L ≤ 80 := by omega
  have HN := Lib.hid hN
  have HL := Lib.hid hL
  have HK0 := Lib.hid hk0
  have HA0 := Lib.hid (h0.below hb0)
  have HA := Lib.hid h
  have HCM := Lib.hid hcm
  obtain ⟨f, hf⟩ : ∃ f, chkN m0 = f := ⟨_, rfl⟩
  have HF := Lib.hid hf
  obtain ⟨W, hW⟩ : ∃ W, w.alloc (.cells [.int .u8 (c : Int), .bool k, .int .u32 (n : Int), .slice A L ca, .slice B S cb].toArray 34) = W := ⟨_, rfl⟩
  rw [hW] at HB0 HK0 HA0 x0 x1 x2 x3 x4 xz
  clear h0 h hN hL hbig hb0 hk0 hf hcm
  go_enter Try.func6, Try.ntmps6
  go_wp2_with fail
  refine (rchk_c A0 m0 N c0 W HA0.out HN.out (by omega)).mono ?_
  rintro e w1 ⟨rfl, rfl⟩
  rw [HF.out]
  clear hW
  go_upto_if 37 with fail
  go_cut [6, 7, 8, 9] (fun _ _ _ _ wx => Bk wx w.heap.size 34 [.int .u8 (c : Int), .bool k, .int .u32 (n : Int), .slice A L ca, .slice B S cb] ∧ Below w.heap.size w wx)
  case first =>
    rcases errE f with rfl | hfb
    · rw [show ((0 : Nat) : Int) = 0 from rfl]
      go_wp2_with fail
      go_meet
      exact ⟨HK0.out, HB0.out⟩
    · have hf0 : f ≠ 0 := by simpa using hfb
      have hpe : pnL m0 = [] := by unfold pnL; rw [if_neg (by rw [HF.out]; exact hf0)]
      have HP0 := pnat_any A0 m0 N c0 W HA0.out HN.out (by omega)
      unfold GiveFN at HP0
      rw [hpe, HF.out] at HP0
      have HP := Lib.hid HP0
      clear HP0 hpe
      go_wp2_with fail
      refine HP.out.mono ?_
      rintro e w1 ⟨A1, rfl, hr, hb, _⟩
      have R1 := Lib.hid hr
      have HA1 := Lib.hid (HA0.out.below hb)
      have HK1 := Lib.hid (HK0.out.below hb HK0.out.lt)
      have HB1 := bt HB0 (Lib.hid hb)
      clear hr hb x0 x1 x2 x3 x4 xz
      go_wp2_with fail
      refine (nat_bad A0 m0 N c0 f w1 HA1.out HN.out (by omega) HF.out hf0).mono ?_
      rintro e w2 ⟨rfl, hb⟩
      have R2 := Lib.hid (R1.out.below hb)
      have HK2 := Lib.hid (HK1.out.below hb HK1.out.lt)
      have HB2 := bt HB1 (Lib.hid hb)
      clear hb
      go_wp2_with fail
      have hbY := bel1 w2 (.cells #[.int .u8 0, .bool false, .int .u32 0, .slice none 0 0, .slice none 0 0] 34)
      have hkY := Bk.new w2 34 [.int .u8 0, .bool false, .int .u32 0, .slice none 0 0, .slice none 0 0]
      obtain ⟨w3, hw⟩ : ∃ w3, w2.alloc (.cells #[.int .u8 0, .bool false, .int .u32 0, .slice none 0 0, .slice none 0 0] 34) = w3 := ⟨_, rfl⟩
      rw [show w2.alloc (.cells [.int .u8 0, .bool false, .int .u32 0, .slice none 0 0, .slice none 0 0].toArray 34) = w3 from hw] at hkY
      rw [hw] at hbY
      rw [hw]
      obtain ⟨y0, y1, y2, y3, y4, yz⟩ := Bk.five hkY
      have R3 := Lib.hid (R2.out.below hbY)
      have HK3 := Lib.hid (HK2.out.below hbY HK2.out.lt)
      have HB3 := bt HB2 (Lib.hid hbY)
      clear hw hbY hkY
      refine (same_ok A1 none [] 0 0 f w3 R3.out Rb.nil rfl).mono ?_
      rintro e w4 ⟨rfl, rfl⟩
      go_wp2_with fail
      go_meet
      exact ⟨HK3.out, HB3.out⟩
  case rest =>
    obtain ⟨hkc, hbc⟩ := hcut
    have HK := Lib.hid hkc
    have B0 := Lib.hid hbc
    have RA := Lib.hid (HA.out.below hbc)
    clear hkc hbc HK0 HB0 HA0 x0 x1 x2 x3 x4 xz HF
    obtain ⟨W1, hW1⟩ : ∃ W1, wrg c n k S 1 = W1 := ⟨_, rfl⟩
    have HW1 := Lib.hid hW1
    clear hW1
    obtain ⟨v, hv⟩ : ∃ v, gbV l = v := ⟨_, rfl⟩
    obtain ⟨e, he⟩ : ∃ e, gbE l = e := ⟨_, rfl⟩
    obtain ⟨v', hv'⟩ : ∃ v', obV c n k S 1 l = v' := ⟨_, rfl⟩
    obtain ⟨e', he'⟩ : ∃ e', obE c n k S 1 l = e' := ⟨_, rfl⟩
    have HQ := Lib.hid (And.intro hv (And.intro he (And.intro hv' he')))
    have HR1 : Hid (W1 = 0 → v' = v ∧ e' = e) := Lib.hid fun h => ⟨by rw [← hv', ← hv]; unfold obV; rw [if_pos (HW1.out.trans h)], by rw [← he', ← he]; unfold obE; rw [if_pos (HW1.out.trans h)]⟩
    have HR2 : Hid (W1 ≠ 0 → v' = false ∧ e' = W1) := Lib.hid fun h => ⟨by rw [← hv']; unfold obV; rw [if_neg (by rw [HW1.out]; exact h)], by rw [← he']; unfold obE; rw [if_neg (by rw [HW1.out]; exact h), HW1.out]⟩
    clear hv he hv' he'
    obtain ⟨x0, x1, x2, x3, x4, xz⟩ := Bk.five HK.out
    go_wp2_with fail
    refine (ofbool_any c n k A B l L ca S cb wc RA.out HL.out hlc HCM.out).mono ?_
    rintro e v1 ⟨rfl, hb⟩
    clear x0 x1 x2 x3 x4 xz
    have RA := Lib.hid (RA.out.below hb)
    have HK := Lib.hid (HK.out.below hb HK.out.lt)
    obtain ⟨x0, x1, x2, x3, x4, xz⟩ := Bk.five HK.out
    rw [HQ.out.2.2.1, HQ.out.2.2.2]
    have B1 := bt B0 (Lib.hid hb)
    clear hb B0
    go_wp2_with fail
    refine (rgbool_any A l L ca v1 RA.out HL.out).mono ?_
    rintro e w' ⟨rfl, rfl⟩
    rw [HQ.out.1, HQ.out.2.1]
    go_wp2_with fail
    refine (wrong_any c n k A B L ca S cb 1 v1).mono ?_
    rintro e v2 ⟨rfl, hb⟩
    clear x0 x1 x2 x3 x4 xz
    have RA := Lib.hid (RA.out.below hb)
    have HK := Lib.hid (HK.out.below hb HK.out.lt)
    obtain ⟨x0, x1, x2, x3, x4, xz⟩ := Bk.five HK.out
    rw [HW1.out]
    have B2 := bt B1 (Lib.hid hb)
    clear hb B1
    go_upto_if 84 with fail
    go_cut [12, 13] (fun s t wx => s = .bool v' ∧ t = .int .i64 (e' : Int) ∧ wx = v2)
    case first =>
      rcases errE W1 with rfl | hWb
      · obtain ⟨rfl, rfl⟩ := HR1.out rfl
        rw [show ((0 : Nat) : Int) = 0 from rfl]
        go_wp2_with fail
        go_meet
        exact ⟨rfl, rfl, rfl⟩
      · obtain ⟨rfl, rfl⟩ := HR2.out (by simpa using hWb)
        go_wp2_with fail
        go_meet
        exact ⟨rfl, rfl, rfl⟩
    case rest =>
      obtain ⟨rfl, rfl, hwc⟩ := hcut
      obtain rfl := hwc.symm
      clear HW1 HQ HR1 HR2
      obtain ⟨W1, hW1⟩ : ∃ W1, wrg c n k S 2 = W1 := ⟨_, rfl⟩
      have HW1 := Lib.hid hW1
      clear hW1
      obtain ⟨z, hz⟩ : ∃ z, giV l = z := ⟨_, rfl⟩
      obtain ⟨e, he⟩ : ∃ e, giE l = e := ⟨_, rfl⟩
      obtain ⟨z', hz'⟩ : ∃ z', oiV c n k S 2 l = z' := ⟨_, rfl⟩
      obtain ⟨e', he'⟩ : ∃ e', oiE c n k S 2 l = e' := ⟨_, rfl⟩
      obtain ⟨m, hm⟩ : ∃ m, gnL l = m := ⟨_, rfl⟩
      obtain ⟨g, hg⟩ : ∃ g, gnE l = g := ⟨_, rfl⟩
      obtain ⟨m', hm'⟩ : ∃ m', onL c n k S 2 l = m' := ⟨_, rfl⟩
      obtain ⟨g', hg'⟩ : ∃ g', onE c n k S 2 l = g' := ⟨_, rfl⟩
      obtain ⟨M, hM⟩ : ∃ M, m.length = M := ⟨_, rfl⟩
      obtain ⟨M', hM'⟩ : ∃ M', m'.length = M' := ⟨_, rfl⟩
      have HQ := Lib.hid (And.intro hz (And.intro he (And.intro hz' he')))
      have HR1 : Hid (W1 = 0 → z' = z ∧ e' = e ∧ m' = m ∧ g' = g) := Lib.hid fun h => ⟨by rw [← hz', ← hz]; unfold oiV; rw [if_pos (HW1.out.trans h)], by rw [← he', ← he]; unfold oiE; rw [if_pos (HW1.out.trans h)], by rw [← hm', ← hm]; unfold onL; rw [if_pos (HW1.out.trans h)], by rw [← hg', ← hg]; unfold onE; rw [if_pos (HW1.out.trans h)]⟩
      have HR2 : Hid (W1 ≠ 0 → z' = 0 ∧ e' = W1 ∧ m' = [] ∧ g' = W1) := Lib.hid fun h => ⟨by rw [← hz']; unfold oiV; rw [if_neg (by rw [HW1.out]; exact h)], by rw [← he']; unfold oiE; rw [if_neg (by rw [HW1.out]; exact h), HW1.out], by rw [← hm']; unfold onL; rw [if_neg (by rw [HW1.out]; exact h)], by rw [← hg']; unfold onE; rw [if_neg (by rw [HW1.out]; exact h), HW1.out]⟩
      have HGN : Hid (∀ w1, Rb w1 A l → Calls Try.prog 22 #[.slice A L ca] w1 fun e w' => ∃ A c, e = .returned (.tuple #[.slice A M c, .int .i64 (g : Int)]) ∧ Rb w' A m ∧ M ≤ c ∧ c ≤ maxLen ∧ Below w1.heap.size w1 w') := Lib.hid fun w1 hr => by
        have := rgnat_any A l L ca w1 hr HL.out hL80
        unfold GiveT at this
        rwa [hm, hg, hM] at this
      have HON : Hid (∀ w1, Rb w1 A l → Calls Try.prog 28 #[elV c n k (.slice A L ca) (.slice B S cb)] w1 fun e w' => ∃ A', e = .returned (.tuple #[.slice A' M' M', .int .i64 (g' : Int)]) ∧ Rb w' A' m' ∧ Below w1.heap.size w1 w') := Lib.hid fun w1 hr => by
        have := ofnat_any c n k A B l L ca S cb w1 hr HL.out hlc HCM.out (by omega)
        rwa [hm', hg', hM'] at this
      have HM := Lib.hid hM
      have HM' := Lib.hid hM'
      clear hz he hz' he' hm hg hm' hg' hM hM'
      go_wp2_with fail
      refine (ofint_any c n k A B l L ca S cb v2 RA.out HL.out hlc HCM.out).mono ?_
      rintro e v3 ⟨rfl, hb⟩
      clear x0 x1 x2 x3 x4 xz
      have RA := Lib.hid (RA.out.below hb)
      have HK := Lib.hid (HK.out.below hb HK.out.lt)
      obtain ⟨x0, x1, x2, x3, x4, xz⟩ := Bk.five HK.out
      rw [HQ.out.2.2.1, HQ.out.2.2.2]
      have B3 := bt B2 (Lib.hid hb)
      clear hb B2
      go_wp2_with fail
      refine (rgint_any A l L ca v3 RA.out HL.out).mono ?_
      rintro e w' ⟨rfl, rfl⟩
      rw [HQ.out.1, HQ.out.2.1]
      go_wp2_with fail
      refine (HGN.out v3 RA.out).mono ?_
      rintro e v4 ⟨A3, c3, rfl, hr, hc3, hm3, hb⟩
      clear x0 x1 x2 x3 x4 xz
      have RA := Lib.hid (RA.out.below hb)
      have HK := Lib.hid (HK.out.below hb HK.out.lt)
      obtain ⟨x0, x1, x2, x3, x4, xz⟩ := Bk.five HK.out
      have R3 := Lib.hid hr
      clear hr
      clear hc3 hm3
      have B4 := bt B3 (Lib.hid hb)
      clear hb B3
      go_wp2_with fail
      refine (wrong_any c n k A B L ca S cb 2 v4).mono ?_
      rintro e v5 ⟨rfl, hb⟩
      clear x0 x1 x2 x3 x4 xz
      have RA := Lib.hid (RA.out.below hb)
      have HK := Lib.hid (HK.out.below hb HK.out.lt)
      obtain ⟨x0, x1, x2, x3, x4, xz⟩ := Bk.five HK.out
      have R3 := Lib.hid (R3.out.below hb)
      rw [HW1.out]
      have B5 := bt B4 (Lib.hid hb)
      clear hb B4
      go_upto_if 114 with fail
      go_cut [16, 13, 17, 18] (fun s t r q wx => s = .int .i64 z' ∧ t = .int .i64 (e' : Int) ∧ (∃ A5 c5, r = .slice A5 M' c5 ∧ Rb v5 A5 m') ∧ q = .int .i64 (g' : Int) ∧ wx = v5)
      case first =>
        rcases errE W1 with rfl | hWb
        · obtain ⟨rfl, rfl, rfl, rfl⟩ := HR1.out rfl
          obtain rfl : M' = M := HM'.out.symm.trans HM.out
          rw [show ((0 : Nat) : Int) = 0 from rfl]
          go_wp2_with fail
          go_meet
          exact ⟨rfl, rfl, ⟨A3, c3, rfl, R3.out⟩, rfl, rfl⟩
        · obtain ⟨rfl, rfl, rfl, rfl⟩ := HR2.out (by simpa using hWb)
          obtain rfl : 0 = M' := HM'.out
          go_wp2_with fail
          go_meet
          exact ⟨rfl, rfl, ⟨none, 0, rfl, Rb.nil⟩, rfl, rfl⟩
      case rest =>
        obtain ⟨rfl, rfl, ⟨A5, c5, rfl, h5⟩, rfl, hwc⟩ := hcut
        obtain rfl := hwc.symm
        have R5 := Lib.hid h5
        clear h5 HW1 HQ HR1 HR2 HGN R3
        go_wp2_with fail
        refine (HON.out v5 RA.out).mono ?_
        rintro e v6 ⟨A4, rfl, hr, hb⟩
        clear x0 x1 x2 x3 x4 xz
        have RA := Lib.hid (RA.out.below hb)
        have HK := Lib.hid (HK.out.below hb HK.out.lt)
        obtain ⟨x0, x1, x2, x3, x4, xz⟩ := Bk.five HK.out
        have R5 := Lib.hid (R5.out.below hb)
        have R4 := Lib.hid hr
        clear hr
        have B6 := bt B5 (Lib.hid hb)
        clear hb B5
        go_wp2_with fail
        refine (same_ok A4 A5 m' c5 M' g' v6 R4.out R5.out HM'.out).mono ?_
        rintro e w' ⟨rfl, rfl⟩
        clear HON HM HM' R4 R5
        obtain ⟨W1, hW1⟩ : ∃ W1, wrg c n k S 10 = W1 := ⟨_, rfl⟩
        have HW1 := Lib.hid hW1
        clear hW1
        obtain ⟨W5, hW5⟩ : ∃ W5, wrg c n k S 5 = W5 := ⟨_, rfl⟩
        have HW5 := Lib.hid hW5
        obtain ⟨z, hz⟩ : ∃ z, giV l = z := ⟨_, rfl⟩
        obtain ⟨e, he⟩ : ∃ e, giE l = e := ⟨_, rfl⟩
        obtain ⟨z', hz'⟩ : ∃ z', oiV c n k S 10 l = z' := ⟨_, rfl⟩
        obtain ⟨e', he'⟩ : ∃ e', oiE c n k S 10 l = e' := ⟨_, rfl⟩
        obtain ⟨u, hu⟩ : ∃ u, ouE c n k S L = u := ⟨_, rfl⟩
        have HQ := Lib.hid (And.intro hz (And.intro he (And.intro hz' (And.intro he' hu))))
        have HR1 : Hid (W1 = 0 → z' = z ∧ e' = e) := Lib.hid fun h => ⟨by rw [← hz', ← hz]; unfold oiV; rw [if_pos (HW1.out.trans h)], by rw [← he', ← he]; unfold oiE; rw [if_pos (HW1.out.trans h)]⟩
        have HR2 : Hid (W1 ≠ 0 → z' = 0 ∧ e' = W1) := Lib.hid fun h => ⟨by rw [← hz']; unfold oiV; rw [if_neg (by rw [HW1.out]; exact h)], by rw [← he']; unfold oiE; rw [if_neg (by rw [HW1.out]; exact h), HW1.out]⟩
        have hu1 : (W5 = 0 ∧ 0 < L ∧ u = 11) ∨ (W5 = 0 ∧ ¬ 0 < L ∧ u = 0) ∨ (W5 ≠ 0 ∧ u = W5) := by
          rw [← hu]; unfold ouE nulE; rw [hW5]
          by_cases h5 : W5 = 0
          · by_cases hl : 0 < L
            · exact .inl ⟨h5, hl, by rw [if_pos h5, if_pos hl]⟩
            · exact .inr (.inl ⟨h5, hl, by rw [if_pos h5, if_neg hl]⟩)
          · exact .inr (.inr ⟨h5, by rw [if_neg h5]⟩)
        clear hz he hz' he' hu hW5
        go_wp2_with fail
        refine (ofenum_any c n k A B l L ca S cb v6 RA.out HL.out hlc HCM.out).mono ?_
        rintro e v7 ⟨rfl, hb⟩
        clear x0 x1 x2 x3 x4 xz
        have RA := Lib.hid (RA.out.below hb)
        have HK := Lib.hid (HK.out.below hb HK.out.lt)
        obtain ⟨x0, x1, x2, x3, x4, xz⟩ := Bk.five HK.out
        rw [HQ.out.2.2.1, HQ.out.2.2.2.1]
        have B7 := bt B6 (Lib.hid hb)
        clear hb B6
        go_wp2_with fail
        refine (rgint_any A l L ca v7 RA.out HL.out).mono ?_
        rintro e w' ⟨rfl, rfl⟩
        rw [HQ.out.1, HQ.out.2.1]
        go_wp2_with fail
        refine (wrong_any c n k A B L ca S cb 10 v7).mono ?_
        rintro e v8 ⟨rfl, hb⟩
        clear x0 x1 x2 x3 x4 xz
        have RA := Lib.hid (RA.out.below hb)
        have HK := Lib.hid (HK.out.below hb HK.out.lt)
        obtain ⟨x0, x1, x2, x3, x4, xz⟩ := Bk.five HK.out
        rw [HW1.out]
        have B8 := bt B7 (Lib.hid hb)
        clear hb B7
        go_upto_if 152 with fail
        go_cut [16, 13] (fun s t wx => s = .int .i64 z' ∧ t = .int .i64 (e' : Int) ∧ wx = v8)
        case first =>
          rcases errE W1 with rfl | hWb
          · obtain ⟨rfl, rfl⟩ := HR1.out rfl
            rw [show ((0 : Nat) : Int) = 0 from rfl]
            go_wp2_with fail
            go_meet
            exact ⟨rfl, rfl, rfl⟩
          · obtain ⟨rfl, rfl⟩ := HR2.out (by simpa using hWb)
            go_wp2_with fail
            go_meet
            exact ⟨rfl, rfl, rfl⟩
        case rest =>
          obtain ⟨rfl, rfl, hwc⟩ := hcut
          obtain rfl := hwc.symm
          clear HW1 HR1 HR2
          go_wp2_with fail
          refine (wrong_any c n k A B L ca S cb 5 v8).mono ?_
          rintro e v9 ⟨rfl, hb⟩
          clear x0 x1 x2 x3 x4 xz
          have RA := Lib.hid (RA.out.below hb)
          have HK := Lib.hid (HK.out.below hb HK.out.lt)
          obtain ⟨x0, x1, x2, x3, x4, xz⟩ := Bk.five HK.out
          rw [HW5.out]
          have B9 := bt B8 (Lib.hid hb)
          clear hb B8
          rcases hu1 with ⟨rfl, hl, rfl⟩ | ⟨rfl, hl, rfl⟩ | ⟨h5, rfl⟩
          · skip
            have hLb : decide ((L : Int) > 0) = true := by simp; omega
            rw [show ((0 : Nat) : Int) = 0 from rfl]
            go_wp2_with fail
            refine (ofnull_any c n k A B L ca S cb v9).mono ?_
            rintro e v10 ⟨rfl, hb⟩
            clear x0 x1 x2 x3 x4 xz
            have RA := Lib.hid (RA.out.below hb)
            have HK := Lib.hid (HK.out.below hb HK.out.lt)
            obtain ⟨x0, x1, x2, x3, x4, xz⟩ := Bk.five HK.out
            rw [HQ.out.2.2.2.2]
            have B10 := bt B9 (Lib.hid hb)
            clear hb B9
            go_wp2_with fail
            refine (lives1 v10).mono ?_
            rintro e v11 ⟨rfl, hb⟩
            clear x0 x1 x2 x3 x4 xz
            have RA := Lib.hid (RA.out.below hb)
            have HK := Lib.hid (HK.out.below hb HK.out.lt)
            obtain ⟨x0, x1, x2, x3, x4, xz⟩ := Bk.five HK.out
            have B11 := bt B10 (Lib.hid hb)
            clear hb B10
            go_wp2_with fail
            go_ret
            exact ⟨by simp, B11.out⟩
          · skip
            have hLb : decide ((L : Int) > 0) = false := by simp; omega
            rw [show ((0 : Nat) : Int) = 0 from rfl]
            go_wp2_with fail
            refine (ofnull_any c n k A B L ca S cb v9).mono ?_
            rintro e v10 ⟨rfl, hb⟩
            clear x0 x1 x2 x3 x4 xz
            have RA := Lib.hid (RA.out.below hb)
            have HK := Lib.hid (HK.out.below hb HK.out.lt)
            obtain ⟨x0, x1, x2, x3, x4, xz⟩ := Bk.five HK.out
            rw [HQ.out.2.2.2.2]
            have B10 := bt B9 (Lib.hid hb)
            clear hb B9
            go_wp2_with fail
            refine (lives1 v10).mono ?_
            rintro e v11 ⟨rfl, hb⟩
            clear x0 x1 x2 x3 x4 xz
            have RA := Lib.hid (RA.out.below hb)
            have HK := Lib.hid (HK.out.below hb HK.out.lt)
            obtain ⟨x0, x1, x2, x3, x4, xz⟩ := Bk.five HK.out
            have B11 := bt B10 (Lib.hid hb)
            clear hb B10
            go_wp2_with fail
            go_ret
            exact ⟨by simp, B11.out⟩
          · skip
            have h5b : ((u : Int) == 0) = false := by simp; exact h5
            go_wp2_with fail
            refine (ofnull_any c n k A B L ca S cb v9).mono ?_
            rintro e v10 ⟨rfl, hb⟩
            clear x0 x1 x2 x3 x4 xz
            have RA := Lib.hid (RA.out.below hb)
            have HK := Lib.hid (HK.out.below hb HK.out.lt)
            obtain ⟨x0, x1, x2, x3, x4, xz⟩ := Bk.five HK.out
            rw [HQ.out.2.2.2.2]
            have B10 := bt B9 (Lib.hid hb)
            clear hb B9
            go_wp2_with fail
            refine (lives1 v10).mono ?_
            rintro e v11 ⟨rfl, hb⟩
            clear x0 x1 x2 x3 x4 xz
            have RA := Lib.hid (RA.out.below hb)
            have HK := Lib.hid (HK.out.below hb HK.out.lt)
            obtain ⟨x0, x1, x2, x3, x4, xz⟩ := Bk.five HK.out
            have B11 := bt B10 (Lib.hid hb)
            clear hb B10
            go_wp2_with fail
            go_ret
            exact ⟨by simp, B11.out⟩


open Go.ChangeShapes Go.WideShapes Go.ChangeAt
set_option maxRecDepth 100000 in
theorem scalarsErrors_lifted (os : Os) (started : os.Started) (H : Type) (enc : TypeId × Value → H) :
    ReturnsInHanded {} Try.checked os 6 .any (Rows.scalarsErrorsSpec.pre6 enc Try.prog Try.f6 Rows.scalarsErrorsRow.domain false) (Rows.scalarsErrorsSpec.post enc Try.prog Try.f6 false true false false) := by
  refine returnsInHanded_of_change (C := Try.checked) x_own started (by kernel_rfl) Try.func6
    (ChangeSpec.witness6 (enc := enc) (C := Try.checked) false ⟨#[], #[.slice none 0 0, .agg #[.int .u8 0, .bool false, .int .u32 0, .slice none 0 0, .slice none 0 0]], []⟩ 8 (by kernel_rfl) (by kernel_rfl) (by kernel_rfl) (by kernel_rfl)) ?_
  intro W base args ds gs before hval0 hW hcnd _
  have hval : ∀ (j : Nat) t v, Try.f6.params[j]? = some t → args[j]? = some v → Value.okWide Try.prog W .any base t v := hval0
  have hW' := hW
  obtain ⟨p, q, hA0, hV, rfl, hfz, hnd⟩ := hW
  have hA : DataW.TrodAll enc Try.prog W 0 (fun _ => true) true Try.f6.params.toList args.toList ds p := hA0
  rw [Try.params6] at hA hval
  obtain ⟨v0, v1, d0, d1, p0, p1, rfl, rfl, rfl, h0, h1⟩ := trodAll_two hA
  obtain ⟨rfl, rfl⟩ := trodVars_none hV
  obtain ⟨A0, m0, c0, rfl, hr0, hlc0, hcm0⟩ := open_bytes (hval 0 _ v0 rfl rfl) h0
  obtain ⟨c, n, k, A, B, l, ca, S, cb, rfl, _, _, hr, hlc, hcm⟩ := open_elem (hval 1 _ v1 rfl rfl) h1
  clear hA0 hval0
  refine (errors_walk A0 m0 c0 c n k A B l ca S cb W hr0 hr hlc0 hcm0 hlc hcm).mono fun e W' ⟨he, hb⟩ => ?_
  subst he
  exact ⟨_, rfl, law_post (tb := 4) x_laid (by decide +kernel) rfl rfl (by kernel_rfl) Try.underlying4 hW' hb⟩

/-- The statement. -/
theorem scalarsErrors_holds : Rows.ScalarsErrorsSaid :=
  OpenClaim.holds_of_wide 6 Try.f6 rfl rfl rfl rfl rfl rfl rfl ⟨rfl, rfl, rfl, rfl, rfl⟩ rfl rfl rfl rfl rfl (by kernel_rfl) Try.func6 (by kernel_rfl)
    (of_decide_eq_true (by kernel_rfl)) (by unfold Func.isWrapper; first | (rw [if_pos (by decide +kernel)]; kernel_rfl) | (rw [if_neg (by decide +kernel)]; exact ⟨rfl, rfl⟩))
    (fun os started H enc _ => scalarsErrors_lifted os started H enc)
end Go.Proofs.Ytdmbkbgnlmiilaa.Scl
