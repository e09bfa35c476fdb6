/-
  Layer 5: contracts of GetNat.
  Conditions: slices read as bytes, and are short.
-/
import Derived.Test.YtdmbkbgnlmiilaaSclG
namespace Go.Proofs.Ytdmbkbgnlmiilaa.Scl
open Go.RowKit

theorem nilapp {w : World} {A : Option Addr} {l : List Nat} {N : Nat} (c : Nat) (h : Rb w A l) (hN : l.length = N) (hn : N ≤ 1000) :
    ∃ A' c' w', (Builtin.append_ #[22, 22] 22 #[.slice none 0 0, .slice A N c]).run Try.prog w = .ok (.slice A' N c') w' ∧ Rb w' A' l ∧ N ≤ c' ∧ c' ≤ maxLen ∧ (A' = none → c' = 0) ∧ Below w.heap.size w w' := by
  obtain ⟨v', w', h1, h2, h3⟩ := app8 (k := []) (c := c) (World.ownsRow_nil w w.heap.size 5 1) hN h (Nat.le_refl _) (by rw [hN]; simp; omega)
  rw [List.nil_append] at h2
  obtain ⟨A', c', rfl, hr, h4, h5, h6, _⟩ := own8_open h.2 h2
  rw [hN] at h1 h4
  exact ⟨A', c', w', h1, hr, h4, h5, h6, h3⟩
theorem gnE_bad {l : List Nat} (h : minB l = false ∨ negB l = true) : gnE l = 11 ∧ gnL l = [] := by
  have e : gnE l = 11 := by unfold gnE; rw [if_pos h]
  exact ⟨e, by unfold gnL; rw [if_neg (by omega)]⟩
theorem gnE_good {l : List Nat} (h : minB l = true) (h2 : negB l = false) : gnE l = chkN (cutL l) ∧ gnL l = if chkN (cutL l) = 0 then cutL l else [] := by
  have e0 : cutL (cutL l) = cutL l ∨ True := .inr trivial
  have e : gnE l = chkN (cutL l) := by
    unfold gnE chkN
    rw [if_neg (by simp [h, h2])]
    by_cases h3 : 64 < (cutL l).length
    · rw [if_pos h3, if_pos h3]
    · rw [if_neg h3, if_neg h3, if_neg]
      intro e
      cases hc : cutL l with
      | nil => rw [hc] at e; cases e
      | cons y t =>
        rw [hc] at e
        have hy : y = 0 := by simpa using e
        have := List.head?_dropWhile_not (p := (· == 0)) (l := l)
        unfold cutL at hc
        rw [hc] at this
        simp [hy] at this
  exact ⟨e, by unfold gnL; rw [e]⟩
set_option maxRecDepth 100000 in
set_option maxHeartbeats 2000000 in
theorem gnat_any (A : Option Addr) (l : List Nat) (N c : Nat) (w : World) (h : Rb w A l) (hN : l.length = N) (hc : N ≤ c) (hm : c ≤ maxLen) (hn : N ≤ 1000) :
    Calls Try.prog 41 #[.slice A N c] w (GiveF w (gnL l) (gnE l)) := by
  have HMin := Lib.hid (min_any A l N c w h hN hc hm)
  unfold maxLen at hm
  obtain ⟨mb, hmb⟩ : ∃ mb, minB l = mb := ⟨_, rfl⟩
  rw [hmb] at HMin
  cases mb with
  | false =>
    obtain ⟨e1, e2⟩ := gnE_bad (.inl hmb)
    rw [e1, e2]
    clear h hN hmb e1 e2
    go_enter Try.func41, Try.ntmps41
    go_wp2_with fail
    refine HMin.out.mono ?_
    rintro e w1 ⟨rfl, hb⟩
    have HB := Lib.hid hb
    clear hb
    go_wp2_with fail
    go_ret2
    exact ⟨none, rfl, Rb.nil, HB.out⟩
  | true =>
    obtain ⟨x, t, rfl⟩ := List.exists_cons_of_ne_nil (show l ≠ [] by rintro rfl; cases hmb)
    have hN1 : 1 ≤ N := by rw [← hN]; simp
    obtain ⟨b, off, rfl, hb0, hx, hcell⟩ := h.at_ (k := 0) (by simp)
    simp only [List.getElem_cons_zero, Nat.add_zero] at hx hcell
    have HNg := Lib.hid (fun w1 : World => fun (e : w1.cell? ⟨b, off, none⟩ = some (.int .u8 (x : Int))) (e2 : b < w1.heap.size) => neg_any b off x N c w1 (by omega) e2 e hx)
    have H := Lib.hid h
    have HN := Lib.hid hN
    have HMB := Lib.hid hmb
    clear h hN hmb
    by_cases hx8 : 128 ≤ x
    · obtain ⟨e1, e2⟩ := gnE_bad (.inr (show negB (x :: t) = true by simpa [negB] using hx8))
      have hd : decide (128 ≤ x) = true := by simpa using hx8
      rw [e1, e2]
      rw [hd] at HNg
      clear e1 e2 hd
      generalize x :: t = l at *
      go_enter Try.func41, Try.ntmps41
      go_wp2_with fail
      refine HMin.out.mono ?_
      rintro e w1 ⟨rfl, hb⟩
      have HB := Lib.hid hb
      have hb1 : b < w1.heap.size := Nat.lt_of_lt_of_le hb0 hb.size
      have hc1 : w1.cell? ⟨b, off, none⟩ = some (.int .u8 (x : Int)) := (hb.cell hb0).trans hcell
      clear hb hcell
      go_wp2_with fail
      refine (HNg.out w1 hc1 hb1).mono ?_
      rintro e w2 ⟨rfl, rfl⟩
      go_wp2_with fail
      go_ret2
      exact ⟨none, rfl, Rb.nil, HB.out⟩
    · have hng : negB (x :: t) = false := by simpa [negB] using hx8
      obtain ⟨e1, e2⟩ := gnE_good HMB.out hng
      have hcut := gn_cut HMB.out hng
      have hd : decide (128 ≤ x) = false := by simpa using hx8
      rw [hd] at HNg
      rw [e1, e2]
      clear e1 e2 hd hng HMB
      by_cases hx0 : x = 0
      · subst hx0
        rw [if_pos rfl] at hcut
        rw [hcut]
        have HT : Hid (t.length = N - 1) := by show _ = _; rw [← HN.out]; simp
        have hi1 : (1 : Int) ≤ (N : Int) := by omega
        by_cases hc1 : c = 1
        · subst hc1
          obtain rfl : N = 1 := by omega
          obtain rfl : t = [] := List.eq_nil_of_length_eq_zero HT.out
          rw [show chkN [] = 0 from rfl, if_pos rfl]
          have HCk := Lib.hid (fun w1 => chk_c (some ⟨b, off, none⟩) [] 0 0 w1 Rb.nil rfl (by omega))
          rw [show chkN [] = 0 from rfl] at HCk
          clear hcut
          generalize 0 :: [] = l at *
          go_enter Try.func41, Try.ntmps41
          go_wp2_with fail
          refine HMin.out.mono ?_
          rintro e w1 ⟨rfl, hb⟩
          have HB := Lib.hid hb
          have hb1 : b < w1.heap.size := Nat.lt_of_lt_of_le hb0 hb.size
          have hc1 : w1.cell? ⟨b, off, none⟩ = some (.int .u8 (((0 : Nat))  : Int)) := (hb.cell hb0).trans hcell
          obtain ⟨A', c', w3, hrun, hr3, h4, h5, h6, hb3⟩ := nilapp 0 (Rb.nil (A := some ⟨b, off, none⟩) (w := w1)) (show ([] : List Nat).length = 0 from rfl) (by omega)
          have HRUN := Lib.hid hrun
          have HR3 := Lib.hid hr3
          have HB3 := bt HB (Lib.hid hb3)
          clear hrun hr3 hb3
          clear hb hcell
          go_wp2_with fail
          refine (HNg.out w1 hc1 hb1).mono ?_
          rintro e w2 ⟨rfl, rfl⟩
          go_wp2_with fail
          refine (HCk.out w1).mono ?_
          rintro e w2 ⟨rfl, rfl⟩
          go_wp2_with (at_builtin; refine wpList_app rfl _ _ _ _ rfl _ _ rfl rfl HRUN.out ?_)
          refine (clip_any A' 0 c' w3 h4 h5 h6).mono ?_
          rintro e w4 ⟨rfl, rfl⟩
          go_wp2_with fail
          go_ret2
          exact ⟨A', rfl, HR3.out, HB3.out⟩
        · have HCk := Lib.hid (fun w1 : World => fun (hb : Below w.heap.size w w1) => chk_c (some ⟨b, off + 1, none⟩) t (N - 1) (c - 1) w1 ((H.out.below hb).drop_ 1) HT.out (by omega))
          have HR1 := Lib.hid (fun w1 : World => fun (hb : Below w.heap.size w w1) => (H.out.below hb).drop_ 1)
          simp only [List.drop_succ_cons, List.drop_zero] at HR1
          obtain ⟨f, hf⟩ : ∃ f, chkN t = f := ⟨_, rfl⟩
          rw [hf] at HCk ⊢
          clear hcut hf
          generalize 0 :: t = l at *
          by_cases hf0 : f = 0
          · subst hf0
            rw [if_pos rfl]
            go_enter Try.func41, Try.ntmps41
            go_wp2_with fail
            refine HMin.out.mono ?_
            rintro e w1 ⟨rfl, hb⟩
            have HB := Lib.hid hb
            have hb1 : b < w1.heap.size := Nat.lt_of_lt_of_le hb0 hb.size
            have hc1 : w1.cell? ⟨b, off, none⟩ = some (.int .u8 (((0 : Nat))  : Int)) := (hb.cell hb0).trans hcell
            obtain ⟨A', c', w3, hrun, hr3, h4, h5, h6, hb3⟩ := nilapp (c - 1) (HR1.out w1 hb) HT.out (by omega)
            have HRUN := Lib.hid hrun
            have HR3 := Lib.hid hr3
            have HB3 := bt HB (Lib.hid hb3)
            clear hrun hr3 hb3
            clear hb hcell
            go_wp2_with fail
            refine (HNg.out w1 hc1 hb1).mono ?_
            rintro e w2 ⟨rfl, rfl⟩
            go_wp2_with fail
            refine (HCk.out w1 HB.out).mono ?_
            rintro e w2 ⟨rfl, rfl⟩
            go_wp2_with (at_builtin; refine wpList_app rfl _ _ _ _ rfl _ _ rfl rfl HRUN.out ?_)
            refine (clip_any A' (N - 1) c' w3 h4 h5 h6).mono ?_
            rintro e w4 ⟨rfl, rfl⟩
            go_wp2_with fail
            go_ret2
            exact ⟨A', by rw [HT.out]; rfl, HR3.out, HB3.out⟩
          · rw [if_neg hf0]
            have hfb : ((f : Int) != 0) = true := by simp; omega
            go_enter Try.func41, Try.ntmps41
            go_wp2_with fail
            refine HMin.out.mono ?_
            rintro e w1 ⟨rfl, hb⟩
            have HB := Lib.hid hb
            have hb1 : b < w1.heap.size := Nat.lt_of_lt_of_le hb0 hb.size
            have hc1 : w1.cell? ⟨b, off, none⟩ = some (.int .u8 (((0 : Nat))  : Int)) := (hb.cell hb0).trans hcell
            skip
            clear hb hcell
            go_wp2_with fail
            refine (HNg.out w1 hc1 hb1).mono ?_
            rintro e w2 ⟨rfl, rfl⟩
            go_wp2_with fail
            refine (HCk.out w1 HB.out).mono ?_
            rintro e w2 ⟨rfl, rfl⟩
            go_wp2_with fail
            go_ret2
            exact ⟨none, rfl, Rb.nil, HB.out⟩
      · rw [if_neg hx0] at hcut
        rw [hcut]
        have hxb : ((x : Int) == 0) = false := by simp; exact hx0
        have HCk := Lib.hid (fun w1 : World => fun (hb : Below w.heap.size w w1) => chk_c (some ⟨b, off, none⟩) (x :: t) N c w1 (H.out.below hb) HN.out hn)
        have HR1 := Lib.hid (fun w1 : World => fun (hb : Below w.heap.size w w1) => (H.out.below hb))
        obtain ⟨f, hf⟩ : ∃ f, chkN (x :: t) = f := ⟨_, rfl⟩
        rw [hf] at HCk ⊢
        clear hcut hf
        generalize x :: t = l at *
        by_cases hf0 : f = 0
        · subst hf0
          rw [if_pos rfl]
          go_enter Try.func41, Try.ntmps41
          go_wp2_with fail
          refine HMin.out.mono ?_
          rintro e w1 ⟨rfl, hb⟩
          have HB := Lib.hid hb
          have hb1 : b < w1.heap.size := Nat.lt_of_lt_of_le hb0 hb.size
          have hc1 : w1.cell? ⟨b, off, none⟩ = some (.int .u8 (x : Int)) := (hb.cell hb0).trans hcell
          obtain ⟨A', c', w3, hrun, hr3, h4, h5, h6, hb3⟩ := nilapp c (HR1.out w1 hb) HN.out (by omega)
          have HRUN := Lib.hid hrun
          have HR3 := Lib.hid hr3
          have HB3 := bt HB (Lib.hid hb3)
          clear hrun hr3 hb3
          clear hb hcell
          go_wp2_with fail
          refine (HNg.out w1 hc1 hb1).mono ?_
          rintro e w2 ⟨rfl, rfl⟩
          go_wp2_with fail
          refine (HCk.out w1 HB.out).mono ?_
          rintro e w2 ⟨rfl, rfl⟩
          go_wp2_with (at_builtin; refine wpList_app rfl _ _ _ _ rfl _ _ rfl rfl HRUN.out ?_)
          refine (clip_any A' N c' w3 h4 h5 h6).mono ?_
          rintro e w4 ⟨rfl, rfl⟩
          go_wp2_with fail
          go_ret2
          exact ⟨A', by rw [HN.out]; rfl, HR3.out, HB3.out⟩
        · rw [if_neg hf0]
          have hfb : ((f : Int) != 0) = true := by simp; omega
          go_enter Try.func41, Try.ntmps41
          go_wp2_with fail
          refine HMin.out.mono ?_
          rintro e w1 ⟨rfl, hb⟩
          have HB := Lib.hid hb
          have hb1 : b < w1.heap.size := Nat.lt_of_lt_of_le hb0 hb.size
          have hc1 : w1.cell? ⟨b, off, none⟩ = some (.int .u8 (x : Int)) := (hb.cell hb0).trans hcell
          skip
          clear hb hcell
          go_wp2_with fail
          refine (HNg.out w1 hc1 hb1).mono ?_
          rintro e w2 ⟨rfl, rfl⟩
          go_wp2_with fail
          refine (HCk.out w1 HB.out).mono ?_
          rintro e w2 ⟨rfl, rfl⟩
          go_wp2_with fail
          go_ret2
          exact ⟨none, rfl, Rb.nil, HB.out⟩
end Go.Proofs.Ytdmbkbgnlmiilaa.Scl
