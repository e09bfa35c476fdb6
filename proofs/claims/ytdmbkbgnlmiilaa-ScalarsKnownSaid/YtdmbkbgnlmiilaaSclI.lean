/-
  Layer 5: contracts of the reference's PutNat, GetNat; of Nat.
  Conditions: slices read as bytes, and are short.
-/
import Derived.Test.YtdmbkbgnlmiilaaSclH
namespace Go.Proofs.Ytdmbkbgnlmiilaa.Scl
open Go.RowKit

theorem made_own (w : World) : (w.alloc (.cells #[] 5)).ownsRow w.heap.size 5 1 (.slice (some ⟨w.heap.size, 0, none⟩) 0 0) ([] : List Nat).length (cs8 []) := by
  have := World.ownsRow_made (base := w.heap.size) (e := 5) (size := 1) w #[] 0 (by simp) (by unfold maxLen; omega) rfl
  simpa [cs8] using this
theorem putN_cons {l : List Nat} (h : l = [] ∨ ∃ x t, l = x :: t ∧ 128 ≤ x) : putN l = [0] ++ l := by
  unfold putN
  rw [if_pos]; · rfl
  rcases h with rfl | ⟨x, t, rfl, hx⟩
  · exact .inl rfl
  · exact .inr (by simpa [negB] using hx)
theorem putN_same {x : Nat} {t : List Nat} (h : ¬ 128 ≤ x) : putN (x :: t) = [] ++ (x :: t) := by
  unfold putN
  rw [if_neg]; · rfl
  rintro (e | e)
  · cases e
  · exact h (by simpa [negB] using e)
set_option maxRecDepth 100000 in
set_option maxHeartbeats 2000000 in
theorem rpnat_any (A : Option Addr) (l : List Nat) (N c : Nat) (w : World) (h : Rb w A l) (hN : l.length = N) (hn : N ≤ 1000) :
    Calls Try.prog 26 #[.slice A N c] w (GiveB w (putN l)) := by
  obtain ⟨Q, hQ⟩ : ∃ Q, putN l = Q := ⟨_, rfl⟩
  obtain ⟨M, hM⟩ : ∃ M, Q.length = M := ⟨_, rfl⟩
  have H8 := Lib.hid (show All8 Q by rw [← hQ]; exact putN_all h.2)
  have HM := Lib.hid hM
  rw [hQ]
  unfold GiveB
  rw [hM]
  by_cases hl : l = [] ∨ ∃ x t, l = x :: t ∧ 128 ≤ x
  · have hp := putN_cons hl
    rw [hQ] at hp
    obtain ⟨v', w2, hrun, hown, hb2⟩ := app8 (k := [0]) (c := c) (own_lit w 5 (.int .u8 0)) hN (h.below (bel1 w (.cells #[.int .u8 0] 5))) (by simp) (by rw [hN]; simp; omega)
    rw [← hp] at hown
    obtain ⟨A', c', rfl, hr, h4, h5, _, _⟩ := own8_open H8.out hown
    rw [hM] at h4 hrun
    have HRUN := Lib.hid hrun
    have HR := Lib.hid hr
    have HB := Lib.hid ((bel1 w (.cells #[.int .u8 0] 5)).trans (hb2.mono (Nat.le_refl _)))
    rcases hl with rfl | ⟨x, t, rfl, hx⟩
    · obtain rfl : 0 = N := hN
      clear h hp hown hr hrun hb2 hM hQ
      go_enter Try.func26, Try.ntmps26
      go_wp2_with (at_builtin; refine wpList_app rfl _ _ _ _ rfl _ _ rfl rfl HRUN.out ?_)
      go_ret
      exact ⟨A', c', rfl, HR.out, h4, h5, HB.out⟩
    · obtain ⟨b, off, rfl, hb, hx8, c0⟩ := h.at_ (k := 0) (by simp)
      simp only [List.getElem_cons_zero, Nat.add_zero] at hx8 c0
      have hN0 : 1 ≤ N := by rw [← hN]; simp
      have hNb : ((N : Int) == 0) = false := by simp; omega
      have hd : decide ((x : Int) > 127) = true := by simp; omega
      clear h hN hp hown hr hrun hb2 hM hQ
      go_enter Try.func26, Try.ntmps26
      go_wp2_with (at_builtin; refine wpList_app rfl _ _ _ _ rfl _ _ rfl rfl HRUN.out ?_)
      go_ret
      exact ⟨A', c', rfl, HR.out, h4, h5, HB.out⟩
  · obtain ⟨x, t, rfl⟩ := List.exists_cons_of_ne_nil (fun e => hl (.inl e))
    have hx : ¬ 128 ≤ x := fun e => hl (.inr ⟨x, t, rfl, e⟩)
    have hp := putN_same (t := t) hx
    rw [hQ] at hp
    obtain ⟨v', w2, hrun, hown, hb2⟩ := app8 (k := []) (c := c) (made_own w) hN (h.below (bel1 w (.cells #[] 5))) (by simp) (by rw [hN]; simp; omega)
    rw [← hp] at hown
    obtain ⟨A', c', rfl, hr, h4, h5, _, _⟩ := own8_open H8.out hown
    rw [hM] at h4 hrun
    have HRUN := Lib.hid hrun
    have HR := Lib.hid hr
    have HB := Lib.hid ((bel1 w (.cells #[] 5)).trans (hb2.mono (Nat.le_refl _)))
    obtain ⟨b, off, rfl, hb, hx8, c0⟩ := h.at_ (k := 0) (by simp)
    simp only [List.getElem_cons_zero, Nat.add_zero] at hx8 c0
    have hN0 : 1 ≤ N := by rw [← hN]; simp
    have hNb : ((N : Int) == 0) = false := by simp; omega
    have hd : decide ((x : Int) > 127) = false := by simp; omega
    clear h hN hp hown hr hrun hb2 hM hQ hl
    go_enter Try.func26, Try.ntmps26
    go_wp2_with (at_builtin; refine wpList_app rfl _ _ _ _ rfl _ _ rfl rfl HRUN.out ?_)
    go_ret
    exact ⟨A', c', rfl, HR.out, h4, h5, HB.out⟩

/-- Octets and an error are returned, perhaps with spare capacity. -/
def GiveT (w : World) (l : List Nat) (f : Nat) (e : Ending) (w' : World) : Prop :=
  ∃ A c, e = .returned (.tuple #[.slice A l.length c, .int .i64 (f : Int)]) ∧ Rb w' A l ∧ l.length ≤ c ∧ c ≤ maxLen ∧ Below w.heap.size w w'
theorem rgn_bad (A : Option Addr) (l : List Nat) (N c : Nat) (w : World) (h : Rb w A l) (hN : l.length = N) (hm : minB l = false ∨ negB l = true) :
    Calls Try.prog 22 #[.slice A N c] w (GiveT w (gnL l) (gnE l)) := by
  obtain ⟨e1, e2⟩ := gnE_bad hm
  rw [e1, e2]
  cases l with
  | nil =>
    obtain rfl : 0 = N := hN
    clear h hm e1 e2
    go_enter Try.func22, Try.ntmps22
    go_wp2_with fail
    go_ret2
    exact ⟨none, 0, rfl, Rb.nil, Nat.le_refl _, by unfold maxLen; omega, Below.refl _ _⟩
  | cons x t =>
    obtain ⟨b, off, rfl, hb, hx8, c0⟩ := h.at_ (k := 0) (by simp)
    simp only [List.getElem_cons_zero, Nat.add_zero] at hx8 c0
    have hN0 : 1 ≤ N := by rw [← hN]; simp
    have hNb : ((N : Int) == 0) = false := by simp; omega
    by_cases hx : 128 ≤ x
    · have hd : decide ((x : Int) > 127) = true := by simp; omega
      clear h hm e1 e2 hN
      go_enter Try.func22, Try.ntmps22
      go_wp2_with fail
      go_ret2
      exact ⟨none, 0, rfl, Rb.nil, Nat.le_refl _, by unfold maxLen; omega, Below.refl _ _⟩
    · have hmin : minB (x :: t) = false := by
        rcases hm with hm | hm
        · exact hm
        · exact absurd (by simpa [negB] using hm) hx
      match t, h, hN, hmin with
      | y :: t, h, hN, hmin =>
        rw [minB_two] at hmin
        simp at hmin
        obtain rfl : x = 0 := by omega
        have hy : decide ((y : Int) < 128) = true := by simp; omega
        have hd : decide ((N : Int) > 1) = true := by rw [← hN]; simp; omega
        obtain ⟨b', off', e, _, _, _, _, c1⟩ := two_cells h
        simp only [Option.some.injEq, Addr.mk.injEq, and_true] at e
        obtain ⟨rfl, rfl⟩ := e
        have hN1 : 2 ≤ N := by rw [← hN]; simp
        clear h hm e1 e2 hN hmin
        go_enter Try.func22, Try.ntmps22
        go_wp2_with fail
        go_ret2
        exact ⟨none, 0, rfl, Rb.nil, Nat.le_refl _, by unfold maxLen; omega, Below.refl _ _⟩
set_option maxRecDepth 100000 in
set_option maxHeartbeats 2000000 in
theorem rgn_good (A : Option Addr) (l : List Nat) (N c : Nat) (w : World) (h : Rb w A l) (hN : l.length = N) (hn : N ≤ 80) (hm : minB l = true) (hg : negB l = false) :
    Calls Try.prog 22 #[.slice A N c] w (GiveT w (gnL l) (gnE l)) := by
  obtain ⟨x, t, rfl⟩ := List.exists_cons_of_ne_nil (show l ≠ [] by rintro rfl; cases hm)
  have hcut := cutL_eq (l := x :: t) h.2
  have hv := dgs10_le (val_lt80 h.2 (by rw [hN]; exact hn))
  have HOf0 := rof_any A (x :: t) c w (by rw [hN]; exact hn) h
  rw [hN] at HOf0
  have HOf := Lib.hid HOf0
  clear HOf0
  obtain ⟨b, off, rfl, hb, hx8, c0⟩ := h.at_ (k := 0) (by simp)
  simp only [List.getElem_cons_zero, Nat.add_zero] at hx8 c0
  have hN0 : 1 ≤ N := by rw [← hN]; simp
  have hNb : ((N : Int) == 0) = false := by simp; omega
  have hx : ¬ 128 ≤ x := by simpa [negB] using hg
  have hd : decide ((x : Int) > 127) = false := by simp; omega
  have HBy := Lib.hid (fun A' c' w' (h : Ri w' A' (dgs 10 (val (x :: t)))) => bytes_any A' (val (x :: t)) c' w' (by omega) h)
  rw [← hcut] at HBy
  have h64 : gnE (x :: t) = (if 64 < (cutL (x :: t)).length then 3 else 0) := by
    unfold gnE
    rw [if_neg (by simp [hm, hg])]
  have hgl : gnL (x :: t) = if 64 < (cutL (x :: t)).length then [] else cutL (x :: t) := by
    unfold gnL
    rw [h64]
    split <;> simp_all
  rw [h64, hgl]
  obtain ⟨D, hD⟩ : ∃ D, cutL (x :: t) = D := ⟨_, rfl⟩
  rw [hD] at HBy ⊢
  obtain ⟨E, hE⟩ : ∃ E, dgs 10 (val (x :: t)) = E := ⟨_, rfl⟩
  rw [hE] at HBy HOf
  have hcs : (x = 0 → N = 1 ∨ ∃ y, 2 ≤ N ∧ 128 ≤ y ∧ w.cell? ⟨b, off + 1, none⟩ = some (.int .u8 (y : Int))) := by
    rintro rfl
    match t, h, hN, hm with
    | [], _, hN, _ => exact .inl hN.symm
    | y :: t, h, hN, hmin =>
      rw [minB_two] at hmin
      simp at hmin
      obtain ⟨b', off', e, _, _, _, _, c1⟩ := two_cells h
      simp only [Option.some.injEq, Addr.mk.injEq, and_true] at e
      obtain ⟨rfl, rfl⟩ := e
      exact .inr ⟨y, by rw [← hN]; simp, by omega, c1⟩
  clear h hN hm hg hcut hv h64 hgl hD hE
  obtain ⟨M, hM⟩ : ∃ M, D.length = M := ⟨_, rfl⟩
  rw [hM]
  have HM := Lib.hid hM
  clear hM
  by_cases h64 : 64 < M
  · rw [if_pos h64, if_pos h64]
    have hdm : decide ((M : Int) > 64) = true := by simp; omega
    by_cases hx0 : x = 0
    · subst hx0
      rcases hcs rfl with hN1 | ⟨y, hN2, hy, cy⟩
      · have hdn : decide ((N : Int) > 1) = false := by simp; omega
        clear hcs hN1
        go_enter Try.func22, Try.ntmps22
        go_wp2_with fail
        refine HOf.out.mono ?_
        rintro e w1 ⟨A1, c1, rfl, h1, h2, h3, hb1⟩
        have HR1 := Lib.hid h1
        have HB1 := Lib.hid hb1
        clear h1 hb1
        go_wp2_with fail
        refine (HBy.out A1 c1 w1 HR1.out).mono ?_
        rintro e w2 ⟨A2, c2, rfl, h4, h5, h6, hb2⟩
        rw [HM.out]
        have HR2 := Lib.hid h4
        have HB2 := bt HB1 (Lib.hid hb2)
        clear h4 hb2
        go_wp2_with fail
        go_ret2
        exact ⟨none, 0, rfl, Rb.nil, Nat.le_refl _, by unfold maxLen; omega, HB2.out⟩
      · have hdn : decide ((N : Int) > 1) = true := by simp; omega
        have hdy : decide ((y : Int) < 128) = false := by simp; omega
        clear hcs
        go_enter Try.func22, Try.ntmps22
        go_wp2_with fail
        refine HOf.out.mono ?_
        rintro e w1 ⟨A1, c1, rfl, h1, h2, h3, hb1⟩
        have HR1 := Lib.hid h1
        have HB1 := Lib.hid hb1
        clear h1 hb1
        go_wp2_with fail
        refine (HBy.out A1 c1 w1 HR1.out).mono ?_
        rintro e w2 ⟨A2, c2, rfl, h4, h5, h6, hb2⟩
        rw [HM.out]
        have HR2 := Lib.hid h4
        have HB2 := bt HB1 (Lib.hid hb2)
        clear h4 hb2
        go_wp2_with fail
        go_ret2
        exact ⟨none, 0, rfl, Rb.nil, Nat.le_refl _, by unfold maxLen; omega, HB2.out⟩
    · have hdx : ((x : Int) == 0) = false := by simp; exact hx0
      clear hcs
      by_cases hN2 : 2 ≤ N
      · have hdn : decide ((N : Int) > 1) = true := by simp; omega
        go_enter Try.func22, Try.ntmps22
        go_wp2_with fail
        refine HOf.out.mono ?_
        rintro e w1 ⟨A1, c1, rfl, h1, h2, h3, hb1⟩
        have HR1 := Lib.hid h1
        have HB1 := Lib.hid hb1
        clear h1 hb1
        go_wp2_with fail
        refine (HBy.out A1 c1 w1 HR1.out).mono ?_
        rintro e w2 ⟨A2, c2, rfl, h4, h5, h6, hb2⟩
        rw [HM.out]
        have HR2 := Lib.hid h4
        have HB2 := bt HB1 (Lib.hid hb2)
        clear h4 hb2
        go_wp2_with fail
        go_ret2
        exact ⟨none, 0, rfl, Rb.nil, Nat.le_refl _, by unfold maxLen; omega, HB2.out⟩
      · have hdn : decide ((N : Int) > 1) = false := by simp; omega
        go_enter Try.func22, Try.ntmps22
        go_wp2_with fail
        refine HOf.out.mono ?_
        rintro e w1 ⟨A1, c1, rfl, h1, h2, h3, hb1⟩
        have HR1 := Lib.hid h1
        have HB1 := Lib.hid hb1
        clear h1 hb1
        go_wp2_with fail
        refine (HBy.out A1 c1 w1 HR1.out).mono ?_
        rintro e w2 ⟨A2, c2, rfl, h4, h5, h6, hb2⟩
        rw [HM.out]
        have HR2 := Lib.hid h4
        have HB2 := bt HB1 (Lib.hid hb2)
        clear h4 hb2
        go_wp2_with fail
        go_ret2
        exact ⟨none, 0, rfl, Rb.nil, Nat.le_refl _, by unfold maxLen; omega, HB2.out⟩
  · rw [if_neg h64, if_neg h64]
    have hdm : decide ((M : Int) > 64) = false := by simp; omega
    by_cases hx0 : x = 0
    · subst hx0
      rcases hcs rfl with hN1 | ⟨y, hN2, hy, cy⟩
      · have hdn : decide ((N : Int) > 1) = false := by simp; omega
        clear hcs hN1
        go_enter Try.func22, Try.ntmps22
        go_wp2_with fail
        refine HOf.out.mono ?_
        rintro e w1 ⟨A1, c1, rfl, h1, h2, h3, hb1⟩
        have HR1 := Lib.hid h1
        have HB1 := Lib.hid hb1
        clear h1 hb1
        go_wp2_with fail
        refine (HBy.out A1 c1 w1 HR1.out).mono ?_
        rintro e w2 ⟨A2, c2, rfl, h4, h5, h6, hb2⟩
        rw [HM.out]
        have HR2 := Lib.hid h4
        have HB2 := bt HB1 (Lib.hid hb2)
        clear h4 hb2
        go_wp2_with fail
        go_ret2
        exact ⟨A2, c2, by rw [HM.out]; rfl, HR2.out, h5, h6, HB2.out⟩
      · have hdn : decide ((N : Int) > 1) = true := by simp; omega
        have hdy : decide ((y : Int) < 128) = false := by simp; omega
        clear hcs
        go_enter Try.func22, Try.ntmps22
        go_wp2_with fail
        refine HOf.out.mono ?_
        rintro e w1 ⟨A1, c1, rfl, h1, h2, h3, hb1⟩
        have HR1 := Lib.hid h1
        have HB1 := Lib.hid hb1
        clear h1 hb1
        go_wp2_with fail
        refine (HBy.out A1 c1 w1 HR1.out).mono ?_
        rintro e w2 ⟨A2, c2, rfl, h4, h5, h6, hb2⟩
        rw [HM.out]
        have HR2 := Lib.hid h4
        have HB2 := bt HB1 (Lib.hid hb2)
        clear h4 hb2
        go_wp2_with fail
        go_ret2
        exact ⟨A2, c2, by rw [HM.out]; rfl, HR2.out, h5, h6, HB2.out⟩
    · have hdx : ((x : Int) == 0) = false := by simp; exact hx0
      clear hcs
      by_cases hN2 : 2 ≤ N
      · have hdn : decide ((N : Int) > 1) = true := by simp; omega
        go_enter Try.func22, Try.ntmps22
        go_wp2_with fail
        refine HOf.out.mono ?_
        rintro e w1 ⟨A1, c1, rfl, h1, h2, h3, hb1⟩
        have HR1 := Lib.hid h1
        have HB1 := Lib.hid hb1
        clear h1 hb1
        go_wp2_with fail
        refine (HBy.out A1 c1 w1 HR1.out).mono ?_
        rintro e w2 ⟨A2, c2, rfl, h4, h5, h6, hb2⟩
        rw [HM.out]
        have HR2 := Lib.hid h4
        have HB2 := bt HB1 (Lib.hid hb2)
        clear h4 hb2
        go_wp2_with fail
        go_ret2
        exact ⟨A2, c2, by rw [HM.out]; rfl, HR2.out, h5, h6, HB2.out⟩
      · have hdn : decide ((N : Int) > 1) = false := by simp; omega
        go_enter Try.func22, Try.ntmps22
        go_wp2_with fail
        refine HOf.out.mono ?_
        rintro e w1 ⟨A1, c1, rfl, h1, h2, h3, hb1⟩
        have HR1 := Lib.hid h1
        have HB1 := Lib.hid hb1
        clear h1 hb1
        go_wp2_with fail
        refine (HBy.out A1 c1 w1 HR1.out).mono ?_
        rintro e w2 ⟨A2, c2, rfl, h4, h5, h6, hb2⟩
        rw [HM.out]
        have HR2 := Lib.hid h4
        have HB2 := bt HB1 (Lib.hid hb2)
        clear h4 hb2
        go_wp2_with fail
        go_ret2
        exact ⟨A2, c2, by rw [HM.out]; rfl, HR2.out, h5, h6, HB2.out⟩
theorem rgnat_any (A : Option Addr) (l : List Nat) (N c : Nat) (w : World) (h : Rb w A l) (hN : l.length = N) (hn : N ≤ 80) :
    Calls Try.prog 22 #[.slice A N c] w (GiveT w (gnL l) (gnE l)) := by
  cases hm : minB l
  · exact rgn_bad A l N c w h hN (.inl hm)
  cases hg : negB l
  · exact rgn_good A l N c w h hN hn hm hg
  · exact rgn_bad A l N c w h hN (.inr hg)
end Go.Proofs.Ytdmbkbgnlmiilaa.Scl
