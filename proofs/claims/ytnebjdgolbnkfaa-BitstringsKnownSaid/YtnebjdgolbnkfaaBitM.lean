/-
  The reference of layer 8: contracts of Check, Get, GetNamed.
  Conditions: slices read as bytes, and are short.
-/
import Derived.Test.YtnebjdgolbnkfaaBitK
namespace Go.Proofs.Ytnebjdgolbnkfaa.Bit
open Go.RowKit

theorem okB_zr {b : List Nat} {k : Nat} (h1 : k ≤ 8 * b.length) (h2 : 8 * b.length ≤ k + 7) : okB b (k : Int) = zr b k := by
  unfold okB
  rw [decide_eq_true (show (0 : Int) ≤ k by omega), decide_eq_true (show (k : Int) ≤ 8 * (b.length : Int) by omega), decide_eq_true (show 8 * (b.length : Int) ≤ (k : Int) + 7 by omega)]
  simp
theorem zr_stop {b : List Nat} {k i : Nat} (h : k ≤ i) (hb : bt1 b i ≠ 0) : zr b k = false := by
  rw [Bool.eq_false_iff]
  intro e
  exact hb (zr_iff.1 e i h)
theorem zr_all {b : List Nat} {k : Nat} (h : ∀ j, k ≤ j → j < 8 * b.length → bt1 b j = 0) : zr b k = true := by
  refine zr_iff.2 fun i hi => ?_
  by_cases hl : i < 8 * b.length
  · exact h i hi hl
  · unfold bt1; rw [List.getD_eq_getElem?_getD, List.getElem?_eq_none (by omega)]; simp
theorem bts_cell {l : List Nat} {M i : Nat} {A : Option Addr} {w : World} (hr : Ri w A (bts l)) (hM : l.length = M) (hi : i < 8 * M) : ∃ b off, A = some ⟨b, off, none⟩ ∧ b < w.heap.size ∧ w.cell? ⟨b, off + i, none⟩ = some (.int .i64 ((bt1 l i : Nat) : Int)) := by
  have hl : i < (bts l).length := by rw [bts_length, hM]; exact hi
  obtain ⟨b, off, e, hb, hc⟩ := hr.at_ hl
  have := bts_get (b := l) (i := i) (by rw [hM]; exact hi)
  rw [List.getElem?_eq_getElem hl] at this
  exact ⟨b, off, e, hb, by rw [hc, Option.some.inj this]⟩

set_option maxHeartbeats 1000000 in
set_option maxRecDepth 100000 in
theorem rcheck_any (A : Option Addr) (l : List Nat) (N c : Nat) (n : Int) (w : World) (h : Rb w A l) (hN : l.length = N) (hm : N ≤ 1000) (hn1 : -9223372036854775808 ≤ n) (hn2 : n < 9223372036854775808) :
    Calls Try.prog 25 #[.slice A N c, .int .i64 n] w fun e w' => e = .returned (.int .i64 ((chkB l n : Nat) : Int)) ∧ Below w.heap.size w w' := by
  by_cases h0 : n < 0
  · have HE := Lib.hid (show chkB l n = 1 by unfold chkB; rw [if_neg (by omega), okB_not (.inl h0)]; rfl)
    rw [HE.out]
    clear h hN HE
    go_enter Try.func25, Try.ntmps25
    go_wp2_with fail
    go_ret
    exact ⟨rfl, Below.refl _ _⟩
  have h0' : 0 ≤ n := by omega
  clear h0
  by_cases h5 : 524288 < n
  · have HE := Lib.hid (show chkB l n = 3 by unfold chkB; rw [if_pos h5])
    rw [HE.out]
    clear h hN HE
    go_enter Try.func25, Try.ntmps25
    go_wp2_with fail
    go_ret
    exact ⟨rfl, Below.refl _ _⟩
  have HE := Lib.hid (show chkB l n = if okB l n then 0 else 1 by unfold chkB; rw [if_neg h5])
  have h5' : n ≤ 524288 := by omega
  clear h5
  by_cases h8 : 8 * (N : Int) - n < 0
  · have HF := Lib.hid (show chkB l n = 1 by rw [HE.out, okB_not (.inr (.inl (by rw [hN]; exact h8)))]; rfl)
    rw [HF.out]
    clear h hN HE HF
    go_enter Try.func25, Try.ntmps25
    go_wp2_with fail
    go_ret
    exact ⟨rfl, Below.refl _ _⟩
  have h8' : 0 ≤ 8 * (N : Int) - n := by omega
  by_cases h7 : 7 < 8 * (N : Int) - n
  · have HF := Lib.hid (show chkB l n = 1 by rw [HE.out, okB_not (.inr (.inr (by rw [hN]; exact h7)))]; rfl)
    rw [HF.out]
    have hd : decide (8 * (N : Int) - n < 0) = false := by simp; omega
    clear h hN HE HF h8
    go_enter Try.func25, Try.ntmps25
    go_wp2_with fail
    go_ret
    exact ⟨rfl, Below.refl _ _⟩
  have HB := Lib.hid (rbits_any A l N c w h hN hm)
  have HN := Lib.hid hN
  obtain ⟨k, rfl⟩ : ∃ k : Nat, n = k := ⟨n.toNat, by omega⟩
  have HZ := Lib.hid (show chkB l (k : Int) = if zr l k then 0 else 1 by rw [HE.out, okB_zr (by omega) (by omega)])
  have h7' : 8 * (N : Int) - (k : Int) ≤ 7 := by omega
  have hd : decide (8 * (N : Int) - (k : Int) < 0) = false := by simp; omega
  have hd7 : decide (7 < 8 * (N : Int) - (k : Int)) = false := by simp; omega
  have hk8 : k ≤ 8 * N := by omega
  generalize chkB l (k : Int) = f at *
  clear h hN HE h8 h7 hn1 hn2 h5'
  go_enter Try.func25, Try.ntmps25
  go_wp2_with fail
  refine HB.out.mono ?_
  rintro e w1 ⟨A1, n1, c1, hl, rfl, hr, hc1, hc2, hb⟩
  obtain rfl : n1 = 8 * N := by rw [← hl, bts_length, HN.out]
  have HR := Lib.hid hr
  have HB1 := Lib.hid hb
  obtain ⟨L, hL⟩ : ∃ L, 8 * N = L := ⟨_, rfl⟩
  have HL := Lib.hid hL
  rw [hL] at hk8 ⊢
  have hL2 : L ≤ 8000 := by omega
  clear hl hr hc1 hc2 hb HB hd hd7 h8' h7' hL
  go_wp2_with fail
  go_loop [6] (fun i => ∃ j : Nat, k ≤ j ∧ j ≤ L ∧ i = .int .i64 (j : Int) ∧ (∀ q, k ≤ q → q < j → bt1 l q = 0)) (fun i => L - (intOf i).toNat)
  case atStart => exact ⟨k, Nat.le_refl _, hk8, rfl, fun q h1 h2 => absurd h1 (by omega)⟩
  case round =>
    obtain ⟨j, hj1, hj2, rfl, hq⟩ := hrel
    have HQ := Lib.hid hq
    clear hq
    by_cases hlt : j < L
    · obtain ⟨b, off, rfl, hbz, hcell⟩ := bts_cell HR.out HN.out (show j < 8 * N by rw [HL.out]; exact hlt)
      rcases bt1_or l j with hb | hb
      · rw [hb] at hcell
        have HQ2 := Lib.hid (show ∀ q, k ≤ q → q < j + 1 → bt1 l q = 0 from fun q h1 h2 => by
          rcases Nat.lt_succ_iff_lt_or_eq.1 h2 with h2 | rfl
          · exact HQ.out q h1 h2
          · exact hb)
        clear hb HQ
        go_wp2_with fail
        exact ⟨⟨j + 1, by omega, by omega, by go_num, HQ2.out⟩, by simp [intOf]; omega⟩
      · have HF : Hid (f = 1) := Lib.hid (by rw [HZ.out, zr_stop hj1 (by omega)]; rfl)
        rw [hb] at hcell
        obtain rfl := HF.out
        clear hb HQ HF
        go_wp2_with fail
        go_ret
        exact ⟨rfl, HB1.out⟩
    · have HF : Hid (f = 0) := Lib.hid (by
        rw [HZ.out, zr_all (fun q h1 h2 => HQ.out q h1 (by rw [HN.out, HL.out] at h2; omega))]; rfl)
      obtain rfl := HF.out
      clear HQ HF
      go_wp2_with fail
      go_ret
      exact ⟨rfl, HB1.out⟩

/-- Bits and an error are returned. -/
def GiveLE (w : World) (l : List Nat) (f : Nat) (e : Ending) (w' : World) : Prop :=
  ∃ A n c, l.length = n ∧ e = .returned (.tuple #[.slice A n c, .int .i64 (f : Int)]) ∧ Ri w' A l ∧ n ≤ c ∧ c ≤ maxLen ∧ Below w.heap.size w w'
theorem gt_small {l : List Nat} (h : l.length ≤ 1000) : gtE l = szE l := by
  unfold gtE
  rcases szE_or l with hs | hs
  · obtain ⟨u, t, rfl, _, x2, _, _⟩ := szE_0 hs
    rw [hs, if_pos rfl, if_neg (by rw [x2]; simp at h; omega)]
  · rw [hs]; rfl
theorem gt_bad {l : List Nat} (h : l.length ≤ 1000) (hs : szE l = 11) : gtE l = 11 ∧ gtL l = [] := by
  have e : gtE l = 11 := by rw [gt_small h, hs]
  exact ⟨e, by unfold gtL; rw [if_neg (by omega)]⟩
theorem szE_no {u : Nat} {t : List Nat} (h : 7 < u ∨ 8 * t.length < u) : szE (u :: t) = 11 := by
  rcases szE_or (u :: t) with hs | hs
  · obtain ⟨u', t', e, _, _, x3, x4⟩ := szE_0 hs
    injection e with e1 e2
    subst e1 e2
    omega
  · exact hs
theorem szE_zr {u : Nat} {t : List Nat} (h : u ≤ 7) (h2 : u ≤ 8 * t.length) : szE (u :: t) = if zr t (8 * t.length - u) then 0 else 11 := by
  cases hz : zr t (8 * t.length - u) with
  | true => exact (szE_cons h h2 hz).1
  | false =>
    rcases szE_or (u :: t) with hs | hs
    · obtain ⟨u', t', e, x1, _, x3, x4⟩ := szE_0 hs
      injection e with e1 e2
      subst e1 e2
      obtain ⟨_, _, _, x5⟩ := okB_iff.1 x1
      rw [show (8 * (t.length : Int) - (u : Nat)).toNat = 8 * t.length - u by omega, hz] at x5
      cases x5
    · exact hs
theorem gt_good {u : Nat} {t : List Nat} (h : (u :: t).length ≤ 1000) (h7 : u ≤ 7) (h2 : u ≤ 8 * t.length) (hz : zr t (8 * t.length - u) = true) : gtE (u :: t) = 0 ∧ gtL (u :: t) = (bts t).take (8 * t.length - u) := by
  obtain ⟨s1, s2⟩ := szE_cons h7 h2 hz
  have e : gtE (u :: t) = 0 := by rw [gt_small h, s1]
  exact ⟨e, by unfold gtL; rw [if_pos e, s2]; rfl⟩
theorem slice_toI (A : Option Addr) (L c q : Nat) (hq : q ≤ c) (W : World) : (Instr.slice 25 (.slice A L c) none (some (.int .i64 (q : Int))) none).run Try.prog W = .ok (.slice A q c) W := by
  have hsz : ∀ W, (sizeOf (Try.prog.elem 25)).run Try.prog W = .ok 1 W := fun W => by kernel_rfl
  rw [run_slice_h (P := Try.prog) W 25 A L c (by kernel_rfl) .i64 (q : Int) (by omega) (by omega), hsz W]
  simp only [Result.andThen, sliced, Int.toNat_natCast]
  cases A with
  | none => simp
  | some a => obtain ⟨b, o, r⟩ := a; simp [Addr.add]
theorem slice_toI' (A : Option Addr) (L c q : Nat) (hq : q ≤ c) (W : World) : (Instr.sliceAt 25 (.slice A L c) none (some (.int .i64 (q : Int))) none).run Try.prog W = .ok (.slice A q c) W := by
  rw [← slice_toI A L c q hq W]; exact run_sliceAt_slice (P := Try.prog) W 25 _ _ _ _ (by kernel_rfl)

set_option maxHeartbeats 1000000 in
set_option maxRecDepth 100000 in
theorem rget_any (A : Option Addr) (l : List Nat) (N c : Nat) (w : World) (h : Rb w A l) (hN : l.length = N) (hm : N ≤ 1000) (hc : N ≤ c) :
    Calls Try.prog 20 #[.slice A N c] w (GiveLE w (gtL l) (gtE l)) := by
  cases l with
  | nil =>
    obtain rfl : 0 = N := hN
    rw [show gtE [] = 11 from rfl, show gtL [] = [] from rfl]
    clear h
    go_enter Try.func20, Try.ntmps20
    go_wp2_with fail
    go_ret2
    exact ⟨none, 0, 0, rfl, rfl, Rd.nil, Nat.le_refl _, Nat.zero_le _, Below.refl _ _⟩
  | cons u t =>
    have hN1 : 1 ≤ N := by rw [← hN]; simp
    have hNb : ((N : Int) == 0) = false := by simp; omega
    obtain ⟨A', q1, q2, hA'⟩ := slice_one N c A (u :: t) hN hN1 hc
    have hr := hA' w h
    simp only [List.tail_cons] at hr
    obtain ⟨b, off, rfl, hb, hu, hcu⟩ := h.at_ (k := 0) (by simp)
    simp only [List.getElem_cons_zero, Nat.add_zero] at hu hcu
    obtain ⟨M, hM⟩ : ∃ M, N - 1 = M := ⟨_, rfl⟩
    have htl : t.length = M := by rw [List.length_cons] at hN; omega
    have hMN : (N : Int) - 1 = (M : Int) := by omega
    have hlen : (u :: t).length ≤ 1000 := by rw [hN]; exact hm
    rw [hM] at q1 q2
    by_cases h7 : 7 < u
    · obtain ⟨e1, e2⟩ := gt_bad hlen (szE_no (.inl h7))
      rw [e1, e2]
      have h7' : (7 : Int) < (u : Int) := by omega
      clear h hA' hr hN htl hM e1 e2 hlen
      go_enter Try.func20, Try.ntmps20
      go_wp2_with fail
      go_ret2
      exact ⟨none, 0, 0, rfl, rfl, Rd.nil, Nat.le_refl _, Nat.zero_le _, Below.refl _ _⟩
    have h7d : decide ((7 : Int) < (u : Int)) = false := by simp; omega
    have h7' : u ≤ 7 := by omega
    by_cases h8 : 8 * M < u
    · obtain ⟨e1, e2⟩ := gt_bad hlen (szE_no (.inr (by rw [htl]; exact h8)))
      rw [e1, e2]
      have h8' : 8 * (M : Int) < (u : Int) := by omega
      clear h hA' hr hN htl hM e1 e2 hlen h7
      go_enter Try.func20, Try.ntmps20
      go_wp2_with fail
      go_ret2
      exact ⟨none, 0, 0, rfl, rfl, Rd.nil, Nat.le_refl _, Nat.zero_le _, Below.refl _ _⟩
    have h8d : decide (8 * (M : Int) < (u : Int)) = false := by simp; omega
    have HBT := Lib.hid (rbits_any A' t M (c - 1) w hr htl (by omega))
    have HT := Lib.hid htl
    have HGood := Lib.hid (gt_good hlen h7' (by rw [htl]; omega))
    have HBad := Lib.hid (gt_bad hlen)
    have HSz := Lib.hid (szE_zr h7' (show u ≤ 8 * t.length by rw [htl]; omega))
    rw [htl] at HGood HSz
    obtain ⟨k, hk⟩ : ∃ k, 8 * M - u = k := ⟨_, rfl⟩
    rw [hk] at HGood HSz
    have HK := Lib.hid hk
    have hkI : 8 * (M : Int) - (u : Int) = (k : Int) := by omega
    have hk8 : k ≤ 8 * M := by omega
    have hM9 : M ≤ 999 := by omega
    generalize szE (u :: t) = S at *
    generalize gtE (u :: t) = E at *
    generalize gtL (u :: t) = G at *
    clear h hA' hr hN htl hM hlen h7 h8 hk
    go_enter Try.func20, Try.ntmps20
    go_wp2_with fail
    refine HBT.out.mono ?_
    rintro e w1 ⟨A1, n1, c1, hl, rfl, hr, hc1, hc2, hb1⟩
    obtain rfl : n1 = 8 * M := by rw [← hl, bts_length, HT.out]
    have HR := Lib.hid hr
    have HB1 := Lib.hid hb1
    have HC1 := Lib.hid (And.intro hc1 hc2)
    have hcu1 := (hb1.cell (p := ⟨b, off, none⟩) hb).trans hcu
    have hbz1 := Nat.lt_of_lt_of_le hb hb1.size
    have q3 := slice_toI A1 (8 * M) c1 k (by omega)
    have q3' := slice_toI' A1 (8 * M) c1 k (by omega)
    have HKC := Lib.hid (show k ≤ c1 by omega)
    obtain ⟨L, hL⟩ : ∃ L, 8 * M = L := ⟨_, rfl⟩
    have HL := Lib.hid hL
    rw [hL] at hk8 ⊢
    have hkL : (L : Int) - (u : Int) = (k : Int) := by omega
    rw [hL] at q3 q3'
    have hL2 : L ≤ 8000 := by omega
    clear hl hr hc1 hc2 hb1 HBT hL hkI h7d h8d hcu hb
    go_wp2_with fail
    go_loop [6] (fun i => ∃ j : Nat, k ≤ j ∧ j ≤ L ∧ i = .int .i64 (j : Int) ∧ (∀ q, k ≤ q → q < j → bt1 t q = 0)) (fun i => L - (intOf i).toNat)
    case atStart => exact ⟨k, Nat.le_refl _, hk8, rfl, fun q h1 h2 => absurd h1 (by omega)⟩
    case round =>
      obtain ⟨j, hj1, hj2, rfl, hq⟩ := hrel
      have HQ := Lib.hid hq
      clear hq
      by_cases hlt : j < L
      · obtain ⟨b1, off1, rfl, hbz, hcell⟩ := bts_cell HR.out HT.out (show j < 8 * M by rw [HL.out]; exact hlt)
        rcases bt1_or t j with hb | hb
        · rw [hb] at hcell
          have HQ2 := Lib.hid (show ∀ q, k ≤ q → q < j + 1 → bt1 t q = 0 from fun q h1 h2 => by
            rcases Nat.lt_succ_iff_lt_or_eq.1 h2 with h2 | rfl
            · exact HQ.out q h1 h2
            · exact hb)
          clear hb HQ
          go_wp2_with fail
          exact ⟨⟨j + 1, by omega, by omega, by go_num, HQ2.out⟩, by simp [intOf]; omega⟩
        · have HF := Lib.hid (HBad.out (by rw [HSz.out, zr_stop hj1 (by omega)]; rfl))
          rw [hb] at hcell
          obtain ⟨rfl, rfl⟩ := HF.out
          clear hb HQ HF
          go_wp2_with fail
          go_ret2
          exact ⟨none, 0, 0, rfl, rfl, Rd.nil, Nat.le_refl _, Nat.zero_le _, HB1.out⟩
      · have HF := Lib.hid (HGood.out (zr_all (fun q h1 h2 => HQ.out q h1 (by rw [HT.out, HL.out] at h2; omega))))
        obtain ⟨rfl, hG⟩ := HF.out
        have HG := Lib.hid hG
        clear HQ HF hG
        go_wp2_with fail
        go_ret2
        refine ⟨A1, k, c1, ?_, rfl, ?_, HKC.out, HC1.out.2, HB1.out⟩
        · rw [HG.out, List.length_take, bts_length, HT.out, HL.out]; omega
        · rw [HG.out]; exact HR.out.take_ k
end Go.Proofs.Ytnebjdgolbnkfaa.Bit
