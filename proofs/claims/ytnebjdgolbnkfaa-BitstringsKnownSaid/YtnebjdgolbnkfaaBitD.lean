/-
  Package bitstrings: contracts of Put, Get, Bit, tag, checkPrimitive.
  Conditions: slices read as bytes, and are not longer than a million.
-/
import Derived.Test.YtnebjdgolbnkfaaBitC
import Derived.Deep.RegionHeld3
namespace Go.Proofs.Ytnebjdgolbnkfaa.Bit
open Go.RowKit

/-- Octets and an error are returned, without spare capacity, in new memory. -/
def GiveF (w : World) (l : List Nat) (f : Nat) (e : Ending) (w' : World) : Prop :=
  ∃ A N, l.length = N ∧ e = .returned (.tuple #[.slice A N N, .int .i64 (f : Int)]) ∧ Rb w' A l ∧ Below w.heap.size w w' ∧ (∀ q, A = some q → w.heap.size ≤ q.block)
/-- Octets, a number and an error are returned, without spare capacity, in new memory. -/
def GiveG (w : World) (l : List Nat) (k f : Nat) (e : Ending) (w' : World) : Prop :=
  ∃ A N, l.length = N ∧ e = .returned (.tuple #[.slice A N N, .int .i64 (k : Int), .int .i64 (f : Int)]) ∧ Rb w' A l ∧ Below w.heap.size w w' ∧ (∀ q, A = some q → w.heap.size ≤ q.block)
/-- What Bit reports. -/
def btB (l : List Nat) (n i : Int) : Bool := decide (chkB l n = 0) && decide (0 ≤ i) && decide (i < n) && decide (bt1 l i.toNat = 1)

set_option maxHeartbeats 400000 in
theorem put_any (A : Option Addr) (l : List Nat) (N c : Nat) (n : Int) (w : World) (h : Rb w A l) (hN : l.length = N) (hm : N ≤ 1000000) (hc : N ≤ c) (hn1 : -9223372036854775808 ≤ n) (hn2 : n < 9223372036854775808) :
    Calls Try.prog 11 #[.slice A N c, .int .i64 n] w (GiveF w (ptB l n) (chkB l n)) := by
  have HC := Lib.hid (check_any A l N c n w h hN hm hn1 hn2)
  by_cases hf : chkB l n = 0
  · have hok : okB l n = true := by
      unfold chkB at hf
      split at hf
      · omega
      · split at hf
        · assumption
        · omega
    obtain ⟨h1, h2, h3, _⟩ := okB_iff.1 hok
    rw [hN] at h2 h3
    obtain ⟨k, rfl⟩ : ∃ k : Nat, n = k := ⟨n.toNat, by omega⟩
    have HP := Lib.hid (show ptB l (k : Int) = (8 * N - k) :: l.take N by
      unfold ptB; rw [if_pos hf, hN, ← hN, List.take_length]; congr 1; omega)
    have HF := Lib.hid (first_any A l N c k N (8 * N - k) w h hN hm hc (by omega) (by omega) rfl)
    rw [HP.out, hf]
    rw [hf] at HC
    clear h hN hf hok h1 h2 h3 HP
    generalize (8 * N - k) :: l.take N = L at *
    go_enter Try.func11, Try.ntmps11
    go_wp2_with fail
    refine HC.out.mono ?_
    rintro e w' ⟨rfl, rfl⟩
    go_wp2_with fail
    refine HF.out.mono ?_
    rintro e w1 ⟨g, rfl, hr, hl, hb, hg⟩
    have HR := Lib.hid hr
    have HL := Lib.hid hl
    have HB := Lib.hid hb
    have HG := Lib.hid hg
    clear hr hl hb hg
    go_wp2_with fail
    go_ret2
    exact ⟨_, _, HL.out, rfl, HR.out, HB.out, fun q e => by injection e with e; subst e; exact HG.out⟩
  · have HP := Lib.hid (show ptB l n = [] by unfold ptB; rw [if_neg hf])
    rw [HP.out]
    obtain ⟨f, hfe⟩ : ∃ f, chkB l n = f := ⟨_, rfl⟩
    rw [hfe] at hf HC ⊢
    have hb : ((f : Int) != 0) = true := by simp; omega
    clear h hN hf HP hfe
    go_enter Try.func11, Try.ntmps11
    go_wp2_with fail
    refine HC.out.mono ?_
    rintro e w' ⟨rfl, rfl⟩
    go_wp2_with fail
    go_ret2
    exact ⟨none, 0, rfl, rfl, Rb.nil, Below.refl _ _, fun q e => by cases e⟩

set_option maxHeartbeats 400000 in
theorem get_any (A : Option Addr) (l : List Nat) (N c : Nat) (w : World) (h : Rb w A l) (hN : l.length = N) (hm : N ≤ 1000000) (hc : N ≤ c) :
    Calls Try.prog 28 #[.slice A N c] w (GiveG w (gtB l) (gtK l) (gtE l)) := by
  have HC := Lib.hid (size_any A l N c w h hN hm hc)
  have HE := Lib.hid (show gtE l = if szE l = 0 then (if 524288 < szN l then 3 else 0) else 11 from rfl)
  rcases szE_or l with hs | hs
  rotate_left
  · have hE : gtE l = 11 := by rw [HE.out, hs]; rfl
    have e1 : gtB l = [] := by unfold gtB; rw [hE]; rfl
    have e2 : gtK l = 0 := by unfold gtK; rw [hE]; rfl
    rw [hE, e1, e2]
    rw [hs] at HC
    generalize szN l = k at *
    clear h hN HE hs hE e1 e2
    go_enter Try.func28, Try.ntmps28
    go_wp2_with fail
    refine HC.out.mono ?_
    rintro e w' ⟨rfl, rfl⟩
    go_wp2_with fail
    go_ret3
    exact ⟨none, 0, rfl, rfl, Rb.nil, Below.refl _ _, fun q e => by cases e⟩
  · obtain ⟨u, t, rfl, x1, x2, x3, x4⟩ := szE_0 hs
    clear x1 x2 x3 x4
    have hN1 : 1 ≤ N := by rw [← hN]; simp
    by_cases hk : 524288 < szN (u :: t)
    · have hE : gtE (u :: t) = 3 := by rw [HE.out, hs, if_pos rfl, if_pos hk]
      have e1 : gtB (u :: t) = [] := by unfold gtB; rw [hE]; rfl
      have e2 : gtK (u :: t) = 0 := by unfold gtK; rw [hE]; rfl
      rw [hE, e1, e2]
      rw [hs] at HC
      generalize szN (u :: t) = k at *
      clear h hN HE hs hE e1 e2
      go_enter Try.func28, Try.ntmps28
      go_wp2_with fail
      refine HC.out.mono ?_
      rintro e w' ⟨rfl, rfl⟩
      go_wp2_with fail
      go_ret3
      exact ⟨none, 0, rfl, rfl, Rb.nil, Below.refl _ _, fun q e => by cases e⟩
    · have hE : gtE (u :: t) = 0 := by rw [HE.out, hs, if_pos rfl, if_neg hk]
      have e1 : gtB (u :: t) = t := by unfold gtB; rw [hE]; rfl
      have e2 : gtK (u :: t) = szN (u :: t) := by unfold gtK; rw [hE]; rfl
      rw [hE, e1, e2]
      rw [hs] at HC
      generalize szN (u :: t) = k at *
      obtain ⟨A', q1, q2, hA'⟩ := slice_one N c A (u :: t) hN hN1 hc
      obtain ⟨M, hM⟩ : ∃ M, N - 1 = M := ⟨_, rfl⟩
      rw [hM] at q1 q2
      have HCP := Lib.hid (copied_any A' t M (c - 1) w (hA' w h) (by rw [List.length_cons] at hN; omega) (by omega))
      clear h hN HE hs hE e1 e2 hA' hM
      go_enter Try.func28, Try.ntmps28
      go_wp2_with fail
      refine HC.out.mono ?_
      rintro e w' ⟨rfl, rfl⟩
      go_wp2_with fail
      refine HCP.out.mono ?_
      rintro e w1 ⟨g, rfl, hr, hl, hb, hg⟩
      have HR := Lib.hid hr
      have HL := Lib.hid hl
      have HB := Lib.hid hb
      have HG := Lib.hid hg
      clear hr hl hb hg
      go_wp2_with fail
      go_ret3
      exact ⟨_, _, HL.out, rfl, HR.out, HB.out, fun q e => by injection e with e; subst e; exact HG.out⟩

set_option maxHeartbeats 400000 in
theorem bit_any (A : Option Addr) (l : List Nat) (N c : Nat) (n i : Int) (w : World) (h : Rb w A l) (hN : l.length = N) (hm : N ≤ 1000000) (hn1 : -9223372036854775808 ≤ n) (hn2 : n < 9223372036854775808) (hi1 : -9223372036854775808 ≤ i) (hi2 : i < 9223372036854775808) :
    Calls Try.prog 18 #[.slice A N c, .int .i64 n, .int .i64 i] w fun e w' => e = .returned (.bool (btB l n i)) ∧ Below w.heap.size w w' := by
  have HC := Lib.hid (check_any A l N c n w h hN hm hn1 hn2)
  by_cases hf : chkB l n = 0
  rotate_left
  · have HP := Lib.hid (show btB l n i = false by unfold btB; rw [decide_eq_false hf]; rfl)
    rw [HP.out]
    obtain ⟨f, hfe⟩ : ∃ f, chkB l n = f := ⟨_, rfl⟩
    rw [hfe] at hf HC
    have hb : ((f : Int) == 0) = false := by simp; omega
    clear h hN hf HP hfe
    go_enter Try.func18, Try.ntmps18
    go_wp2_with fail
    refine HC.out.mono ?_
    rintro e w' ⟨rfl, rfl⟩
    go_wp2_with fail
    go_ret
    exact ⟨rfl, Below.refl _ _⟩
  rw [hf] at HC
  by_cases h0 : 0 ≤ i
  rotate_left
  · have HP := Lib.hid (show btB l n i = false by unfold btB; rw [decide_eq_false h0]; simp)
    rw [HP.out]
    have hd : decide (0 ≤ i) = false := by simp; omega
    clear h hN hf HP
    go_enter Try.func18, Try.ntmps18
    go_wp2_with fail
    refine HC.out.mono ?_
    rintro e w' ⟨rfl, rfl⟩
    go_wp2_with fail
    go_ret
    exact ⟨rfl, Below.refl _ _⟩
  by_cases h1 : i < n
  rotate_left
  · have HP := Lib.hid (show btB l n i = false by unfold btB; rw [decide_eq_false h1]; simp)
    rw [HP.out]
    have hd : decide (i < n) = false := by simp; omega
    clear h hN hf HP
    go_enter Try.func18, Try.ntmps18
    go_wp2_with fail
    refine HC.out.mono ?_
    rintro e w' ⟨rfl, rfl⟩
    go_wp2_with fail
    go_ret
    exact ⟨rfl, Below.refl _ _⟩
  · have hok : okB l n = true := by
      unfold chkB at hf
      split at hf
      · omega
      · split at hf
        · assumption
        · omega
    obtain ⟨_, h2, _, _⟩ := okB_iff.1 hok
    rw [hN] at h2
    obtain ⟨k, rfl⟩ : ∃ k : Nat, i = k := ⟨i.toNat, by omega⟩
    have HS := Lib.hid (isset_any A l N c k w h hN hm (by omega))
    have HP := Lib.hid (show btB l n (k : Int) = decide (bt1 l k = 1) by unfold btB; rw [decide_eq_true hf, decide_eq_true h0, decide_eq_true h1]; simp)
    rw [HP.out]
    generalize decide (bt1 l k = 1) = b at *
    clear h hN hf HP hok
    go_enter Try.func18, Try.ntmps18
    go_wp2_with fail
    refine HC.out.mono ?_
    rintro e w' ⟨rfl, rfl⟩
    go_wp2_with fail
    refine HS.out.mono ?_
    rintro e w1 ⟨rfl, m, rfl⟩
    go_wp2_with fail
    go_ret
    exact ⟨rfl, bel_drewN _ _⟩

/-- A tag's value; an element's value. -/
@[reducible] def tagV (c n : Nat) (k : Bool) : Value := .agg #[.int .u8 (c : Int), .bool k, .int .u32 (n : Int)]
@[reducible] def elV (c n : Nat) (k : Bool) (u v : Value) : Value := .agg #[.int .u8 (c : Int), .bool k, .int .u32 (n : Int), u, v]
theorem tag_any (n : Nat) (w : World) : Calls Try.prog 31 #[.int .u32 (n : Int)] w fun e w' => e = .returned (tagV 0 n false) ∧ Below w.heap.size w w' := by
  go_enter Try.func31, Try.ntmps31
  go_wp2_with fail
  exact bodyPost_ret (v := tagV 0 n false) (by simp [results, Try.results31, go_sem]) rfl ⟨rfl, bel1 _ _⟩
theorem Bk.five {w : World} {g : Nat} {t : TypeId} {a b c d e : Value} (h : Bk w g t [a, b, c, d, e]) : w.cell? ⟨g, 0, none⟩ = some a ∧ w.cell? ⟨g, 1, none⟩ = some b ∧ w.cell? ⟨g, 2, none⟩ = some c ∧ w.cell? ⟨g, 3, none⟩ = some d ∧ w.cell? ⟨g, 4, none⟩ = some e ∧ g < w.heap.size :=
  ⟨h.cell 0, h.cell 1, h.cell 2, h.cell 3, h.cell 4, h.lt⟩
theorem Bk.free5 {w : World} {g : Nat} {t : TypeId} {cs : List Value} (h : Bk w g t cs) : w.frozen? ⟨g, 0, none⟩ = false ∧ w.frozen? ⟨g, 1, none⟩ = false ∧ w.frozen? ⟨g, 2, none⟩ = false ∧ w.frozen? ⟨g, 3, none⟩ = false ∧ w.frozen? ⟨g, 4, none⟩ = false :=
  ⟨h.free 0, h.free 1, h.free 2, h.free 3, h.free 4⟩
/-- The error of an element that must have a tag number, before its content. -/
def wrg (c n : Nat) (k : Bool) (S num : Nat) : Nat := if c = 0 ∧ k = false ∧ n = num then (if 0 < S then 1 else 0) else 9
theorem wrg_9 {c n : Nat} {k : Bool} {S num : Nat} (h : ¬ (c = 0 ∧ k = false ∧ n = num)) : wrg c n k S num = 9 := by unfold wrg; rw [if_neg h]
theorem wrg_1 {n S : Nat} (h : 0 < S) : wrg 0 n false S n = 1 := by unfold wrg; rw [if_pos ⟨rfl, rfl, rfl⟩, if_pos h]
theorem wrg_0 {n S : Nat} (h : ¬ 0 < S) : wrg 0 n false S n = 0 := by unfold wrg; rw [if_pos ⟨rfl, rfl, rfl⟩, if_neg h]
end Go.Proofs.Ytnebjdgolbnkfaa.Bit
