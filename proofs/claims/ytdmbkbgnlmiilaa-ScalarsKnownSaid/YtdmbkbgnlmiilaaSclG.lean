/-
  Layer 5: contracts of PutNat, GetNat, and of the reference's.
  Conditions: slices read as bytes, and are short.
-/
import Derived.Test.YtdmbkbgnlmiilaaSclF
namespace Go.Proofs.Ytdmbkbgnlmiilaa.Scl
open Go.RowKit

/-- The error of a number. -/
def chkN (l : List Nat) : Nat := if 64 < l.length then 3 else if l.head? = some 0 then 11 else 0
theorem chkN_eq (l : List Nat) : checkE l = ((chkN l : Nat) : Int) := by unfold checkE chkN; repeat (first | rfl | split)
theorem chk_c (A : Option Addr) (l : List Nat) (N c : Nat) (w : World) (h : Rb w A l) (hN : l.length = N) (hn : N ≤ 1000) :
    Calls Try.prog 42 #[.slice A N c] w fun e w' => e = .returned (.int .i64 ((chkN l : Nat) : Int)) ∧ w = w' := by
  have := check_any A l c w (by unfold maxLen; omega) h
  rw [hN, chkN_eq] at this
  exact this
theorem rchk_c (A : Option Addr) (l : List Nat) (N c : Nat) (w : World) (h : Rb w A l) (hN : l.length = N) (hn : N ≤ 1000) :
    Calls Try.prog 29 #[.slice A N c] w fun e w' => e = .returned (.int .i64 ((chkN l : Nat) : Int)) ∧ w = w' := by
  have := rcheck_any A l c w (by unfold maxLen; omega) h
  rw [hN, chkN_eq] at this
  exact this
theorem chkN_0 {l : List Nat} (h : chkN l = 0) : l.length ≤ 64 ∧ l.head? ≠ some 0 := by
  unfold chkN at h
  by_cases h1 : 64 < l.length
  · rw [if_pos h1] at h; omega
  · rw [if_neg h1] at h
    by_cases h2 : l.head? = some 0
    · rw [if_pos h2] at h; omega
    · exact ⟨by omega, h2⟩
theorem chkN_cut {l : List Nat} (h : chkN l = 0) : cutL l = l := by
  obtain ⟨_, h2⟩ := chkN_0 h
  cases l with
  | nil => rfl
  | cons x l =>
    have hx : x ≠ 0 := fun e => h2 (by rw [e]; rfl)
    unfold cutL
    rw [List.dropWhile_cons, if_neg (by simpa using hx)]
theorem cut_chkN {l : List Nat} (h : cutL l = l) (hl : l.length ≤ 64) : chkN l = 0 := by
  unfold chkN
  rw [if_neg (by omega), if_neg]
  cases l with
  | nil => simp
  | cons x l =>
    simp
    rintro rfl
    unfold cutL at h
    rw [List.dropWhile_cons, if_pos (by rfl)] at h
    have h2 := congrArg List.length h
    have h3 : (List.dropWhile (fun x => x == 0) l).length ≤ l.length := (List.dropWhile_sublist _).length_le
    simp at h2
    omega
/-- What PutNat gives. -/
def pnL (l : List Nat) : List Nat := if chkN l = 0 then putN l else []
theorem putN_all {l : List Nat} (h : All8 l) : All8 (putN l) := by
  unfold putN
  split
  · exact All8.cons (by omega) h
  · exact h
theorem putN_len (l : List Nat) : (putN l).length ≤ l.length + 1 := by unfold putN; split <;> simp
/-- The list of two slices that Concat takes. -/
theorem two_bk (w : World) (A : Option Addr) (N c : Nat) (u : Value) : Bk (w.alloc (.cells #[u, .slice A N c] 22)) w.heap.size 22 [u, .slice A N c] := Bk.new w 22 [u, .slice A N c]
theorem lit0_rb (w : World) : Rb (w.alloc (.cells #[.int .u8 0] 5)) (some ⟨w.heap.size, 0, none⟩) [0] := lit_rb w [0] (lt_lit rfl)

set_option maxRecDepth 100000 in
set_option maxHeartbeats 2000000 in
theorem pnat_any (A : Option Addr) (l : List Nat) (N c : Nat) (w : World) (h : Rb w A l) (hN : l.length = N) (hn : N ≤ 1000) :
    Calls Try.prog 24 #[.slice A N c] w (GiveFN w (pnL l) (chkN l)) := by
  have HC := Lib.hid (chk_c A l N c w h hN hn)
  obtain ⟨f, hf⟩ : ∃ f, chkN l = f := ⟨_, rfl⟩
  rw [hf] at HC ⊢
  by_cases hf0 : f = 0
  rotate_left
  · have e : pnL l = [] := by unfold pnL; rw [if_neg (by omega)]
    have hb : ((f : Int) != 0) = true := by simp; omega
    rw [e]
    clear h hN hf e hf0
    go_enter Try.func24, Try.ntmps24
    go_wp2_with fail
    refine HC.out.mono ?_
    rintro e w1 ⟨rfl, rfl⟩
    go_wp2_with fail
    go_ret2
    exact ⟨none, rfl, Rb.nil, Below.refl _ _, fun q e => by cases e⟩
  subst hf0
  have e : pnL l = putN l := by unfold pnL; rw [if_pos hf]
  rw [e]
  obtain ⟨P, hP⟩ : ∃ P, putN l = P := ⟨_, rfl⟩
  obtain ⟨M, hM⟩ : ∃ M, P.length = M := ⟨_, rfl⟩
  have HP := Lib.hid hP
  have HM := Lib.hid hM
  rw [hP]
  unfold GiveFN
  rw [hM]
  have HN := Lib.hid hN
  have hb0 := bel1 w (.cells #[.int .u8 0] 5)
  have HB0 := Lib.hid hb0
  have H := Lib.hid h
  clear e hP hM
  by_cases hl : l = [] ∨ ∃ x t, l = x :: t ∧ 128 ≤ x
  · have hp : [0] ++ l = P := by
      rw [← HP.out]; unfold putN
      rw [if_pos]; · rfl
      rcases hl with rfl | ⟨x, t, rfl, hx⟩
      · exact .inl rfl
      · exact .inr (by simpa [negB] using hx)
    have HCC : Hid (∀ (w1 : World) (g : Nat), Below (w.alloc (.cells #[.int .u8 0] 5)).heap.size (w.alloc (.cells #[.int .u8 0] 5)) w1 → Bk w1 g 22 [.slice (some ⟨w.heap.size, 0, none⟩) 1 1, .slice A N c] →
        Calls Try.prog 45 #[.slice (some ⟨g, 0, none⟩) 2 2] w1 fun e w' => ∃ A' c, e = .returned (.slice A' M c) ∧ Rb w' A' P ∧ M ≤ c ∧ c ≤ maxLen ∧ (A' = none → c = 0) ∧ (∀ q, A' = some q → w1.heap.size ≤ q.block) ∧ Below w1.heap.size w1 w') := Lib.hid fun w1 g hb1 hg => by
      have := concat_any (some ⟨w.heap.size, 0, none⟩) A [0] l g 1 N 1 c w1 rfl hN (by omega) hn ((lit0_rb w).below hb1) ((h.below hb0).below hb1) hg
      rw [hp, HM.out] at this
      exact this
    have HG := Lib.hid (two_bk (w.alloc (.cells #[.int .u8 0] 5)) A N c (.slice (some ⟨w.heap.size, 0, none⟩) 1 1))
    have HB1 := Lib.hid (bel1 (w.alloc (.cells #[.int .u8 0] 5)) (.cells #[.slice (some ⟨w.heap.size, 0, none⟩) 1 1, .slice A N c] 22))
    rw [World.size_alloc] at HG
    have HK := Lib.hid (HCC.out _ _ HB1.out HG.out)
    clear HCC HG hb0
    rcases hl with rfl | ⟨x, t, rfl, hx⟩
    · obtain rfl : 0 = N := hN
      clear h hf hp
      go_enter Try.func24, Try.ntmps24
      go_wp2_with fail
      refine HC.out.mono ?_
      rintro e w1 ⟨rfl, rfl⟩
      go_wp2_with fail
      refine HK.out.mono ?_
      rintro e w2 ⟨A', c', rfl, hr, h1, h2, h3, hnw, hb2⟩
      have HR := Lib.hid hr
      have HNW := Lib.hid (fun q (e : A' = some q) => Nat.le_trans (Nat.le_trans HB0.out.size HB1.out.size) (hnw q e))
      have HB2 := Lib.hid ((HB0.out.trans (HB1.out.mono HB0.out.size)).trans (hb2.mono (Nat.le_trans HB0.out.size HB1.out.size)))
      clear hr hb2 hnw
      go_wp2_with fail
      refine (clip_any A' M c' w2 h1 h2 h3).mono ?_
      rintro e w3 ⟨rfl, rfl⟩
      go_wp2_with fail
      go_ret2
      exact ⟨A', rfl, HR.out, HB2.out, HNW.out⟩
    · obtain ⟨b, off, rfl, hb, hx8, c0⟩ := h.at_ (k := 0) (by simp)
      simp only [List.getElem_cons_zero, Nat.add_zero] at hx8 c0
      have hN0 : 1 ≤ N := by rw [← hN]; simp
      have hNb : ((N : Int) == 0) = false := by simp; omega
      have HNeg := Lib.hid (neg_any b off x N c w (by omega) hb c0 hx8)
      have hdx : decide (128 ≤ x) = true := by simpa using hx
      rw [hdx] at HNeg
      clear h hN hf hp hdx hx
      go_enter Try.func24, Try.ntmps24
      go_wp2_with fail
      refine HC.out.mono ?_
      rintro e w1 ⟨rfl, rfl⟩
      go_wp2_with fail
      refine HNeg.out.mono ?_
      rintro e w1 ⟨rfl, rfl⟩
      go_wp2_with fail
      refine HK.out.mono ?_
      rintro e w2 ⟨A', c', rfl, hr, h1, h2, h3, hnw, hb2⟩
      have HR := Lib.hid hr
      have HNW := Lib.hid (fun q (e : A' = some q) => Nat.le_trans (Nat.le_trans HB0.out.size HB1.out.size) (hnw q e))
      have HB2 := Lib.hid ((HB0.out.trans (HB1.out.mono HB0.out.size)).trans (hb2.mono (Nat.le_trans HB0.out.size HB1.out.size)))
      clear hr hb2 hnw
      go_wp2_with fail
      refine (clip_any A' M c' w2 h1 h2 h3).mono ?_
      rintro e w3 ⟨rfl, rfl⟩
      go_wp2_with fail
      go_ret2
      exact ⟨A', rfl, HR.out, HB2.out, HNW.out⟩
  · obtain ⟨x, t, rfl⟩ := List.exists_cons_of_ne_nil (fun e => hl (.inl e))
    have hx : ¬ 128 ≤ x := fun e => hl (.inr ⟨x, t, rfl, e⟩)
    have hp : [] ++ (x :: t) = P := by
      rw [← HP.out]; unfold putN
      rw [if_neg]; · rfl
      rintro (e | e)
      · cases e
      · exact hx (by simpa [negB] using e)
    have HK : Hid (Calls Try.prog 45 #[.slice (some ⟨w.heap.size, 0, none⟩) 2 2] (w.alloc (.cells #[.slice none 0 0, .slice A N c] 22)) fun e w' => ∃ A' cc, e = .returned (.slice A' M cc) ∧ Rb w' A' P ∧ M ≤ cc ∧ cc ≤ maxLen ∧ (A' = none → cc = 0) ∧ (∀ q, A' = some q → (w.alloc (.cells #[.slice none 0 0, .slice A N c] 22)).heap.size ≤ q.block) ∧ Below (w.alloc (.cells #[.slice none 0 0, .slice A N c] 22)).heap.size (w.alloc (.cells #[.slice none 0 0, .slice A N c] 22)) w') := Lib.hid (by
      have := concat_any none A [] (x :: t) w.heap.size 0 N 0 c (w.alloc (.cells #[.slice none 0 0, .slice A N c] 22)) rfl hN (by omega) hn Rb.nil (h.below (bel1 _ _)) (two_bk w A N c (.slice none 0 0))
      rw [hp, HM.out] at this
      exact this)
    have HB1 := Lib.hid (bel1 w (.cells #[.slice none 0 0, .slice A N c] 22))
    obtain ⟨b, off, rfl, hb, hx8, c0⟩ := h.at_ (k := 0) (by simp)
    simp only [List.getElem_cons_zero, Nat.add_zero] at hx8 c0
    have hN0 : 1 ≤ N := by rw [← hN]; simp
    have hNb : ((N : Int) == 0) = false := by simp; omega
    have HNeg := Lib.hid (neg_any b off x N c w (by omega) hb c0 hx8)
    have hdx : decide (128 ≤ x) = false := by simpa using hx
    rw [hdx] at HNeg
    clear h hN hf hp hdx hx hl
    go_enter Try.func24, Try.ntmps24
    go_wp2_with fail
    refine HC.out.mono ?_
    rintro e w1 ⟨rfl, rfl⟩
    go_wp2_with fail
    refine HNeg.out.mono ?_
    rintro e w1 ⟨rfl, rfl⟩
    go_wp2_with fail
    refine HK.out.mono ?_
    rintro e w2 ⟨A', c', rfl, hr, h1, h2, h3, hnw, hb2⟩
    have HR := Lib.hid hr
    have HNW := Lib.hid (fun q (e : A' = some q) => Nat.le_trans HB1.out.size (hnw q e))
    have HB2 := Lib.hid (HB1.out.trans (hb2.mono HB1.out.size))
    clear hr hb2 hnw
    go_wp2_with fail
    refine (clip_any A' M c' w2 h1 h2 h3).mono ?_
    rintro e w3 ⟨rfl, rfl⟩
    go_wp2_with fail
    go_ret2
    exact ⟨A', rfl, HR.out, HB2.out, HNW.out⟩
end Go.Proofs.Ytdmbkbgnlmiilaa.Scl
