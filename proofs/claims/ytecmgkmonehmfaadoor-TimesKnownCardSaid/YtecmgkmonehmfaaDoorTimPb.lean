/-
  Layer 10: what Of and Parse answer, and the reference's Parse, against the valid times.
  Conditions: lengths of less than a million.
-/
import Derived.Test.YtecmgkmonehmfaaDoorTimPa
import Derived.Test.YtecmgkmonehmfaaDoorTimZc
namespace Go.Proofs.YtecmgkmonehmfaaDoor.Tim
open Go.RowKit

theorem bLU : bstr LU = ⟨#[89, 89, 77, 77, 68, 68, 104, 104, 109, 109, 115, 115, 90]⟩ := rfl
theorem bLG : bstr LG = ⟨#[89, 89, 89, 89, 77, 77, 68, 68, 104, 104, 109, 109, 115, 115, 90]⟩ := rfl
theorem bLX : bstr LX = ⟨#[89, 89, 89, 89, 45, 77, 77, 45, 68, 68, 84, 104, 104, 58, 109, 109, 58, 115, 115, 90]⟩ := rfl
theorem LU8 : All8 LU := all_L (by decide)
theorem LG8 : All8 LG := all_L (by decide)
theorem LX8 : All8 LX := all_L (by decide)
theorem getD_8 {l : List Nat} (h8 : All8 l) (i : Nat) : l.getD i 0 < 256 := by
  rw [List.getD_eq_getElem?_getD]
  cases h : l[i]? with
  | none => decide
  | some x => exact h8 x (List.mem_of_getElem? h)
theorem rdU_bound {l : List Nat} (h8 : All8 l) : -1000000 ≤ rdG LU l 89 LU.length ∧ rdG LU l 89 LU.length ≤ 1000000 := by
  have e : rdG LU l 89 LU.length = rdS (rdS 0 (l.getD 0 0)) (l.getD 1 0) := rfl
  have h1 := getD_8 h8 0
  have h2 := getD_8 h8 1
  rw [e]
  generalize l.getD 0 0 = a at *
  generalize l.getD 1 0 = b at *
  have q : ∀ (n : Int) (x : Nat), -100000 ≤ n → n ≤ 100000 → x < 256 → rdS n x = 10 * n + x - 48 := by
    intro n x g1 g2 g3
    have h1 : IntKind.i64.wrap (10 * n) = 10 * n := by rw [IntKind.wrap_i64]; omega
    have h2 : IntKind.i64.wrap (10 * n + (x : Int)) = 10 * n + (x : Int) := by rw [IntKind.wrap_i64]; omega
    unfold rdS
    rw [h1, h2, IntKind.wrap_i64]
    omega
  rw [q 0 a (by omega) (by omega) h1, q _ b (by omega) (by omega) h2]
  omega
theorem RdF.uniq {L l : List Nat} {a0 a1 a2 a3 a4 a5 b0 b1 b2 b3 b4 b5 : Int} (h : RdF L l a0 a1 a2 a3 a4 a5) (h2 : RdF L l b0 b1 b2 b3 b4 b5) : b0 = a0 ∧ b1 = a1 ∧ b2 = a2 ∧ b3 = a3 ∧ b4 = a4 ∧ b5 = a5 :=
  ⟨h2.1.symm.trans h.1, h2.2.1.symm.trans h.2.1, h2.2.2.1.symm.trans h.2.2.1, h2.2.2.2.1.symm.trans h.2.2.2.1, h2.2.2.2.2.1.symm.trans h.2.2.2.2.1, h2.2.2.2.2.2.symm.trans h.2.2.2.2.2⟩
theorem NmF.uniq {l : List Nat} {i0 j0 i1 j1 i2 j2 i3 j3 i4 j4 i5 j5 : Nat} {a0 a1 a2 a3 a4 a5 b0 b1 b2 b3 b4 b5 : Int} (h : NmF l i0 j0 i1 j1 i2 j2 i3 j3 i4 j4 i5 j5 a0 a1 a2 a3 a4 a5) (h2 : NmF l i0 j0 i1 j1 i2 j2 i3 j3 i4 j4 i5 j5 b0 b1 b2 b3 b4 b5) : b0 = a0 ∧ b1 = a1 ∧ b2 = a2 ∧ b3 = a3 ∧ b4 = a4 ∧ b5 = a5 :=
  ⟨h2.1.symm.trans h.1, h2.2.1.symm.trans h.2.1, h2.2.2.1.symm.trans h.2.2.1, h2.2.2.2.1.symm.trans h.2.2.2.1, h2.2.2.2.2.1.symm.trans h.2.2.2.2.1, h2.2.2.2.2.2.symm.trans h.2.2.2.2.2⟩
set_option linter.unusedVariables false in
set_option maxHeartbeats 1000000 in
theorem of_ansU (l : List Nat) (N ca : Nat) (hN : l.length = N) (A B : Option Addr) (cb : Nat) (h8 : All8 l) (hlm : l.length ≤ 1000000) (w : World) (hE : Env w) (hA : Rb w A l) :
    Calls Tryd.prog 26 #[.agg (elF 0 false 23 (.slice A N ca) (.slice B 0 cb)).toArray] w fun e w' => ∃ T f, AnsE 23 l T f ∧ e = .returned (.tuple #[.agg T.toArray, .int .i64 f]) ∧ Below w.heap.size w w' := by
  by_cases hl : l.length = 13
  · have CR := fun W => read_yes LU l LU8 h8 (by rw [hl]; rfl) (by decide) W
    rw [bLU] at CR
    have hb := rdU_bound h8
    have hI := rdG_I64 LU l 77 LU.length
    obtain ⟨a0, ha0⟩ : ∃ a, rdG LU l 89 LU.length = a := ⟨_, rfl⟩
    obtain ⟨a1, ha1⟩ : ∃ a, rdG LU l 77 LU.length = a := ⟨_, rfl⟩
    obtain ⟨a2, ha2⟩ : ∃ a, rdG LU l 68 LU.length = a := ⟨_, rfl⟩
    obtain ⟨a3, ha3⟩ : ∃ a, rdG LU l 104 LU.length = a := ⟨_, rfl⟩
    obtain ⟨a4, ha4⟩ : ∃ a, rdG LU l 109 LU.length = a := ⟨_, rfl⟩
    obtain ⟨a5, ha5⟩ : ∃ a, rdG LU l 115 LU.length = a := ⟨_, rfl⟩
    have HR : RdF LU l a0 a1 a2 a3 a4 a5 := ⟨ha0, ha1, ha2, ha3, ha4, ha5⟩
    rw [ha0, ha1, ha2, ha3, ha4, ha5] at CR
    rw [ha1] at hI
    rw [ha0] at hb
    clear ha0 ha1 ha2 ha3 ha4 ha5
    rcases ck_01 (fullI a0) a1 a2 a3 a4 a5 with hc | hc
    · obtain ⟨y, m, d, h, mi, s, e0, rfl, rfl, rfl, rfl, rfl⟩ := ck_letters hc
      rw [e0] at hc
      have hn := ck_nat hc
      refine (of_okU l N ca hN A B cb a0 y m d h mi s (by omega) (by omega) (by omega) (by omega) (by omega) (by omega) hb.1 hb.2 e0 h8 CR hc w hE hA).mono ?_
      rintro e w' ⟨rfl, hb⟩
      by_cases hg : tagN y = 23 ∧ txtE (tagN y) y m d h mi s = l
      · rw [if_pos hg]
        exact ⟨_, _, .inl ⟨y, m, d, h, mi, s, ⟨hc, hg.1, by have := hg.2; rwa [hg.1] at this⟩, rfl, rfl⟩, rfl, hb⟩
      · rw [if_neg hg]
        refine ⟨_, _, .inr ⟨?_, rfl, rfl⟩, rfl, hb⟩
        intro y2 m2 d2 h2 mi2 s2 g2
        obtain ⟨b0, b1, b2, b3, b4, b5⟩ := HR.uniq g2.prog
        have hf := fullI_of g2.2.1
        rw [b0, e0] at hf
        obtain rfl : y = y2 := by omega
        obtain rfl : m = m2 := by omega
        obtain rfl : d = d2 := by omega
        obtain rfl : h = h2 := by omega
        obtain rfl : mi = mi2 := by omega
        obtain rfl : s = s2 := by omega
        exact hg ⟨g2.2.1, by rw [g2.2.1]; exact g2.2.2⟩
    · refine (of_badU l N ca hN A B cb a0 a1 a2 a3 a4 a5 hI hb.1 hb.2 CR hc w hE hA).mono ?_
      rintro e w' ⟨rfl, hb⟩
      refine ⟨_, _, .inr ⟨?_, rfl, rfl⟩, rfl, hb⟩
      intro y2 m2 d2 h2 mi2 s2 g2
      obtain ⟨b0, b1, b2, b3, b4, b5⟩ := HR.uniq g2.prog
      have hc2 := g2.1
      have hf := fullI_of g2.2.1
      rw [b0] at hf
      rw [hf, ← b1, ← b2, ← b3, ← b4, ← b5, hc2] at hc
      cases hc
  · have CR := fun W => read_no LU l (by intro h; exact hl (by rw [h]; rfl)) (by decide) hlm W
    rw [bLU] at CR
    refine (of_badU l N ca hN A B cb 0 0 0 0 0 0 (by unfold I64; omega) (by omega) (by omega) CR (by rfl) w hE hA).mono ?_
    rintro e w' ⟨rfl, hb⟩
    refine ⟨_, _, .inr ⟨?_, rfl, rfl⟩, rfl, hb⟩
    intro y2 m2 d2 h2 mi2 s2 g2
    apply hl
    rw [← g2.2.2, len_E _ _ _ _ _ _ _ (by decide)]
    rfl
set_option linter.unusedVariables false in
set_option maxHeartbeats 1000000 in
theorem of_ansG (l : List Nat) (N ca : Nat) (hN : l.length = N) (A B : Option Addr) (cb : Nat) (h8 : All8 l) (hlm : l.length ≤ 1000000) (w : World) (hE : Env w) (hA : Rb w A l) :
    Calls Tryd.prog 26 #[.agg (elF 0 false 24 (.slice A N ca) (.slice B 0 cb)).toArray] w fun e w' => ∃ T f, AnsE 24 l T f ∧ e = .returned (.tuple #[.agg T.toArray, .int .i64 f]) ∧ Below w.heap.size w w' := by
  by_cases hl : l.length = 15
  · have CR := fun W => read_yes LG l LG8 h8 (by rw [hl]; rfl) (by decide) W
    rw [bLG] at CR
    have hI := rdG_I64 LG l 77 LG.length
    obtain ⟨a0, ha0⟩ : ∃ a, rdG LG l 89 LG.length = a := ⟨_, rfl⟩
    obtain ⟨a1, ha1⟩ : ∃ a, rdG LG l 77 LG.length = a := ⟨_, rfl⟩
    obtain ⟨a2, ha2⟩ : ∃ a, rdG LG l 68 LG.length = a := ⟨_, rfl⟩
    obtain ⟨a3, ha3⟩ : ∃ a, rdG LG l 104 LG.length = a := ⟨_, rfl⟩
    obtain ⟨a4, ha4⟩ : ∃ a, rdG LG l 109 LG.length = a := ⟨_, rfl⟩
    obtain ⟨a5, ha5⟩ : ∃ a, rdG LG l 115 LG.length = a := ⟨_, rfl⟩
    have HR : RdF LG l a0 a1 a2 a3 a4 a5 := ⟨ha0, ha1, ha2, ha3, ha4, ha5⟩
    rw [ha0, ha1, ha2, ha3, ha4, ha5] at CR
    rw [ha1] at hI
    clear ha0 ha1 ha2 ha3 ha4 ha5
    rcases ck_01 a0 a1 a2 a3 a4 a5 with hc | hc
    · obtain ⟨y, m, d, h, mi, s, e0, rfl, rfl, rfl, rfl, rfl⟩ := ck_letters hc
      rw [e0] at hc
      have hn := ck_nat hc
      refine (of_okG l N ca hN A B cb a0 y m d h mi s (by omega) (by omega) (by omega) (by omega) (by omega) (by omega) e0 h8 CR hc w hE hA).mono ?_
      rintro e w' ⟨rfl, hb⟩
      by_cases hg : tagN y = 24 ∧ txtE (tagN y) y m d h mi s = l
      · rw [if_pos hg]
        exact ⟨_, _, .inl ⟨y, m, d, h, mi, s, ⟨hc, hg.1, by have := hg.2; rwa [hg.1] at this⟩, rfl, rfl⟩, rfl, hb⟩
      · rw [if_neg hg]
        refine ⟨_, _, .inr ⟨?_, rfl, rfl⟩, rfl, hb⟩
        intro y2 m2 d2 h2 mi2 s2 g2
        obtain ⟨b0, b1, b2, b3, b4, b5⟩ := HR.uniq g2.progG
        obtain rfl : y = y2 := by omega
        obtain rfl : m = m2 := by omega
        obtain rfl : d = d2 := by omega
        obtain rfl : h = h2 := by omega
        obtain rfl : mi = mi2 := by omega
        obtain rfl : s = s2 := by omega
        exact hg ⟨g2.2.1, by rw [g2.2.1]; exact g2.2.2⟩
    · refine (of_badG l N ca hN A B cb a0 a1 a2 a3 a4 a5 hI CR hc w hE hA).mono ?_
      rintro e w' ⟨rfl, hb⟩
      refine ⟨_, _, .inr ⟨?_, rfl, rfl⟩, rfl, hb⟩
      intro y2 m2 d2 h2 mi2 s2 g2
      obtain ⟨b0, b1, b2, b3, b4, b5⟩ := HR.uniq g2.progG
      have hc2 := g2.1
      rw [← b0, ← b1, ← b2, ← b3, ← b4, ← b5, hc2] at hc
      cases hc
  · have CR := fun W => read_no LG l (by intro h; exact hl (by rw [h]; rfl)) (by decide) hlm W
    rw [bLG] at CR
    refine (of_badG l N ca hN A B cb 0 0 0 0 0 0 (by unfold I64; omega) CR (by rfl) w hE hA).mono ?_
    rintro e w' ⟨rfl, hb⟩
    refine ⟨_, _, .inr ⟨?_, rfl, rfl⟩, rfl, hb⟩
    intro y2 m2 d2 h2 mi2 s2 g2
    apply hl
    rw [← g2.2.2, len_E _ _ _ _ _ _ _ (by decide)]
    rfl
set_option linter.unusedVariables false in
set_option maxHeartbeats 1000000 in
theorem parse_ans (l : List Nat) (h8 : All8 l) (hlm : l.length ≤ 1000000) (w : World) (hE : Env w) :
    Calls Tryd.prog 38 #[.string (bstr l)] w fun e w' => ∃ T f, AnsX l T f ∧ e = .returned (.tuple #[.agg T.toArray, .int .i64 f]) ∧ Below w.heap.size w w' := by
  by_cases hl : l.length = 20
  · have CR := fun W => read_yes LX l LX8 h8 (by rw [hl]; rfl) (by decide) W
    rw [bLX] at CR
    have hI := rdG_I64 LX l 77 LX.length
    obtain ⟨a0, ha0⟩ : ∃ a, rdG LX l 89 LX.length = a := ⟨_, rfl⟩
    obtain ⟨a1, ha1⟩ : ∃ a, rdG LX l 77 LX.length = a := ⟨_, rfl⟩
    obtain ⟨a2, ha2⟩ : ∃ a, rdG LX l 68 LX.length = a := ⟨_, rfl⟩
    obtain ⟨a3, ha3⟩ : ∃ a, rdG LX l 104 LX.length = a := ⟨_, rfl⟩
    obtain ⟨a4, ha4⟩ : ∃ a, rdG LX l 109 LX.length = a := ⟨_, rfl⟩
    obtain ⟨a5, ha5⟩ : ∃ a, rdG LX l 115 LX.length = a := ⟨_, rfl⟩
    have HR : RdF LX l a0 a1 a2 a3 a4 a5 := ⟨ha0, ha1, ha2, ha3, ha4, ha5⟩
    rw [ha0, ha1, ha2, ha3, ha4, ha5] at CR
    rw [ha1] at hI
    clear ha0 ha1 ha2 ha3 ha4 ha5
    rcases ck_01 a0 a1 a2 a3 a4 a5 with hc | hc
    · obtain ⟨y, m, d, h, mi, s, rfl, rfl, rfl, rfl, rfl, rfl⟩ := ck_letters hc
      have hn := ck_nat hc
      refine (parse_ok l h8 y m d h mi s (by omega) (by omega) (by omega) (by omega) (by omega) (by omega) CR hc w hE).mono ?_
      rintro e w' ⟨rfl, hb⟩
      by_cases hg : txtX y m d h mi s = l
      · rw [if_pos hg]
        exact ⟨_, _, .inl ⟨y, m, d, h, mi, s, ⟨hc, hg⟩, rfl, rfl⟩, rfl, hb⟩
      · rw [if_neg hg]
        refine ⟨_, _, .inr ⟨?_, rfl, rfl⟩, rfl, hb⟩
        intro y2 m2 d2 h2 mi2 s2 g2
        obtain ⟨b0, b1, b2, b3, b4, b5⟩ := HR.uniq g2.prog
        obtain rfl : y = y2 := by omega
        obtain rfl : m = m2 := by omega
        obtain rfl : d = d2 := by omega
        obtain rfl : h = h2 := by omega
        obtain rfl : mi = mi2 := by omega
        obtain rfl : s = s2 := by omega
        exact hg g2.2
    · refine (parse_bad l a0 a1 a2 a3 a4 a5 hI CR hc w hE).mono ?_
      rintro e w' ⟨rfl, hb⟩
      refine ⟨_, _, .inr ⟨?_, rfl, rfl⟩, rfl, hb⟩
      intro y2 m2 d2 h2 mi2 s2 g2
      obtain ⟨b0, b1, b2, b3, b4, b5⟩ := HR.uniq g2.prog
      have hc2 := g2.1
      rw [← b0, ← b1, ← b2, ← b3, ← b4, ← b5, hc2] at hc
      cases hc
  · have CR := fun W => read_no LX l (by intro h; exact hl (by rw [h]; rfl)) (by decide) hlm W
    rw [bLX] at CR
    refine (parse_bad l 0 0 0 0 0 0 (by unfold I64; omega) CR (by rfl) w hE).mono ?_
    rintro e w' ⟨rfl, hb⟩
    refine ⟨_, _, .inr ⟨?_, rfl, rfl⟩, rfl, hb⟩
    intro y2 m2 d2 h2 mi2 s2 g2
    apply hl
    rw [← g2.2, len_X]
set_option linter.unusedVariables false in
set_option maxHeartbeats 1000000 in
theorem rparse_ans (l : List Nat) (h8 : All8 l) (hlm : l.length ≤ 1000000) (w : World) :
    Calls Tryd.prog 28 #[.string (bstr l)] w fun e w' => ∃ T f, AnsX l T f ∧ e = .returned (.tuple #[.agg T.toArray, .int .i64 f]) ∧ Below w.heap.size w w' := by
  by_cases hl : l.length = 20
  · rcases ck_01 (numP l 0 4) (numP l 5 7) (numP l 8 10) (numP l 11 13) (numP l 14 16) (numP l 17 19) with hc | hc
    · obtain ⟨y, m, d, h, mi, s, e0, e1, e2, e3, e4, e5⟩ := ck_letters hc
      have HR : NmF l 0 4 5 7 8 10 11 13 14 16 17 19 y m d h mi s := ⟨e0, e1, e2, e3, e4, e5⟩
      rw [e0, e1, e2, e3, e4, e5] at hc
      have hn := ck_nat hc
      refine (rparse_ok l h8 hl y m d h mi s (by omega) (by omega) (by omega) (by omega) (by omega) (by omega) e0 e1 e2 e3 e4 e5 hc w).mono ?_
      rintro e w' ⟨rfl, hb⟩
      by_cases hg : txtX y m d h mi s = l
      · rw [if_pos hg]
        exact ⟨_, _, .inl ⟨y, m, d, h, mi, s, ⟨hc, hg⟩, rfl, rfl⟩, rfl, hb⟩
      · rw [if_neg hg]
        refine ⟨_, _, .inr ⟨?_, rfl, rfl⟩, rfl, hb⟩
        intro y2 m2 d2 h2 mi2 s2 g2
        obtain ⟨b0, b1, b2, b3, b4, b5⟩ := HR.uniq g2.ref
        obtain rfl : y = y2 := by omega
        obtain rfl : m = m2 := by omega
        obtain rfl : d = d2 := by omega
        obtain rfl : h = h2 := by omega
        obtain rfl : mi = mi2 := by omega
        obtain rfl : s = s2 := by omega
        exact hg g2.2
    · refine (rparse_bad l h8 hl hc w).mono ?_
      rintro e w' ⟨rfl, hb⟩
      refine ⟨_, _, .inr ⟨?_, rfl, rfl⟩, rfl, hb⟩
      intro y2 m2 d2 h2 mi2 s2 g2
      obtain ⟨b0, b1, b2, b3, b4, b5⟩ := g2.ref
      have hc2 := g2.1
      rw [b0, b1, b2, b3, b4, b5, hc2] at hc
      cases hc
  · refine (rparse_no l hl hlm w).mono ?_
    rintro e w' ⟨rfl, hb⟩
    refine ⟨_, _, .inr ⟨?_, rfl, rfl⟩, rfl, hb⟩
    intro y2 m2 d2 h2 mi2 s2 g2
    apply hl
    rw [← g2.2, len_X]
end Go.Proofs.YtecmgkmonehmfaaDoor.Tim
