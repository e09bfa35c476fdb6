/-
  Layer 10: Text and Element of the reference.
  Conditions: no field is negative.
-/
import Derived.Test.YtecmgkmonehmfaaDoorTimP
namespace Go.Proofs.YtecmgkmonehmfaaDoor.Tim
open Go.RowKit
attribute [local go_sem] Oper.semAt_some

set_option linter.unusedSimpArgs false in
set_option linter.unusedVariables false in
set_option maxHeartbeats 4000000 in
set_option maxRecDepth 100000 in
theorem rtext_any (y m d h mi s : Nat) (hy : y ≤ 1000000) (hm : m ≤ 1000000) (hd : d ≤ 1000000) (hh : h ≤ 1000000) (hmi : mi ≤ 1000000) (hs : s ≤ 1000000) (w : World) :
    Calls Tryd.prog 24 #[tV y m d h mi s] w fun e w' => e = .returned (.string (bstr (txtX y m d h mi s))) ∧ Below w.heap.size w w' := by
  obtain ⟨g, hg⟩ : ∃ g, w.heap.size = g := ⟨_, rfl⟩
  obtain ⟨w1, hw1⟩ : ∃ w1, w.alloc (.cells #[.int .i64 (y : Int), .int .i64 (m : Int), .int .i64 (d : Int), .int .i64 (h : Int), .int .i64 (mi : Int), .int .i64 (s : Int)] 23) = w1 := ⟨_, rfl⟩
  have B1 : Hid (Below w.heap.size w w1) := Lib.hid (by rw [← hw1]; exact bel1 w _)
  have K1 : Hid (Bk w1 g 23 (tL y m d h mi s)) := Lib.hid (by rw [← hw1, ← hg]; exact Bk.new w _ (tL y m d h mi s))
  have c0 : w1.cell? ⟨g, 0, none⟩ = some (.int .i64 (y : Int)) := by rw [K1.out.cell]; rfl
  have c1 : w1.cell? ⟨g, 1, none⟩ = some (.int .i64 (m : Int)) := by rw [K1.out.cell]; rfl
  have c2 : w1.cell? ⟨g, 2, none⟩ = some (.int .i64 (d : Int)) := by rw [K1.out.cell]; rfl
  have c3 : w1.cell? ⟨g, 3, none⟩ = some (.int .i64 (h : Int)) := by rw [K1.out.cell]; rfl
  have c4 : w1.cell? ⟨g, 4, none⟩ = some (.int .i64 (mi : Int)) := by rw [K1.out.cell]; rfl
  have c5 : w1.cell? ⟨g, 5, none⟩ = some (.int .i64 (s : Int)) := by rw [K1.out.cell]; rfl
  have C0 := Lib.hid (fun W => digits_any y 4 (hy) (by decide) W)
  have z0 : (bstr (dgl 4 y)).size = 4 := by rw [bstr_size, dgl_len]
  have C1 := Lib.hid (fun W => digits_any m 2 (hm) (by decide) W)
  have z1 : (bstr (dgl 2 m)).size = 2 := by rw [bstr_size, dgl_len]
  have C2 := Lib.hid (fun W => digits_any d 2 (hd) (by decide) W)
  have z2 : (bstr (dgl 2 d)).size = 2 := by rw [bstr_size, dgl_len]
  have C3 := Lib.hid (fun W => digits_any h 2 (hh) (by decide) W)
  have z3 : (bstr (dgl 2 h)).size = 2 := by rw [bstr_size, dgl_len]
  have C4 := Lib.hid (fun W => digits_any mi 2 (hmi) (by decide) W)
  have z4 : (bstr (dgl 2 mi)).size = 2 := by rw [bstr_size, dgl_len]
  have C5 := Lib.hid (fun W => digits_any s 2 (hs) (by decide) W)
  have z5 : (bstr (dgl 2 s)).size = 2 := by rw [bstr_size, dgl_len]
  have HT : bstr (txtX y m d h mi s) = bstr (dgl 4 y) ++ ⟨#[45]⟩ ++ bstr (dgl 2 m) ++ ⟨#[45]⟩ ++ bstr (dgl 2 d) ++ ⟨#[84]⟩ ++ bstr (dgl 2 h) ++ ⟨#[58]⟩ ++ bstr (dgl 2 mi) ++ ⟨#[58]⟩ ++ bstr (dgl 2 s) ++ ⟨#[90]⟩ := by
    unfold txtX
    simp only [← bstr_app]
    rfl
  obtain ⟨D0, hD0⟩ : ∃ D, bstr (dgl 4 y) = D := ⟨_, rfl⟩
  rw [hD0] at C0 z0
  obtain ⟨D1, hD1⟩ : ∃ D, bstr (dgl 2 m) = D := ⟨_, rfl⟩
  rw [hD1] at C1 z1
  obtain ⟨D2, hD2⟩ : ∃ D, bstr (dgl 2 d) = D := ⟨_, rfl⟩
  rw [hD2] at C2 z2
  obtain ⟨D3, hD3⟩ : ∃ D, bstr (dgl 2 h) = D := ⟨_, rfl⟩
  rw [hD3] at C3 z3
  obtain ⟨D4, hD4⟩ : ∃ D, bstr (dgl 2 mi) = D := ⟨_, rfl⟩
  rw [hD4] at C4 z4
  obtain ⟨D5, hD5⟩ : ∃ D, bstr (dgl 2 s) = D := ⟨_, rfl⟩
  rw [hD5] at C5 z5
  rw [hD0, hD1, hD2, hD3, hD4, hD5] at HT
  rw [HT]
  have HW1 := Lib.hid hw1
  have HG := Lib.hid hg
  clear hw1 hg HT hD0 hD1 hD2 hD3 hD4 hD5 K1
  go_enter Tryd.func24, Tryd.ntmps24
  go_upto_region 1 with fail
  rw [HW1.out, HG.out]
  go_region_held3 (fun w' => w'.cell? ⟨g, 0, none⟩ = some (.int .i64 (y : Int)) ∧ w'.cell? ⟨g, 1, none⟩ = some (.int .i64 (m : Int)) ∧ w'.cell? ⟨g, 2, none⟩ = some (.int .i64 (d : Int)) ∧ w'.cell? ⟨g, 3, none⟩ = some (.int .i64 (h : Int)) ∧ w'.cell? ⟨g, 4, none⟩ = some (.int .i64 (mi : Int)) ∧ w'.cell? ⟨g, 5, none⟩ = some (.int .i64 (s : Int)))
    (exact ⟨c0, c1, c2, c3, c4, c5⟩)
    (first | (go_at_call 37; have dn6 := dn5; refine (C5.out _).mono ?_; rintro e w1 ⟨rfl, rfl⟩) | (go_at_call 37; have dn5 := dn4; refine (C4.out _).mono ?_; rintro e w1 ⟨rfl, rfl⟩) | (go_at_call 37; have dn4 := dn3; refine (C3.out _).mono ?_; rintro e w1 ⟨rfl, rfl⟩) | (go_at_call 37; have dn3 := dn2; refine (C2.out _).mono ?_; rintro e w1 ⟨rfl, rfl⟩) | (go_at_call 37; have dn2 := dn1; refine (C1.out _).mono ?_; rintro e w1 ⟨rfl, rfl⟩) | (go_at_call 37; have dn1 := True.intro; refine (C0.out _).mono ?_; rintro e w1 ⟨rfl, rfl⟩))
  have B2 : Hid (Below w.heap.size w w1.drew) := Lib.hid B1.out.drew
  go_wp2_with fail
  go_ret
  exact ⟨rfl, B2.out⟩
set_option linter.unusedSimpArgs false in
set_option linter.unusedVariables false in
set_option maxHeartbeats 4000000 in
set_option maxRecDepth 100000 in
theorem relem_any (y m d h mi s : Nat) (hy : y ≤ 1000000) (hm : m ≤ 1000000) (hd : d ≤ 1000000) (hh : h ≤ 1000000) (hmi : mi ≤ 1000000) (hs : s ≤ 1000000) (w : World) :
    Calls Tryd.prog 21 #[tV y m d h mi s] w fun e w' => e = .returned (.tuple #[.int .u32 (tagN y : Int), .string (bstr (txtE (tagN y) y m d h mi s))]) ∧ Below w.heap.size w w' := by
  obtain ⟨g, hg⟩ : ∃ g, w.heap.size = g := ⟨_, rfl⟩
  obtain ⟨w1, hw1⟩ : ∃ w1, w.alloc (.cells #[.int .i64 (y : Int), .int .i64 (m : Int), .int .i64 (d : Int), .int .i64 (h : Int), .int .i64 (mi : Int), .int .i64 (s : Int)] 23) = w1 := ⟨_, rfl⟩
  have B1 : Hid (Below w.heap.size w w1) := Lib.hid (by rw [← hw1]; exact bel1 w _)
  have K1 : Hid (Bk w1 g 23 (tL y m d h mi s)) := Lib.hid (by rw [← hw1, ← hg]; exact Bk.new w _ (tL y m d h mi s))
  have c0 : w1.cell? ⟨g, 0, none⟩ = some (.int .i64 (y : Int)) := by rw [K1.out.cell]; rfl
  have c1 : w1.cell? ⟨g, 1, none⟩ = some (.int .i64 (m : Int)) := by rw [K1.out.cell]; rfl
  have c2 : w1.cell? ⟨g, 2, none⟩ = some (.int .i64 (d : Int)) := by rw [K1.out.cell]; rfl
  have c3 : w1.cell? ⟨g, 3, none⟩ = some (.int .i64 (h : Int)) := by rw [K1.out.cell]; rfl
  have c4 : w1.cell? ⟨g, 4, none⟩ = some (.int .i64 (mi : Int)) := by rw [K1.out.cell]; rfl
  have c5 : w1.cell? ⟨g, 5, none⟩ = some (.int .i64 (s : Int)) := by rw [K1.out.cell]; rfl
  have C1 := Lib.hid (fun W => digits_any m 2 (hm) (by decide) W)
  have z1 : (bstr (dgl 2 m)).size = 2 := by rw [bstr_size, dgl_len]
  have C2 := Lib.hid (fun W => digits_any d 2 (hd) (by decide) W)
  have z2 : (bstr (dgl 2 d)).size = 2 := by rw [bstr_size, dgl_len]
  have C3 := Lib.hid (fun W => digits_any h 2 (hh) (by decide) W)
  have z3 : (bstr (dgl 2 h)).size = 2 := by rw [bstr_size, dgl_len]
  have C4 := Lib.hid (fun W => digits_any mi 2 (hmi) (by decide) W)
  have z4 : (bstr (dgl 2 mi)).size = 2 := by rw [bstr_size, dgl_len]
  have C5 := Lib.hid (fun W => digits_any s 2 (hs) (by decide) W)
  have z5 : (bstr (dgl 2 s)).size = 2 := by rw [bstr_size, dgl_len]
  have C0 := Lib.hid (fun W => digits_any y 4 (hy) (by decide) W)
  have z0 : (bstr (dgl 4 y)).size = 4 := by rw [bstr_size, dgl_len]
  have C6 := Lib.hid (fun W => digits_any (y % 100) 2 (by omega) (by decide) W)
  have z6 : (bstr (dgl 2 (y % 100))).size = 2 := by rw [bstr_size, dgl_len]
  have HT : bstr (tailE m d h mi s) = bstr (dgl 2 m) ++ bstr (dgl 2 d) ++ bstr (dgl 2 h) ++ bstr (dgl 2 mi) ++ bstr (dgl 2 s) ++ ⟨#[90]⟩ := by
    unfold tailE
    simp only [← bstr_app]
    rfl
  have hc : (1950 ≤ y ∧ y ≤ 2049 ∧ tagN y = 23 ∧ bstr (txtE (tagN y) y m d h mi s) = bstr (dgl 2 (y % 100)) ++ bstr (tailE m d h mi s)) ∨ ((y < 1950 ∨ (1950 ≤ y ∧ 2049 < y)) ∧ tagN y = 24 ∧ bstr (txtE (tagN y) y m d h mi s) = bstr (dgl 4 y) ++ bstr (tailE m d h mi s)) := by
    unfold tagN
    by_cases hh : 1950 ≤ y ∧ y ≤ 2049
    · rw [if_pos hh, bstr_app]; exact .inl ⟨hh.1, hh.2, rfl, rfl⟩
    · rw [if_neg hh, bstr_app]; exact .inr ⟨by omega, rfl, rfl⟩
  have hy6 : (y : Int) % 100 = ((y % 100 : Nat) : Int) := by omega
  obtain ⟨D0, hD0⟩ : ∃ D, bstr (dgl 4 y) = D := ⟨_, rfl⟩
  rw [hD0] at C0 z0
  obtain ⟨D1, hD1⟩ : ∃ D, bstr (dgl 2 m) = D := ⟨_, rfl⟩
  rw [hD1] at C1 z1
  obtain ⟨D2, hD2⟩ : ∃ D, bstr (dgl 2 d) = D := ⟨_, rfl⟩
  rw [hD2] at C2 z2
  obtain ⟨D3, hD3⟩ : ∃ D, bstr (dgl 2 h) = D := ⟨_, rfl⟩
  rw [hD3] at C3 z3
  obtain ⟨D4, hD4⟩ : ∃ D, bstr (dgl 2 mi) = D := ⟨_, rfl⟩
  rw [hD4] at C4 z4
  obtain ⟨D5, hD5⟩ : ∃ D, bstr (dgl 2 s) = D := ⟨_, rfl⟩
  rw [hD5] at C5 z5
  obtain ⟨D6, hD6⟩ : ∃ D, bstr (dgl 2 (y % 100)) = D := ⟨_, rfl⟩
  rw [hD6] at C6 z6
  obtain ⟨yy, hyy⟩ : ∃ yy, y % 100 = yy := ⟨_, rfl⟩
  rw [hyy] at hy6 C6
  rw [hD1, hD2, hD3, hD4, hD5] at HT
  have zT : (bstr (tailE m d h mi s)).size = 11 := by rw [bstr_size]; unfold tailE; simp only [List.length_append, dgl_len]; rfl
  rw [hD0, hD6] at hc
  rw [HT] at zT hc
  have HC := Lib.hid hc
  have B2 : Hid (Below w.heap.size w w1.drew) := Lib.hid B1.out.drew
  have d0 : w1.drew.cell? ⟨g, 0, none⟩ = some (.int .i64 (y : Int)) := c0
  have HW1 := Lib.hid hw1
  have HG := Lib.hid hg
  generalize bstr (txtE (tagN y) y m d h mi s) = TT at *
  generalize tagN y = k at *
  clear hw1 hg HT hD0 hD1 hD2 hD3 hD4 hD5 hD6 K1 hc hyy
  go_enter Tryd.func21, Tryd.ntmps21
  go_upto_region 1 with fail
  rw [HW1.out, HG.out]
  go_region_held3 (fun w' => w'.cell? ⟨g, 0, none⟩ = some (.int .i64 (y : Int)) ∧ w'.cell? ⟨g, 1, none⟩ = some (.int .i64 (m : Int)) ∧ w'.cell? ⟨g, 2, none⟩ = some (.int .i64 (d : Int)) ∧ w'.cell? ⟨g, 3, none⟩ = some (.int .i64 (h : Int)) ∧ w'.cell? ⟨g, 4, none⟩ = some (.int .i64 (mi : Int)) ∧ w'.cell? ⟨g, 5, none⟩ = some (.int .i64 (s : Int)))
    (exact ⟨c0, c1, c2, c3, c4, c5⟩)
    (first | (go_at_call 37; have dn5 := dn4; refine (C5.out _).mono ?_; rintro e w1 ⟨rfl, rfl⟩) | (go_at_call 37; have dn4 := dn3; refine (C4.out _).mono ?_; rintro e w1 ⟨rfl, rfl⟩) | (go_at_call 37; have dn3 := dn2; refine (C3.out _).mono ?_; rintro e w1 ⟨rfl, rfl⟩) | (go_at_call 37; have dn2 := dn1; refine (C2.out _).mono ?_; rintro e w1 ⟨rfl, rfl⟩) | (go_at_call 37; have dn1 := True.intro; refine (C1.out _).mono ?_; rintro e w1 ⟨rfl, rfl⟩))
  rcases HC.out with ⟨h1, h2, h3, h4⟩ | ⟨h1 | ⟨h1, h2⟩, h3, h4⟩
  · have H3 := Lib.hid h3
    have H4 := Lib.hid h4
    have n1 : ¬ (y : Int) < 1950 := by omega
    have n2 : ¬ (2049 : Int) < (y : Int) := by omega
    clear h1 h2 h3 h4
    go_wp2_with fail
    refine (C6.out _).mono ?_
    rintro e w4 ⟨rfl, rfl⟩
    go_wp2_with fail
    go_ret2
    exact ⟨by rw [H3.out, H4.out]; rfl, B2.out⟩
  · have H3 := Lib.hid h3
    have H4 := Lib.hid h4
    have n1 : (y : Int) < 1950 := by omega
    clear h1 h3 h4
    go_wp2_with fail
    refine (C0.out _).mono ?_
    rintro e w4 ⟨rfl, rfl⟩
    go_wp2_with fail
    go_ret2
    exact ⟨by rw [H3.out, H4.out]; rfl, B2.out⟩
  · have H3 := Lib.hid h3
    have H4 := Lib.hid h4
    have n1 : ¬ (y : Int) < 1950 := by omega
    have n2 : (2049 : Int) < (y : Int) := by omega
    clear h1 h2 h3 h4
    go_wp2_with fail
    refine (C0.out _).mono ?_
    rintro e w4 ⟨rfl, rfl⟩
    go_wp2_with fail
    go_ret2
    exact ⟨by rw [H3.out, H4.out]; rfl, B2.out⟩
end Go.Proofs.YtecmgkmonehmfaaDoor.Tim
