/-
  Layer 10: Compare.
  Conditions: none.
-/
import Derived.Test.YtecmgkmonehmfaaDoorTimL
namespace Go.Proofs.YtecmgkmonehmfaaDoor.Tim
open Go.RowKit
attribute [local go_sem] Oper.semAt_some

/-- The order of two numbers. -/
def cmpI (a b : Int) : Int := if a < b then -1 else if b < a then 1 else 0
theorem cmpI_lt {a b : Int} (h : a < b) : cmpI a b = -1 := if_pos h
theorem cmpI_gt {a b : Int} (h : b < a) : cmpI a b = 1 := by unfold cmpI; rw [if_neg (by omega), if_pos h]
theorem cmpI_eq (a : Int) : cmpI a a = 0 := by unfold cmpI; rw [if_neg (by omega), if_neg (by omega)]
/-- The first number that is not 0. -/
def orR : List Int → Int
  | [] => 0
  | x :: l => if x ≠ 0 then x else orR l
set_option maxHeartbeats 400000 in
theorem nan_any (a : Int) (w : World) : Calls Tryd.prog 51 #[.int .i64 a] w fun e w' => e = .returned (.bool false) ∧ w = w' := by
  go_enter Tryd.func51, Tryd.ntmps51
  go_wp2_with fail
  go_ret
  exact ⟨by simp, rfl⟩
set_option maxHeartbeats 400000 in
theorem cmp_any (a b : Int) (w : World) : Calls Tryd.prog 44 #[.int .i64 a, .int .i64 b] w fun e w' => e = .returned (.int .i64 (cmpI a b)) ∧ w = w' := by
  rcases (show a < b ∨ a = b ∨ b < a by omega) with h | rfl | h
  · rw [cmpI_lt h]
    go_enter Tryd.func44, Tryd.ntmps44
    go_wp2_with (go_at_call 51; refine (nan_any _ _).mono ?_; rintro e w1 ⟨rfl, rfl⟩)
    go_ret
    exact ⟨rfl, rfl⟩
  · rw [cmpI_eq]
    go_enter Tryd.func44, Tryd.ntmps44
    go_wp2_with (go_at_call 51; refine (nan_any _ _).mono ?_; rintro e w1 ⟨rfl, rfl⟩)
    go_ret
    exact ⟨rfl, rfl⟩
  · rw [cmpI_gt h]
    have h2 : ¬ a < b := by omega
    go_enter Tryd.func44, Tryd.ntmps44
    go_wp2_with (go_at_call 51; refine (nan_any _ _).mono ?_; rintro e w1 ⟨rfl, rfl⟩)
    go_ret
    exact ⟨rfl, rfl⟩
set_option linter.unusedSimpArgs false in
set_option maxHeartbeats 1000000 in
theorem or_any (l : List Int) (N b : Nat) (hN : l.length = N) (hl : N ≤ 100) (w : World) (hb : Bk w b 3 (l.map (fun x => .int .i64 x))) : Calls Tryd.prog 43 #[.slice (some ⟨b, 0, none⟩) N N] w fun e w' => e = .returned (.int .i64 (orR l)) ∧ w' = w := by
  have HB := Lib.hid hb
  have HN := Lib.hid hN
  obtain ⟨R, hR⟩ : ∃ R, orR l = R := ⟨_, rfl⟩
  rw [hR]
  have HR := Lib.hid hR
  clear hb hR hN
  go_enter Tryd.func43, Tryd.ntmps43
  go_upto_region 3 with fail
  go_loopw [8] (fun i wr => ∃ p : Nat, p ≤ N ∧ i = .int .i64 (p : Int) ∧ orR (l.drop p) = R ∧ w = wr) (fun i _ => N - (intOf i).toNat)
  case atStart => exact ⟨0, Nat.zero_le _, rfl, HR.out, rfl⟩
  case round =>
    obtain ⟨p, hp, rfl, hr, rfl⟩ := hrel
    have HQ := Lib.hid hr
    clear hr HR
    by_cases hlt : p < N
    · have hlt2 : p < l.length := by rw [HN.out]; exact hlt
      have hc : w.cell? ⟨b, p, none⟩ = some (.int .i64 l[p]) := by
        rw [HB.out.cell, List.getElem?_map, List.getElem?_eq_getElem hlt2]; rfl
      have hq := HQ.out
      rw [List.drop_eq_getElem_cons hlt2] at hq
      unfold orR at hq
      have hli : (p : Int) < (N : Int) := by omega
      generalize l[p] = x at *
      have HQ2 := Lib.hid hq
      clear hq
      by_cases h : x = 0
      · subst h
        have HE : Hid (orR (l.drop (p + 1)) = R) := Lib.hid (by have := HQ2.out; rwa [if_neg (by simp)] at this)
        go_wp2_with fail
        exact ⟨⟨p + 1, by omega, by go_num, HE.out, trivial⟩, by simp [intOf]; omega⟩
      · have HE : Hid (x = R) := Lib.hid (by have := HQ2.out; rwa [if_pos h] at this)
        have hbn : (x != 0) = true := by rw [bne_iff_ne]; exact h
        go_wp2_with fail
        go_ret
        rw [← HE.out]
        exact ⟨rfl, rfl⟩
    · obtain rfl : p = N := by omega
      have HE : Hid (0 = R) := Lib.hid (by have := HQ.out; rwa [List.drop_of_length_le (by rw [HN.out]; exact Nat.le_refl _)] at this)
      go_wp2_with fail
      go_ret
      rw [← HE.out]
      exact ⟨rfl, rfl⟩
/-- What Compare answers. -/
def cmpT (a0 a1 a2 a3 a4 a5 b0 b1 b2 b3 b4 b5 : Int) : Int := orR [cmpI a0 b0, cmpI a1 b1, cmpI a2 b2, cmpI a3 b3, cmpI a4 b4, cmpI a5 b5]
set_option linter.unusedSimpArgs false in
set_option linter.unusedVariables false in
set_option maxHeartbeats 8000000 in
set_option maxRecDepth 100000 in
theorem compare_any (a0 a1 a2 a3 a4 a5 b0 b1 b2 b3 b4 b5 : Int) (w : World) :
    Calls Tryd.prog 29 #[tV a0 a1 a2 a3 a4 a5, tV b0 b1 b2 b3 b4 b5] w fun e w' => e = .returned (.int .i64 (cmpT a0 a1 a2 a3 a4 a5 b0 b1 b2 b3 b4 b5)) ∧ Below w.heap.size w w' := by
  have CN := Lib.hid (fun a b W => cmp_any a b W)
  obtain ⟨w1, hw1⟩ : ∃ w1, (w.alloc (.cells #[.int .i64 a0, .int .i64 a1, .int .i64 a2, .int .i64 a3, .int .i64 a4, .int .i64 a5] 23)).alloc (.cells #[.int .i64 b0, .int .i64 b1, .int .i64 b2, .int .i64 b3, .int .i64 b4, .int .i64 b5] 23) = w1 := ⟨_, rfl⟩
  have B1 : Hid (Below w.heap.size w w1) := Lib.hid (by rw [← hw1]; exact (bel1 w _).alloc (by simp) _)
  obtain ⟨g, hg⟩ : ∃ g, w.heap.size = g := ⟨_, rfl⟩
  obtain ⟨g2, hg2⟩ : ∃ g2, g + 1 = g2 := ⟨_, rfl⟩
  have K1 : Hid (Bk w1 g 23 (tL a0 a1 a2 a3 a4 a5)) := Lib.hid (by rw [← hw1, ← hg]; exact (Bk.new w _ (tL a0 a1 a2 a3 a4 a5)).alloc _)
  have R1 : Hid (Bk w1 g2 23 (tL b0 b1 b2 b3 b4 b5)) := Lib.hid (by
    rw [← hw1, ← hg2, ← hg]
    have := Bk.new (w.alloc (.cells (tL a0 a1 a2 a3 a4 a5).toArray 23)) 23 (tL b0 b1 b2 b3 b4 b5)
    rwa [World.size_alloc] at this)
  have HW1 := Lib.hid hw1
  have HG := Lib.hid hg
  have HG2 := Lib.hid hg2
  have c0 : w1.cell? ⟨g, 0, none⟩ = some (.int .i64 a0) := by rw [K1.out.cell]; rfl
  have c1 : w1.cell? ⟨g, 1, none⟩ = some (.int .i64 a1) := by rw [K1.out.cell]; rfl
  have c2 : w1.cell? ⟨g, 2, none⟩ = some (.int .i64 a2) := by rw [K1.out.cell]; rfl
  have c3 : w1.cell? ⟨g, 3, none⟩ = some (.int .i64 a3) := by rw [K1.out.cell]; rfl
  have c4 : w1.cell? ⟨g, 4, none⟩ = some (.int .i64 a4) := by rw [K1.out.cell]; rfl
  have c5 : w1.cell? ⟨g, 5, none⟩ = some (.int .i64 a5) := by rw [K1.out.cell]; rfl
  have c6 : w1.cell? ⟨g2, 0, none⟩ = some (.int .i64 b0) := by rw [R1.out.cell]; rfl
  have c7 : w1.cell? ⟨g2, 1, none⟩ = some (.int .i64 b1) := by rw [R1.out.cell]; rfl
  have c8 : w1.cell? ⟨g2, 2, none⟩ = some (.int .i64 b2) := by rw [R1.out.cell]; rfl
  have c9 : w1.cell? ⟨g2, 3, none⟩ = some (.int .i64 b3) := by rw [R1.out.cell]; rfl
  have c10 : w1.cell? ⟨g2, 4, none⟩ = some (.int .i64 b4) := by rw [R1.out.cell]; rfl
  have c11 : w1.cell? ⟨g2, 5, none⟩ = some (.int .i64 b5) := by rw [R1.out.cell]; rfl
  obtain ⟨x0, hx0⟩ : ∃ x, cmpI a0 b0 = x := ⟨_, rfl⟩
  have C0 := Lib.hid (fun W => cmp_any a0 b0 W)
  rw [hx0] at C0
  obtain ⟨x1, hx1⟩ : ∃ x, cmpI a1 b1 = x := ⟨_, rfl⟩
  have C1 := Lib.hid (fun W => cmp_any a1 b1 W)
  rw [hx1] at C1
  obtain ⟨x2, hx2⟩ : ∃ x, cmpI a2 b2 = x := ⟨_, rfl⟩
  have C2 := Lib.hid (fun W => cmp_any a2 b2 W)
  rw [hx2] at C2
  obtain ⟨x3, hx3⟩ : ∃ x, cmpI a3 b3 = x := ⟨_, rfl⟩
  have C3 := Lib.hid (fun W => cmp_any a3 b3 W)
  rw [hx3] at C3
  obtain ⟨x4, hx4⟩ : ∃ x, cmpI a4 b4 = x := ⟨_, rfl⟩
  have C4 := Lib.hid (fun W => cmp_any a4 b4 W)
  rw [hx4] at C4
  obtain ⟨x5, hx5⟩ : ∃ x, cmpI a5 b5 = x := ⟨_, rfl⟩
  have C5 := Lib.hid (fun W => cmp_any a5 b5 W)
  rw [hx5] at C5
  have HT : Hid (cmpT a0 a1 a2 a3 a4 a5 b0 b1 b2 b3 b4 b5 = orR [x0, x1, x2, x3, x4, x5]) := Lib.hid (by unfold cmpT; rw [hx0, hx1, hx2, hx3, hx4, hx5])
  rw [HT.out]
  have hs1 := K1.out.lt
  have hs2 := R1.out.lt
  have hn := (bel1 w1 (.cells #[.int .i64 x0, .int .i64 x1, .int .i64 x2, .int .i64 x3, .int .i64 x4, .int .i64 x5] 3)).drew
  have hk := kt (Lib.hid (Bk.new w1 3 [.int .i64 x0, .int .i64 x1, .int .i64 x2, .int .i64 x3, .int .i64 x4, .int .i64 x5])) (Lib.hid (Below.refl _ _).drew)
  have CO := Lib.hid (or_any [x0, x1, x2, x3, x4, x5] 6 _ rfl (by decide) _ hk.out)
  clear hw1 hg hg2 hx0 hx1 hx2 hx3 hx4 hx5
  go_enter Tryd.func29, Tryd.ntmps29
  go_upto_region 1 with fail
  rw [HW1.out, HG.out, HG2.out]
  clear K1 R1 HW1 HT CN
  go_region_held3 (fun w' => w'.cell? ⟨g, 0, none⟩ = some (.int .i64 a0) ∧ w'.cell? ⟨g, 1, none⟩ = some (.int .i64 a1) ∧ w'.cell? ⟨g, 2, none⟩ = some (.int .i64 a2) ∧ w'.cell? ⟨g, 3, none⟩ = some (.int .i64 a3) ∧ w'.cell? ⟨g, 4, none⟩ = some (.int .i64 a4) ∧ w'.cell? ⟨g, 5, none⟩ = some (.int .i64 a5) ∧ w'.cell? ⟨g2, 0, none⟩ = some (.int .i64 b0) ∧ w'.cell? ⟨g2, 1, none⟩ = some (.int .i64 b1) ∧ w'.cell? ⟨g2, 2, none⟩ = some (.int .i64 b2) ∧ w'.cell? ⟨g2, 3, none⟩ = some (.int .i64 b3) ∧ w'.cell? ⟨g2, 4, none⟩ = some (.int .i64 b4) ∧ w'.cell? ⟨g2, 5, none⟩ = some (.int .i64 b5))
    (first | exact ⟨c0, c1, c2, c3, c4, c5, c6, c7, c8, c9, c10, c11⟩ | exact ⟨(hn.cell (p := ⟨g, 0, none⟩) hs1).trans c0, (hn.cell (p := ⟨g, 1, none⟩) hs1).trans c1, (hn.cell (p := ⟨g, 2, none⟩) hs1).trans c2, (hn.cell (p := ⟨g, 3, none⟩) hs1).trans c3, (hn.cell (p := ⟨g, 4, none⟩) hs1).trans c4, (hn.cell (p := ⟨g, 5, none⟩) hs1).trans c5, (hn.cell (p := ⟨g2, 0, none⟩) hs2).trans c6, (hn.cell (p := ⟨g2, 1, none⟩) hs2).trans c7, (hn.cell (p := ⟨g2, 2, none⟩) hs2).trans c8, (hn.cell (p := ⟨g2, 3, none⟩) hs2).trans c9, (hn.cell (p := ⟨g2, 4, none⟩) hs2).trans c10, (hn.cell (p := ⟨g2, 5, none⟩) hs2).trans c11⟩)
    (first | (go_at_call 43; refine CO.out.mono ?_; rintro e w1 ⟨rfl, rfl⟩) | (go_at_call 44; have dn6 := dn5; refine (C5.out _).mono ?_; rintro e w1 ⟨rfl, rfl⟩) | (go_at_call 44; have dn5 := dn4; refine (C4.out _).mono ?_; rintro e w1 ⟨rfl, rfl⟩) | (go_at_call 44; have dn4 := dn3; refine (C3.out _).mono ?_; rintro e w1 ⟨rfl, rfl⟩) | (go_at_call 44; have dn3 := dn2; refine (C2.out _).mono ?_; rintro e w1 ⟨rfl, rfl⟩) | (go_at_call 44; have dn2 := dn1; refine (C1.out _).mono ?_; rintro e w1 ⟨rfl, rfl⟩) | (go_at_call 44; have dn1 := True.intro; refine (C0.out _).mono ?_; rintro e w1 ⟨rfl, rfl⟩))
  have B2 := bt B1 (Lib.hid hn)
  go_wp2_with fail
  go_ret
  exact ⟨rfl, B2.out⟩
end Go.Proofs.YtecmgkmonehmfaaDoor.Tim
