/-
  Layer 10, pure: the order of times, of their seconds and of their texts; a day has one date.
  Conditions: none.
-/
import Derived.Test.YtecmgkmonehmfaaDoorTimPa
namespace Go.Proofs.YtecmgkmonehmfaaDoor.Tim
open Go.RowKit

theorem cmpI_zero {a b : Int} : cmpI a b = 0 ↔ a = b := by
  unfold cmpI
  split
  · exact ⟨fun h => absurd h (by decide), fun h => by omega⟩
  · split
    · exact ⟨fun h => absurd h (by decide), fun h => by omega⟩
    · exact ⟨fun _ => by omega, fun _ => rfl⟩
theorem cmpI_swap (a b : Int) : cmpI b a = - cmpI a b := by
  unfold cmpI
  by_cases h1 : a < b
  · rw [if_neg (by omega), if_pos h1, if_pos h1]; rfl
  · by_cases h2 : b < a
    · rw [if_pos h2, if_neg h1, if_pos h2]
    · rw [if_neg h2, if_neg h1, if_neg h1, if_neg h2]; rfl
/-- The order of the fields. -/
def lexT (a0 a1 a2 a3 a4 a5 b0 b1 b2 b3 b4 b5 : Int) : Prop := a0 < b0 ∨ (a0 = b0 ∧ (a1 < b1 ∨ (a1 = b1 ∧ (a2 < b2 ∨ (a2 = b2 ∧ (a3 < b3 ∨ (a3 = b3 ∧ (a4 < b4 ∨ (a4 = b4 ∧ a5 < b5)))))))))
theorem orR_cons0 {x : Int} {l : List Int} (h : x = 0) : orR (x :: l) = orR l := by rw [orR, if_neg (by omega)]
theorem orR_cons1 {x : Int} {l : List Int} (h : x ≠ 0) : orR (x :: l) = x := by rw [orR, if_pos h]
theorem cmpT_cases (a0 a1 a2 a3 a4 a5 b0 b1 b2 b3 b4 b5 : Int) :
    (cmpT a0 a1 a2 a3 a4 a5 b0 b1 b2 b3 b4 b5 = -1 ∧ lexT a0 a1 a2 a3 a4 a5 b0 b1 b2 b3 b4 b5) ∨ (cmpT a0 a1 a2 a3 a4 a5 b0 b1 b2 b3 b4 b5 = 1 ∧ lexT b0 b1 b2 b3 b4 b5 a0 a1 a2 a3 a4 a5) ∨ (cmpT a0 a1 a2 a3 a4 a5 b0 b1 b2 b3 b4 b5 = 0 ∧ a0 = b0 ∧ a1 = b1 ∧ a2 = b2 ∧ a3 = b3 ∧ a4 = b4 ∧ a5 = b5) := by
  have step : ∀ (a b : Int) (l : List Int) (P Q R : Prop), (orR l = -1 ∧ P) ∨ (orR l = 1 ∧ Q) ∨ (orR l = 0 ∧ R) → (orR (cmpI a b :: l) = -1 ∧ (a < b ∨ (a = b ∧ P))) ∨ (orR (cmpI a b :: l) = 1 ∧ (b < a ∨ (b = a ∧ Q))) ∨ (orR (cmpI a b :: l) = 0 ∧ (a = b ∧ R)) := by
    intro a b l P Q R h
    rcases Int.lt_trichotomy a b with e | rfl | e
    · left; rw [orR_cons1 (by rw [cmpI_lt e]; decide), cmpI_lt e]; exact ⟨rfl, .inl e⟩
    · rw [orR_cons0 (cmpI_eq a)]
      rcases h with ⟨h1, h2⟩ | ⟨h1, h2⟩ | ⟨h1, h2⟩
      · exact .inl ⟨h1, .inr ⟨rfl, h2⟩⟩
      · exact .inr (.inl ⟨h1, .inr ⟨rfl, h2⟩⟩)
      · exact .inr (.inr ⟨h1, rfl, h2⟩)
    · right; left; rw [orR_cons1 (by rw [cmpI_gt e]; decide), cmpI_gt e]; exact ⟨rfl, .inl e⟩
  have last : (orR [cmpI a5 b5] = -1 ∧ a5 < b5) ∨ (orR [cmpI a5 b5] = 1 ∧ b5 < a5) ∨ (orR [cmpI a5 b5] = 0 ∧ a5 = b5) := by
    rcases Int.lt_trichotomy a5 b5 with e | rfl | e
    · left; rw [orR_cons1 (by rw [cmpI_lt e]; decide), cmpI_lt e]; exact ⟨rfl, e⟩
    · right; right; rw [orR_cons0 (cmpI_eq a5)]; exact ⟨rfl, rfl⟩
    · right; left; rw [orR_cons1 (by rw [cmpI_gt e]; decide), cmpI_gt e]; exact ⟨rfl, e⟩
  exact step _ _ _ _ _ _ (step _ _ _ _ _ _ (step _ _ _ _ _ _ (step _ _ _ _ _ _ (step _ _ _ _ _ _ last))))
theorem lexT_irr {a0 a1 a2 a3 a4 a5 b0 b1 b2 b3 b4 b5 : Int} (h : lexT a0 a1 a2 a3 a4 a5 b0 b1 b2 b3 b4 b5) : ¬ lexT b0 b1 b2 b3 b4 b5 a0 a1 a2 a3 a4 a5 := by unfold lexT at *; omega
theorem lexT_ne {a0 a1 a2 a3 a4 a5 b0 b1 b2 b3 b4 b5 : Int} (h : lexT a0 a1 a2 a3 a4 a5 b0 b1 b2 b3 b4 b5) : ¬ (a0 = b0 ∧ a1 = b1 ∧ a2 = b2 ∧ a3 = b3 ∧ a4 = b4 ∧ a5 = b5) := by unfold lexT at *; omega
/-- Compared the other way round. -/
theorem cmpT_swap (a0 a1 a2 a3 a4 a5 b0 b1 b2 b3 b4 b5 : Int) : cmpT b0 b1 b2 b3 b4 b5 a0 a1 a2 a3 a4 a5 = - cmpT a0 a1 a2 a3 a4 a5 b0 b1 b2 b3 b4 b5 := by
  rcases cmpT_cases a0 a1 a2 a3 a4 a5 b0 b1 b2 b3 b4 b5 with ⟨h1, h2⟩ | ⟨h1, h2⟩ | ⟨h1, h2⟩ <;> rcases cmpT_cases b0 b1 b2 b3 b4 b5 a0 a1 a2 a3 a4 a5 with ⟨k1, k2⟩ | ⟨k1, k2⟩ | ⟨k1, k2⟩
  all_goals first | (rw [h1, k1]; done) | (rw [h1, k1]; rfl) | exact absurd k2 (lexT_irr h2) | exact absurd (by omega) (lexT_ne h2) | exact absurd (by omega) (lexT_ne k2)
theorem cmpT_year {a0 a1 a2 a3 a4 a5 b0 b1 b2 b3 b4 b5 : Int} (h : a0 ≠ b0) : (cmpT a0 a1 a2 a3 a4 a5 b0 b1 b2 b3 b4 b5 < 0) ↔ a0 < b0 := by
  rcases cmpT_cases a0 a1 a2 a3 a4 a5 b0 b1 b2 b3 b4 b5 with ⟨h1, h2⟩ | ⟨h1, h2⟩ | ⟨h1, h2⟩ <;> rw [h1]
  · unfold lexT at h2; omega
  · unfold lexT at h2; omega
  · omega
theorem msT_mono (y : Int) {a b : Nat} (h : a ≤ b) : msT y a ≤ msT y b := by
  induction b with
  | zero => rw [Nat.le_zero.1 h]; exact Nat.le_refl _
  | succ b ih =>
    by_cases e : a = b + 1
    · rw [e]; exact Nat.le_refl _
    · exact Nat.le_trans (ih (by omega)) (by show msT y b ≤ msT y b + dyT y ((b : Int) + 1); omega)
/-- The days before a date. -/
def daT (y m d : Nat) : Nat := dbT y + d - 1 + msT y (m - 1)
theorem da_year {y m d : Nat} (hm1 : 1 ≤ m) (hm : m ≤ 12) (hd1 : 1 ≤ d) (hd : d ≤ dyT y m) : daT y m d < dbT (y + 1) := by
  have h1 := msT_succ (y : Int) m hm1
  have h2 := msT_mono (y : Int) hm
  have h3 := msT_12 (y : Int)
  have h4 := dbT_succ y
  unfold daT
  omega
theorem da_lt {y m d y2 m2 d2 : Nat} (hm1 : 1 ≤ m) (hm : m ≤ 12) (hd1 : 1 ≤ d) (hd : d ≤ dyT y m) (hm21 : 1 ≤ m2) (hd21 : 1 ≤ d2) (h : y < y2 ∨ (y = y2 ∧ (m < m2 ∨ (m = m2 ∧ d < d2)))) : daT y m d < daT y2 m2 d2 := by
  rcases h with h | ⟨rfl, h | ⟨rfl, h⟩⟩
  · have h1 := da_year hm1 hm hd1 hd
    have h2 := dbT_mono (a := y + 1) (b := y2) h
    unfold daT at *
    omega
  · have h1 := msT_succ (y : Int) m hm1
    have h2 := msT_mono (y : Int) (a := m) (b := m2 - 1) (by omega)
    unfold daT
    omega
  · unfold daT
    omega
theorem da_uniq {y m d y2 m2 d2 : Nat} (hm1 : 1 ≤ m) (hm : m ≤ 12) (hd1 : 1 ≤ d) (hd : d ≤ dyT y m) (hm21 : 1 ≤ m2) (hm2 : m2 ≤ 12) (hd21 : 1 ≤ d2) (hd2 : d2 ≤ dyT y2 m2) (h : daT y m d = daT y2 m2 d2) : y = y2 ∧ m = m2 ∧ d = d2 := by
  by_cases e : y = y2 ∧ m = m2 ∧ d = d2
  · exact e
  · exfalso
    rcases (show (y < y2 ∨ (y = y2 ∧ (m < m2 ∨ (m = m2 ∧ d < d2)))) ∨ (y2 < y ∨ (y2 = y ∧ (m2 < m ∨ (m2 = m ∧ d2 < d)))) by omega) with h1 | h1
    · have := da_lt hm1 hm hd1 hd hm21 hd21 h1; omega
    · have := da_lt hm21 hm2 hd21 hd2 hm1 hd1 h1; omega
theorem isDate_da {D Y M d : Nat} (h : isDate D Y M d) : daT Y M d = D := by
  obtain ⟨h1, h2, h3, h4, h5, h6⟩ := h
  unfold daT
  omega
/-- A day has one date. -/
theorem isDate_uniq {D Y M d y m e : Nat} (h : isDate D Y M d) (hk : isDate D y m e) : Y = y ∧ M = m ∧ d = e :=
  da_uniq h.2.1 h.2.2.1 h.2.2.2.1 h.2.2.2.2.1 hk.2.1 hk.2.2.1 hk.2.2.2.1 hk.2.2.2.2.1 (by rw [isDate_da h, isDate_da hk])
theorem ss_da (y m d h mi s : Nat) : ssT y m d h mi s = daT y m d * 86400 + h * 3600 + mi * 60 + s := rfl
theorem ss_lt {y m d h mi s y2 m2 d2 h2 mi2 s2 : Nat} (hc : ck y m d h mi s = 0) (hc2 : ck y2 m2 d2 h2 mi2 s2 = 0) (hl : lexT y m d h mi s y2 m2 d2 h2 mi2 s2) : ssT y m d h mi s < ssT y2 m2 d2 h2 mi2 s2 := by
  have c1 := ck_nat hc
  have c2 := ck_nat hc2
  rw [ss_da, ss_da]
  by_cases e : y = y2 ∧ m = m2 ∧ d = d2
  · obtain ⟨rfl, rfl, rfl⟩ := e
    unfold lexT at hl
    omega
  · have h1 : y < y2 ∨ (y = y2 ∧ (m < m2 ∨ (m = m2 ∧ d < d2))) := by unfold lexT at hl; omega
    have := da_lt c1.2.1 c1.2.2.1 c1.2.2.2.1 c1.2.2.2.2.1 c2.2.1 c2.2.2.2.1 h1
    omega
/-- Times are in the order of their seconds. -/
theorem cmp_ss {y m d h mi s y2 m2 d2 h2 mi2 s2 : Nat} (hc : ck y m d h mi s = 0) (hc2 : ck y2 m2 d2 h2 mi2 s2 = 0) : cmpI (ssT y m d h mi s) (ssT y2 m2 d2 h2 mi2 s2) = cmpT y m d h mi s y2 m2 d2 h2 mi2 s2 := by
  rcases cmpT_cases y m d h mi s y2 m2 d2 h2 mi2 s2 with ⟨h1, h2⟩ | ⟨h1, h2⟩ | ⟨h1, h2⟩ <;> rw [h1]
  · have := ss_lt hc hc2 h2; exact cmpI_lt (by omega)
  · have := ss_lt hc2 hc h2; exact cmpI_gt (by omega)
  · obtain ⟨e0, e1, e2, e3, e4, e5⟩ := h2
    rw [Int.ofNat.inj e0, Int.ofNat.inj e1, Int.ofNat.inj e2, Int.ofNat.inj e3, Int.ofNat.inj e4, Int.ofNat.inj e5]
    exact cmpI_eq _
theorem ss_bound {y m d h mi s : Nat} (hc : ck y m d h mi s = 0) : ssT y m d h mi s < 315569520000 := by
  have c1 := ck_nat hc
  have h1 := da_year (y := y) c1.2.1 c1.2.2.1 c1.2.2.2.1 c1.2.2.2.2.1
  have h2 := dbT_mono (a := y + 1) (b := 10000) (by omega)
  rw [db10000] at h2
  rw [ss_da]
  omega
theorem ss_date {y m d h mi s : Nat} (hc : ck y m d h mi s = 0) : isDate (ssT y m d h mi s / 86400) y m d ∧ ssT y m d h mi s % 86400 / 3600 = h ∧ ssT y m d h mi s % 3600 / 60 = mi ∧ ssT y m d h mi s % 60 = s := by
  have c1 := ck_nat hc
  have e : dbT y + msT y (m - 1) + d - 1 = daT y m d := by unfold daT; omega
  unfold isDate
  rw [e, ss_da]
  omega
theorem date_ck {D Y M d h mi s : Nat} (hd : isDate D Y M d) (hh : h ≤ 23) (hmi : mi ≤ 59) (hs : s ≤ 59) : ck Y M d h mi s = 0 := by
  obtain ⟨h1, h2, h3, h4, h5, h6⟩ := hd
  exact ck_of (by omega)
theorem date_ss {n Y M d : Nat} (hd : isDate (n / 86400) Y M d) : ssT Y M d (n % 86400 / 3600) (n % 3600 / 60) (n % 60) = n := by
  have := isDate_da hd
  rw [ss_da, this]
  omega
/-- The order of bytes. -/
def cmpB : List Nat → List Nat → Int
  | [], [] => 0
  | [], _ :: _ => -1
  | _ :: _, [] => 1
  | a :: l, b :: m => if a < b then -1 else if b < a then 1 else cmpB l m
theorem cmpB_same (x : Nat) (l m : List Nat) : cmpB (x :: l) (x :: m) = cmpB l m := by rw [cmpB, if_neg (Nat.lt_irrefl _), if_neg (Nat.lt_irrefl _)]
theorem cmpB_app : ∀ (l m a b : List Nat), l.length = m.length → cmpB (l ++ a) (m ++ b) = if cmpB l m ≠ 0 then cmpB l m else cmpB a b
  | [], [], a, b, _ => by rw [if_neg (by simp [cmpB])]; rfl
  | [], _ :: _, _, _, h => by cases h
  | _ :: _, [], _, _, h => by cases h
  | x :: l, y :: m, a, b, h => by
    rw [List.cons_append, List.cons_append, cmpB, cmpB, cmpB_app l m a b (by simpa using h)]
    by_cases h1 : x < y
    · rw [if_pos h1, if_pos h1]; rfl
    · rw [if_neg h1, if_neg h1]
      by_cases h2 : y < x
      · rw [if_pos h2, if_pos h2]; rfl
      · rw [if_neg h2, if_neg h2]
theorem less_bstr : ∀ {l m : List Nat}, All8 l → All8 m → Op.bytesLess (l.map UInt8.ofNat) (m.map UInt8.ofNat) = decide (cmpB l m = -1)
  | [], [], _, _ => rfl
  | [], y :: m, _, _ => rfl
  | x :: l, [], _, _ => rfl
  | x :: l, y :: m, hl, hm => by
    have hx := hl x (by simp)
    have hy := hm y (by simp)
    have ih := less_bstr (l := l) (m := m) (fun z hz => hl z (by simp [hz])) (fun z hz => hm z (by simp [hz]))
    have h2 : (UInt8.ofNat x < UInt8.ofNat y) ↔ x < y := by
      rw [UInt8.lt_iff_toNat_lt, UInt8.toNat_ofNat_of_lt' hx, UInt8.toNat_ofNat_of_lt' hy]
    have h3 : (UInt8.ofNat x == UInt8.ofNat y) = decide (x = y) := by
      rw [Bool.eq_iff_iff, beq_iff_eq, decide_eq_true_iff]
      constructor
      · intro e
        have := congrArg UInt8.toNat e
        rwa [UInt8.toNat_ofNat_of_lt' hx, UInt8.toNat_ofNat_of_lt' hy] at this
      · intro e; rw [e]
    rw [List.map_cons, List.map_cons, Op.bytesLess, cmpB, h3, ih]
    by_cases h4 : x < y
    · rw [if_pos h4, decide_eq_true (h2.2 h4)]; rfl
    · rw [if_neg h4, decide_eq_false (fun h => h4 (h2.1 h)), Bool.false_or]
      by_cases h5 : y < x
      · rw [if_pos h5, decide_eq_false (by omega), Bool.false_and]; rfl
      · rw [if_neg h5, decide_eq_true (by omega), Bool.true_and]
theorem cmp_dgl2 {a b : Nat} (ha : a ≤ 99) (hb : b ≤ 99) : cmpB (dgl 2 a) (dgl 2 b) = cmpI a b := by
  rw [dgl2, dgl2]
  simp only [cmpB]
  unfold cmpI
  repeat' split
  all_goals first | rfl | (exfalso; omega)
theorem cmp_dgl4 {a b : Nat} (ha : a ≤ 9999) (hb : b ≤ 9999) : cmpB (dgl 4 a) (dgl 4 b) = cmpI a b := by
  rw [dgl4, dgl4]
  simp only [cmpB]
  unfold cmpI
  repeat' split
  all_goals first | rfl | (exfalso; omega)
theorem orR_if (x : Int) (l : List Int) : (if x ≠ 0 then x else orR l) = orR (x :: l) := rfl
/-- Times are in the order of their texts. -/
theorem cmp_txtX {y m d h mi s y2 m2 d2 h2 mi2 s2 : Nat} (hc : ck y m d h mi s = 0) (hc2 : ck y2 m2 d2 h2 mi2 s2 = 0) : cmpB (txtX y m d h mi s) (txtX y2 m2 d2 h2 mi2 s2) = cmpT y m d h mi s y2 m2 d2 h2 mi2 s2 := by
  have c1 := ck_nat hc
  have c2 := ck_nat hc2
  unfold txtX
  simp only [List.append_assoc, List.cons_append, List.nil_append]
  rw [cmpB_app _ _ _ _ (by rw [dgl_len, dgl_len]), cmpB_same, cmp_dgl4 (by omega) (by omega), cmpB_app _ _ _ _ (by rw [dgl_len, dgl_len]), cmpB_same, cmp_dgl2 (by omega) (by omega), cmpB_app _ _ _ _ (by rw [dgl_len, dgl_len]), cmpB_same, cmp_dgl2 (by omega) (by omega), cmpB_app _ _ _ _ (by rw [dgl_len, dgl_len]), cmpB_same, cmp_dgl2 (by omega) (by omega), cmpB_app _ _ _ _ (by rw [dgl_len, dgl_len]), cmpB_same, cmp_dgl2 (by omega) (by omega), cmpB_app _ _ _ _ (by rw [dgl_len, dgl_len]), cmpB_same, cmp_dgl2 (by omega) (by omega)]
  rw [show cmpB [] [] = orR [] from rfl]
  simp only [orR_if]
  rfl
end Go.Proofs.YtecmgkmonehmfaaDoor.Tim
