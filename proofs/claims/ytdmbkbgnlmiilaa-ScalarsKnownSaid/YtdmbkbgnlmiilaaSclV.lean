/-
  Layer 5, plain: the content octets of integers, booleans and natural numbers.
  Conditions: none (no program is named here).
-/
import Derived.Test.YtdmbkbgnlmiilaaMem
import Derived.Test.YtdmbkbgnlmiilaaNum
namespace Go.Proofs.Ytdmbkbgnlmiilaa.Scl
open Go.RowKit

/-- The first bit is 1. -/
def negB : List Nat → Bool
  | [] => false
  | x :: _ => decide (128 ≤ x)
/-- The octets are as few as possible, and at least one. -/
def minB : List Nat → Bool
  | [] => false
  | [_] => true
  | x :: y :: _ => !((decide (x = 0) && decide (y < 128)) || (decide (x = 255) && decide (128 ≤ y)))
/-- The value of octets behind a start. -/
def fld (s : Int) (l : List Nat) : Int := l.foldl (fun (n : Int) (x : Nat) => n * 256 + (x : Int)) s
/-- Two's complement. -/
def sgn (l : List Nat) : Int := if negB l = true then -1 else 0
def tcv (l : List Nat) : Int := fld (sgn l) l
/-- The octets of an integer, by its definition. -/
def putI (z : Int) : List Nat :=
  if (z / 256 = 0 ∧ z % 256 < 128) ∨ (z / 256 = -1 ∧ 128 ≤ z % 256) then [(z % 256).toNat] else putI (z / 256) ++ [(z % 256).toNat]
termination_by z.natAbs
decreasing_by omega
/-- Octets that may be too many, cut. -/
def cutI : List Nat → List Nat
  | [] => []
  | x :: l => if minB (x :: l) then x :: l else cutI l
/-- The octets of an integer in a word. -/
def be8 (z : Int) : List Nat := (List.range 8).map fun i => ((z / 256 ^ (7 - i)) % 256).toNat

theorem putI_stop {z : Int} (h : (z / 256 = 0 ∧ z % 256 < 128) ∨ (z / 256 = -1 ∧ 128 ≤ z % 256)) : putI z = [(z % 256).toNat] := by rw [putI, if_pos h]
theorem putI_go {z : Int} (h : ¬ ((z / 256 = 0 ∧ z % 256 < 128) ∨ (z / 256 = -1 ∧ 128 ≤ z % 256))) : putI z = putI (z / 256) ++ [(z % 256).toNat] := by rw [putI, if_neg h]
theorem putI_ne (z : Int) : putI z ≠ [] := by
  by_cases h : (z / 256 = 0 ∧ z % 256 < 128) ∨ (z / 256 = -1 ∧ 128 ≤ z % 256)
  · rw [putI_stop h]; simp
  · rw [putI_go h]; simp
theorem fld_snoc (s : Int) (l : List Nat) (x : Nat) : fld s (l ++ [x]) = fld s l * 256 + (x : Int) := by unfold fld; rw [List.foldl_append]; rfl
theorem negB_app {l : List Nat} (h : l ≠ []) (m : List Nat) : negB (l ++ m) = negB l := by
  cases l with
  | nil => exact absurd rfl h
  | cons x l => rfl
theorem sgn_hi {x : Nat} (l : List Nat) (h : 128 ≤ x) : sgn (x :: l) = -1 := by unfold sgn negB; rw [if_pos (by simpa using h)]
theorem sgn_lo {x : Nat} (l : List Nat) (h : ¬ 128 ≤ x) : sgn (x :: l) = 0 := by unfold sgn negB; rw [if_neg (by simpa using h)]
theorem fld_cons (s : Int) (x : Nat) (l : List Nat) : fld s (x :: l) = fld (s * 256 + x) l := rfl
theorem tcv_snoc {l : List Nat} (h : l ≠ []) (x : Nat) : tcv (l ++ [x]) = tcv l * 256 + (x : Int) := by unfold tcv sgn; rw [negB_app h, fld_snoc]
theorem tcv_one {x : Nat} : tcv [x] = if 128 ≤ x then (x : Int) - 256 else (x : Int) := by
  unfold tcv
  by_cases h : 128 ≤ x
  · rw [if_pos h, sgn_hi _ h, fld_cons]; unfold fld; simp; omega
  · rw [if_neg h, sgn_lo _ h, fld_cons]; unfold fld; simp
theorem minB_app {l : List Nat} (h : 2 ≤ l.length) (m : List Nat) : minB (l ++ m) = minB l := by
  match l, h with
  | x :: y :: l, _ => rfl
theorem minB_one (x : Nat) : minB [x] = true := rfl
/-- Reading back: minimal octets are those of their value. -/
theorem putI_tcv : ∀ (n : Nat) (l : List Nat), l.length = n → All8 l → minB l = true → putI (tcv l) = l := by
  intro n
  induction n with
  | zero =>
    intro l hl _ hm
    rw [List.eq_nil_of_length_eq_zero hl] at hm
    cases hm
  | succ n ih =>
    intro l hl h8 hm
    rcases Nat.eq_zero_or_pos n with h0 | h0
    · subst h0
      obtain ⟨x, rfl⟩ : ∃ x, l = [x] := by
        match l, hl with
        | [x], _ => exact ⟨x, rfl⟩
      have hx := h8 x (by simp)
      rw [tcv_one]
      by_cases h : 128 ≤ x
      · rw [if_pos h, putI_stop (by omega)]; congr 1; omega
      · rw [if_neg h, putI_stop (by omega)]; congr 1; omega
    · obtain ⟨m, x, rfl⟩ : ∃ m x, l = m ++ [x] := by
        have hne : l ≠ [] := by intro e; subst e; simp at hl
        exact ⟨l.dropLast, l.getLast hne, (List.dropLast_concat_getLast hne).symm⟩
      have hml : m.length = n := by simpa using hl
      have hmne : m ≠ [] := by intro e; subst e; simp at hml; omega
      have hx := h8 x (by simp)
      have hm8 : All8 m := fun y hy => h8 y (by simp [hy])
      have hmm : minB m = true := by
        match m, hmne with
        | [y], _ => rfl
        | y :: z :: m, _ => exact hm
      have IH := ih m hml hm8 hmm
      rw [tcv_snoc hmne]
      have hq : (tcv m * 256 + (x : Int)) / 256 = tcv m := by omega
      have hr : (tcv m * 256 + (x : Int)) % 256 = (x : Int) := by omega
      rw [putI_go, hq, hr, IH]
      · simp
      · rw [hq, hr]
        rintro (⟨h1, h2⟩ | ⟨h1, h2⟩)
        · rw [h1, putI_stop (by omega)] at IH
          rw [← IH] at hm
          simp [minB] at hm
          omega
        · rw [h1, putI_stop (by omega)] at IH
          rw [← IH] at hm
          simp [minB] at hm
          omega
theorem putI_of {l : List Nat} {z : Int} (h8 : All8 l) (hm : minB l = true) (hz : tcv l = z) : putI z = l := by rw [← hz]; exact putI_tcv _ l rfl h8 hm
/-- What a leading octet that may be left out adds: nothing. -/
theorem tcv_cut {x : Nat} {l : List Nat} (hm : minB (x :: l) = false) (hl : l ≠ []) : tcv (x :: l) = tcv l := by
  match l, hl with
  | y :: l, _ =>
    simp only [minB, Bool.not_eq_false', Bool.or_eq_true, Bool.and_eq_true, decide_eq_true_eq] at hm
    unfold tcv
    rcases hm with ⟨rfl, h⟩ | ⟨rfl, h⟩
    · rw [sgn_lo _ (by omega), sgn_lo _ (by omega), fld_cons]; rfl
    · rw [sgn_hi _ (by omega), sgn_hi _ h, fld_cons]; rfl
theorem cutI_min : ∀ (l : List Nat), l ≠ [] → minB (cutI l) = true
  | [], h => absurd rfl h
  | x :: l, _ => by
    unfold cutI
    by_cases hm : minB (x :: l) = true
    · rw [if_pos hm]; exact hm
    · rw [if_neg hm]
      cases l with
      | nil => exact absurd rfl hm
      | cons y l => exact cutI_min (y :: l) (by simp)
theorem cutI_tcv : ∀ (l : List Nat), l ≠ [] → tcv (cutI l) = tcv l
  | [], h => absurd rfl h
  | x :: l, _ => by
    unfold cutI
    by_cases hm : minB (x :: l) = true
    · rw [if_pos hm]
    · rw [if_neg hm]
      cases l with
      | nil => exact absurd rfl hm
      | cons y l => rw [cutI_tcv (y :: l) (by simp)]; exact (tcv_cut (by simpa using hm) (by simp)).symm
theorem cutI_all : ∀ (l : List Nat), All8 l → All8 (cutI l)
  | [], h => h
  | x :: l, h => by
    unfold cutI
    by_cases hm : minB (x :: l) = true
    · rw [if_pos hm]; exact h
    · rw [if_neg hm]; exact cutI_all l fun y hy => h y (by simp [hy])
/-- The cut octets behind k that are not minimal. -/
theorem cutI_drop {l : List Nat} {k : Nat} (hs : ∀ j, j < k → minB (l.drop j) = false) (hk : k < l.length) : cutI l = cutI (l.drop k) := by
  induction k with
  | zero => rfl
  | succ k ih =>
    rw [ih (fun j hj => hs j (by omega)) (by omega)]
    have := hs k (by omega)
    rw [List.drop_eq_getElem_cons (by omega)] at this ⊢
    rw [cutI, if_neg (by rw [this]; simp)]
theorem cutI_self {l : List Nat} (h : minB l = true) : cutI l = l := by
  cases l with
  | nil => rfl
  | cons x l => rw [cutI, if_pos h]
theorem be8_length (z : Int) : (be8 z).length = 8 := by unfold be8; simp
theorem be8_get {z : Int} {i : Nat} (h : i < 8) : (be8 z)[i]? = some ((z / 256 ^ (7 - i)) % 256).toNat := by
  unfold be8
  rw [List.getElem?_map, List.getElem?_range h]; rfl
theorem be8_all (z : Int) : All8 (be8 z) := by
  intro x hx
  unfold be8 at hx
  obtain ⟨i, _, rfl⟩ := List.mem_map.1 hx
  have : (z / 256 ^ (7 - i)) % 256 < 256 := Int.emod_lt_of_pos _ (by decide)
  have : 0 ≤ (z / 256 ^ (7 - i)) % 256 := Int.emod_nonneg _ (by decide)
  omega
theorem be8_eq (z : Int) : be8 z = [((z / 72057594037927936) % 256).toNat, ((z / 281474976710656) % 256).toNat, ((z / 1099511627776) % 256).toNat, ((z / 4294967296) % 256).toNat, ((z / 16777216) % 256).toNat, ((z / 65536) % 256).toNat, ((z / 256) % 256).toNat, ((z / 1) % 256).toNat] := rfl
theorem be8_step (a : Int) : a / 256 * 256 + (((a % 256).toNat : Nat) : Int) = a := by omega
theorem be8_tcv {z : Int} (h1 : -9223372036854775808 ≤ z) (h2 : z < 9223372036854775808) : tcv (be8 z) = z := by
  have e7 : z / 72057594037927936 = z / 256 / 256 / 256 / 256 / 256 / 256 / 256 := by omega
  have e6 : z / 281474976710656 = z / 256 / 256 / 256 / 256 / 256 / 256 := by omega
  have e5 : z / 1099511627776 = z / 256 / 256 / 256 / 256 / 256 := by omega
  have e4 : z / 4294967296 = z / 256 / 256 / 256 / 256 := by omega
  have e3 : z / 16777216 = z / 256 / 256 / 256 := by omega
  have e2 : z / 65536 = z / 256 / 256 := by omega
  have hb : -128 ≤ z / 72057594037927936 ∧ z / 72057594037927936 < 128 := by omega
  have e0 : z / 1 = z := by omega
  rw [be8_eq, e6, e5, e4, e3, e2, e0]
  rw [e7] at hb ⊢
  clear h1 h2 e7 e6 e5 e4 e3 e2 e0
  obtain ⟨a7, ha7⟩ : ∃ a7, z / 256 / 256 / 256 / 256 / 256 / 256 / 256 = a7 := ⟨_, rfl⟩
  rw [ha7] at hb ⊢
  have hs : sgn ((a7 % 256).toNat :: [((z / 256 / 256 / 256 / 256 / 256 / 256) % 256).toNat, ((z / 256 / 256 / 256 / 256 / 256) % 256).toNat, ((z / 256 / 256 / 256 / 256) % 256).toNat, ((z / 256 / 256 / 256) % 256).toNat, ((z / 256 / 256) % 256).toNat, ((z / 256) % 256).toNat, (z % 256).toNat]) = a7 / 256 := by
    by_cases h : 128 ≤ (a7 % 256).toNat
    · rw [sgn_hi _ h]; omega
    · rw [sgn_lo _ h]; omega
  unfold tcv
  rw [hs, fld_cons, be8_step, ← ha7, fld_cons, be8_step, fld_cons, be8_step, fld_cons, be8_step, fld_cons, be8_step, fld_cons, be8_step, fld_cons, be8_step, fld_cons, be8_step]
  rfl
theorem cutI_be8 {z : Int} (h1 : -9223372036854775808 ≤ z) (h2 : z < 9223372036854775808) : cutI (be8 z) = putI z := by
  have hne : be8 z ≠ [] := by intro e; have := be8_length z; rw [e] at this; simp at this
  exact (putI_of (cutI_all _ (be8_all z)) (cutI_min _ hne) ((cutI_tcv _ hne).trans (be8_tcv h1 h2))).symm
theorem cutI_length : ∀ (l : List Nat), (cutI l).length ≤ l.length
  | [] => Nat.le_refl _
  | x :: l => by
    unfold cutI
    by_cases hm : minB (x :: l) = true
    · rw [if_pos hm]; exact Nat.le_refl _
    · rw [if_neg hm]; have := cutI_length l; simp; omega
theorem putI_all {z : Int} (h1 : -9223372036854775808 ≤ z) (h2 : z < 9223372036854775808) : All8 (putI z) := by rw [← cutI_be8 h1 h2]; exact cutI_all _ (be8_all z)
theorem putI_min {z : Int} (h1 : -9223372036854775808 ≤ z) (h2 : z < 9223372036854775808) : minB (putI z) = true := by
  rw [← cutI_be8 h1 h2]
  exact cutI_min _ (by intro e; have := be8_length z; rw [e] at this; simp at this)
theorem putI_len {z : Int} (h1 : -9223372036854775808 ≤ z) (h2 : z < 9223372036854775808) : (putI z).length ≤ 8 := by
  rw [← cutI_be8 h1 h2]
  have := cutI_length (be8 z)
  rw [be8_length] at this
  exact this
theorem tcv_putI {z : Int} (h1 : -9223372036854775808 ≤ z) (h2 : z < 9223372036854775808) : tcv (putI z) = z := by
  rw [← cutI_be8 h1 h2, cutI_tcv _ (by intro e; have := be8_length z; rw [e] at this; simp at this), be8_tcv h1 h2]
/-- The bounds of a value by the number of octets. -/
theorem fld_bd : ∀ (n : Nat) (s : Int) (l : List Nat), l.length = n → All8 l → s * 256 ^ n ≤ fld s l ∧ fld s l < (s + 1) * 256 ^ n := by
  intro n
  induction n with
  | zero =>
    intro s l hl _
    rw [List.eq_nil_of_length_eq_zero hl]
    unfold fld; simp; omega
  | succ n ih =>
    intro s l hl h8
    match l, hl with
    | x :: l, hl =>
      have hx := h8 x (by simp)
      have IH := ih (s * 256 + x) l (by simpa using hl) (fun y hy => h8 y (by simp [hy]))
      have e : fld s (x :: l) = fld (s * 256 + x) l := rfl
      rw [e]
      have hp : (0 : Int) ≤ 256 ^ n := Int.pow_nonneg (by decide)
      have e2 : (256 : Int) ^ (n + 1) = 256 * 256 ^ n := by rw [Int.pow_succ, Int.mul_comm]
      rw [e2]
      constructor
      · refine Int.le_trans ?_ IH.1
        rw [← Int.mul_assoc]
        exact Int.mul_le_mul_of_nonneg_right (by omega) hp
      · refine Int.lt_of_lt_of_le IH.2 ?_
        rw [← Int.mul_assoc]
        exact Int.mul_le_mul_of_nonneg_right (by omega) hp
theorem fld_take {s : Int} {l : List Nat} {k : Nat} (h : k < l.length) : fld s (l.take (k + 1)) = fld s (l.take k) * 256 + ((l[k] : Nat) : Int) := by
  rw [List.take_succ_eq_append_getElem h, fld_snoc]
/-- The reading of an integer: its value and the error. -/
def giE (l : List Nat) : Nat := if minB l = false then 11 else if 8 < l.length then 3 else 0
def giV (l : List Nat) : Int := if giE l = 0 then tcv l else 0
theorem giE_ok {l : List Nat} (h : giE l = 0) : minB l = true ∧ l.length ≤ 8 := by
  unfold giE at h
  cases hm : minB l with
  | false => rw [hm] at h; simp at h
  | true =>
    rw [hm] at h
    simp at h
    exact ⟨rfl, h⟩
theorem gi_put {z : Int} (h1 : -9223372036854775808 ≤ z) (h2 : z < 9223372036854775808) : giE (putI z) = 0 ∧ giV (putI z) = z := by
  have e : giE (putI z) = 0 := by
    unfold giE
    rw [putI_min h1 h2, if_neg (by simp), if_neg (by have := putI_len h1 h2; omega)]
  exact ⟨e, by unfold giV; rw [if_pos e, tcv_putI h1 h2]⟩
theorem put_gi {l : List Nat} (h8 : All8 l) (h : giE l = 0) : putI (giV l) = l := by
  unfold giV
  rw [if_pos h]
  exact putI_tcv _ l rfl h8 (giE_ok h).1
/-- Within the loop the value stays in a word. -/
theorem tc_bd {l : List Nat} (h8 : All8 l) (hl : l.length ≤ 8) (k : Nat) (hk : k ≤ l.length) :
    -9223372036854775808 ≤ fld (sgn l) (l.take k) ∧ fld (sgn l) (l.take k) < 9223372036854775808 ∧ (k < l.length → -36028797018963968 ≤ fld (sgn l) (l.take k) ∧ fld (sgn l) (l.take k) < 36028797018963968) := by
  cases l with
  | nil => simp [fld, sgn, negB]
  | cons x l =>
    have hx := h8 x (by simp)
    cases k with
    | zero => by_cases h : 128 ≤ x <;> simp [fld, sgn, negB, h]
    | succ k =>
      rw [List.take_succ_cons, fld_cons]
      have hk' : k ≤ l.length := by simpa using hk
      have hkl : (l.take k).length = k := by rw [List.length_take]; omega
      have hk7 : k ≤ 7 := by simp at hl; omega
      have ht8 : All8 (l.take k) := fun y hy => h8 y (by simp [List.mem_of_mem_take hy])
      have hp : (0 : Int) ≤ 256 ^ k := Int.pow_nonneg (by decide)
      have hs : -128 ≤ sgn (x :: l) * 256 + x ∧ sgn (x :: l) * 256 + x + 1 ≤ 128 := by
        by_cases h : 128 ≤ x
        · rw [sgn_hi _ h]; omega
        · rw [sgn_lo _ h]; omega
      obtain ⟨b1, b2⟩ := fld_bd k (sgn (x :: l) * 256 + x) (l.take k) hkl ht8
      generalize fld (sgn (x :: l) * 256 + x) (l.take k) = F at *
      generalize sgn (x :: l) * 256 + x = S at *
      have c1 : -128 * 256 ^ k ≤ S * 256 ^ k := Int.mul_le_mul_of_nonneg_right hs.1 hp
      have c2 : (S + 1) * 256 ^ k ≤ 128 * 256 ^ k := Int.mul_le_mul_of_nonneg_right hs.2 hp
      have p7 : (256 : Int) ^ k ≤ 72057594037927936 := by
        have := Int.ofNat_le.2 (Nat.pow_le_pow_right (n := 256) (by decide) hk7)
        simpa using this
      refine ⟨by omega, by omega, fun hlt => ?_⟩
      have hk6 : k ≤ 6 := by simp at hlt hl; omega
      have p6 : (256 : Int) ^ k ≤ 281474976710656 := by
        have := Int.ofNat_le.2 (Nat.pow_le_pow_right (n := 256) (by decide) hk6)
        simpa using this
      exact ⟨by omega, by omega⟩
theorem gi_bd {l : List Nat} (h8 : All8 l) : -9223372036854775808 ≤ giV l ∧ giV l < 9223372036854775808 := by
  unfold giV
  by_cases h : giE l = 0
  · rw [if_pos h]
    have := tc_bd h8 (giE_ok h).2 l.length (Nat.le_refl _)
    rw [List.take_length] at this
    exact ⟨this.1, this.2.1⟩
  · rw [if_neg h]; omega

/-! Booleans. -/
def gbE (l : List Nat) : Nat := if l = [0] ∨ l = [255] then 0 else 11
def gbV (l : List Nat) : Bool := decide (l = [255])
def pbL (v : Bool) : List Nat := if v then [255] else [0]
theorem put_gb {l : List Nat} (h : gbE l = 0) : pbL (gbV l) = l := by
  unfold gbE at h
  by_cases h1 : l = [0] ∨ l = [255]
  · rcases h1 with rfl | rfl <;> rfl
  · rw [if_neg h1] at h; omega
theorem gb_put (v : Bool) : gbE (pbL v) = 0 ∧ gbV (pbL v) = v := by cases v <;> decide

/-! Natural numbers. -/
def putN (l : List Nat) : List Nat := if l = [] ∨ negB l = true then 0 :: l else l
def gnE (l : List Nat) : Nat := if minB l = false ∨ negB l = true then 11 else if 64 < (cutL l).length then 3 else 0
def gnL (l : List Nat) : List Nat := if gnE l = 0 then cutL l else []
theorem gn_cut {x : Nat} {l : List Nat} (hm : minB (x :: l) = true) (hn : negB (x :: l) = false) : cutL (x :: l) = if x = 0 then l else x :: l := by
  by_cases hx : x = 0
  · subst hx
    rw [if_pos rfl]
    cases l with
    | nil => rfl
    | cons y l =>
      have hy : 128 ≤ y := by simp [minB] at hm; omega
      unfold cutL
      rw [List.dropWhile_cons, if_pos (by rfl), List.dropWhile_cons, if_neg (by simp; omega)]
  · rw [if_neg hx]
    unfold cutL
    rw [List.dropWhile_cons, if_neg (by simp; exact hx)]
theorem putN_min {l : List Nat} (h : cutL l = l) : minB (putN l) = true ∧ negB (putN l) = false ∧ cutL (putN l) = l := by
  unfold putN
  cases l with
  | nil => simp [minB, negB, cutL]
  | cons x l =>
    have hx : x ≠ 0 := by
      rintro rfl
      unfold cutL at h
      rw [List.dropWhile_cons, if_pos (by rfl)] at h
      have h2 := congrArg List.length h
      have h3 : (List.dropWhile (fun x => x == 0) l).length ≤ l.length := (List.dropWhile_sublist _).length_le
      simp at h2
      omega
    by_cases hn : negB (x :: l) = true
    · rw [if_pos (.inr hn)]
      have hx8 : 128 ≤ x := by simpa [negB] using hn
      refine ⟨by simp [minB]; omega, by simp [negB], ?_⟩
      unfold cutL at h ⊢
      rw [List.dropWhile_cons, if_pos (by rfl)]; exact h
    · rw [if_neg (by simp [hn])]
      refine ⟨?_, by simpa using hn, h⟩
      cases l with
      | nil => rfl
      | cons y l =>
        have hx8 : ¬ 128 ≤ x := by simpa [negB] using hn
        simp [minB]; omega
theorem gn_put {l : List Nat} (h : cutL l = l) (hl : l.length ≤ 64) : gnE (putN l) = 0 ∧ gnL (putN l) = l := by
  obtain ⟨h1, h2, h3⟩ := putN_min h
  have e : gnE (putN l) = 0 := by
    unfold gnE
    rw [h1, h2, h3, if_neg (by simp), if_neg (by omega)]
  exact ⟨e, by unfold gnL; rw [if_pos e, h3]⟩
theorem gnE_ok {l : List Nat} (h : gnE l = 0) : minB l = true ∧ negB l = false ∧ (cutL l).length ≤ 64 := by
  unfold gnE at h
  by_cases h1 : minB l = false ∨ negB l = true
  · rw [if_pos h1] at h; omega
  · rw [if_neg h1] at h
    by_cases h2 : 64 < (cutL l).length
    · rw [if_pos h2] at h; omega
    · refine ⟨?_, ?_, by omega⟩
      · cases hm : minB l
        · exact absurd (.inl hm) h1
        · rfl
      · cases hm : negB l
        · rfl
        · exact absurd (.inr hm) h1
theorem put_gn {l : List Nat} (h : gnE l = 0) : putN (gnL l) = l := by
  obtain ⟨h1, h2, _⟩ := gnE_ok h
  unfold gnL
  rw [if_pos h]
  cases l with
  | nil => cases h1
  | cons x l =>
    rw [gn_cut h1 h2]
    by_cases hx : x = 0
    · subst hx
      rw [if_pos rfl]
      cases l with
      | nil => rfl
      | cons y l =>
        have hy : 128 ≤ y := by simp [minB] at h1; omega
        unfold putN
        rw [if_pos (.inr (by simpa [negB] using hy))]
    · rw [if_neg hx]
      unfold putN
      rw [if_neg (by simp [h2])]
theorem gnL_cut {l : List Nat} (h8 : All8 l) : cutL (gnL l) = gnL l := by
  unfold gnL
  by_cases h : gnE l = 0
  · rw [if_pos h]
    rw [cutL_eq h8, cutL_dig]
  · rw [if_neg h]; rfl
end Go.Proofs.Ytdmbkbgnlmiilaa.Scl
