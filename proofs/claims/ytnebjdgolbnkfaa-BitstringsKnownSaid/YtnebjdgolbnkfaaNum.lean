/-
  Plain arithmetic: the digits of a number to a base, the least significant one first, and their value.
  Conditions: none (no program is named here).
-/
namespace Go.Proofs.Ytnebjdgolbnkfaa

/-- The value of digits, the least significant one first. -/
def vl (b : Nat) : List Nat → Nat
  | [] => 0
  | x :: l => x + b * vl b l
/-- Without zeros at the end. -/
def trimL : List Nat → List Nat
  | [] => []
  | x :: l => match trimL l with
    | [] => if x = 0 then [] else [x]
    | y :: m => x :: y :: m
/-- The digits of a number, with fuel. -/
def dgsF (b : Nat) : Nat → Nat → List Nat
  | 0, _ => []
  | f + 1, v => if v = 0 then [] else (v % b) :: dgsF b f (v / b)
/-- The digits of a number, the least significant one first. -/
def dgs (b v : Nat) : List Nat := dgsF b v v
def Lt (b : Nat) (l : List Nat) : Prop := ∀ x ∈ l, x < b

theorem Lt.nil {b : Nat} : Lt b [] := fun _ h => absurd h (by simp)
theorem Lt.cons {b x : Nat} {l : List Nat} (hx : x < b) (h : Lt b l) : Lt b (x :: l) := by
  intro y hy
  rcases List.mem_cons.1 hy with rfl | hy
  · exact hx
  · exact h y hy
theorem Lt.head {b x : Nat} {l : List Nat} (h : Lt b (x :: l)) : x < b := h x (by simp)
theorem Lt.tail {b x : Nat} {l : List Nat} (h : Lt b (x :: l)) : Lt b l := fun y hy => h y (by simp [hy])
theorem Lt.app {b : Nat} {l m : List Nat} (h : Lt b l) (k : Lt b m) : Lt b (l ++ m) := by
  intro y hy
  rcases List.mem_append.1 hy with hy | hy
  · exact h y hy
  · exact k y hy
theorem Lt.rev {b : Nat} {l : List Nat} (h : Lt b l) : Lt b l.reverse := fun y hy => h y (by simpa using hy)
theorem Lt.set {b : Nat} {l : List Nat} (h : Lt b l) {i x : Nat} (hx : x < b) : Lt b (l.set i x) := by
  intro y hy
  rcases List.mem_or_eq_of_mem_set hy with hy | rfl
  · exact h y hy
  · exact hx
theorem Lt.left {b : Nat} {l m : List Nat} (h : Lt b (l ++ m)) : Lt b l := fun y hy => h y (by simp [hy])
theorem Lt.right {b : Nat} {l m : List Nat} (h : Lt b (l ++ m)) : Lt b m := fun y hy => h y (by simp [hy])

theorem dgsF_stop {b : Nat} (hb : 2 ≤ b) : ∀ (f g v : Nat), v ≤ f → v ≤ g → dgsF b f v = dgsF b g v := by
  intro f
  induction f with
  | zero =>
    intro g v hf hg
    have : v = 0 := by omega
    subst this
    cases g <;> simp [dgsF]
  | succ f ih =>
    intro g v hf hg
    cases g with
    | zero =>
      have : v = 0 := by omega
      subst this
      simp [dgsF]
    | succ g =>
      unfold dgsF
      by_cases hv : v = 0
      · simp [hv]
      · have hd : v / b < v := Nat.div_lt_self (by omega) (by omega)
        simp [hv, ih g (v / b) (by omega) (by omega)]
theorem dgs_zero (b : Nat) : dgs b 0 = [] := rfl
theorem dgs_pos {b v : Nat} (hb : 2 ≤ b) (hv : v ≠ 0) : dgs b v = (v % b) :: dgs b (v / b) := by
  have hd : v / b < v := Nat.div_lt_self (by omega) (by omega)
  unfold dgs
  obtain ⟨u, rfl⟩ : ∃ u, v = u + 1 := ⟨v - 1, by omega⟩
  rw [dgsF, if_neg hv, dgsF_stop hb u ((u + 1) / b) _ (by omega) (Nat.le_refl _)]
theorem dgs_lt {b : Nat} (hb : 2 ≤ b) (v : Nat) : Lt b (dgs b v) := by
  induction v using Nat.strongRecOn with
  | ind v ih =>
    by_cases hv : v = 0
    · subst hv; exact Lt.nil
    · rw [dgs_pos hb hv]
      exact Lt.cons (Nat.mod_lt _ (by omega)) (ih _ (Nat.div_lt_self (by omega) (by omega)))
theorem vl_dgs {b : Nat} (hb : 2 ≤ b) (v : Nat) : vl b (dgs b v) = v := by
  induction v using Nat.strongRecOn with
  | ind v ih =>
    by_cases hv : v = 0
    · subst hv; rfl
    · rw [dgs_pos hb hv, vl, ih _ (Nat.div_lt_self (by omega) (by omega))]
      exact Nat.mod_add_div v b
theorem vl_zero_iff {b : Nat} (hb : 2 ≤ b) {l : List Nat} (hl : Lt b l) : vl b l = 0 ↔ trimL l = [] := by
  induction l with
  | nil => simp [vl, trimL]
  | cons x l ih =>
    have ih := ih hl.tail
    rw [vl, trimL]
    cases ht : trimL l with
    | nil =>
      have h0 := ih.2 ht
      simp only [h0]
      by_cases hx : x = 0 <;> simp [hx]
    | cons y m =>
      have h0 : vl b l ≠ 0 := fun e => by rw [ih.1 e] at ht; cases ht
      have hm : 0 < b * vl b l := Nat.mul_pos (by omega) (by omega)
      simp
      omega
theorem dgs_vl {b : Nat} (hb : 2 ≤ b) {l : List Nat} (hl : Lt b l) : dgs b (vl b l) = trimL l := by
  induction l with
  | nil => rfl
  | cons x l ih =>
    have ih := ih hl.tail
    have hx := hl.head
    have hmod : (x + b * vl b l) % b = x := by rw [Nat.add_mul_mod_self_left]; exact Nat.mod_eq_of_lt hx
    have hdiv : (x + b * vl b l) / b = vl b l := by rw [Nat.add_mul_div_left _ _ (by omega), Nat.div_eq_of_lt hx, Nat.zero_add]
    rw [vl, trimL]
    cases ht : trimL l with
    | nil =>
      have h0 := (vl_zero_iff hb hl.tail).2 ht
      by_cases hx0 : x = 0
      · simp [h0, hx0, dgs_zero]
      · rw [dgs_pos hb (by omega), hmod, hdiv, h0, dgs_zero]
        simp [hx0]
    | cons y m =>
      have h0 : vl b l ≠ 0 := fun e => by rw [(vl_zero_iff hb hl.tail).1 e] at ht; cases ht
      have hm : 0 < b * vl b l := Nat.mul_pos (by omega) (by omega)
      rw [dgs_pos hb (by omega), hmod, hdiv, ih, ht]
theorem vl_append (b : Nat) (l m : List Nat) : vl b (l ++ m) = vl b l + b ^ l.length * vl b m := by
  induction l with
  | nil => simp [vl]
  | cons x l ih =>
    simp only [List.cons_append, vl, ih, List.length_cons, Nat.pow_succ, Nat.mul_add]
    rw [Nat.mul_comm (b ^ l.length) b, ← Nat.mul_assoc, Nat.add_assoc]
theorem vl_lt {b : Nat} {l : List Nat} (hl : Lt b l) : vl b l < b ^ l.length := by
  induction l with
  | nil => simp [vl]
  | cons x l ih =>
    have ih := ih hl.tail
    have hx := hl.head
    rw [vl, List.length_cons, Nat.pow_succ, Nat.mul_comm (b ^ l.length) b]
    have h1 : b * (vl b l + 1) ≤ b * b ^ l.length := Nat.mul_le_mul_left b ih
    rw [Nat.mul_add, Nat.mul_one] at h1
    omega
theorem trimL_length (l : List Nat) : (trimL l).length ≤ l.length := by
  induction l with
  | nil => simp [trimL]
  | cons x l ih =>
    rw [trimL]
    cases ht : trimL l with
    | nil => dsimp only; split <;> simp
    | cons y m => rw [ht] at ih; simp at ih ⊢; omega
theorem dgs_length {b : Nat} (hb : 2 ≤ b) (v k : Nat) : (dgs b v).length ≤ k ↔ v < b ^ k := by
  induction k generalizing v with
  | zero =>
    by_cases hv : v = 0
    · subst hv; simp [dgs_zero]
    · rw [dgs_pos hb hv]; simp; omega
  | succ k ih =>
    by_cases hv : v = 0
    · subst hv; simp [dgs_zero]; exact Nat.pow_pos (by omega)
    · rw [dgs_pos hb hv, List.length_cons, Nat.add_le_add_iff_right, ih, Nat.pow_succ]
      exact Nat.div_lt_iff_lt_mul (by omega)
theorem vl_replicate (b n : Nat) : vl b (List.replicate n 0) = 0 := by
  induction n with
  | zero => rfl
  | succ n ih => simp [List.replicate_succ, vl, ih]
theorem vl_set {b : Nat} {l : List Nat} {p : Nat} (hp : p < l.length) (y : Nat) : vl b (l.set p y) + b ^ p * l[p] = vl b l + b ^ p * y := by
  induction l generalizing p with
  | nil => simp at hp
  | cons x l ih =>
    cases p with
    | zero => simp [vl]; omega
    | succ p =>
      have h := ih (p := p) (by simpa using hp)
      have h2 := congrArg (b * ·) h
      simp only [Nat.mul_add] at h2
      simp only [List.set_cons_succ, vl, List.getElem_cons_succ, Nat.pow_succ, Nat.mul_comm (b ^ p) b, Nat.mul_assoc]
      omega
theorem set_rev (l : List Nat) (n x : Nat) (hn : n < l.length) : l.reverse.set n x = (l.set (l.length - 1 - n) x).reverse := by
  apply List.ext_getElem
  · simp
  · intro i h1 h2
    simp only [List.length_set, List.length_reverse] at h1 h2
    rw [List.getElem_set, List.getElem_reverse, List.getElem_reverse, List.getElem_set]
    simp only [List.length_set]
    by_cases hi : n = i
    · subst hi; simp
    · rw [if_neg hi, if_neg (by omega)]
theorem trimL_eq_of {b : Nat} (hb : 2 ≤ b) {l : List Nat} (hl : Lt b l) {v : Nat} (hv : vl b l = v) : trimL l = dgs b v := by rw [← hv, dgs_vl hb hl]
theorem trimL_trimL (l : List Nat) : trimL (trimL l) = trimL l := by
  induction l with
  | nil => rfl
  | cons x l ih =>
    rw [trimL]
    cases ht : trimL l with
    | nil => dsimp only; split <;> simp_all [trimL]
    | cons y m =>
      rw [ht] at ih
      dsimp only
      rw [trimL, ih]
theorem trimL_last (l : List Nat) (x : Nat) (hx : x ≠ 0) : trimL (l ++ [x]) = l ++ [x] := by
  induction l with
  | nil => simp [trimL, hx]
  | cons y l ih => rw [List.cons_append, trimL, ih]; cases l <;> rfl
theorem trimL_zero (l : List Nat) : trimL (l ++ [0]) = trimL l := by
  induction l with
  | nil => simp [trimL]
  | cons y l ih => rw [List.cons_append, trimL, ih, trimL]

/-! Digits to the base 256, the most significant one first. -/
def dig (v : Nat) : List Nat := (dgs 256 v).reverse
def val (l : List Nat) : Nat := vl 256 l.reverse
def cutL (l : List Nat) : List Nat := l.dropWhile (· == 0)

theorem cutL_rev (l : List Nat) : (cutL l.reverse).reverse = trimL l := by
  induction l with
  | nil => rfl
  | cons x l ih =>
    rw [List.reverse_cons, trimL, ← ih]
    unfold cutL
    rw [List.dropWhile_append]
    by_cases h : (List.dropWhile (fun x => x == 0) l.reverse).isEmpty = true
    · rw [if_pos h]
      rw [List.isEmpty_iff.1 h]
      by_cases hx : x = 0
      · simp [List.dropWhile, hx]
      · have hb : (x == 0) = false := by simp [hx]
        simp [List.dropWhile, hx, hb]
    · rw [if_neg h]
      rw [List.reverse_append]
      simp only [List.reverse_cons, List.reverse_nil, List.nil_append, List.singleton_append]
      cases hr : (List.dropWhile (fun x => x == 0) l.reverse).reverse with
      | nil => simp at hr; simp [hr] at h
      | cons y m => rfl
theorem cutL_eq {l : List Nat} (hl : Lt 256 l) : cutL l = dig (val l) := by
  have h := cutL_rev l.reverse
  rw [List.reverse_reverse] at h
  unfold dig val
  rw [dgs_vl (by omega) hl.rev, ← h, List.reverse_reverse]
theorem val_dig (v : Nat) : val (dig v) = v := by unfold val dig; rw [List.reverse_reverse, vl_dgs (by omega)]
theorem dig_lt (v : Nat) : Lt 256 (dig v) := (dgs_lt (by omega) v).rev
theorem dig_length (v k : Nat) : (dig v).length ≤ k ↔ v < 256 ^ k := by unfold dig; rw [List.length_reverse]; exact dgs_length (by omega) v k
theorem dig_zero : dig 0 = [] := rfl
theorem val_lt {l : List Nat} (hl : Lt 256 l) : val l < 256 ^ l.length := by have := vl_lt (b := 256) hl.rev; simpa [val] using this
theorem val_snoc (l : List Nat) (x : Nat) : val (l ++ [x]) = 256 * val l + x := by simp [val, vl]; omega
theorem val_cons (x : Nat) (l : List Nat) : val (x :: l) = x * 256 ^ l.length + val l := by
  simp only [val, List.reverse_cons, vl_append, List.length_reverse, vl]
  rw [Nat.mul_comm x, Nat.mul_zero, Nat.add_zero]; omega
theorem val_zero (n : Nat) : val (List.replicate n 0) = 0 := by simp [val, vl_replicate]
/-- The digit at a place, counted from the least significant one. -/
def digAt (l : List Nat) (i : Nat) : Nat := l.reverse.getD i 0
/-- The value of the k least significant digits. -/
def low (l : List Nat) (k : Nat) : Nat := vl 256 (l.reverse.take k)
theorem digAt_lt {l : List Nat} (h : Lt 256 l) (i : Nat) : digAt l i < 256 := by
  unfold digAt
  rw [List.getD_eq_getElem?_getD]
  cases hx : l.reverse[i]? with
  | none => simp
  | some y =>
    have := List.mem_of_getElem? hx
    exact h y (by simpa using this)
theorem low_zero (l : List Nat) : low l 0 = 0 := rfl
theorem low_succ' (l : List Nat) (k : Nat) : low l (k + 1) = low l k + 256 ^ k * digAt l k := by
  unfold low digAt
  by_cases hk : k < l.reverse.length
  · rw [List.take_succ_eq_append_getElem hk, vl_append, List.length_take, Nat.min_eq_left (by omega), List.getD_eq_getElem?_getD, List.getElem?_eq_getElem hk]
    simp [vl]
  · rw [List.take_of_length_le (by omega), List.take_of_length_le (by omega), List.getD_eq_getElem?_getD, List.getElem?_eq_none (by omega)]
    simp
theorem low_all' {l : List Nat} {k : Nat} (h : l.length ≤ k) : low l k = val l := by unfold low val; rw [List.take_of_length_le (by simpa using h)]
theorem vl_take {b : Nat} {l : List Nat} {k : Nat} (h : ∀ j, k ≤ j → j < l.length → l[j]? = some 0) : vl b (l.take k) = vl b l := by
  have h1 := vl_append b (l.take k) (l.drop k)
  rw [List.take_append_drop] at h1
  have h2 : l.drop k = List.replicate (l.length - k) 0 := by
    apply List.ext_getElem?
    intro i
    rw [List.getElem?_drop, List.getElem?_replicate]
    by_cases hi : i < l.length - k
    · rw [if_pos hi, h (k + i) (by omega) (by omega)]
    · rw [if_neg hi, List.getElem?_eq_none (by omega)]
  rw [h2, vl_replicate] at h1
  omega
theorem vl_lt_take {b : Nat} (hb : 1 ≤ b) {l : List Nat} (hl : Lt b l) {k : Nat} (h : ∀ j, k ≤ j → j < l.length → l[j]? = some 0) : vl b l < b ^ k := by
  rw [← vl_take h]
  have h1 := vl_lt (b := b) (l := l.take k) (fun y hy => hl y (List.mem_of_mem_take hy))
  have h2 : b ^ (l.take k).length ≤ b ^ k := Nat.pow_le_pow_right (by omega) (by simp; omega)
  omega
theorem low_succ {l : List Nat} {k : Nat} (hk : k < l.length) : low l (k + 1) = low l k + 256 ^ k * digAt l k := by
  unfold low digAt
  have hk' : k < l.reverse.length := by simpa using hk
  rw [List.take_succ_eq_append_getElem hk', vl_append, List.length_take, Nat.min_eq_left (by omega), List.getD_eq_getElem?_getD, List.getElem?_eq_getElem hk']
  simp [vl]
theorem low_all (l : List Nat) : low l l.length = val l := by unfold low val; rw [List.take_of_length_le (by simp)]
theorem low_le {l : List Nat} (h : Lt 256 l) (k : Nat) : low l k < 256 ^ k := by
  have h1 : Lt 256 (l.reverse.take k) := fun y hy => h.rev y (List.mem_of_mem_take hy)
  have h2 := vl_lt h1
  have h3 : 256 ^ (l.reverse.take k).length ≤ 256 ^ k := Nat.pow_le_pow_right (by omega) (by simp; omega)
  unfold low; omega
theorem low_mono (l : List Nat) (k : Nat) : low l k ≤ val l := by
  unfold low val
  have h := vl_append 256 (l.reverse.take k) (l.reverse.drop k)
  rw [List.take_append_drop] at h
  omega
/-- A valid number: canonical digits, at most 64. -/
def Nat64 (l : List Nat) : Prop := Lt 256 l ∧ cutL l = l ∧ l.length ≤ 64
theorem Nat64.dig {l : List Nat} (h : Nat64 l) : dig (val l) = l := by rw [← cutL_eq h.1]; exact h.2.1
theorem cutL_dig (v : Nat) : cutL (dig v) = dig v := by rw [cutL_eq (dig_lt v), val_dig]
theorem Nat64.of (v : Nat) (h : v < 256 ^ 64) : Nat64 (Proofs.Ytnebjdgolbnkfaa.dig v) := ⟨dig_lt v, cutL_dig v, (dig_length v 64).2 h⟩
theorem Nat64.lt {l : List Nat} (h : Nat64 l) : val l < 256 ^ 64 := by
  have h1 := val_lt h.1
  have h2 : 256 ^ l.length ≤ 256 ^ 64 := Nat.pow_le_pow_right (by omega) h.2.2
  omega
theorem dig_inj {u v : Nat} (h : dig u = dig v) : u = v := by rw [← val_dig u, h, val_dig]
theorem dig_nil {v : Nat} : dig v = [] ↔ v = 0 := ⟨fun h => by rw [← val_dig v, h]; rfl, fun h => by rw [h]; rfl⟩
end Go.Proofs.Ytnebjdgolbnkfaa
