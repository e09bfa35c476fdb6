/-
  Layer 9, pure: what the laws join: the order, the chain of kinds, what is got, what is put.
-/
import Derived.Test.YthefnfjhnallfaaDoorChsU
import Derived.Test.YthefnfjhnallfaaDoorStr2
namespace Go.Proofs.YthefnfjhnallfaaDoor.Chs
open Go.RowKit Go.Shelf

theorem or2_zero {x y : Int} : or2 x y = 0 ↔ x = 0 ∧ y = 0 := by
  unfold or2
  by_cases h : x = 0
  · rw [if_neg (by simpa using h)]; simp [h]
  · rw [if_pos h]; simp [h]
theorem cmpN_zero {a b : Nat} : cmpN a b = 0 ↔ a = b := by
  unfold cmpN
  split
  · simp; omega
  · split
    · simp; omega
    · simp; omega
theorem cmpN_swap (a b : Nat) : cmpN b a = - cmpN a b := by
  unfold cmpN
  split <;> split <;> first | rfl | omega
theorem cmpN_or (a b : Nat) : cmpN a b = -1 ∨ cmpN a b = 0 ∨ cmpN a b = 1 := by
  unfold cmpN
  split
  · simp
  · split <;> simp
theorem cmpC_eq (k k2 : Nat) {l m : List Nat} (h1 : All8 l) (h2 : All8 m) : cmpC k l k2 m = or2 (cmpL l m) (cmpN k k2) := by unfold cmpC; rw [cb_eq h1 h2]
theorem cmpC_zero {k k2 : Nat} {l m : List Nat} (h1 : All8 l) (h2 : All8 m) : cmpC k l k2 m = 0 ↔ k = k2 ∧ l = m := by
  rw [cmpC_eq k k2 h1 h2, or2_zero, cmpL_zero, cmpN_zero]
  exact And.comm
theorem cmpC_swap {k k2 : Nat} {l m : List Nat} (h1 : All8 l) (h2 : All8 m) : cmpC k2 m k l = - cmpC k l k2 m := by
  rw [cmpC_eq k k2 h1 h2, cmpC_eq k2 k h2 h1, cmpL_swap l m, cmpN_swap k k2]
  unfold or2
  split <;> split <;> first | rfl | omega
theorem cmpC_or {k k2 : Nat} {l m : List Nat} (h1 : All8 l) (h2 : All8 m) : cmpC k l k2 m = -1 ∨ cmpC k l k2 m = 0 ∨ cmpC k l k2 m = 1 := by
  rw [cmpC_eq k k2 h1 h2]
  unfold or2
  split
  · exact cmpL_or l m
  · exact cmpN_or k k2

theorem chk_up {k k2 : Nat} {l : List Nat} (hk : isK k2 = true) (h : ∀ {c}, hasN k c = true → hasN k2 c = true) (h0 : chkC k l = 0) : chkC k2 l = 0 := by
  obtain ⟨-, hl, cs, hd, hh⟩ := chkC_zero h0
  rw [chkC_some hk (by omega) hd, if_pos]
  rw [List.all_eq_true]
  exact fun c hc => h (hh c hc)
theorem chk_val {k k2 : Nat} {l : List Nat} (hk : isK k2 = true) (h0 : chkC k l = 0) : chkC k2 l = 0 ∨ chkC k2 l = 11 := by
  obtain ⟨-, hl, cs, hd, hh⟩ := chkC_zero h0
  rw [chkC_some hk (by omega) hd]
  split <;> simp
theorem pL_12 (cs : List Nat) : pL 12 cs = encS cs := rfl
theorem pL_30 (cs : List Nat) : (pL 30 cs).length = 2 * cs.length := by
  induction cs with
  | nil => rfl
  | cons c cs ih =>
    show (putB 30 c ++ pL 30 cs).length = _
    rw [List.length_append, ih]
    show 2 + _ = _
    rw [List.length_cons]; omega
theorem putB_one {k : Nat} (h1 : k ≠ 12) (h2 : k ≠ 30) (c : Nat) : putB k c = [c] := by unfold putB; rw [if_neg h1, if_neg h2]
theorem pL_one {k : Nat} (h1 : k ≠ 12) (h2 : k ≠ 30) (cs : List Nat) : pL k cs = cs := by
  induction cs with
  | nil => rfl
  | cons c cs ih =>
    show putB k c ++ pL k cs = _
    rw [ih, putB_one h1 h2]; rfl
theorem putL_val {k : Nat} {l : List Nat} (h : chkC k l = 0) : ∃ cs, decS l = some cs ∧ l = encS cs ∧ (∀ c ∈ cs, hasN k c = true) ∧ putL k l = pL k cs ∧ cs.length ≤ 65536 ∧ l.length ≤ 65536 ∧ isK k = true := by
  obtain ⟨hk, hl, cs, hd, hh⟩ := chkC_zero h
  have he := (decS_iff.1 hd).1
  have := (encS_len cs).1
  refine ⟨cs, hd, he, hh, ?_, by rw [← he] at this; omega, hl, hk⟩
  unfold putL
  rw [if_pos h, hd]
  rfl
theorem putL_len {k : Nat} {l : List Nat} (h : chkC k l = 0) : (putL k l).length ≤ 131072 := by
  obtain ⟨cs, hd, he, hh, hp, hc, hl, hk⟩ := putL_val h
  rw [hp]
  by_cases h1 : k = 12
  · subst h1; rw [pL_12, ← he]; omega
  · by_cases h2 : k = 30
    · subst h2; rw [pL_30]; omega
    · rw [pL_one h1 h2]; omega
theorem get9_putL {k : Nat} {l : List Nat} (h : chkC k l = 0) : get9 k (putL k l) = (k, l, 0) := by
  rcases get9_put h with h1 | h1
  · exact h1
  · have := putL_len h; omega

/-- Two octets a character. -/
def prs : List Nat → List Nat
  | x :: y :: r => (256 * x + y) :: prs r
  | _ => []
theorem prs_pL : ∀ cs : List Nat, (∀ c ∈ cs, hasN 30 c = true) → prs (pL 30 cs) = cs
  | [], _ => rfl
  | c :: cs, h => by
    have hc := h c (by simp)
    have h30 : chO c = true ∧ c ≤ 65535 := by
      have : (chO c && decide (c ≤ 65535)) = true := hc
      rw [Bool.and_eq_true, decide_eq_true_eq] at this
      exact this
    show prs ((c / 256) :: (c % 256) :: pL 30 cs) = _
    rw [prs, prs_pL cs fun d hd => h d (by simp [hd])]
    congr 1
    omega
theorem pL_prs : ∀ (n : Nat) (l : List Nat), l.length = 2 * n → All8 l → pL 30 (prs l) = l
  | 0, l, hl, _ => by
    obtain rfl : l = [] := List.eq_nil_of_length_eq_zero hl
    rfl
  | n + 1, [], hl, _ => by simp at hl
  | n + 1, [_], hl, _ => by simp at hl; omega
  | n + 1, x :: y :: r, hl, h8 => by
    have hx := h8 x (by simp)
    have hy := h8 y (by simp)
    have ih := pL_prs n r (by simp at hl; omega) fun z hz => h8 z (by simp [hz])
    show (((256 * x + y) / 256) :: ((256 * x + y) % 256) :: pL 30 (prs r)) = _
    rw [ih]
    congr 1
    · omega
    · congr 1
      omega
/-- What content octets are as characters. -/
def chars (k : Nat) (l : List Nat) : Option (List Nat) := if k = 12 then decS l else if k = 30 then (if l.length % 2 = 1 then none else some (prs l)) else some l
theorem getC_iff {k : Nat} {l cs : List Nat} (h8 : All8 l) : getC k l = some cs ↔ l = pL k cs ∧ ∀ c ∈ cs, hasN k c = true := by
  constructor
  · exact fun h => getR_inv _ _ _ h8 h
  · rintro ⟨rfl, h⟩
    exact getC_put h
theorem getC_chars {k : Nat} {l : List Nat} (h8 : All8 l) : getC k l = match chars k l with
    | none => none
    | some cs => if cs.all (hasN k) = true then some cs else none := by
  have key : ∀ cs, getC k l = some cs → chars k l = some cs := by
    intro cs h
    obtain ⟨h1, h2⟩ := (getC_iff h8).1 h
    unfold chars
    by_cases k12 : k = 12
    · subst k12
      rw [if_pos rfl, decS_iff]
      exact ⟨h1, fun c hc => hasN_scal (h2 c hc)⟩
    · rw [if_neg k12]
      by_cases k30 : k = 30
      · subst k30
        have := pL_30 cs
        rw [if_pos rfl, if_neg (by rw [h1, this]; omega), h1, prs_pL cs h2]
      · rw [if_neg k30, h1, pL_one k12 k30]
  have back : ∀ cs, chars k l = some cs → l = pL k cs := by
    intro cs h
    unfold chars at h
    by_cases k12 : k = 12
    · subst k12
      rw [if_pos rfl, decS_iff] at h
      exact h.1
    · rw [if_neg k12] at h
      by_cases k30 : k = 30
      · subst k30
        rw [if_pos rfl] at h
        split at h
        · cases h
        · injection h with h
          rw [← h, pL_prs (l.length / 2) l (by omega) h8]
      · rw [if_neg k30] at h
        injection h with h
        rw [← h, pL_one k12 k30]
  cases hc : chars k l with
  | none =>
    cases hg : getC k l with
    | none => rfl
    | some cs => rw [key cs hg] at hc; cases hc
  | some cs =>
    show getC k l = if cs.all (hasN k) = true then some cs else none
    by_cases ha : cs.all (hasN k) = true
    · rw [if_pos ha, getC_iff h8]
      rw [List.all_eq_true] at ha
      exact ⟨back cs hc, ha⟩
    · rw [if_neg ha]
      cases hg : getC k l with
      | none => rfl
      | some ds =>
        have := key ds hg
        rw [hc] at this
        injection this with this
        subst this
        refine absurd (List.all_eq_true.2 ?_) ha
        exact ((getC_iff h8).1 hg).2

/-- The characters of a text by the first octet: how many octets more, the bits, the least character. -/
def hd3 (x : Nat) : Option (Nat × Nat × Nat) :=
  if x < 128 then some (0, x, 0) else if 194 ≤ x ∧ x < 224 then some (1, x - 192, 128) else if 224 ≤ x ∧ x < 240 then some (2, x - 224, 2048) else if 240 ≤ x ∧ x < 245 then some (3, x - 240, 65536) else none
def dgo : Nat → Nat → List Nat → Option Nat
  | 0, c, _ => some c
  | _ + 1, _, [] => none
  | m + 1, c, y :: r => if 128 ≤ y ∧ y ≤ 191 then dgo m (64 * c + (y - 128)) r else none
theorem dec1_head (x : Nat) (r : List Nat) : dec1 (x :: r) = match hd3 x with
    | none => none
    | some (m, c, least) => if r.length < m then none else match dgo m c r with
      | none => none
      | some c' => if c' < least ∨ 1114111 < c' ∨ (55296 ≤ c' ∧ c' < 57344) then none else some (c', m + 1) := by
  unfold dec1
  rw [if_neg (by simp)]
  simp only [List.getD_cons_zero, List.getD_cons_succ]
  by_cases h0 : x < 128
  · have hh : hd3 x = some (0, x, 0) := by unfold hd3; rw [if_pos h0]
    rw [hh]
    unfold d4
    rw [if_pos h0]
    dsimp only [dgo]
    rw [if_neg (Nat.not_lt_zero _), if_neg (by omega)]
  · by_cases h1 : x < 194
    · have hh : hd3 x = none := by unfold hd3; rw [if_neg h0, if_neg (by omega), if_neg (by omega), if_neg (by omega)]
      rw [hh]
      unfold d4
      rw [if_neg h0, if_pos h1]
    · by_cases h2 : x < 224
      · have hh : hd3 x = some (1, x - 192, 128) := by unfold hd3; rw [if_neg h0, if_pos (by omega)]
        rw [hh]
        unfold d4
        rw [if_neg h0, if_neg h1, if_pos h2]
        dsimp only
        cases r with
        | nil => simp
        | cons y r =>
          simp only [List.getD_cons_zero, dgo, List.length_cons]
          rw [if_neg (show ¬ r.length + 1 < 1 by omega)]
          by_cases hy : 128 ≤ y ∧ y ≤ 191
          · rw [if_pos (show 128 ≤ y ∧ y < 192 by omega), if_pos hy]
            dsimp only
            rw [if_neg (by omega)]
          · rw [if_neg (show ¬ (128 ≤ y ∧ y < 192) by omega), if_neg hy]
      · by_cases h3 : x < 240
        · have hh : hd3 x = some (2, x - 224, 2048) := by unfold hd3; rw [if_neg h0, if_neg (by omega), if_pos (by omega)]
          rw [hh]
          unfold d4
          rw [if_neg h0, if_neg h1, if_neg h2, if_pos h3]
          dsimp only
          rcases r with _ | ⟨y, _ | ⟨z, r⟩⟩
          · simp
          · simp
          · simp only [List.getD_cons_zero, List.getD_cons_succ, dgo, List.length_cons]
            rw [if_neg (show ¬ r.length + 1 + 1 < 2 by omega)]
            by_cases hy : 128 ≤ y ∧ y ≤ 191
            · rw [if_pos hy]
              by_cases hz : 128 ≤ z ∧ z ≤ 191
              · rw [if_pos hz]
                dsimp only
                rw [show 64 * (64 * (x - 224) + (y - 128)) + (z - 128) = 4096 * (x - 224) + 64 * (y - 128) + (z - 128) by omega]
                have hle : 4096 * (x - 224) + 64 * (y - 128) + (z - 128) ≤ 65535 := by omega
                generalize 4096 * (x - 224) + 64 * (y - 128) + (z - 128) = c at *
                by_cases hc : c < 2048 ∨ 1114111 < c ∨ (55296 ≤ c ∧ c < 57344)
                · rw [if_pos hc, if_neg (by omega)]
                · rw [if_neg hc, if_pos (by omega)]
              · rw [if_neg hz, if_neg (by omega)]
            · rw [if_neg hy, if_neg (by omega)]
        · by_cases h4 : x < 245
          · have hh : hd3 x = some (3, x - 240, 65536) := by unfold hd3; rw [if_neg h0, if_neg (by omega), if_neg (by omega), if_pos (by omega)]
            rw [hh]
            unfold d4
            rw [if_neg h0, if_neg h1, if_neg h2, if_neg h3, if_pos h4]
            dsimp only
            rcases r with _ | ⟨y, _ | ⟨z, _ | ⟨u, r⟩⟩⟩
            · simp
            · simp
            · simp
            · simp only [List.getD_cons_zero, List.getD_cons_succ, dgo, List.length_cons]
              rw [if_neg (show ¬ r.length + 1 + 1 + 1 < 3 by omega)]
              by_cases hy : 128 ≤ y ∧ y ≤ 191
              · rw [if_pos hy]
                by_cases hz : 128 ≤ z ∧ z ≤ 191
                · rw [if_pos hz]
                  by_cases hu : 128 ≤ u ∧ u ≤ 191
                  · rw [if_pos hu]
                    dsimp only
                    rw [show 64 * (64 * (64 * (x - 240) + (y - 128)) + (z - 128)) + (u - 128) = 262144 * (x - 240) + 4096 * (y - 128) + 64 * (z - 128) + (u - 128) by omega]
                    generalize 262144 * (x - 240) + 4096 * (y - 128) + 64 * (z - 128) + (u - 128) = c at *
                    by_cases hc : c < 65536 ∨ 1114111 < c ∨ (55296 ≤ c ∧ c < 57344)
                    · rw [if_pos hc, if_neg (by omega)]
                    · rw [if_neg hc, if_pos (by omega)]
                  · rw [if_neg hu, if_neg (by omega)]
                · rw [if_neg hz, if_neg (by omega)]
              · rw [if_neg hy, if_neg (by omega)]
          · have hh : hd3 x = none := by unfold hd3; rw [if_neg h0, if_neg (by omega), if_neg (by omega), if_neg (by omega)]
            rw [hh]
            unfold d4
            rw [if_neg h0, if_neg h1, if_neg h2, if_neg h3, if_neg h4]
theorem hd3_lt {x m c least : Nat} (h : hd3 x = some (m, c, least)) : m ≤ 3 ∧ c < 128 := by
  unfold hd3 at h
  split at h
  · simp at h; omega
  · split at h
    · simp at h; omega
    · split at h
      · simp at h; omega
      · split at h
        · simp at h; omega
        · cases h
/-- The first 40 characters of plain data, as the kind has them. -/
def ofX (k : Nat) (x : Nat) : Option Nat := if hasN k (x % 1114112) = true then some (x % 1114112) else if hasN k (x % 1114112 % 128) = true then some (x % 1114112 % 128) else none
def ofC (k : Nat) (xs : List Nat) : List Nat := (xs.take 40).filterMap (ofX k)
theorem ofC_has {k : Nat} {xs : List Nat} : ∀ c ∈ ofC k xs, hasN k c = true := by
  intro c hc
  obtain ⟨x, _, hx⟩ := List.mem_filterMap.1 hc
  unfold ofX at hx
  split at hx
  · injection hx with hx; rw [← hx]; assumption
  · split at hx
    · injection hx with hx; rw [← hx]; assumption
    · cases hx
theorem ofC_len (k : Nat) (xs : List Nat) : (ofC k xs).length ≤ 40 := by
  unfold ofC
  have h1 := List.length_filterMap_le (ofX k) (xs.take 40)
  have h2 : (xs.take 40).length ≤ 40 := List.length_take_le ..
  omega
theorem ofC_scal {k : Nat} {xs : List Nat} : ∀ c ∈ ofC k xs, scal c = true := fun c hc => hasN_scal (ofC_has c hc)
theorem ofC_enc (k : Nat) (xs : List Nat) : (encS (ofC k xs)).length ≤ 160 := by
  have h1 := (encS_len (ofC k xs)).2
  have h2 := ofC_len k xs
  omega
theorem ofC_chk {k : Nat} (hk : isK k = true) (xs : List Nat) : chkC k (encS (ofC k xs)) = 0 := by
  have := ofC_enc k xs
  rw [chkC_some hk (by omega) (decS_enc ofC_scal), if_pos (List.all_eq_true.2 ofC_has)]
end Go.Proofs.YthefnfjhnallfaaDoor.Chs
