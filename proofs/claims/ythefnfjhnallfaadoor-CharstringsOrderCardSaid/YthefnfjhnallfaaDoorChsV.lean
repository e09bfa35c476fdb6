/-
  UTF-8 over plain lists: the first character of bytes, its bytes, all characters; the model's own decoder told by them.
  Conditions: none (no program is named here).
-/
import Derived.Test.YthefnfjhnallfaaDoorStr
import Derived.Lib.ValidU
import Derived.Lib.RuneCount
import Derived.Laws.Cover4
namespace Go.Proofs.YthefnfjhnallfaaDoor.Chs

/-- A scalar value. -/
def scal (c : Nat) : Bool := decide (c < 55296) || (decide (57344 ≤ c) && decide (c ≤ 1114111))
theorem scal_iff {c : Nat} : scal c = true ↔ c < 55296 ∨ (57344 ≤ c ∧ c ≤ 1114111) := by unfold scal; simp
/-- The bytes of a character. -/
def enc1 (c : Nat) : List Nat :=
  if c < 128 then [c] else if c < 2048 then [192 + c / 64, 128 + c % 64]
  else if c < 65536 then [224 + c / 4096, 128 + c / 64 % 64, 128 + c % 64]
  else [240 + c / 262144, 128 + c / 4096 % 64, 128 + c / 64 % 64, 128 + c % 64]
/-- The first character of four bytes, and how many bytes it has. -/
def d4 (x y z u : Nat) : Option (Nat × Nat) :=
  if x < 128 then some (x, 1)
  else if x < 194 then none
  else if x < 224 then (if 128 ≤ y ∧ y < 192 then some (64 * (x - 192) + (y - 128), 2) else none)
  else if x < 240 then (if 128 ≤ y ∧ y < 192 ∧ 128 ≤ z ∧ z < 192 ∧ 2048 ≤ 4096 * (x - 224) + 64 * (y - 128) + (z - 128) ∧ ¬(55296 ≤ 4096 * (x - 224) + 64 * (y - 128) + (z - 128) ∧ 4096 * (x - 224) + 64 * (y - 128) + (z - 128) < 57344) then
    some (4096 * (x - 224) + 64 * (y - 128) + (z - 128), 3) else none)
  else if x < 245 then (if 128 ≤ y ∧ y < 192 ∧ 128 ≤ z ∧ z < 192 ∧ 128 ≤ u ∧ u < 192 ∧ 65536 ≤ 262144 * (x - 240) + 4096 * (y - 128) + 64 * (z - 128) + (u - 128) ∧ 262144 * (x - 240) + 4096 * (y - 128) + 64 * (z - 128) + (u - 128) ≤ 1114111 then
    some (262144 * (x - 240) + 4096 * (y - 128) + 64 * (z - 128) + (u - 128), 4) else none)
  else none
/-- The first character of bytes, and how many bytes it has. -/
def dec1 (l : List Nat) : Option (Nat × Nat) := if l = [] then none else d4 (l.getD 0 0) (l.getD 1 0) (l.getD 2 0) (l.getD 3 0)
/-- All characters of bytes. -/
def decF : Nat → List Nat → Option (List Nat)
  | _, [] => some []
  | 0, _ :: _ => none
  | f + 1, x :: r => match dec1 (x :: r) with
    | none => none
    | some (c, n) => (decF f ((x :: r).drop n)).map (c :: ·)
def decS (l : List Nat) : Option (List Nat) := decF l.length l
/-- The bytes of characters. -/
def encS (cs : List Nat) : List Nat := cs.flatMap enc1

theorem enc1_len (c : Nat) : 1 ≤ (enc1 c).length ∧ (enc1 c).length ≤ 4 := by
  unfold enc1
  split
  · simp
  · split
    · simp
    · split <;> simp
theorem enc1_ne (c : Nat) : enc1 c ≠ [] := fun e => by have := (enc1_len c).1; rw [e] at this; simp at this
theorem enc1_all {c : Nat} (h : scal c = true) : ∀ x ∈ enc1 c, x < 256 := by
  have h := scal_iff.1 h
  intro x hx
  unfold enc1 at hx
  split at hx
  · simp at hx; omega
  · split at hx
    · simp at hx; omega
    · split at hx
      · simp at hx; omega
      · simp at hx; omega
set_option maxRecDepth 100000 in
theorem dec_enc {c : Nat} (h : scal c = true) (r : List Nat) : dec1 (enc1 c ++ r) = some (c, (enc1 c).length) := by
  have h := scal_iff.1 h
  unfold dec1
  rw [if_neg (by simp [enc1_ne])]
  unfold enc1
  by_cases h1 : c < 128
  · rw [if_pos h1]
    unfold d4
    simp [h1]
  · rw [if_neg h1]
    by_cases h2 : c < 2048
    · rw [if_pos h2]
      simp only [List.cons_append, List.nil_append, List.getD_cons_zero, List.getD_cons_succ, List.length_cons, List.length_nil]
      unfold d4
      rw [if_neg (by omega), if_neg (by omega), if_pos (by omega), if_pos (by omega)]
      congr 2
      omega
    · rw [if_neg h2]
      by_cases h3 : c < 65536
      · rw [if_pos h3]
        simp only [List.cons_append, List.nil_append, List.getD_cons_zero, List.getD_cons_succ, List.length_cons, List.length_nil]
        have e : 4096 * (224 + c / 4096 - 224) + 64 * (128 + c / 64 % 64 - 128) + (128 + c % 64 - 128) = c := by omega
        unfold d4
        rw [e, if_neg (by omega), if_neg (by omega), if_neg (by omega), if_pos (by omega), if_pos (by omega)]
      · rw [if_neg h3]
        simp only [List.cons_append, List.nil_append, List.getD_cons_zero, List.getD_cons_succ, List.length_cons, List.length_nil]
        have e : 262144 * (240 + c / 262144 - 240) + 4096 * (128 + c / 4096 % 64 - 128) + 64 * (128 + c / 64 % 64 - 128) + (128 + c % 64 - 128) = c := by omega
        unfold d4
        rw [e, if_neg (by omega), if_neg (by omega), if_neg (by omega), if_neg (by omega), if_pos (by omega), if_pos (by omega)]
set_option maxRecDepth 100000 in
theorem d4_inv {x y z u c n : Nat} (h : d4 x y z u = some (c, n)) : scal c = true ∧ n = (enc1 c).length ∧ enc1 c = [x, y, z, u].take n ∧ (2 ≤ n → 128 ≤ y) ∧ (3 ≤ n → 128 ≤ z) ∧ (4 ≤ n → 128 ≤ u) := by
  rw [scal_iff]
  unfold d4 at h
  split at h
  · injection h with h; injection h with h1 h2; subst h1 h2
    unfold enc1
    rw [if_pos (by omega)]
    refine ⟨by omega, rfl, rfl, by omega, by omega, by omega⟩
  · split at h
    · cases h
    · split at h
      · split at h
        · injection h with h; injection h with h1 h2; subst h2
          unfold enc1
          rw [if_neg (by omega), if_pos (by omega)]
          refine ⟨by omega, rfl, ?_, by omega, by omega, by omega⟩
          simp only [List.take_succ_cons, List.take_zero, List.cons.injEq, and_true]
          omega
        · cases h
      · split at h
        · split at h
          · injection h with h; injection h with h1 h2; subst h2
            unfold enc1
            rw [if_neg (by omega), if_neg (by omega), if_pos (by omega)]
            refine ⟨by omega, rfl, ?_, by omega, by omega, by omega⟩
            simp only [List.take_succ_cons, List.take_zero, List.cons.injEq, and_true]
            omega
          · cases h
        · split at h
          · split at h
            · injection h with h; injection h with h1 h2; subst h2
              unfold enc1
              rw [if_neg (by omega), if_neg (by omega), if_neg (by omega)]
              refine ⟨by omega, rfl, ?_, by omega, by omega, by omega⟩
              simp only [List.take_succ_cons, List.take_zero, List.cons.injEq, and_true]
              omega
            · cases h
          · cases h
theorem dec_inv {l : List Nat} {c n : Nat} (h : dec1 l = some (c, n)) : scal c = true ∧ n = (enc1 c).length ∧ l = enc1 c ++ l.drop n := by
  unfold dec1 at h
  split at h
  · cases h
  · rename_i hne
    obtain ⟨h1, h2, h3, hy, hz, hu⟩ := d4_inv h
    refine ⟨h1, h2, ?_⟩
    have hl := enc1_len c
    rw [h3]
    match l, hne with
    | [a], _ =>
      simp at hy hz hu
      obtain rfl : n = 1 := by omega
      rfl
    | [a, b], _ =>
      simp at hz hu
      rcases (show n = 1 ∨ n = 2 by omega) with e | e <;> subst e <;> rfl
    | [a, b, d], _ =>
      simp at hu
      rcases (show n = 1 ∨ n = 2 ∨ n = 3 by omega) with e | e | e <;> subst e <;> rfl
    | a :: b :: d :: f :: r, _ =>
      rcases (show n = 1 ∨ n = 2 ∨ n = 3 ∨ n = 4 by omega) with e | e | e | e <;> subst e <;> rfl
theorem dec_pos {l : List Nat} {c n : Nat} (h : dec1 l = some (c, n)) : 1 ≤ n ∧ n ≤ 4 ∧ n ≤ l.length := by
  obtain ⟨h1, h2, h3⟩ := dec_inv h
  have hl := enc1_len c
  have := congrArg List.length h3
  rw [List.length_append] at this
  omega
theorem decF_iff : ∀ (f : Nat) (l cs : List Nat), l.length ≤ f → (decF f l = some cs ↔ l = encS cs ∧ ∀ c ∈ cs, scal c = true) := fun f => by
  induction f with
  | zero =>
    intro l cs hl
    obtain rfl : l = [] := List.eq_nil_of_length_eq_zero (by omega)
    rw [decF]
    cases cs with
    | nil => simp [encS]
    | cons c cs =>
      refine ⟨fun h => by simp at h, fun h => ?_⟩
      have := h.1
      unfold encS at this
      rw [List.flatMap_cons] at this
      exact absurd (List.append_eq_nil_iff.1 this.symm).1 (enc1_ne c)
  | succ f ih =>
    intro l cs hl
    cases l with
    | nil =>
      rw [decF]
      cases cs with
      | nil => simp [encS]
      | cons c cs =>
        refine ⟨fun h => by simp at h, fun h => ?_⟩
        have := h.1
        unfold encS at this
        rw [List.flatMap_cons] at this
        exact absurd (List.append_eq_nil_iff.1 this.symm).1 (enc1_ne c)
    | cons x r =>
      rw [decF]
      constructor
      · intro h
        cases hd : dec1 (x :: r) with
        | none => rw [hd] at h; cases h
        | some p =>
          obtain ⟨c, n⟩ := p
          rw [hd] at h
          obtain ⟨cs', h1, rfl⟩ := Option.map_eq_some_iff.1 h
          obtain ⟨k1, k2, k3⟩ := dec_inv hd
          have kp := dec_pos hd
          obtain ⟨i1, i2⟩ := (ih _ cs' (by rw [List.length_drop]; omega)).1 h1
          refine ⟨?_, fun y hy => ?_⟩
          · unfold encS at i1 ⊢
            rw [List.flatMap_cons, ← i1, ← k3]
          · rcases List.mem_cons.1 hy with rfl | hy
            · exact k1
            · exact i2 y hy
      · rintro ⟨h1, h2⟩
        cases cs with
        | nil => unfold encS at h1; cases h1
        | cons c cs =>
          have hc := h2 c (by simp)
          have e : x :: r = enc1 c ++ encS cs := by rw [h1]; unfold encS; rw [List.flatMap_cons]
          have hd : dec1 (x :: r) = some (c, (enc1 c).length) := by rw [e]; exact dec_enc hc _
          rw [hd]
          have hdr : (x :: r).drop (enc1 c).length = encS cs := by rw [e]; exact List.drop_left
          have hp := dec_pos hd
          have := (ih (encS cs) cs (by rw [← hdr, List.length_drop]; omega)).2 ⟨rfl, fun y hy => h2 y (by simp [hy])⟩
          dsimp only
          rw [hdr, this]
          rfl
theorem decS_iff {l cs : List Nat} : decS l = some cs ↔ l = encS cs ∧ ∀ c ∈ cs, scal c = true := decF_iff _ l cs (Nat.le_refl _)
theorem decS_enc {cs : List Nat} (h : ∀ c ∈ cs, scal c = true) : decS (encS cs) = some cs := decS_iff.2 ⟨rfl, h⟩
theorem encS_cons (c : Nat) (cs : List Nat) : encS (c :: cs) = enc1 c ++ encS cs := List.flatMap_cons
theorem encS_app (cs ds : List Nat) : encS (cs ++ ds) = encS cs ++ encS ds := List.flatMap_append
theorem encS_snoc (cs : List Nat) (c : Nat) : encS (cs ++ [c]) = encS cs ++ enc1 c := by rw [encS_app, encS_cons]; show encS cs ++ (enc1 c ++ []) = _; rw [List.append_nil]
theorem encS_all {cs : List Nat} (h : ∀ c ∈ cs, scal c = true) : All8 (encS cs) := fun x hx => by
  obtain ⟨c, hc, hx⟩ := List.mem_flatMap.1 hx
  exact enc1_all (h c hc) x hx
theorem encS_len (cs : List Nat) : cs.length ≤ (encS cs).length ∧ (encS cs).length ≤ 4 * cs.length := by
  induction cs with
  | nil => exact ⟨Nat.le_refl _, Nat.le_refl _⟩
  | cons c cs ih =>
    have := enc1_len c
    rw [encS_cons, List.length_append, List.length_cons]
    omega
theorem decS_inj {l cs ds : List Nat} (h1 : l = encS cs) (h2 : l = encS ds) (h3 : ∀ c ∈ cs, scal c = true) (h4 : ∀ c ∈ ds, scal c = true) : cs = ds := by
  have a := decS_iff.2 ⟨h1, h3⟩
  have b := decS_iff.2 ⟨h2, h4⟩
  rw [a] at b
  injection b
/-- One step of the decoder. -/
theorem decS_step {l : List Nat} {c n : Nat} (h : dec1 l = some (c, n)) : decS l = (decS (l.drop n)).map (c :: ·) := by
  obtain ⟨h1, h2, h3⟩ := dec_inv h
  cases hd : decS (l.drop n) with
  | some cs =>
    obtain ⟨k1, k2⟩ := decS_iff.1 hd
    refine decS_iff.2 ⟨?_, fun y hy => ?_⟩
    · rw [encS_cons, ← k1]; exact h3
    · rcases List.mem_cons.1 hy with rfl | hy
      · exact h1
      · exact k2 y hy
  | none =>
    cases hl : decS l with
    | none => rfl
    | some ds =>
      exfalso
      obtain ⟨k1, k2⟩ := decS_iff.1 hl
      cases ds with
      | nil => rw [k1] at h; cases h
      | cons d ds =>
        rw [k1, encS_cons, dec_enc (k2 d (by simp))] at h
        injection h with h
        injection h with e1 e2
        subst e1
        have : l.drop n = encS ds := by rw [k1, encS_cons, ← e2]; exact List.drop_left
        rw [this, decS_enc fun y hy => k2 y (by simp [hy])] at hd
        cases hd
theorem decS_bad {l : List Nat} (hl : l ≠ []) (h : dec1 l = none) : decS l = none := by
  cases hd : decS l with
  | none => rfl
  | some cs =>
    obtain ⟨k1, k2⟩ := decS_iff.1 hd
    cases cs with
    | nil => exact absurd k1 hl
    | cons c cs =>
      rw [k1, encS_cons, dec_enc (k2 c (by simp))] at h
      cases h

/-! The model's decoder. -/
theorem get_bstr (l : List Nat) (h8 : All8 l) (i : Nat) : ((bstr l).get! i).toNat = l.getD i 0 := by
  show (((l.map UInt8.ofNat).toArray)[i]!).toNat = _
  by_cases hi : i < l.length
  · have hi2 : i < (l.map UInt8.ofNat).toArray.size := by simpa using hi
    rw [getElem!_pos _ i hi2]
    have h3 := h8.get hi
    simp only [List.getElem_toArray, List.getElem_map, List.getD_eq_getElem?_getD, List.getElem?_eq_getElem hi, Option.getD_some]
    rw [UInt8.toNat_ofNat']
    omega
  · have hi2 : ¬ i < (l.map UInt8.ofNat).toArray.size := by simpa using hi
    rw [getElem!_neg _ i hi2, List.getD_eq_getElem?_getD, List.getElem?_eq_none (by omega)]
    rfl
theorem size_bstr (l : List Nat) : (bstr l).size = l.length := by unfold bstr; simp [ByteArray.size]
set_option maxRecDepth 100000 in
theorem model4 (x y z u : Nat) (p q r : Bool) (hx : x < 256) (hy : y < 256) (hz : z < 256) (hu : u < 256) (hp : p = (y / 64 == 2)) (hq : q = (z / 64 == 2)) (hr : r = (u / 64 == 2)) :
    (if x < 128 then (x, 1)
  else if (x / 32 == 6 && p) = true then (if x % 32 * 64 + y % 64 ≥ 128 then (x % 32 * 64 + y % 64, 2) else (65533, 1))
  else if (x / 16 == 14 && p && q) = true then (if (decide (x % 16 * 4096 + y % 64 * 64 + z % 64 ≥ 2048) && Utf8.valid ((x % 16 * 4096 + y % 64 * 64 + z % 64 : Nat) : Int)) = true then (x % 16 * 4096 + y % 64 * 64 + z % 64, 3) else (65533, 1))
  else if (x / 8 == 30 && p && q && r) = true then (if (decide (x % 8 * 262144 + y % 64 * 4096 + z % 64 * 64 + u % 64 ≥ 65536) && Utf8.valid ((x % 8 * 262144 + y % 64 * 4096 + z % 64 * 64 + u % 64 : Nat) : Int)) = true then (x % 8 * 262144 + y % 64 * 4096 + z % 64 * 64 + u % 64, 4) else (65533, 1))
  else (65533, 1)) = (d4 x y z u).getD (65533, 1) := by
  subst hp hq hr
  unfold d4 Utf8.valid
  simp only [Bool.and_eq_true, Bool.or_eq_true, beq_iff_eq, decide_eq_true_eq]
  by_cases h1 : x < 128
  · rw [if_pos h1, if_pos h1]; rfl
  · rw [if_neg h1, if_neg h1]
    by_cases h2 : x < 194
    · rw [if_pos h2]
      by_cases h3 : x / 32 = 6 ∧ y / 64 = 2
      · rw [if_pos h3, if_neg (by omega)]; rfl
      · rw [if_neg h3, if_neg (by omega), if_neg (by omega)]; rfl
    · rw [if_neg h2]
      by_cases h3 : x < 224
      · rw [if_pos h3]
        by_cases h4 : y / 64 = 2
        · rw [if_pos (by omega), if_pos (by omega), if_pos (by omega)]
          show _ = (64 * (x - 192) + (y - 128), 2)
          congr 1
          omega
        · rw [if_neg (by omega), if_neg (by omega), if_neg (by omega), if_neg (by omega)]; rfl
      · rw [if_neg h3, if_neg (by omega)]
        by_cases h4 : x < 240
        · rw [if_pos h4]
          by_cases h5 : y / 64 = 2 ∧ z / 64 = 2
          · rw [if_pos (by omega)]
            have e : x % 16 * 4096 + y % 64 * 64 + z % 64 = 4096 * (x - 224) + 64 * (y - 128) + (z - 128) := by omega
            rw [e]
            by_cases h6 : 2048 ≤ 4096 * (x - 224) + 64 * (y - 128) + (z - 128) ∧ ¬(55296 ≤ 4096 * (x - 224) + 64 * (y - 128) + (z - 128) ∧ 4096 * (x - 224) + 64 * (y - 128) + (z - 128) < 57344)
            · rw [if_pos (by omega), if_pos (by omega)]; rfl
            · rw [if_neg (by omega), if_neg (by omega)]; rfl
          · rw [if_neg (by omega), if_neg (by omega), if_neg (by omega)]; rfl
        · rw [if_neg h4, if_neg (by omega)]
          by_cases h5 : x / 8 = 30 ∧ y / 64 = 2 ∧ z / 64 = 2 ∧ u / 64 = 2
          · rw [if_pos (by omega)]
            have e : x % 8 * 262144 + y % 64 * 4096 + z % 64 * 64 + u % 64 = 262144 * (x - 240) + 4096 * (y - 128) + 64 * (z - 128) + (u - 128) := by omega
            rw [e]
            by_cases h6 : 65536 ≤ 262144 * (x - 240) + 4096 * (y - 128) + 64 * (z - 128) + (u - 128) ∧ 262144 * (x - 240) + 4096 * (y - 128) + 64 * (z - 128) + (u - 128) ≤ 1114111
            · rw [if_pos (by omega), if_pos (by omega), if_pos (by omega)]; rfl
            · rw [if_neg (by omega)]
              by_cases h7 : x < 245
              · rw [if_pos h7, if_neg (by omega)]; rfl
              · rw [if_neg h7]; rfl
          · rw [if_neg (by omega)]
            by_cases h7 : x < 245
            · rw [if_pos h7, if_neg (by omega)]; rfl
            · rw [if_neg h7]; rfl
theorem contB (l : List Nat) (k : Nat) : (decide (k < l.length) && l.getD k 0 / 64 == 2) = (l.getD k 0 / 64 == 2) := by
  by_cases h : k < l.length
  · simp [h]
  · simp [h]
/-- The model's decoder. -/
theorem decode_at (l : List Nat) (h8 : All8 l) (i : Nat) (hi : i < l.length) : Utf8.decode (bstr l) i = (dec1 (l.drop i)).getD (65533, 1) := by
  have hg := get_bstr l h8
  have hlt : ∀ k, l.getD k 0 < 256 := fun k => by rw [← hg]; exact (UInt8.toNat_lt _)
  have hd : ∀ k, (l.drop i).getD k 0 = l.getD (i + k) 0 := fun k => by
    rw [List.getD_eq_getElem?_getD, List.getD_eq_getElem?_getD, List.getElem?_drop]
  unfold dec1
  rw [if_neg (by intro e; have := congrArg List.length e; simp at this; omega), hd, hd, hd, hd]
  rw [← model4 (l.getD (i + 0) 0) (l.getD (i + 1) 0) (l.getD (i + 2) 0) (l.getD (i + 3) 0) (decide (i + 1 < l.length) && l.getD (i + 1) 0 / 64 == 2) (decide (i + 2 < l.length) && l.getD (i + 2) 0 / 64 == 2) (decide (i + 3 < l.length) && l.getD (i + 3) 0 / 64 == 2) (hlt _) (hlt _) (hlt _) (hlt _)
    (contB l _) (contB l _) (contB l _)]
  unfold Utf8.decode
  simp only [hg, size_bstr]
  rfl
theorem bstr_drop (l : List Nat) (n : Nat) : (bstr l).data.toList.drop n = (bstr (l.drop n)).data.toList := by unfold bstr; simp
theorem validGo_iff : ∀ (f : Nat) (l : List Nat), All8 l → l.length ≤ f → Lib.validGoD f ((bstr l).data.toList) = (decS l).isSome := fun f => by
  induction f with
  | zero =>
    intro l _ hl
    obtain rfl : l = [] := List.eq_nil_of_length_eq_zero (by omega)
    rfl
  | succ f ih =>
    intro l h8 hl
    rw [Lib.validGoD]
    cases l with
    | nil => rfl
    | cons x r =>
      have hne : (bstr (x :: r)).data.toList ≠ [] := by unfold bstr; simp
      rw [if_neg hne]
      have hd : Lib.decodeL (bstr (x :: r)).data.toList = (dec1 (x :: r)).getD (65533, 1) := by
        have := decode_at (x :: r) h8 0 (by simp)
        exact this
      rw [hd, bstr_drop]
      cases h1 : dec1 (x :: r) with
      | none =>
        rw [decS_bad (by simp) h1]
        rfl
      | some p =>
        obtain ⟨c, n⟩ := p
        have hp := dec_pos h1
        have hi := dec_inv h1
        have hne : ¬ (((some (c, n)).getD (65533, 1)).1 = 65533 ∧ ((some (c, n)).getD (65533, 1)).2 = 1) := by
          rintro ⟨e1, e2⟩
          have e1 : c = 65533 := e1
          have e2 : n = 1 := e2
          subst e1 e2
          exact absurd hi.2.1 (by decide)
        rw [if_neg hne, decS_step h1]
        show Lib.validGoD f (bstr ((x :: r).drop n)).data.toList = _
        rw [ih _ (h8.drop n) (by rw [List.length_drop]; simp at hl ⊢; omega)]
        cases decS ((x :: r).drop n) <;> rfl
/-- utf8.ValidString. -/
theorem valid_str {l : List Nat} (h8 : All8 l) : Lib.validD ((bstr l).data.toList) = (decS l).isSome := by
  unfold Lib.validD
  exact validGo_iff _ l h8 (by unfold bstr; simp)
theorem count_at (cs : List Nat) (h : ∀ c ∈ cs, scal c = true) : ∀ (k : Nat) (f : Nat), cs.length - k ≤ f → k ≤ cs.length → Lib.runeCountFrom (bstr (encS cs)) f (encS (cs.take k)).length = cs.length - k := fun k f => by
  induction f generalizing k with
  | zero => intro h1 h2; rw [Lib.runeCountFrom]; omega
  | succ f ih =>
    intro h1 h2
    rw [Lib.runeCountFrom, size_bstr]
    by_cases hk : k < cs.length
    · have e : encS cs = encS (cs.take k) ++ (enc1 cs[k] ++ encS (cs.drop (k + 1))) := by
        rw [← encS_cons, ← List.drop_eq_getElem_cons hk, ← encS_app, List.take_append_drop]
      have hl := enc1_len cs[k]
      have hlt : (encS (cs.take k)).length < (encS cs).length := by rw [e, List.length_append, List.length_append]; omega
      rw [if_pos hlt, decode_at _ (encS_all h) _ hlt]
      have hd : (encS cs).drop (encS (cs.take k)).length = enc1 cs[k] ++ encS (cs.drop (k + 1)) := by rw [e]; exact List.drop_left
      rw [hd, dec_enc (h _ (List.getElem_mem hk))]
      show 1 + Lib.runeCountFrom _ f ((encS (cs.take k)).length + (enc1 cs[k]).length) = _
      rw [← List.length_append, ← encS_snoc, ← List.take_succ_eq_append_getElem hk, ih (k + 1) (by omega) (by omega)]
      omega
    · obtain rfl : k = cs.length := by omega
      rw [List.take_length, if_neg (by omega)]
      omega
/-- utf8.RuneCountInString. -/
theorem count_str {cs : List Nat} (h : ∀ c ∈ cs, scal c = true) : Lib.runeCount (bstr (encS cs)) = cs.length := by
  unfold Lib.runeCount
  have := count_at cs h 0 (bstr (encS cs)).size (by rw [size_bstr]; have := (encS_len cs).1; omega) (by omega)
  exact this
theorem ofNat8 {n m : Nat} (h : n = m) : UInt8.ofNat n = UInt8.ofNat m := by rw [h]
/-- The model's encoder. -/
theorem encode_eq {c : Nat} (h : scal c = true) : Utf8.encode (c : Int) = bstr (enc1 c) := by
  have h := scal_iff.1 h
  have hv : Utf8.valid (c : Int) = true := by
    unfold Utf8.valid
    simp only [Bool.or_eq_true, Bool.and_eq_true, decide_eq_true_eq]
    omega
  unfold Utf8.encode
  rw [hv]
  simp only [if_true, Int.toNat_natCast]
  unfold enc1 bstr
  by_cases h1 : c < 128
  · rw [if_pos (by omega), if_pos h1]; rfl
  · rw [if_neg (by omega), if_neg h1]
    by_cases h2 : c < 2048
    · rw [if_pos (by omega), if_pos h2]; rfl
    · rw [if_neg (by omega), if_neg h2]
      by_cases h3 : c < 65536
      · rw [if_pos (by omega), if_pos h3]; rfl
      · rw [if_neg (by omega), if_neg h3]; rfl
theorem bstr_app (l m : List Nat) : bstr l ++ bstr m = bstr (l ++ m) := by
  apply ByteArray.ext
  unfold bstr
  simp
/-- 'string(rs)'. -/
theorem runes_str {cs : List Nat} (h : ∀ c ∈ cs, scal c = true) : runesBytes (cs.map Int.ofNat) = bstr (encS cs) := by
  unfold runesBytes
  suffices hh : ∀ (cs pre : List Nat), (∀ c ∈ cs, scal c = true) → (cs.map Int.ofNat).foldl (fun r n => r ++ Utf8.encode n) (bstr pre) = bstr (pre ++ encS cs) by
    have := hh cs [] h
    rwa [List.nil_append] at this
  intro cs
  induction cs with
  | nil => intro pre _; show bstr pre = bstr (pre ++ []); rw [List.append_nil]
  | cons c cs ih =>
    intro pre h
    rw [List.map_cons, List.foldl_cons]
    have e : Utf8.encode (Int.ofNat c) = bstr (enc1 c) := encode_eq (h c (by simp))
    rw [e, bstr_app, ih _ fun y hy => h y (by simp [hy]), encS_cons, List.append_assoc]
end Go.Proofs.YthefnfjhnallfaaDoor.Chs
