/-
  Layer 9, pure: what is put is got; each kind has all that the one before it has.
-/
import Derived.Test.YthefnfjhnallfaaDoorChsQ
namespace Go.Proofs.YthefnfjhnallfaaDoor.Chs
open Go.RowKit Go.Shelf

theorem has_19_26 {c : Nat} (h : hasN 19 c = true) : hasN 26 c = true := by
  have h : prB c = true := h
  show (decide (32 ≤ c) && decide (c ≤ 126)) = true
  unfold prB othL at h
  simp at h
  simp
  omega
theorem has_26_22 {c : Nat} (h : hasN 26 c = true) : hasN 22 c = true := by
  have h : (decide (32 ≤ c) && decide (c ≤ 126)) = true := h
  show (decide (0 < c) && decide (c ≤ 127)) = true
  simp at h
  simp
  omega
theorem has_22_30 {c : Nat} (h : hasN 22 c = true) : hasN 30 c = true := by
  have h : (decide (0 < c) && decide (c ≤ 127)) = true := h
  simp at h
  show (chO c && decide (c ≤ 65535)) = true
  unfold chO
  rw [scal_iff.2 (.inl (by omega))]
  simp
  omega
theorem has_30_12 {c : Nat} (h : hasN 30 c = true) : hasN 12 c = true := by
  have h : (chO c && decide (c ≤ 65535)) = true := h
  rw [Bool.and_eq_true] at h
  exact h.1
/-- A character put and got. -/
theorem get1_put {k c : Nat} (hh : hasN k c = true) (r : List Nat) : get1 k (putB k c ++ r) = (c, (putB k c).length) := by
  unfold get1 putB
  by_cases h12 : k = 12
  · rw [if_pos h12, if_pos h12, dec_enc (hasN_scal hh) r]
    rfl
  · rw [if_neg h12, if_neg h12]
    by_cases h30 : k = 30
    · rw [if_pos h30, if_pos h30, if_neg (by simp)]
      show (c / 256 * 256 + c % 256, 2) = (c, 2)
      rw [Nat.div_add_mod' c 256]
    · rw [if_neg h30, if_neg h30]
      rfl
theorem getR_put {k : Nat} : ∀ (cs : List Nat) (f : Nat), (pL k cs).length ≤ f → (∀ c ∈ cs, hasN k c = true) → getR k f (pL k cs) = some cs
  | [], f, _, _ => getR_nil k f
  | c :: cs, f, hf, hh => by
    have hp := putB_len k c
    have e : pL k (c :: cs) = putB k c ++ pL k cs := rfl
    rw [e] at hf ⊢
    rw [List.length_append] at hf
    obtain ⟨f, rfl⟩ : ∃ f', f = f' + 1 := ⟨f - 1, by omega⟩
    have hne : putB k c ++ pL k cs ≠ [] := fun e => by
      have : (putB k c ++ pL k cs).length = 0 := by rw [e]; rfl
      rw [List.length_append] at this
      omega
    rw [getR_step hne, get1_put (hh c (by simp)), if_pos (hh c (by simp)), List.drop_left, getR_put cs f (by omega) fun y hy => hh y (by simp [hy])]
    rfl
theorem getC_put {k : Nat} {cs : List Nat} (hh : ∀ c ∈ cs, hasN k c = true) : getC k (pL k cs) = some cs := getR_put cs _ (Nat.le_refl _) hh
/-- What Put gives, Get takes back. -/
theorem get9_put {k : Nat} {l : List Nat} (h : chkC k l = 0) : get9 k (putL k l) = (k, l, 0) ∨ 131072 < (putL k l).length := by
  obtain ⟨hk, hl, cs, hcs, hh⟩ := chkC_zero h
  obtain ⟨e, hs⟩ := decS_iff.1 hcs
  have ep : putL k l = pL k cs := by unfold putL; rw [if_pos h, hcs]; rfl
  rw [ep]
  by_cases hlong : 131072 < (pL k cs).length
  · exact .inr hlong
  · refine .inl ?_
    rw [get9_some hk hlong (getC_put hh), ← e, if_neg (by omega)]
/-- Bytes that are got are what Put gives of the characters. -/
theorem put_get1 {k : Nat} {l : List Nat} (h8 : All8 l) (hne : l ≠ []) (hh : hasN k (get1 k l).1 = true) : l = putB k (get1 k l).1 ++ l.drop (get1 k l).2 := by
  have hg : ∀ i, l.getD i 0 < 256 := fun i => by rw [← get_bstr l h8]; exact UInt8.toNat_lt _
  have hl : 0 < l.length := Nat.pos_of_ne_zero fun e => hne (List.eq_nil_of_length_eq_zero e)
  unfold get1 at hh ⊢
  unfold putB
  by_cases h12 : k = 12
  · subst h12
    rw [if_pos rfl] at hh ⊢
    rw [if_pos rfl]
    cases hd : dec1 l with
    | none => rw [hd] at hh; exact absurd hh (by decide)
    | some p => exact (dec_inv (l := l) (c := p.1) (n := p.2) hd).2.2
  · rw [if_neg h12] at hh ⊢
    rw [if_neg h12]
    by_cases h30 : k = 30
    · subst h30
      rw [if_pos rfl] at hh ⊢
      rw [if_pos rfl]
      by_cases h2 : l.length < 2
      · rw [if_pos h2] at hh
        have hh : hasN 30 0 = true := hh
        exact absurd hh (by decide)
      · rw [if_neg h2]
        obtain ⟨x, y, r, rfl⟩ : ∃ x y r, l = x :: y :: r := by
          match l, h2 with
          | x :: y :: r, _ => exact ⟨x, y, r, rfl⟩
          | [_], h => simp at h
          | [], h => simp at h
        have hx : x < 256 := hg 0
        have hy : y < 256 := hg 1
        show x :: y :: r = [(x * 256 + y) / 256, (x * 256 + y) % 256] ++ r
        rw [show (x * 256 + y) / 256 = x by omega, show (x * 256 + y) % 256 = y by omega]
        rfl
    · rw [if_neg h30] at hh ⊢
      rw [if_neg h30]
      obtain ⟨x, r, rfl⟩ : ∃ x r, l = x :: r := by
        cases l with
        | nil => exact absurd rfl hne
        | cons x r => exact ⟨x, r, rfl⟩
      rfl
/-- What is got, Put gives back. -/
theorem getR_inv {k : Nat} : ∀ (f : Nat) (l cs : List Nat), All8 l → getR k f l = some cs → l = pL k cs ∧ ∀ c ∈ cs, hasN k c = true
  | f, [], cs, _, h => by
    rw [getR_nil] at h
    obtain rfl := Option.some.inj h
    exact ⟨rfl, fun c hc => absurd hc (by simp)⟩
  | 0, _ :: _, cs, _, h => by cases h
  | f + 1, x :: r, cs, h8, h => by
    rw [getR_step (by simp)] at h
    split at h
    · rename_i hh
      cases hd : getR k f ((x :: r).drop (get1 k (x :: r)).2) with
      | none => rw [hd] at h; cases h
      | some ds =>
        rw [hd] at h
        obtain rfl := Option.some.inj h
        obtain ⟨h1, h2⟩ := getR_inv f _ ds (h8.drop _) hd
        refine ⟨?_, fun c hc => ?_⟩
        · have := put_get1 h8 (by simp) hh
          rw [h1] at this
          exact this
        · rcases List.mem_cons.1 hc with rfl | hc
          · exact hh
          · exact h2 c hc
    · cases h
theorem get9_inv {k : Nat} {l : List Nat} (h8 : All8 l) (h : (get9 k l).2.2 = 0) : (get9 k l).1 = k ∧ chkC k (get9 k l).2.1 = 0 ∧ putL k (get9 k l).2.1 = l := by
  unfold get9 at h ⊢
  split
  · rename_i h1; rw [if_pos h1] at h; cases h
  · rename_i h1
    rw [if_neg h1] at h
    split
    · rename_i h2; rw [if_pos h2] at h; cases h
    · rename_i h2
      rw [if_neg h2] at h
      cases hg : getC k l with
      | none => rw [hg] at h; cases h
      | some cs =>
        rw [hg] at h
        dsimp only at h ⊢
        split
        · rename_i h3; rw [if_pos h3] at h; cases h
        · rename_i h3
          obtain ⟨e, hh⟩ := getR_inv _ l cs h8 hg
          have hk : isK k = true := by simpa using h1
          have hd := decS_enc (fun c hc => hasN_scal (hh c hc))
          have hc : chkC k (encS cs) = 0 := by
            unfold chkC
            rw [if_neg (by rw [hk]; decide), if_neg h3, hd]
            exact if_pos (List.all_eq_true.2 hh)
          refine ⟨rfl, hc, ?_⟩
          unfold putL
          rw [if_pos hc, hd]
          exact e.symm
end Go.Proofs.YthefnfjhnallfaaDoor.Chs
