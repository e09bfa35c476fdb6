/-
  Plain arithmetic of layer 2: Get reads what Put writes, and a cut is told; what Get reads is what Put writes.
  Conditions: the tags are valid.
-/
import Derived.Test.YtgdjgahmnnjeeaaTagG
namespace Go.Proofs.Ytgdjgahmnnjeeaa

theorem hd_div (c n : Nat) (k : Bool) (_hc : c ≤ 3) (hn : n < 32) : (hd c k + n) / 64 = c ∧ (hd c k + n) % 32 = n ∧ decide ((hd c k + n) / 32 % 2 = 1) = k := by
  unfold hd
  cases k
  · simp only [Bool.false_eq_true, if_false, decide_eq_false_iff_not]; omega
  · simp only [if_true, decide_eq_true_iff]; omega
theorem ggA_cons (f i acc x : Nat) (l : List Nat) : ggA (f + 1) i acc (x :: l) = if i = 0 ∧ x = 128 then (0, 0, 9) else if 128 ≤ x then ggA f (i + 1) (acc * 128 + x % 128) l else if acc * 128 + x % 128 < 31 then (0, 0, 9) else (acc * 128 + x % 128, i + 1, 0) := rfl
/-- The octets of the d last groups. -/
def lastG (n d : Nat) : List Nat := (List.range d).map fun j => oct (item n (d - 1 - j))
theorem lastG_succ (n d : Nat) : lastG n (d + 1) = oct (item n d) :: lastG n d := by
  unfold lastG
  rw [List.range_succ_eq_map, List.map_cons, List.map_map]
  congr 1
  apply List.map_congr_left
  intro j _
  simp only [Function.comp]
  congr 2
  omega
theorem lastG_gl {n : Nat} (h : 0 < n) (h64 : n < 2 ^ 64) : lastG n (gk n + 1) = gl n := by
  rw [← gl_of h h64]
  unfold lastG items
  rw [List.map_map]
  rfl
theorem top_pos {n : Nat} (h : 0 < n) (h64 : n < 2 ^ 64) : 0 < n / 128 ^ gk n ∧ n / 128 ^ gk n < 128 := by
  obtain ⟨h1, h2⟩ := gk_spec h h64
  have hp : 0 < 128 ^ gk n := Nat.pow_pos (by omega)
  rw [Nat.pow_succ] at h1
  exact ⟨Nat.div_pos h2 hp, (Nat.div_lt_iff_lt_mul hp).2 (by rw [Nat.mul_comm]; exact h1)⟩
theorem oct_more (n d : Nat) (h : 0 < d) : oct (item n d) = 128 + n / 128 ^ d % 128 := by
  unfold oct item
  simp only [h, decide_true, if_true]
theorem oct_last (n : Nat) : oct (item n 0) = n % 128 := by simp [oct, item]
theorem gg_last (n : Nat) (h31 : 31 ≤ n) (h28 : n < 268435456) (after : List Nat) : ∀ d i, gk n + 1 = i + d → 1 ≤ d → ggA (4 - i) i (n / 128 ^ d) (lastG n d ++ after) = (n, gk n + 1, 0) := by
  have hk := gk_le h28
  have ht := top_pos (n := n) (by omega) (by omega)
  intro d
  induction d with
  | zero => intro i _ h; omega
  | succ d ih =>
    intro i hi _
    obtain ⟨f, hf⟩ : ∃ f, 4 - i = f + 1 := ⟨3 - i, by omega⟩
    rw [hf, lastG_succ, List.cons_append, ggA_cons]
    have hdiv : n / 128 ^ (d + 1) = n / 128 ^ d / 128 := by rw [Nat.pow_succ, Nat.div_div_eq_div_mul]
    by_cases hd : d = 0
    · subst hd
      rw [oct_last]
      have e : n / 128 ^ (0 + 1) * 128 + n % 128 % 128 = n := by omega
      rw [if_neg (by omega), if_neg (by omega), e, if_neg (by omega), hi]
    · rw [oct_more n d (by omega)]
      have e : n / 128 ^ (d + 1) * 128 + (128 + n / 128 ^ d % 128) % 128 = n / 128 ^ d := by rw [hdiv]; omega
      rw [if_neg (by
        intro ⟨h0, h1⟩
        have : d = gk n := by omega
        rw [this] at h1
        omega), if_pos (by omega), e, show f = 4 - (i + 1) by omega]
      exact ih (i + 1) (by omega) (by omega)
theorem gg_back (n : Nat) (h31 : 31 ≤ n) (h28 : n < 268435456) (after : List Nat) : gg (gl n ++ after) = (n, gk n + 1, 0) := by
  have h := gg_last n h31 h28 after (gk n + 1) 0 (by omega) (by omega)
  rw [lastG_gl (by omega) (by omega), Nat.div_eq_of_lt (gk_spec (by omega) (by omega)).1] at h
  exact h
theorem rdT_ok {c n s : Nat} {k : Bool} (h : chk c n k = 0) : rdT c n k s = (c, n, k, s, 0) := by unfold rdT; rw [if_neg (by omega)]
theorem rd_back (c n : Nat) (k : Bool) (after : List Nat) (h : chk c n k = 0) : rdL (putL c n k ++ after) = (c, n, k, (putL c n k).length, 0) := by
  obtain ⟨hc, hn⟩ := chk_zero h
  by_cases h31 : n < 31
  · obtain ⟨e1, e2, e3⟩ := hd_div c n k hc (by omega)
    rw [show putL c n k = [hd c k + n] from if_pos h31, List.singleton_append, rdL, e1, e2, e3, if_neg (by omega), rdT_ok h]
    rfl
  · obtain ⟨e1, e2, e3⟩ := hd_div c 31 k hc (by omega)
    rw [show putL c n k = (hd c k + 31) :: gl n from if_neg h31, List.cons_append, rdL, e1, e2, e3, if_pos rfl, gg_back n (by omega) hn, if_neg (by simp), rdT_ok h, List.length_cons, gl_length (by omega) (by omega)]
    rw [show 1 + (gk n + 1) = gk n + 1 + 1 by omega]
theorem ggA_short : ∀ (f i acc : Nat) (l : List Nat), (∀ x ∈ l, 128 ≤ x) → l.length < f → (i = 0 → ∀ x, l.head? = some x → x ≠ 128) → ggA f i acc l = (0, 0, 7) := by
  intro f
  induction f with
  | zero => intro i acc l _ h; omega
  | succ f ih =>
    intro i acc l h1 h2 h3
    cases l with
    | nil => rfl
    | cons x l =>
      rw [ggA_cons, if_neg (fun e => h3 e.1 x rfl e.2), if_pos (h1 x (List.mem_cons_self ..))]
      exact ih _ _ _ (fun y hy => h1 y (List.mem_cons_of_mem _ hy)) (by simpa using h2) (fun e => by omega)
theorem gg_cut (n i : Nat) (h31 : 31 ≤ n) (h28 : n < 268435456) (hi : i < (gl n).length) : gg ((gl n).take i) = (0, 0, 7) := by
  have hk := gk_le h28
  have ht := top_pos (n := n) (by omega) (by omega)
  rw [gl_length (by omega) (by omega)] at hi
  have hl : ((gl n).take i).length = i := by rw [List.length_take, gl_length (by omega) (by omega)]; omega
  refine ggA_short 4 0 0 _ ?_ (by omega) ?_
  · intro x hx
    obtain ⟨j, hj, rfl⟩ := List.getElem_of_mem hx
    rw [List.getElem_take]
    have e : gl n = lastG n (gk n + 1) := (lastG_gl (by omega) (by omega)).symm
    simp only [e, lastG, List.getElem_map, List.getElem_range]
    rw [oct_more _ _ (by omega)]
    omega
  · intro _ x hx
    cases i with
    | zero => simp at hx
    | succ i =>
      have e : gl n = lastG n (gk n + 1) := (lastG_gl (by omega) (by omega)).symm
      rw [e, lastG_succ, List.take_succ_cons, List.head?_cons] at hx
      have hg : 0 < gk n := by omega
      rw [oct_more _ _ hg] at hx
      simp only [Option.some.injEq] at hx
      omega
theorem rd_cut (c n : Nat) (k : Bool) (j : Nat) (h : chk c n k = 0) (hj : j < (putL c n k).length) : rdL ((putL c n k).take j) = (0, 0, false, 0, 7) := by
  obtain ⟨hc, hn⟩ := chk_zero h
  cases j with
  | zero => rfl
  | succ j =>
    by_cases h31 : n < 31
    · rw [show putL c n k = [hd c k + n] from if_pos h31] at hj
      simp at hj
    · obtain ⟨e1, e2, e3⟩ := hd_div c 31 k hc (by omega)
      rw [show putL c n k = (hd c k + 31) :: gl n from if_neg h31] at hj ⊢
      rw [List.take_succ_cons, rdL, e2, if_pos rfl, gg_cut n j (by omega) hn (by simpa using hj), if_pos (by simp)]
theorem gg_inv : ∀ (f i acc : Nat) (l p : List Nat) (g s : Nat), p.length = i → (∀ x ∈ p, 128 ≤ x) → dgs 128 acc = (p.map (· - 128)).reverse → All8 l → ggA f i acc l = (g, s, 0) → gl g = p ++ l.take (s - i) ∧ i ≤ s ∧ s - i ≤ l.length ∧ 31 ≤ g := by
  intro f
  induction f with
  | zero => intro i acc l p g s _ _ _ _ h; cases h
  | succ f ih =>
    intro i acc l p g s hp h128 hd h8 h
    cases l with
    | nil => cases h
    | cons x l =>
      rw [ggA_cons] at h
      have hx := h8 x (List.mem_cons_self ..)
      have h8' : All8 l := fun y hy => h8 y (List.mem_cons_of_mem _ hy)
      split at h
      · cases h
      · rename_i hne
        split at h
        · rename_i hge
          have hpos : acc * 128 + x % 128 ≠ 0 := by
            by_cases hi : i = 0
            · have : x ≠ 128 := fun e => hne ⟨hi, e⟩
              omega
            · have : acc ≠ 0 := by
                intro e
                subst e
                rw [dgs_zero] at hd
                have := congrArg List.length hd
                simp at this
                omega
              omega
          have hd' : dgs 128 (acc * 128 + x % 128) = ((p ++ [x]).map (· - 128)).reverse := by
            rw [dgs_pos (by omega) hpos, List.map_append, List.reverse_append, show (acc * 128 + x % 128) / 128 = acc by omega, hd, show (acc * 128 + x % 128) % 128 = x - 128 by omega]
            rfl
          obtain ⟨r1, r2, r3, r4⟩ := ih (i + 1) _ l (p ++ [x]) g s (by simp [hp]) (fun y hy => by
            rcases List.mem_append.1 hy with hy | hy
            · exact h128 y hy
            · simp at hy; omega) hd' h8' h
          refine ⟨?_, by omega, by rw [List.length_cons]; omega, r4⟩
          rw [r1, show s - i = (s - (i + 1)) + 1 by omega, List.take_succ_cons, List.append_assoc, List.singleton_append]
        · split at h
          · cases h
          · rename_i hlt hge
            simp only [Prod.mk.injEq, and_true] at h
            obtain ⟨rfl, rfl⟩ := h
            refine ⟨?_, by omega, by rw [List.length_cons]; omega, by omega⟩
            unfold gl
            rw [show (acc * 128 + x % 128) / 128 = acc by omega, hd, show i + 1 - i = 1 by omega, List.take_succ_cons, List.take_zero, show (acc * 128 + x % 128) % 128 = x by omega]
            congr 1
            rw [List.map_reverse, List.reverse_reverse, List.map_map]
            conv => rhs; rw [← List.map_id p]
            apply List.map_congr_left
            intro y hy
            have := h128 y hy
            simp only [Function.comp, id]
            omega
theorem rdT_inv {c n s c' n' s' : Nat} {k k' : Bool} (h : rdT c n k s = (c', n', k', s', 0)) : chk c n k = 0 ∧ c' = c ∧ n' = n ∧ k' = k ∧ s' = s := by
  unfold rdT at h
  split at h
  · rename_i h1
    simp only [Prod.mk.injEq] at h
    exact absurd h.2.2.2.2 h1
  · rename_i h1
    simp only [Prod.mk.injEq, and_true] at h
    exact ⟨by omega, h.1.symm, h.2.1.symm, h.2.2.1.symm, h.2.2.2.symm⟩
theorem rd_put {l : List Nat} {c n s : Nat} {k : Bool} (h8 : All8 l) (h : rdL l = (c, n, k, s, 0)) : chk c n k = 0 ∧ c ≤ 3 ∧ n < 268435456 ∧ putL c n k = l.take s ∧ s ≤ l.length := by
  cases l with
  | nil => cases h
  | cons x r =>
    have hx := h8 x (List.mem_cons_self ..)
    rw [rdL] at h
    split at h
    · rename_i h31
      split at h
      · rename_i h1
        simp only [Prod.mk.injEq] at h
        exact absurd h.2.2.2.2 h1
      · rename_i h1
        obtain ⟨h2, rfl, rfl, rfl, rfl⟩ := rdT_inv h
        obtain ⟨r1, _, r3, r4⟩ := gg_inv 4 0 0 r [] (gg r).1 (gg r).2.1 rfl (by simp) rfl (fun y hy => h8 y (List.mem_cons_of_mem _ hy)) (by
          have e : (gg r).2.2 = 0 := by omega
          exact Prod.ext rfl (Prod.ext rfl e))
        obtain ⟨hc, hn⟩ := chk_zero h2
        refine ⟨h2, hc, hn, ?_, by simp; omega⟩
        rw [show putL (x / 64) (gg r).1 (decide (x / 32 % 2 = 1)) = (hd (x / 64) (decide (x / 32 % 2 = 1)) + 31) :: gl (gg r).1 from if_neg (by omega), r1, show 1 + (gg r).2.1 = (gg r).2.1 + 1 by omega, List.take_succ_cons, List.nil_append, Nat.sub_zero]
        congr 1
        unfold hd
        split <;> simp_all <;> omega
    · rename_i h31
      obtain ⟨h2, rfl, rfl, rfl, rfl⟩ := rdT_inv h
      obtain ⟨hc, hn⟩ := chk_zero h2
      refine ⟨h2, hc, hn, ?_, by simp⟩
      rw [show putL (x / 64) (x % 32) (decide (x / 32 % 2 = 1)) = [hd (x / 64) (decide (x / 32 % 2 = 1)) + x % 32] from if_pos (by omega), List.take_succ_cons, List.take_zero]
      congr 1
      unfold hd
      split <;> simp_all <;> omega
end Go.Proofs.Ytgdjgahmnnjeeaa
