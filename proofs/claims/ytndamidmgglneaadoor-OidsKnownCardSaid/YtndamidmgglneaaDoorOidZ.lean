/-
  Layer 6, pure: Compare is an order; 0 for equal OIDs only; an OID below another one comes before it.
  Conditions: none.
-/
import Derived.Test.YtndamidmgglneaaDoorOidG
namespace Go.Proofs.YtndamidmgglneaaDoor

theorem cmpL_anti : ∀ (l k : List Nat), cmpL k l = -cmpL l k
  | [], [] => rfl
  | [], _ :: _ => rfl
  | _ :: _, [] => rfl
  | a :: l, b :: k => by
    show (if b < a then (-1 : Int) else if a < b then 1 else cmpL k l) = -(if a < b then (-1 : Int) else if b < a then 1 else cmpL l k)
    rw [cmpL_anti l k]
    split <;> split <;> first | omega | rfl
theorem cmpL_self : ∀ (l : List Nat), cmpL l l = 0
  | [] => rfl
  | a :: l => by show (if a < a then (-1 : Int) else if a < a then 1 else cmpL l l) = 0; rw [if_neg (by omega), if_neg (by omega), cmpL_self l]
theorem cmpL_zero : ∀ {l k : List Nat}, cmpL l k = 0 → l = k
  | [], [], _ => rfl
  | [], _ :: _, h => by cases h
  | _ :: _, [], h => by cases h
  | a :: l, b :: k, h => by
    change (if a < b then (-1 : Int) else if b < a then 1 else cmpL l k) = 0 at h
    split at h
    · omega
    · split at h
      · omega
      · rw [show a = b by omega, cmpL_zero h]
theorem cmpL_le : ∀ {l k m : List Nat}, cmpL l k ≤ 0 → cmpL k m ≤ 0 → cmpL l m ≤ 0
  | [], k, [], _, _ => by simp [cmpL]
  | [], k, _ :: _, _, _ => by simp [cmpL]
  | a :: l, [], m, h, _ => by simp [cmpL] at h
  | a :: l, b :: k, [], _, h => by simp [cmpL] at h
  | a :: l, b :: k, c :: m, h1, h2 => by
    change (if a < b then (-1 : Int) else if b < a then 1 else cmpL l k) ≤ 0 at h1
    change (if b < c then (-1 : Int) else if c < b then 1 else cmpL k m) ≤ 0 at h2
    show (if a < c then (-1 : Int) else if c < a then 1 else cmpL l m) ≤ 0
    by_cases q1 : a < b
    · rw [if_pos q1] at h1
      by_cases q2 : b < c
      · rw [if_pos (by omega)]; omega
      · rw [if_neg q2] at h2
        by_cases q3 : c < b
        · rw [if_pos q3] at h2; omega
        · rw [if_pos (by omega)]; omega
    · rw [if_neg q1] at h1
      by_cases q2 : b < a
      · rw [if_pos q2] at h1; omega
      · rw [if_neg q2] at h1
        by_cases q3 : b < c
        · rw [if_pos (by omega)]; omega
        · rw [if_neg q3] at h2
          by_cases q4 : c < b
          · rw [if_pos q4] at h2; omega
          · rw [if_neg q4] at h2
            rw [if_neg (by omega), if_neg (by omega)]
            exact cmpL_le h1 h2
theorem cmpL_pre : ∀ {l k : List Nat}, l <+: k → l.length < k.length → cmpL l k = -1
  | [], [], _, h => by simp at h
  | [], _ :: _, _, _ => rfl
  | a :: l, [], h, _ => by simp at h
  | a :: l, b :: k, h, hl => by
    rw [List.cons_prefix_cons] at h
    obtain ⟨rfl, h⟩ := h
    show (if a < a then (-1 : Int) else if a < a then 1 else cmpL l k) = -1
    rw [if_neg (by omega), if_neg (by omega)]
    exact cmpL_pre h (by simpa using hl)
theorem cmpO_anti (n : Nat) (l : List Nat) (m : Nat) (k : List Nat) : cmpO m k n l = -cmpO n l m k := cmpL_anti _ _
theorem cmpO_self (n : Nat) (l : List Nat) : cmpO n l n l = 0 := cmpL_self _
theorem tl0_pad {n : Nat} {l : List Nat} (hl : l.length = 16) (hn : n ≤ 16) (h : tl0 n l = true) : l = pad (l.take n) := by
  unfold pad
  rw [List.length_take, hl, Nat.min_eq_left hn]
  apply List.ext_getElem
  · simp; omega
  · intro i h1 h2
    rcases Nat.lt_or_ge i n with hi | hi
    · rw [List.getElem_append_left (by simp; omega), List.getElem_take]
    · rw [List.getElem_append_right (by simp; omega), List.getElem_replicate]
      have hm : l[i] ∈ l.drop n := by rw [List.mem_drop_iff_getElem]; exact ⟨i - n, by omega, by congr 1; omega⟩
      unfold tl0 at h
      have := List.all_eq_true.1 h _ hm
      simpa using this
theorem chk_pad {n : Nat} {l : List Nat} (ho : OkO n l) (h : chkO n l = 0) : l = pad (l.take n) ∧ 2 ≤ n ∧ n ≤ 16 := by
  unfold chkO at h
  split at h
  · rename_i h'
    exact ⟨tl0_pad ho.len h'.2.1 h'.2.2.2, h'.1, h'.2.1⟩
  · cases h
theorem cmpO_zero {n : Nat} {l : List Nat} {m : Nat} {k : List Nat} (ho : OkO n l) (hp : OkO m k) (h1 : chkO n l = 0) (h2 : chkO m k = 0) : (cmpO n l m k = 0) ↔ (n = m ∧ l = k) := by
  constructor
  · intro h
    obtain ⟨e1, a1, b1⟩ := chk_pad ho h1
    obtain ⟨e2, a2, b2⟩ := chk_pad hp h2
    have := cmpL_zero (show cmpL (l.take (min n 16)) (k.take (min m 16)) = 0 from h)
    rw [Nat.min_eq_left b1, Nat.min_eq_left b2] at this
    refine ⟨?_, ?_⟩
    · have := congrArg List.length this
      rw [List.length_take, List.length_take, ho.len, hp.len] at this
      omega
    · rw [e1, e2, this]
  · rintro ⟨rfl, rfl⟩
    exact cmpO_self _ _
theorem cmpO_le {n : Nat} {l : List Nat} {m : Nat} {k : List Nat} {p : Nat} {j : List Nat} (h1 : cmpO n l m k ≤ 0) (h2 : cmpO m k p j ≤ 0) : cmpO n l p j ≤ 0 := cmpL_le h1 h2
theorem hasO_cmp {n : Nat} {l : List Nat} {m : Nat} {k : List Nat} (ho : OkO n l) (hp : OkO m k) (h : hasO n l m k = true) : cmpO n l m k = -1 := by
  unfold hasO at h
  simp only [Bool.and_eq_true, decide_eq_true_eq] at h
  obtain ⟨⟨⟨h1, h2⟩, h3⟩, h4⟩ := h
  obtain ⟨-, -, b1⟩ := chk_pad ho h1
  obtain ⟨-, -, b2⟩ := chk_pad hp h2
  unfold cmpO
  rw [Nat.min_eq_left b1, Nat.min_eq_left b2]
  refine cmpL_pre ?_ (by rw [List.length_take, List.length_take, ho.len, hp.len]; omega)
  rw [h4]
  exact List.take_prefix_take_left (by omega)
theorem cmpL_tri : ∀ (l k : List Nat), cmpL l k = -1 ∨ cmpL l k = 0 ∨ cmpL l k = 1
  | [], [] => .inr (.inl rfl)
  | [], _ :: _ => .inl rfl
  | _ :: _, [] => .inr (.inr rfl)
  | a :: l, b :: k => by
    show (if a < b then (-1 : Int) else if b < a then 1 else cmpL l k) = -1 ∨ (if a < b then (-1 : Int) else if b < a then 1 else cmpL l k) = 0 ∨ (if a < b then (-1 : Int) else if b < a then 1 else cmpL l k) = 1
    by_cases h1 : a < b
    · rw [if_pos h1]; exact .inl rfl
    · rw [if_neg h1]
      by_cases h2 : b < a
      · rw [if_pos h2]; exact .inr (.inr rfl)
      · rw [if_neg h2]; exact cmpL_tri l k
end Go.Proofs.YtndamidmgglneaaDoor
