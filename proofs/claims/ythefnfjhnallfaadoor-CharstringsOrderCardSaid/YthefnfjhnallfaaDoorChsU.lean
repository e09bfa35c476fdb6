/-
  Layer 9, pure: texts in UTF-8 are in the order of their characters.
-/
import Derived.Test.YthefnfjhnallfaaDoorChsT
namespace Go.Proofs.YthefnfjhnallfaaDoor.Chs
open Go.RowKit Go.Shelf

set_option maxHeartbeats 4000000 in
theorem cmp_head {c d : Nat} (hc : c ≤ 1114111) (hd : d ≤ 1114111) (h : c < d) (r s : List Nat) : cmpL (enc1 c ++ r) (enc1 d ++ s) = -1 := by
  unfold enc1
  split
  all_goals split
  all_goals try split
  all_goals try split
  all_goals try split
  all_goals try split
  all_goals simp only [List.cons_append, List.nil_append, cmpL]
  all_goals repeat' split
  all_goals first | rfl | (exfalso; omega)
theorem cmp_enc : ∀ cs ds : List Nat, (∀ c ∈ cs, scal c = true) → (∀ c ∈ ds, scal c = true) → cmpL (encS cs) (encS ds) = cmpL cs ds
  | [], [], _, _ => rfl
  | [], d :: ds, _, _ => by
    rw [encS_cons]
    have := enc1_len d
    show cmpL [] (enc1 d ++ encS ds) = -1
    cases hd : enc1 d with
    | nil => rw [hd] at this; exact absurd this.1 (by simp)
    | cons x y => rfl
  | c :: cs, [], _, _ => by
    rw [encS_cons]
    have := enc1_len c
    show cmpL (enc1 c ++ encS cs) [] = 1
    cases hd : enc1 c with
    | nil => rw [hd] at this; exact absurd this.1 (by simp)
    | cons x y => rfl
  | c :: cs, d :: ds, h1, h2 => by
    have hc := scal_iff.1 (h1 c (by simp))
    have hd := scal_iff.1 (h2 d (by simp))
    rw [encS_cons, encS_cons]
    show _ = if c < d then -1 else if d < c then 1 else cmpL cs ds
    by_cases l1 : c < d
    · rw [if_pos l1, cmp_head (by omega) (by omega) l1]
    · rw [if_neg l1]
      by_cases l2 : d < c
      · rw [if_pos l2, cmpL_swap, cmp_head (by omega) (by omega) l2]; rfl
      · rw [if_neg l2]
        obtain rfl : c = d := by omega
        rw [cmpL_app]
        exact cmp_enc cs ds (fun y hy => h1 y (by simp [hy])) (fun y hy => h2 y (by simp [hy]))
end Go.Proofs.YthefnfjhnallfaaDoor.Chs
