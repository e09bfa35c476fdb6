/-
  Layer 7: the text of a set and its parse are each other's inverse.
  Conditions: none (plain lists).
-/
import Derived.Test.YtaiiihdckdjpoaaGreatDoorOsPz
import Derived.Test.YtaiiihdckdjpoaaGreatDoorOgL
namespace Go.Proofs.YtaiiihdckdjpoaaGreatDoor

theorem text_32 (v : Nat) : 32 ∉ textL v := by
  obtain ⟨ds, e, -, -, -, -⟩ := text_dig v
  rw [e]
  intro h
  obtain ⟨d, -, h⟩ := List.mem_map.1 h
  omega
theorem dot_32 (l : List Nat) : 32 ∉ dot l := fun h => by
  have h := List.mem_of_mem_drop h
  obtain ⟨a, _, h⟩ := List.mem_flatMap.1 h
  rcases List.mem_cons.1 h with h | h
  · cases h
  · exact text_32 a h
theorem txO_32 {o : Od} (h : chkO o.1 o.2 = 0) : 32 ∉ txO o.1 o.2 := by unfold txO; rw [if_pos h]; exact dot_32 _
theorem txO_ne {o : Od} (ho : OkO o.1 o.2) (h : chkO o.1 o.2 = 0) : txO o.1 o.2 ≠ [] := fun e => by
  have := prs_text ho h
  rw [e] at this
  have e2 : (prsO []).2.2 = 0 := congrArg (fun x => x.2.2) this
  exact absurd e2 (by decide)
theorem sj_cons (o : Od) (L : List Od) : sj (o :: L) = txO o.1 o.2 ++ spx L := by unfold sj spx; rw [List.flatMap_cons]; rfl
theorem splitS_sj : ∀ {L : List Od} (o : Od), (∀ x ∈ o :: L, chkO x.1 x.2 = 0) → splitS (sj (o :: L)) = (o :: L).map fun x => txO x.1 x.2
  | [], o, h => by
    rw [sj_one, splitS_none (txO_32 (h o (by simp)))]
    rfl
  | p :: L, o, h => by
    rw [sj_cons, show spx (p :: L) = 32 :: sj (p :: L) from by rw [sj_cons]; unfold spx; rw [List.flatMap_cons]; rfl, splitS_at _ (txO_32 (h o (by simp))), splitS_sj p fun x hx => h x (List.mem_cons_of_mem _ hx)]
    rfl
theorem frE_map : ∀ {L : List Od}, (∀ x ∈ L, OkO x.1 x.2) → (∀ x ∈ L, chkO x.1 x.2 = 0) → frE (L.map fun x => txO x.1 x.2) = 0
  | [], _, _ => rfl
  | o :: L, h1, h2 => by
    rw [List.map_cons, frE, if_neg (by rw [prs_text (h1 o (by simp)) (h2 o (by simp))]; simp)]
    exact frE_map (fun x hx => h1 x (List.mem_cons_of_mem _ hx)) fun x hx => h2 x (List.mem_cons_of_mem _ hx)
theorem od_map {L : List Od} (h1 : ∀ x ∈ L, OkO x.1 x.2) (h2 : ∀ x ∈ L, chkO x.1 x.2 = 0) : (L.map fun x => txO x.1 x.2).map odO = L := by
  rw [List.map_map]
  conv => rhs; rw [← List.map_id L]
  apply List.map_congr_left
  intro o ho
  show odO (txO o.1 o.2) = o
  unfold odO
  rw [prs_text (h1 o ho) (h2 o ho)]
theorem text_prsW {L : List Od} (h : SetO L) (hl : L.length ≤ 256) : prsW (txW L) = (L, 0) := by
  have hc := h.chk hl
  cases L with
  | nil => rfl
  | cons o L =>
    have hs := splitS_sj (L := L) o fun x hx => h.vd x hx
    have hne : sj (o :: L) ≠ [] := by
      rw [sj_cons]
      intro e
      exact txO_ne (h.ok o (by simp)) (h.vd o (by simp)) (List.append_eq_nil_iff.1 e).1
    have hall : (splitS (sj (o :: L))).all nE = true := by
      rw [hs, List.all_map, List.all_eq_true]
      intro x hx
      have := txO_ne (h.ok x hx) (h.vd x hx)
      simp [nE, this]
    have hi : insW (txW (o :: L)) = (sj (o :: L), 0) := by unfold txW; rw [insW_in, if_neg hne, if_pos hall]
    have hk : kq (splitS (sj (o :: L))) = o :: L := by
      unfold kq
      rw [hs, od_map (fun x hx => h.ok x hx) fun x hx => h.vd x hx, List.take_of_length_le (by omega)]
    unfold prsW
    rw [hi]
    dsimp only
    rw [if_neg (by simp), if_neg hne, hk, hc, hs, frE_map (fun x hx => h.ok x hx) fun x hx => h.vd x hx]
    simp
theorem splitS_join : ∀ (s : List Nat), ∃ p ps, splitS s = p :: ps ∧ s = p ++ ps.flatMap (32 :: ·)
  | [] => ⟨[], [], rfl, rfl⟩
  | c :: s => by
    obtain ⟨p, ps, e1, e2⟩ := splitS_join s
    rw [splitS, e1]
    by_cases h : c = 32
    · rw [if_pos h]
      exact ⟨[], p :: ps, rfl, by rw [List.nil_append, List.flatMap_cons, h, List.cons_append, ← e2]⟩
    · rw [if_neg h]
      exact ⟨c :: p, ps, rfl, by rw [List.cons_append, ← e2]⟩
theorem frE_all : ∀ {ps : List (List Nat)}, frE ps = 0 → ∀ p ∈ ps, (prsO p).2.2 = 0
  | [], _, _, hp => absurd hp (by simp)
  | x :: r, h, p, hp => by
    rw [frE] at h
    split at h
    · rename_i h2; exact absurd h h2
    · rename_i h2
      rcases List.mem_cons.1 hp with rfl | hp
      · exact Decidable.not_not.1 h2
      · exact frE_all h p hp
theorem txO_od {p : List Nat} (h : (prsO p).2.2 = 0) : txO (odO p).1 (odO p).2 = p := by
  have e : prsO p = ((prsO p).1, (prsO p).2.1, 0) := Prod.ext rfl (Prod.ext rfl h)
  exact (txt_prs e).2.2
theorem insW_inv {l : List Nat} (h : (insW l).2 = 0) : l = 123 :: ((insW l).1 ++ [125]) := by
  unfold insW at h ⊢
  split at h
  · rename_i hc
    obtain ⟨h1, h2⟩ := hc
    rw [if_pos ⟨h1, h2⟩]
    obtain ⟨r, rfl⟩ : ∃ r, l = 123 :: r := by
      unfold opP at h1
      cases l with
      | nil => cases h1
      | cons x r => simp at h1; exact ⟨r, by rw [h1]⟩
    rw [tP_123] at h2 h ⊢
    have hr : r = tS r ++ [125] := by
      unfold tS
      rw [if_pos h2]
      unfold clP at h2
      have h3 : r.getLast? = some 125 := by simpa using h2
      obtain ⟨ys, rfl⟩ := List.getLast?_eq_some_iff.1 h3
      rw [List.dropLast_concat]
    by_cases hm : tS r = []
    · rw [if_pos hm]
      conv => lhs; rw [hr, hm]
    · rw [if_neg hm] at h ⊢
      split at h
      · rename_i h4
        rw [if_pos h4]
        conv => lhs; rw [hr]
      · cases h
  · cases h
theorem prsW_text {l : List Nat} {K : List Od} (h : prsW l = (K, 0)) : SetO K ∧ K.length ≤ 256 ∧ txW K = l := by
  unfold prsW at h
  split at h
  · rename_i h1
    injection h with _ h
    exact absurd h h1
  · rename_i h1
    have hl := insW_inv (Decidable.not_not.1 h1)
    generalize (insW l).1 = m at *
    split at h
    · rename_i h2
      injection h with h _
      subst h
      refine ⟨SetO.nil, by simp, ?_⟩
      rw [hl, h2]
      rfl
    · rename_i h2
      split at h
      · rename_i h3
        injection h with _ h
        exact absurd h h3
      · rename_i h3
        split at h
        · rename_i h4
          injection h with _ h
          exact absurd h h4
        · rename_i h4
          injection h with h _
          have hset := (chkW_zero (kq_ok _)).1 (Decidable.not_not.1 h4)
          have hfe := frE_all (Decidable.not_not.1 h3)
          have hkq : kq (splitS m) = (splitS m).map odO := by
            have h5 := hset.2
            unfold kq at h5 ⊢
            rw [List.length_take] at h5
            exact List.take_of_length_le (by omega)
          rw [h] at hset hkq
          refine ⟨hset.1, hset.2, ?_⟩
          obtain ⟨p, ps, e1, e2⟩ := splitS_join m
          rw [e1] at hkq hfe
          rw [hl]
          unfold txW
          congr 2
          rw [hkq, List.map_cons, sj_cons, txO_od (hfe p (by simp))]
          conv => rhs; rw [e2]
          congr 1
          unfold spx
          rw [List.flatMap_map, List.flatMap_def, List.flatMap_def]
          congr 1
          exact List.map_congr_left fun q hq => by rw [txO_od (hfe q (by simp [hq]))]
theorem prsW_zero {l : List Nat} {K : List Od} {f : Nat} (h : prsW l = (K, f)) (hf : f ≠ 0) : K = [] := by
  unfold prsW at h
  split at h
  · injection h with h _; exact h.symm
  · split at h
    · injection h with h _; exact h.symm
    · split at h
      · injection h with h _; exact h.symm
      · split at h
        · injection h with h _; exact h.symm
        · injection h with _ h; exact absurd h.symm hf
theorem txW_all {L : List Od} : All8 (txW L) := by
  unfold txW sj spx
  intro x hx
  rcases List.mem_cons.1 hx with rfl | hx
  · decide
  · rcases List.mem_append.1 hx with hx | hx
    · obtain ⟨o, _, hx⟩ := List.mem_flatMap.1 (List.mem_of_mem_drop hx)
      rcases List.mem_cons.1 hx with rfl | hx
      · decide
      · exact txO_all o.1 o.2 x hx
    · rw [List.mem_singleton] at hx
      subst hx
      decide
theorem txW_len {L : List Od} (h : OkL L) : (txW L).length ≤ 1001 * L.length + 2 := by
  unfold txW
  have := sj_len h
  rw [List.length_cons, List.length_append, List.length_singleton]
  omega
end Go.Proofs.YtaiiihdckdjpoaaGreatDoor
