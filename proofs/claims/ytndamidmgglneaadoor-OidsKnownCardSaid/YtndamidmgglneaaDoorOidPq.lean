/-
  Layer 6, pure: what Text writes is what Parse reads, and back.
  Conditions: none.
-/
import Derived.Test.YtndamidmgglneaaDoorOidPu
namespace Go.Proofs.YtndamidmgglneaaDoor

theorem vdA_map : ∀ (ds : List Nat) (a : Nat), vdA a (ds.map (48 + ·)) = fb 10 a ds
  | [], _ => rfl
  | d :: ds, a => by
    show vdA (10 * a + (48 + d - 48)) (ds.map (48 + ·)) = fb 10 (10 * a + d) ds
    rw [show 48 + d - 48 = d by omega, vdA_map ds]
theorem text_dig (v : Nat) : ∃ ds, textL v = ds.map (48 + ·) ∧ (∀ d ∈ ds, d < 10) ∧ fb 10 0 ds = v ∧ (ds = [0] ∨ ds.head? ≠ some 0) ∧ ds ≠ [] := by
  unfold textL
  by_cases h : v = 0
  · exact ⟨[0], by rw [if_pos h]; rfl, by simp, by rw [h]; rfl, .inl rfl, by simp⟩
  · refine ⟨(dgs 10 v).reverse, by rw [if_neg h], fun d hd => dgs_lt (b := 10) (by omega) v d (by simpa using hd), fb_dgs (by omega) v, .inr (dgs_head (by omega) v), ?_⟩
    rw [dgs_pos (by omega) h]; simp
theorem text_dec (v : Nat) : isDec (textL v) = true := by
  obtain ⟨ds, e, h1, -, h3, h4⟩ := text_dig v
  rw [e]
  unfold isDec
  rw [Bool.and_eq_true]
  refine ⟨?_, ?_⟩
  · rw [List.all_eq_true]
    intro c hc
    obtain ⟨d, hd, rfl⟩ := List.mem_map.1 hc
    have := h1 d hd
    unfold dg
    simp; omega
  · rcases h3 with rfl | h3
    · rfl
    · cases ds with
      | nil => exact absurd rfl h4
      | cons d ds =>
        rw [Bool.or_eq_true]
        right
        rw [List.map_cons, List.headD_cons, bne_iff_ne]
        intro e
        exact h3 (by rw [List.head?_cons]; congr 1; omega)
theorem text_vd (v : Nat) : vd (textL v) = v := by
  obtain ⟨ds, e, -, h2, -, -⟩ := text_dig v
  rw [e]
  show vdA 0 _ = v
  rw [vdA_map, h2]
theorem text_46 (v : Nat) : 46 ∉ textL v := by
  obtain ⟨ds, e, -, -, -, -⟩ := text_dig v
  rw [e]
  intro h
  obtain ⟨d, -, h⟩ := List.mem_map.1 h
  omega
theorem dec_text_vd {p : List Nat} (h : isDec p = true) : textL (vd p) = p := by
  have hd : ∀ c ∈ p, 48 ≤ c ∧ c ≤ 57 := fun c hc => by
    have := List.all_eq_true.1 (dec_ne h).2 c hc
    unfold dg at this
    simpa using this
  have hne := (dec_ne h).1
  by_cases h48 : p = [48]
  · subst h48; rfl
  · have hhd : p.head? ≠ some 48 := by
      unfold isDec at h
      rw [Bool.and_eq_true, Bool.or_eq_true] at h
      cases p with
      | nil => exact absurd rfl hne
      | cons c p =>
        rcases h.2 with h2 | h2
        · exact absurd (by simpa using h2) h48
        · rw [List.headD_cons, bne_iff_ne] at h2
          rw [List.head?_cons]
          intro e
          exact h2 (by injection e)
    obtain ⟨ds, rfl⟩ : ∃ ds, p = ds.map (48 + ·) := ⟨p.map (· - 48), by
      rw [List.map_map]
      conv => lhs; rw [← List.map_id p]
      apply List.map_congr_left
      intro c hc
      have := hd c hc
      simp only [id, Function.comp]; omega⟩
    have e : vd (ds.map (48 + ·)) = fb 10 0 ds := vdA_map ds 0
    have hds : (dgs 10 (fb 10 0 ds)).reverse = ds := dgs_fb (by omega) (fun d hd' => by have := hd (48 + d) (List.mem_map.2 ⟨d, hd', rfl⟩); omega) (fun h0 => hhd (by rw [List.head?_map, h0]; rfl))
    have hv : fb 10 0 ds ≠ 0 := fun h0 => by
      rw [h0, dgs_zero] at hds
      exact hne (by rw [← hds]; rfl)
    rw [e]
    unfold textL
    rw [if_neg hv, hds]
theorem jn_cons (a : Nat) (L : List Nat) : jn (a :: L) = 46 :: textL a ++ jn L := by unfold jn; rw [List.flatMap_cons]
theorem dot_cons (a : Nat) (L : List Nat) : dot (a :: L) = textL a ++ jn L := by unfold dot; rw [jn_cons]; rfl
theorem split_jn : ∀ (L : List Nat) (a : Nat), splitD (textL a ++ jn L) = (a :: L).map textL
  | [], a => by
    rw [show jn [] = [] from rfl, List.append_nil, split_none (text_46 a)]; rfl
  | b :: L, a => by
    rw [jn_cons, List.cons_append, split_at _ (text_46 a), split_jn L b]; rfl
theorem split_join : ∀ (s : List Nat), ∃ p ps, splitD s = p :: ps ∧ s = p ++ ps.flatMap (46 :: ·)
  | [] => ⟨[], [], rfl, rfl⟩
  | c :: s => by
    obtain ⟨p, ps, e1, e2⟩ := split_join s
    rw [splitD, e1]
    by_cases h : c = 46
    · rw [if_pos h]
      exact ⟨[], p :: ps, rfl, by rw [List.nil_append, List.flatMap_cons, h, List.cons_append, ← e2]⟩
    · rw [if_neg h]
      exact ⟨c :: p, ps, rfl, by rw [List.cons_append, ← e2]⟩
theorem fits_text {L : List Nat} (h1 : L.length ≤ 16) (h2 : ∀ x ∈ L, x < 4294967296) : fits (L.map textL) = true := by
  unfold fits
  rw [Bool.and_eq_true, decide_eq_true_eq, List.length_map, List.all_eq_true]
  refine ⟨h1, fun p hp => ?_⟩
  obtain ⟨x, hx, rfl⟩ := List.mem_map.1 hp
  rw [decide_eq_true_eq, text_vd]
  have := h2 x hx; omega
theorem prs_text {n : Nat} {l : List Nat} (ho : OkO n l) (h : chkO n l = 0) : prsO (txO n l) = (n, l, 0) := by
  obtain ⟨a, b, m, rfl, -, -, hp, hm, h2, h16⟩ := valid_form ho h
  have ht : (a :: b :: m).take n = a :: b :: m.take (n - 2) := by
    obtain ⟨n, rfl⟩ : ∃ k, n = k + 2 := ⟨n - 2, by omega⟩
    rfl
  have hlen : (a :: b :: m.take (n - 2)).length = n := by simp; omega
  have h32 : ∀ x ∈ a :: b :: m.take (n - 2), x < 4294967296 := fun x hx => ho.a32 x (by rw [← ht] at hx; exact List.mem_of_mem_take hx)
  have hs : splitD (txO n (a :: b :: m)) = (a :: b :: m.take (n - 2)).map textL := by
    unfold txO
    rw [if_pos h, ht, dot_cons, split_jn]
  have hvd : ((a :: b :: m.take (n - 2)).map textL).map vd = a :: b :: m.take (n - 2) := by
    rw [List.map_map]
    conv => rhs; rw [← List.map_id (a :: b :: m.take (n - 2))]
    exact List.map_congr_left fun x _ => text_vd x
  unfold prsO
  rw [hs, if_neg (by
    rw [Bool.not_eq_false, List.all_eq_true]
    intro p hp
    obtain ⟨x, -, rfl⟩ := List.mem_map.1 hp
    exact text_dec x), if_neg (by rw [fits_text (by rw [hlen]; exact h16) h32]; decide), hvd, List.length_map, hlen, ← hp, if_pos h]
theorem txt_prs {s : List Nat} {n : Nat} {k : List Nat} (h : prsO s = (n, k, 0)) : OkO n k ∧ chkO n k = 0 ∧ txO n k = s := by
  unfold prsO at h
  split at h
  · cases h
  · rename_i h1
    split at h
    · cases h
    · rename_i h2
      split at h
      · rename_i h3
        simp only [Prod.mk.injEq, and_true] at h
        obtain ⟨rfl, rfl⟩ := h
        rw [Bool.not_eq_false] at h1 h2
        have h2' := h2
        unfold fits at h2'
        rw [Bool.and_eq_true, decide_eq_true_eq, List.all_eq_true] at h2'
        have hlen : ((splitD s).map vd).length = (splitD s).length := List.length_map _
        have ho : OkO (splitD s).length (pad ((splitD s).map vd)) := by
          have := okO_pad (l := (splitD s).map vd) (by rw [hlen]; exact h2'.1) fun x hx => by
            obtain ⟨p, hp, rfl⟩ := List.mem_map.1 hx
            have := h2'.2 p hp
            rw [decide_eq_true_eq] at this
            omega
          rwa [hlen] at this
        refine ⟨ho, h3, ?_⟩
        unfold txO
        rw [if_pos h3, ← hlen, pad_take]
        obtain ⟨p, ps, e1, e2⟩ := split_join s
        rw [e1] at h1 ⊢
        rw [List.all_eq_true] at h1
        rw [List.map_cons, dot_cons, dec_text_vd (h1 p (by simp))]
        conv => rhs; rw [e2]
        congr 1
        unfold jn
        rw [List.flatMap_map, List.flatMap_def, List.flatMap_def]
        congr 1
        exact List.map_congr_left fun q hq => by rw [dec_text_vd (h1 q (by simp [hq]))]
      · cases h
theorem txO_all (n : Nat) (l : List Nat) : All8 (txO n l) := by
  unfold txO
  split
  · exact dot_all _
  · intro x hx; simp at hx; omega
theorem txO_len {n : Nat} {l : List Nat} (ho : OkO n l) : (txO n l).length ≤ 1000 := by
  unfold txO
  split
  · have := dot_len (l := l.take n) fun x hx => ho.a32 x (List.mem_of_mem_take hx)
    rw [List.length_take, ho.len] at this
    omega
  · simp
end Go.Proofs.YtndamidmgglneaaDoor
