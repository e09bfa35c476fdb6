/-
  Layer 4, pure: what Get does to an encoding, with whatever follows; encodings are apart.
  Conditions: none (no program is walked here).
-/
import Derived.Test.YtgdjgahmnnjeeaaElT
import Derived.Test.YtgdjgahmnnjeeaaElO
import Derived.Test.YtgdjgahmnnjeeaaElS
namespace Go.Proofs.Ytgdjgahmnnjeeaa
open Go.RowKit

theorem nxS_nil0 (step : List Nat → Nat → Nx) (g b : Nat) : nxS step g [] b = .ok [] b := by
  cases g with
  | zero => rfl
  | succ g => rw [nxS, if_pos rfl]
theorem encE_pos (e : El) : 0 < (encE e).length := by
  obtain ⟨c, n, k, bs, ss⟩ := e
  rw [encE_len]
  have := tput_pos c n k
  omega
theorem nxB_back (sub : List Nat → Nat → Nxs) (c n : Nat) (k : Bool) (bs : List Nat) (ss : List El) (l rest : List Nat) (h b b' : Nat) (hd : l.drop h = (bs ++ encS ss) ++ rest) (v2 : k = true → bs = []) (v3 : k = false → ss = [])
    (hk : k = false → b' = b) (hs : k = true → sub (encS ss) b = .ok ss b') : nxB sub c n k l h (bs.length + (encS ss).length) b = .ok (.mk c n k bs ss) (h + (bs.length + (encS ss).length)) b' := by
  have hm : bs.length + (encS ss).length = (bs ++ encS ss).length := by rw [List.length_append]
  unfold nxB
  rw [hd, hm, if_neg (by simp only [List.length_append]; omega), List.take_left]
  cases k with
  | false =>
    rw [if_pos rfl]
    obtain rfl := v3 rfl
    rw [hk rfl]
    simp [encS]
  | true =>
    rw [if_neg (by simp)]
    obtain rfl := v2 rfl
    rw [List.nil_append, hs rfl]
mutual
/-- What is put is read again, whatever follows. -/
theorem nx_back : ∀ (e : El) (f d b : Nat) (rest : List Nat), valE e → depE e ≤ f → d + depE e ≤ 17 → b + cntE e ≤ 8192 → (encE e).length ≤ 16000000 → nxE f (encE e ++ rest) d b = .ok e (encE e).length (b + cntE e)
  | .mk c n k bs ss, f, d, b, rest, hv, hf, hd, hc, hl => by
    rw [valE] at hv
    obtain ⟨v1, v2, v3, v4⟩ := hv
    rw [depE] at hf hd
    rw [cntE] at hc ⊢
    obtain ⟨f, rfl⟩ : ∃ g, f = g + 1 := ⟨f - 1, by omega⟩
    have hlen := encE_len (c := c) (n := n) (k := k) (bs := bs) (ss := ss)
    have hM : conL (.mk c n k bs ss) = bs.length + (encS ss).length := rfl
    rw [hM] at hlen
    have henc : encE (.mk c n k bs ss) ++ rest = putL c n k ++ (Len.putL (bs.length + (encS ss).length) ++ ((bs ++ encS ss) ++ rest)) := by
      rw [encE]; simp only [List.append_assoc]
    have hT : rdL (encE (.mk c n k bs ss) ++ rest) = (c, n, k, (putL c n k).length, 0) := by rw [henc]; exact rd_back c n k _ v1
    have hdT : (encE (.mk c n k bs ss) ++ rest).drop (putL c n k).length = Len.putL (bs.length + (encS ss).length) ++ ((bs ++ encS ss) ++ rest) := by rw [henc, List.drop_left]
    have hL := Len.getL_back (n := bs.length + (encS ss).length) (by omega) ((bs ++ encS ss) ++ rest)
    have hdP : (encE (.mk c n k bs ss) ++ rest).drop ((putL c n k).length + (Len.putL (bs.length + (encS ss).length)).length) = (bs ++ encS ss) ++ rest := by rw [← List.drop_drop, hdT, List.drop_left]
    have hp : plcE d b = 0 := by unfold plcE; rw [if_neg (by omega), if_neg (by omega)]
    rw [nxE, hT]
    dsimp only
    rw [hdT, hL]
    unfold nxH
    dsimp only
    rw [if_neg (by simp), if_neg (by rw [hp]; simp), if_neg (by simp)]
    rw [nxB_back (fun l b => nxS (fun l b => nxE f l (d + 1) b) l.length l b) c n k bs ss _ rest _ _ (b + 1 + cntS ss) hdP v2 v3 (fun hk => by rw [v3 hk]; rfl) (fun _ => nxS_back ss f (d + 1) (b + 1) _ v4 (by omega) (by omega) (by omega) (by omega) (Nat.le_refl _)), hlen, Nat.add_assoc b, Nat.add_assoc]
theorem nxS_back : ∀ (ss : List El) (f d b g : Nat), valS ss → depS ss ≤ f → d + depS ss ≤ 17 → b + cntS ss ≤ 8192 → (encS ss).length ≤ 16000000 → (encS ss).length ≤ g → nxS (fun l b => nxE f l d b) g (encS ss) b = .ok ss (b + cntS ss)
  | [], _, _, _, _, _, _, _, _, _, _ => by rw [encS, nxS_nil0]; rfl
  | e :: ss, f, d, b, g, hv, hf, hd, hc, hl, hg => by
    rw [valS] at hv
    rw [depS] at hf hd
    rw [cntS] at hc ⊢
    rw [encS, List.length_append] at hl hg
    rw [encS]
    have hp := encE_pos e
    obtain ⟨g, rfl⟩ : ∃ j, g = j + 1 := ⟨g - 1, by omega⟩
    rw [nxS, if_neg (fun h => by have := congrArg List.length h; rw [List.length_append, List.length_nil] at this; omega), nx_back e f d b (encS ss) hv.1 (by omega) (by omega) (by omega) (by omega)]
    dsimp only
    rw [List.drop_left, nxS_back ss f d (b + cntE e) g hv.2 (by omega) (by omega) (by omega) (by omega) (by omega), Nat.add_assoc]
end
/-- Encodings of valid elements are apart. -/
theorem enc_inj {a b : El} (ha : (chkE a 1 0).1 = 0) (hb : (chkE b 1 0).1 = 0) (hla : (encE a).length ≤ 16000000) (hlb : (encE b).length ≤ 16000000) (h : encE a = encE b) : a = b := by
  obtain ⟨va, da, ca⟩ := (chkE_zero a 1 0).1 ha
  obtain ⟨vb, db, cb⟩ := (chkE_zero b 1 0).1 hb
  have h1 := nx_back a 17 1 0 [] va (by omega) (by omega) (by omega) hla
  have h2 := nx_back b 17 1 0 [] vb (by omega) (by omega) (by omega) hlb
  rw [h, h2] at h1
  injection h1 with h1 _ _
  exact h1.symm
/-- A proper prefix of an encoding is too short. -/
theorem nx_cut (e : El) (f d b m : Nat) (hv : valE e) (hd : d ≤ 16) (hb : b < 8192) (hl : (encE e).length ≤ 16000000) (hm : m < (encE e).length) : nxE (f + 1) ((encE e).take m) d b = .err 7 m := by
  obtain ⟨c, n, k, bs, ss⟩ := e
  rw [valE] at hv
  have hlen := encE_len (c := c) (n := n) (k := k) (bs := bs) (ss := ss)
  have hM : conL (.mk c n k bs ss) = bs.length + (encS ss).length := rfl
  rw [hM] at hlen
  have htl : ((encE (.mk c n k bs ss)).take m).length = m := by rw [List.length_take]; omega
  have hp : plcE d b = 0 := by unfold plcE; rw [if_neg (by omega), if_neg (by omega)]
  obtain ⟨X, hX⟩ : ∃ X, Len.putL (bs.length + (encS ss).length) ++ (bs ++ encS ss) = X := ⟨_, rfl⟩
  have henc : encE (.mk c n k bs ss) = putL c n k ++ X := by rw [encE, hX]
  by_cases h1 : m < (putL c n k).length
  · have ht : (encE (.mk c n k bs ss)).take m = (putL c n k).take m := by rw [henc, List.take_append_of_le_length (by omega)]
    rw [nxE, nxH, if_pos (by rw [ht, rd_cut c n k m hv.1 h1]; decide)]
    rw [htl, ht, rd_cut c n k m hv.1 h1]
    rfl
  · obtain ⟨j, rfl⟩ : ∃ j, m = (putL c n k).length + j := ⟨m - (putL c n k).length, by omega⟩
    have ht : (encE (.mk c n k bs ss)).take ((putL c n k).length + j) = putL c n k ++ X.take j := by rw [henc, List.take_length_add_append]
    have hT : rdL ((encE (.mk c n k bs ss)).take ((putL c n k).length + j)) = (c, n, k, (putL c n k).length, 0) := by rw [ht]; exact rd_back c n k _ hv.1
    have hdT : ((encE (.mk c n k bs ss)).take ((putL c n k).length + j)).drop (putL c n k).length = X.take j := by rw [ht, List.drop_left]
    rw [nxE, hT]
    dsimp only
    rw [hdT]
    by_cases h2 : j < (Len.putL (bs.length + (encS ss).length)).length
    · have h3 : X.take j = (Len.putL (bs.length + (encS ss).length)).take j := by rw [← hX, List.take_append_of_le_length (by omega)]
      rw [h3, Len.getL_short h2]
      unfold nxH
      dsimp only
      rw [if_neg (by simp), if_neg (by rw [hp]; simp), if_pos (by decide), if_pos rfl, htl]
    · obtain ⟨i, rfl⟩ : ∃ i, j = (Len.putL (bs.length + (encS ss).length)).length + i := ⟨j - (Len.putL (bs.length + (encS ss).length)).length, by omega⟩
      have h3 : X.take ((Len.putL (bs.length + (encS ss).length)).length + i) = Len.putL (bs.length + (encS ss).length) ++ (bs ++ encS ss).take i := by rw [← hX, List.take_length_add_append]
      rw [h3, Len.getL_back (by omega)]
      unfold nxH
      dsimp only
      rw [if_neg (by simp), if_neg (by rw [hp]; simp), if_neg (by simp), nxB, if_pos (by rw [List.length_drop, htl]; omega), htl]
theorem depS_nil : depS [] = 0 := by rw [depS]
theorem nxS_put {f d : Nat} (ih : ∀ (l : List Nat) (b : Nat) (e : El) (z b' : Nat), All8 l → nxE f l d b = .ok e z b' → valE e ∧ encE e = l.take z ∧ z ≤ l.length ∧ d + depE e ≤ 17 ∧ b' = b + cntE e ∧ b' ≤ 8192) :
    ∀ (g : Nat) (l : List Nat) (b : Nat) (ss : List El) (b' : Nat), All8 l → l.length ≤ g → nxS (fun l b => nxE f l d b) g l b = .ok ss b' → valS ss ∧ encS ss = l ∧ (ss = [] ∨ d + depS ss ≤ 17) ∧ b' = b + cntS ss ∧ (b ≤ 8192 → b' ≤ 8192)
  | 0, l, b, ss, b', _, hg, h => by
    obtain rfl : l = [] := List.eq_nil_of_length_eq_zero (by omega)
    rw [nxS] at h
    injection h with h1 h2
    subst h1 h2
    exact ⟨trivial, by rw [encS], .inl rfl, by rw [cntS]; rfl, fun h => h⟩
  | g + 1, l, b, ss, b', h8, hg, h => by
    by_cases hl : l = []
    · subst hl
      rw [nxS_nil0] at h
      injection h with h1 h2
      subst h1 h2
      exact ⟨trivial, by rw [encS], .inl rfl, by rw [cntS]; rfl, fun h => h⟩
    · rw [nxS, if_neg hl] at h
      cases he : nxE f l d b with
      | err f' a => rw [he] at h; cases h
      | ok e z b1 =>
        rw [he] at h
        dsimp only at h
        obtain ⟨i1, i2, i3, i4, i5, i6⟩ := ih l b e z b1 h8 he
        have hz : 0 < z := by
          have := encE_pos e
          rw [i2, List.length_take] at this
          omega
        cases hr : nxS (fun l b => nxE f l d b) g (l.drop z) b1 with
        | err f' a => rw [hr] at h; cases h
        | ok ss' b2 =>
          rw [hr] at h
          injection h with h1 h2
          subst h1 h2
          obtain ⟨j1, j2, j3, j4, j5⟩ := nxS_put ih g (l.drop z) b1 ss' b2 (h8.drop z) (by rw [List.length_drop]; omega) hr
          refine ⟨⟨i1, j1⟩, by rw [encS, i2, j2, List.take_append_drop], .inr ?_, by rw [cntS, j4, i5, Nat.add_assoc], fun _ => j5 i6⟩
          rw [depS]
          rcases j3 with rfl | j3
          · rw [depS_nil]; omega
          · omega
/-- What is read has the very encoding that was read. -/
theorem nx_put : ∀ (f d : Nat) (l : List Nat) (b : Nat) (e : El) (z b' : Nat), All8 l → nxE f l d b = .ok e z b' → valE e ∧ encE e = l.take z ∧ z ≤ l.length ∧ d + depE e ≤ 17 ∧ b' = b + cntE e ∧ b' ≤ 8192
  | 0, _, _, _, _, _, _, _, h => by rw [nxE] at h; cases h
  | f + 1, d, l, b, e, z, b', h8, h => by
    rw [nxE] at h
    obtain ⟨⟨c, n, k, s, q⟩, hT⟩ : ∃ t, rdL l = t := ⟨_, rfl⟩
    rw [hT] at h
    dsimp only at h
    obtain ⟨⟨m, p, r⟩, hL⟩ : ∃ t, Len.getL (l.drop s) = t := ⟨_, rfl⟩
    rw [hL] at h
    unfold nxH at h
    dsimp only at h
    split at h
    · cases h
    rename_i hq
    obtain rfl : q = 0 := by omega
    split at h
    · cases h
    rename_i hp
    split at h
    · cases h
    rename_i hr
    obtain rfl : r = 0 := by omega
    obtain ⟨t1, _, _, t4, t5⟩ := rd_put h8 hT
    obtain ⟨l1, l2, l3, l4⟩ := Len.getL_ok (h8.drop s) hL
    rw [List.length_drop] at l3
    have hpl : d ≤ 16 ∧ b < 8192 := by
      unfold plcE at hp
      split at hp
      · exact absurd (by decide) hp
      · split at hp
        · exact absurd (by decide) hp
        · omega
    unfold nxB at h
    split at h
    · cases h
    rename_i hlen
    rw [List.length_drop] at hlen
    have htk : ((l.drop (s + p)).take m).length = m := by rw [List.length_take, List.length_drop]; omega
    have hcat : l.take s ++ ((l.drop s).take p ++ (l.drop (s + p)).take m) = l.take (s + p + m) := by
      rw [List.take_add (i := s + p), List.take_add (i := s), List.append_assoc]
    split at h
    · rename_i hk
      subst hk
      injection h with e1 e2 e3
      subst e1 e2 e3
      refine ⟨⟨t1, fun h => (by cases h), fun _ => rfl, trivial⟩, ?_, by omega, by rw [depE, depS_nil]; omega, by rw [cntE, cntS], by omega⟩
      rw [encE, encS, htk, List.append_nil, List.length_nil, Nat.add_zero, t4, ← l2, hcat]
    · rename_i hk
      have hk1 : k = true := by simpa using hk
      subst hk1
      dsimp only at h
      cases hs : nxS (fun l b => nxE f l (d + 1) b) ((l.drop (s + p)).take m).length ((l.drop (s + p)).take m) (b + 1) with
      | err f' a => rw [hs] at h; cases h
      | ok ss b2 =>
        rw [hs] at h
        dsimp only at h
        injection h with e1 e2 e3
        subst e1 e2 e3
        obtain ⟨j1, j2, j3, j4, j5⟩ := nxS_put (fun l b e z b' => nx_put f (d + 1) l b e z b') _ _ _ _ _ ((h8.drop (s + p)).take m) (Nat.le_refl _) hs
        refine ⟨⟨t1, fun _ => rfl, fun h => (by cases h), j1⟩, ?_, by omega, ?_, by rw [cntE, j4, Nat.add_assoc], j5 (by omega)⟩
        · rw [encE, j2, htk, List.nil_append, List.length_nil, Nat.zero_add, t4, ← l2, hcat]
        · rw [depE]
          rcases j3 with rfl | j3
          · rw [depS_nil]; omega
          · omega
mutual
theorem enc_bnd : ∀ (e : El), bndE e = true → valE e → (encE e).length ≤ 209 * cntE e
  | .mk c n k bs ss, h, hv => by
    rw [bndE, Bool.and_eq_true, Bool.and_eq_true, decide_eq_true_iff, decide_eq_true_iff] at h
    obtain ⟨h1, h2, h3⟩ := h
    rw [valE] at hv
    obtain ⟨v1, _, _, v4⟩ := hv
    have h4 := encS_bnd ss h3 v4
    have h5 := tput_le (c := c) (k := k) (chk_zero v1).2
    have h6 : conL (.mk c n k bs ss) = bs.length + (encS ss).length := rfl
    have h7 := (lput_le (m := conL (.mk c n k bs ss)) (by omega)).2
    rw [encE_len, cntE]
    omega
theorem encS_bnd : ∀ (ss : List El), bndS ss = true → valS ss → (encS ss).length ≤ 209 * cntS ss
  | [], _, _ => by simp [encS]
  | e :: ss, h, hv => by
    rw [bndS, Bool.and_eq_true] at h
    rw [valS] at hv
    have h1 := enc_bnd e h.1 hv.1
    have h2 := encS_bnd ss h.2 hv.2
    rw [encS, cntS, List.length_append]
    omega
end
theorem bnd_cnt {e : El} (h : bndE e = true) : cntE e ≤ 60 := by
  obtain ⟨c, n, k, bs, ss⟩ := e
  rw [bndE, Bool.and_eq_true, decide_eq_true_iff] at h
  rw [cntE]; exact h.1
theorem bnd_con {e : El} (h : bndE e = true) : conOk e := fun hz => by
  have h1 := enc_bnd e h ((chkE_zero e 1 0).1 hz).1
  have h2 := bnd_cnt h
  have h3 := conL_le (e := e)
  omega
theorem bnd_siz {e : El} (h : bndE e = true) : sizR e = if (chkE e 1 0).1 ≠ 0 then (0, (chkE e 1 0).1) else ((encE e).length, 0) := by
  unfold sizR
  split
  · rfl
  · rename_i hz
    have h1 := enc_bnd e h ((chkE_zero e 1 0).1 (by omega)).1
    have h2 := bnd_cnt h
    rw [if_pos (by omega)]
mutual
theorem bnd_sml : ∀ (e : El), bndE e = true → smlE e
  | .mk c n k bs ss, h => by
    rw [bndE, Bool.and_eq_true, Bool.and_eq_true, decide_eq_true_iff, decide_eq_true_iff] at h
    have := cntS_len ss
    exact ⟨by omega, by omega, bndS_sml ss h.2.2⟩
theorem bndS_sml : ∀ (ss : List El), bndS ss = true → smlS ss
  | [], _ => trivial
  | e :: ss, h => by
    rw [bndS, Bool.and_eq_true] at h
    exact ⟨bnd_sml e h.1, bndS_sml ss h.2⟩
end
/-- What E.Of gives: Put encodes it. -/
theorem val_enc {e : El} (hv : valE e) (hd : depE e ≤ 16) (hb : bndE e = true) : encR e = (encE e, 0) ∧ (chkE e 1 0).1 = 0 ∧ 0 < (encE e).length ∧ (encE e).length ≤ 12540 := by
  have h1 := bnd_cnt hb
  have h2 := enc_bnd e hb hv
  have h3 : (chkE e 1 0).1 = 0 := (chkE_zero e 1 0).2 ⟨hv, by omega, by omega⟩
  have h4 : sizR e = ((encE e).length, 0) := by rw [bnd_siz hb, if_neg (by rw [h3]; simp)]
  refine ⟨by unfold encR; rw [h4]; rfl, h3, encE_pos e, by omega⟩
end Go.Proofs.Ytgdjgahmnnjeeaa
