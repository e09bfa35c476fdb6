/-
  Layer 6, pure: what Put writes is what Get reads, and back; what Text writes is what Parse reads, and back.
  Conditions: none.
-/
import Derived.Test.YtaiiihdckdjpoaaGreatDoorOgC
import Derived.Test.YtaiiihdckdjpoaaGreatDoorOgD
import Derived.Test.YtaiiihdckdjpoaaGreatDoorOgB
namespace Go.Proofs.YtaiiihdckdjpoaaGreatDoor

/-! Digits. -/
def fb (b v : Nat) (ds : List Nat) : Nat := ds.foldl (fun a d => b * a + d) v
theorem fb_snoc (b v d : Nat) (ds : List Nat) : fb b v (ds ++ [d]) = b * fb b v ds + d := by unfold fb; rw [List.foldl_append]; rfl
theorem fb_cons (b v d : Nat) (ds : List Nat) : fb b v (d :: ds) = fb b (b * v + d) ds := rfl
theorem fb_ge {b : Nat} (hb : 2 ≤ b) : ∀ (ds : List Nat) (v : Nat), v ≤ fb b v ds
  | [], _ => Nat.le_refl _
  | d :: ds, v => by
    refine Nat.le_trans ?_ (fb_ge hb ds (b * v + d))
    have : 1 * v ≤ b * v := Nat.mul_le_mul_right v (by omega)
    omega
theorem fb_dgs {b : Nat} (hb : 2 ≤ b) (u : Nat) : fb b 0 (dgs b u).reverse = u := by
  induction u using Nat.strongRecOn with
  | ind u ih =>
    by_cases h : u = 0
    · subst h; rw [dgs_zero]; rfl
    · rw [dgs_pos hb h, List.reverse_cons, fb_snoc, ih (u / b) (Nat.div_lt_self (by omega) (by omega))]
      exact Nat.div_add_mod u b
theorem dgs_head {b : Nat} (hb : 2 ≤ b) (u : Nat) : (dgs b u).reverse.head? ≠ some 0 := by
  induction u using Nat.strongRecOn with
  | ind u ih =>
    by_cases h : u = 0
    · subst h; rw [dgs_zero]; simp
    · rw [dgs_pos hb h, List.reverse_cons]
      by_cases h2 : u / b = 0
      · rw [h2, dgs_zero]
        have : u < b := by
          rcases Nat.lt_or_ge u b with h3 | h3
          · exact h3
          · have := Nat.div_pos h3 (by omega); omega
        rw [Nat.mod_eq_of_lt this]
        simpa using h
      · have hne : (dgs b (u / b)).reverse ≠ [] := by rw [dgs_pos hb h2]; simp
        obtain ⟨a, t, e⟩ : ∃ a t, (dgs b (u / b)).reverse = a :: t := by
          cases hq : (dgs b (u / b)).reverse with
          | nil => exact absurd hq hne
          | cons a t => exact ⟨a, t, rfl⟩
        have := ih (u / b) (Nat.div_lt_self (by omega) (by omega))
        rw [e] at this ⊢
        simpa using this
theorem dgs_fbr {b : Nat} (hb : 2 ≤ b) : ∀ (rs : List Nat), (∀ d ∈ rs, d < b) → rs.reverse.head? ≠ some 0 → (dgs b (fb b 0 rs.reverse)).reverse = rs.reverse
  | [], _, _ => by show (dgs b 0).reverse = []; rw [dgs_zero]; rfl
  | d :: rs, h, h0 => by
    have hd := h d (by simp)
    rw [List.reverse_cons, fb_snoc]
    by_cases hr : rs = []
    · subst hr
      have : d ≠ 0 := fun e => h0 (by rw [e]; rfl)
      show (dgs b (b * 0 + d)).reverse = [d]
      rw [Nat.mul_zero, Nat.zero_add, dgs_pos hb this, Nat.mod_eq_of_lt hd, Nat.div_eq_of_lt hd, dgs_zero]
      rfl
    · obtain ⟨a, t, e⟩ : ∃ a t, rs.reverse = a :: t := by
        cases hq : rs.reverse with
        | nil => exact absurd (List.reverse_eq_nil_iff.1 hq) hr
        | cons a t => exact ⟨a, t, rfl⟩
      have ih := dgs_fbr hb rs (fun x hx => h x (by simp [hx])) (by rw [List.reverse_cons, e] at h0; rw [e]; simpa using h0)
      have hne : fb b 0 rs.reverse ≠ 0 := fun e0 => by
        rw [e0, dgs_zero, e] at ih
        cases ih
      have hpos : b * fb b 0 rs.reverse + d ≠ 0 := by
        have := Nat.mul_le_mul (show 1 ≤ b by omega) (show 1 ≤ fb b 0 rs.reverse by omega)
        omega
      rw [dgs_pos hb hpos, Nat.mul_add_div (by omega), Nat.div_eq_of_lt hd, Nat.add_zero, Nat.mul_add_mod, Nat.mod_eq_of_lt hd, List.reverse_cons, ih]
theorem dgs_fb {b : Nat} (hb : 2 ≤ b) {ds : List Nat} (h : ∀ d ∈ ds, d < b) (h0 : ds.head? ≠ some 0) : (dgs b (fb b 0 ds)).reverse = ds := by
  have := dgs_fbr hb ds.reverse (fun d hd => h d (by simpa using hd)) (by rwa [List.reverse_reverse])
  rwa [List.reverse_reverse] at this

/-! Octets. -/
theorem rdS_run (y : Nat) (hy : y < 128) (rest : List Nat) : ∀ (ds : List Nat) (v k : Nat), (∀ d ∈ ds, d < 128) → 128 * fb 128 v ds + y ≤ 4294967295 → rdS v k (ds.map (128 + ·) ++ y :: rest) = (128 * fb 128 v ds + y, k + ds.length + 1, 0)
  | [], v, k, _, h => by
    show (if 4294967295 < 128 * v + y % 128 then _ else if y < 128 then _ else _) = _
    change 128 * v + y ≤ 4294967295 at h
    rw [Nat.mod_eq_of_lt hy, if_neg (by omega), if_pos hy]
    rfl
  | d :: ds, v, k, hd, h => by
    have h1 := hd d (by simp)
    change 128 * fb 128 (128 * v + d) ds + y ≤ 4294967295 at h
    have h2 := fb_ge (b := 128) (by omega) ds (128 * v + d)
    show (if 4294967295 < 128 * v + (128 + d) % 128 then _ else if 128 + d < 128 then _ else rdS (128 * v + (128 + d) % 128) (k + 1) (ds.map (128 + ·) ++ y :: rest)) = _
    rw [show (128 + d) % 128 = d by omega, if_neg (by omega), if_neg (by omega), rdS_run y hy rest ds _ _ (fun x hx => hd x (by simp [hx])) h]
    show (128 * fb 128 (128 * v + d) ds + y, k + 1 + ds.length + 1, 0) = (128 * fb 128 (128 * v + d) ds + y, k + (ds.length + 1) + 1, 0)
    rw [show k + 1 + ds.length + 1 = k + (ds.length + 1) + 1 by omega]
theorem gl_form (n : Nat) : gl n = ((dgs 128 (n / 128)).reverse).map (128 + ·) ++ [n % 128] := by unfold gl; rw [List.map_reverse]
theorem subO_gl {n : Nat} (h : n < 4294967296) (rest : List Nat) : subO (gl n ++ rest) = (n, (gl n).length, 0) := by
  have hf := fb_dgs (b := 128) (by omega) (n / 128)
  have hh := dgs_head (b := 128) (by omega) (n / 128)
  have hl : ∀ d ∈ (dgs 128 (n / 128)).reverse, d < 128 := fun d hd => dgs_lt (b := 128) (by omega) (n / 128) d (by simpa using hd)
  rw [gl_form]
  generalize (dgs 128 (n / 128)).reverse = ds at *
  have hm : n % 128 < 128 := Nat.mod_lt _ (by omega)
  have hrun := rdS_run (n % 128) hm rest ds 0 0 hl (by rw [hf]; omega)
  rw [hf, show 128 * (n / 128) + n % 128 = n from Nat.div_add_mod n 128] at hrun
  have hlen : (ds.map (128 + ·) ++ [n % 128]).length = ds.length + 1 := by simp
  rw [hlen, List.append_assoc, List.singleton_append]
  have hrun' : rdS 0 0 (ds.map (128 + ·) ++ n % 128 :: rest) = (n, ds.length + 1, 0) := by rw [hrun, Nat.zero_add]
  cases ds with
  | nil =>
    rw [List.map_nil, List.nil_append] at hrun' ⊢
    rw [subO_cons, if_neg (by omega), hrun']
  | cons d ds =>
    rw [List.map_cons, List.cons_append] at hrun' ⊢
    have : d ≠ 0 := fun e => hh (by rw [e]; rfl)
    rw [subO_cons, if_neg (by omega), hrun']
theorem rdS_inv : ∀ (l : List Nat) (v k x s : Nat), All8 l → rdS v k l = (x, s, 0) → ∃ ds y rest, l = ds.map (128 + ·) ++ y :: rest ∧ y < 128 ∧ (∀ d ∈ ds, d < 128) ∧ x = 128 * fb 128 v ds + y ∧ s = k + ds.length + 1
  | [], _, _, _, _, _, h => by cases h
  | b :: l, v, k, x, s, h8, h => by
    have hb := h8 b (by simp)
    change (if 4294967295 < 128 * v + b % 128 then (0, 0, 3) else if b < 128 then (128 * v + b % 128, k + 1, 0) else rdS (128 * v + b % 128) (k + 1) l) = (x, s, 0) at h
    split at h
    · cases h
    · split at h
      · rename_i h2
        simp only [Prod.mk.injEq, and_true] at h
        exact ⟨[], b, l, rfl, h2, by simp, by rw [← h.1, Nat.mod_eq_of_lt h2]; rfl, by rw [← h.2]; rfl⟩
      · rename_i h2
        obtain ⟨ds, y, rest, e1, e2, e3, e4, e5⟩ := rdS_inv l _ _ x s (fun c hc => h8 c (by simp [hc])) h
        refine ⟨(b - 128) :: ds, y, rest, ?_, e2, ?_, ?_, ?_⟩
        · rw [e1, List.map_cons, List.cons_append, show 128 + (b - 128) = b by omega]
        · intro d hd
          rcases List.mem_cons.1 hd with hd | hd
          · omega
          · exact e3 d hd
        · rw [e4, fb_cons, show b % 128 = b - 128 by omega]
        · rw [e5, List.length_cons]; omega
theorem subO_inv {l : List Nat} {x s : Nat} (h8 : All8 l) (h : subO l = (x, s, 0)) : l = gl x ++ l.drop s ∧ s = (gl x).length := by
  cases l with
  | nil => cases h
  | cons b l =>
    rw [subO_cons] at h
    split at h
    · cases h
    · rename_i hne
      obtain ⟨ds, y, rest, e1, e2, e3, e4, e5⟩ := rdS_inv _ _ _ _ _ h8 h
      have hh : ds.head? ≠ some 0 := by
        cases ds with
        | nil => simp
        | cons d ds =>
          rw [List.map_cons, List.cons_append] at e1
          injection e1 with e1 _
          intro e
          have : d = 0 := by simpa using e
          omega
      have hg : gl x = ds.map (128 + ·) ++ [y] := by
        rw [gl_form, show x / 128 = fb 128 0 ds by omega, dgs_fb (by omega) e3 hh, show x % 128 = y by omega]
      have hs : s = (gl x).length := by rw [hg]; simp; omega
      refine ⟨?_, hs⟩
      rw [hs, e1, hg, show ds.map (128 + ·) ++ y :: rest = (ds.map (128 + ·) ++ [y]) ++ rest by simp, List.drop_left' rfl]
theorem gl_pos (n : Nat) : 1 ≤ (gl n).length := by unfold gl; simp
theorem getF_back : ∀ (is : List Nat) (acc : List Nat) (f : Nat), (∀ x ∈ is, x < 4294967296) → acc.length + is.length ≤ 15 → (is.flatMap gl).length ≤ f → getF f acc (is.flatMap gl) = (acc ++ is, 0)
  | [], acc, f, _, _, _ => by rw [List.flatMap_nil, List.append_nil]; cases f <;> rfl
  | x :: is, acc, f, h, h15, hf => by
    have hx := h x (by simp)
    have hp := gl_pos x
    rw [List.flatMap_cons] at hf ⊢
    rw [List.length_append] at hf
    rw [List.length_cons] at h15
    obtain ⟨f, rfl⟩ : ∃ f', f = f' + 1 := ⟨f - 1, by omega⟩
    have hs := subO_gl hx (is.flatMap gl)
    obtain ⟨b, t, e⟩ : ∃ b t, gl x ++ is.flatMap gl = b :: t := by
      cases hq : gl x ++ is.flatMap gl with
      | nil => have := congrArg List.length hq; rw [List.length_append, List.length_nil] at this; omega
      | cons b t => exact ⟨b, t, rfl⟩
    rw [e] at hs ⊢
    rw [getF, if_neg (by omega), hs, if_neg (by simp), ← e]
    simp only
    rw [List.drop_left' rfl, getF_back is (acc ++ [x]) f (fun y hy => h y (by simp [hy])) (by simp; omega) (by omega), List.append_assoc]
    rfl
theorem getF_inv : ∀ (f : Nat) (acc l r : List Nat), All8 l → l.length ≤ f → acc.length ≤ 15 → getF f acc l = (r, 0) → ∃ is, r = acc ++ is ∧ l = is.flatMap gl ∧ (∀ x ∈ is, x < 4294967296) ∧ acc.length + is.length ≤ 15 := fun f => by
  induction f with
  | zero =>
    intro acc l r h8 hl h15 h
    obtain rfl : l = [] := List.eq_nil_of_length_eq_zero (by omega)
    simp only [getF, Prod.mk.injEq, and_true] at h
    exact ⟨[], by rw [← h, List.append_nil], rfl, by simp, by simpa using h15⟩
  | succ f ih =>
    intro acc l r h8 hl h15 h
    cases l with
    | nil =>
      simp only [getF, Prod.mk.injEq, and_true] at h
      exact ⟨[], by rw [← h, List.append_nil], rfl, by simp, by simpa using h15⟩
    | cons b l =>
      rw [getF] at h
      split at h
      · cases h
      · rename_i hne
        split at h
        · rename_i h2
          simp only [Prod.mk.injEq] at h
          exact absurd h.2 h2
        · rename_i h2
          have h2 : (subO (b :: l)).2.2 = 0 := by omega
          obtain ⟨s1, s2, s3⟩ := subO_ok h2
          obtain ⟨i1, i2⟩ := subO_inv h8 (x := (subO (b :: l)).1) (s := (subO (b :: l)).2.1) (by rw [← h2])
          obtain ⟨is, e1, e2, e3, e4⟩ := ih _ _ _ (h8.drop _) (by rw [List.length_drop]; simp at hl ⊢; omega) (by simp; omega) h
          refine ⟨(subO (b :: l)).1 :: is, by rw [e1, List.append_assoc]; rfl, ?_, ?_, by simp at e4 ⊢; omega⟩
          · rw [List.flatMap_cons, ← e2]; exact i1
          · intro y hy
            rcases List.mem_cons.1 hy with rfl | hy
            · exact s3
            · exact e3 y hy
theorem flat_gl {is : List Nat} (h : ∀ x ∈ is, x < 4294967296) : is.flatMap ogs = is.flatMap gl := by
  rw [List.flatMap_def, List.flatMap_def]
  congr 1
  exact List.map_congr_left fun x hx => ocs_gl (by have := h x hx; omega)
theorem valid_form {n : Nat} {l : List Nat} (ho : OkO n l) (h : chkO n l = 0) : ∃ a b m, l = a :: b :: m ∧ a ≤ 2 ∧ (b ≤ if a = 2 then 4294967215 else 39) ∧ l = pad (a :: b :: m.take (n - 2)) ∧ m.length = 14 ∧ 2 ≤ n ∧ n ≤ 16 := by
  obtain ⟨e, h2, h16⟩ := chk_pad ho h
  obtain ⟨a, b, m, rfl, hm, -, -⟩ := ids_lt ho h
  have hf : fst2 (a :: b :: m) = true := by
    unfold chkO at h; split at h
    · rename_i h'; exact h'.2.2.1
    · cases h
  unfold fst2 at hf
  simp only [Bool.and_eq_true, decide_eq_true_eq] at hf
  refine ⟨a, b, m, rfl, hf.1, hf.2, ?_, hm, h2, h16⟩
  obtain ⟨n, rfl⟩ : ∃ k, n = k + 2 := ⟨n - 2, by omega⟩
  exact e
theorem get_put {n : Nat} {l : List Nat} (ho : OkO n l) (h : chkO n l = 0) : getO (putO n l) = (n, l, 0) := by
  obtain ⟨a, b, m, rfl, ha, hb, hp, hm, h2, h16⟩ := valid_form ho h
  have h32 : ∀ x ∈ (40 * a + b) :: m.take (n - 2), x < 4294967296 := fun x hx => by
    rcases List.mem_cons.1 hx with rfl | hx
    · by_cases h2 : a = 2
      · rw [if_pos h2] at hb; omega
      · rw [if_neg h2] at hb; omega
    · exact ho.a32 x (by simp [List.mem_of_mem_take hx])
  have hput : putO n (a :: b :: m) = ((40 * a + b) :: m.take (n - 2)).flatMap gl := flat_gl h32
  have hne : (putO n (a :: b :: m)).length ≠ 0 := by rw [hput, List.flatMap_cons, List.length_append]; have := gl_pos (40 * a + b); omega
  have hlen : (m.take (n - 2)).length = n - 2 := by rw [List.length_take]; omega
  have hf := getF_back ((40 * a + b) :: m.take (n - 2)) [] (putO n (a :: b :: m)).length h32 (by simp; omega) (by rw [hput]; exact Nat.le_refl _)
  rw [← hput, List.nil_append] at hf
  unfold getO
  rw [if_neg hne, hf, if_neg (by simp)]
  have e1 : min ((40 * a + b) / 40) 2 = a := by
    by_cases h2 : a = 2
    · omega
    · rw [if_neg h2] at hb; omega
  show (((40 * a + b) :: m.take (n - 2)).length + 1, mkL ((40 * a + b) :: m.take (n - 2)), 0) = _
  rw [mkL, e1, show 40 * a + b - 40 * a = b by omega, ← hp, List.length_cons, hlen, show n - 2 + 1 + 1 = n by omega]
theorem tl0_self {L : List Nat} : tl0 L.length (pad L) = true := by
  unfold tl0 pad
  rw [List.drop_left' rfl, List.all_eq_true]
  intro x hx
  rw [(List.mem_replicate.1 hx).2]; rfl
theorem pad_take {L : List Nat} : (pad L).take L.length = L := by unfold pad; rw [List.take_left' rfl]
theorem put_get {l : List Nat} {n : Nat} {k : List Nat} (h8 : All8 l) (h : getO l = (n, k, 0)) : OkO n k ∧ chkO n k = 0 ∧ putO n k = l := by
  unfold getO at h
  split at h
  · cases h
  · rename_i h0
    split at h
    · rename_i h1
      simp only [Prod.mk.injEq] at h
      exact absurd h.2.2 h1
    · rename_i h1
      obtain ⟨is, e1, e2, e3, e4⟩ := getF_inv l.length [] l (getF l.length [] l).1 h8 (Nat.le_refl _) (by simp) (by rw [← show (getF l.length [] l).2 = 0 by omega])
      rw [List.nil_append] at e1
      rw [e1] at h
      simp only [Prod.mk.injEq, and_true] at h
      obtain ⟨hn, hk⟩ := h
      obtain ⟨x, m, rfl⟩ : ∃ x m, is = x :: m := by
        cases is with
        | nil => rw [e2] at h0; simp at h0
        | cons x m => exact ⟨x, m, rfl⟩
      have hx := e3 x (by simp)
      simp only [List.length_cons, List.length_nil, Nat.zero_add] at e4 hn
      have hk2 : k = pad (min (x / 40) 2 :: (x - 40 * min (x / 40) 2) :: m) := hk.symm
      obtain ⟨d, hd⟩ : ∃ d, min (x / 40) 2 = d := ⟨_, rfl⟩
      rw [hd] at hk2
      have hL : (d :: (x - 40 * d) :: m).length = n := by simp; omega
      have ho : OkO n k := by
        rw [hk2, ← hL]
        refine okO_pad (by rw [hL]; omega) fun y hy => ?_
        rcases List.mem_cons.1 hy with rfl | hy
        · omega
        · rcases List.mem_cons.1 hy with rfl | hy
          · omega
          · exact e3 y (by simp [hy])
      have hc : chkO n k = 0 := by
        unfold chkO
        refine if_pos ⟨by omega, by omega, ?_, ?_⟩
        · rw [hk2, pad2]
          unfold fst2
          simp only [Bool.and_eq_true, decide_eq_true_eq]
          refine ⟨by omega, ?_⟩
          by_cases h2 : d = 2
          · rw [if_pos h2]; omega
          · rw [if_neg h2]; omega
        · rw [hk2, ← hL]; exact tl0_self
      refine ⟨ho, hc, ?_⟩
      rw [e2, ← flat_gl e3]
      unfold putO
      congr 1
      rw [hk2, pad2]
      unfold ids
      simp only
      rw [List.take_append_of_le_length (by omega), List.take_of_length_le (by omega), show 40 * d + (x - 40 * d) = x by omega]
end Go.Proofs.YtaiiihdckdjpoaaGreatDoor

/-!
  Layer 6, pure: what Text writes is what Parse reads, and back.
  Conditions: none.
-/
namespace Go.Proofs.YtaiiihdckdjpoaaGreatDoor

theorem vdA_map : ∀ (ds : List Nat) (a : Nat), vdA a (ds.map (48 + ·)) = fb 10 a ds
  | [], _ => rfl
  | d :: ds, a => by
    show vdA (10 * a + (48 + d - 48)) (ds.map (48 + ·)) = fb 10 (10 * a + d) ds
    rw [show 48 + d - 48 = d by omega, vdA_map ds]
theorem text_dig (v : Nat) : ∃ ds, textL v = ds.map (48 + ·) ∧ (∀ d ∈ ds, d < 10) ∧ fb 10 0 ds = v ∧ (ds = [0] ∨ ds.head? ≠ some 0) ∧ ds ≠ [] := by
  unfold textL
  by_cases h : v = 0
  · exact ⟨[0], by rw [if_pos h]; rfl, by simp, by rw [h]; rfl, .inl rfl, by simp⟩
  · refine ⟨(dgs 10 v).reverse, by rw [if_neg h], fun d hd => dgs_lt (b := 10) (by omega) v d (by simpa using hd), fb_dgs (by omega) v, .inr (dgs_head (by omega) v), ?_⟩
    rw [dgs_pos (by omega) h]; simp
theorem text_dec (v : Nat) : isDec (textL v) = true := by
  obtain ⟨ds, e, h1, -, h3, h4⟩ := text_dig v
  rw [e]
  unfold isDec
  rw [Bool.and_eq_true]
  refine ⟨?_, ?_⟩
  · rw [List.all_eq_true]
    intro c hc
    obtain ⟨d, hd, rfl⟩ := List.mem_map.1 hc
    have := h1 d hd
    unfold dg
    simp; omega
  · rcases h3 with rfl | h3
    · rfl
    · cases ds with
      | nil => exact absurd rfl h4
      | cons d ds =>
        rw [Bool.or_eq_true]
        right
        rw [List.map_cons, List.headD_cons, bne_iff_ne]
        intro e
        exact h3 (by rw [List.head?_cons]; congr 1; omega)
theorem text_vd (v : Nat) : vd (textL v) = v := by
  obtain ⟨ds, e, -, h2, -, -⟩ := text_dig v
  rw [e]
  show vdA 0 _ = v
  rw [vdA_map, h2]
theorem text_46 (v : Nat) : 46 ∉ textL v := by
  obtain ⟨ds, e, -, -, -, -⟩ := text_dig v
  rw [e]
  intro h
  obtain ⟨d, -, h⟩ := List.mem_map.1 h
  omega
theorem dec_text_vd {p : List Nat} (h : isDec p = true) : textL (vd p) = p := by
  have hd : ∀ c ∈ p, 48 ≤ c ∧ c ≤ 57 := fun c hc => by
    have := List.all_eq_true.1 (dec_ne h).2 c hc
    unfold dg at this
    simpa using this
  have hne := (dec_ne h).1
  by_cases h48 : p = [48]
  · subst h48; rfl
  · have hhd : p.head? ≠ some 48 := by
      unfold isDec at h
      rw [Bool.and_eq_true, Bool.or_eq_true] at h
      cases p with
      | nil => exact absurd rfl hne
      | cons c p =>
        rcases h.2 with h2 | h2
        · exact absurd (by simpa using h2) h48
        · rw [List.headD_cons, bne_iff_ne] at h2
          rw [List.head?_cons]
          intro e
          exact h2 (by injection e)
    obtain ⟨ds, rfl⟩ : ∃ ds, p = ds.map (48 + ·) := ⟨p.map (· - 48), by
      rw [List.map_map]
      conv => lhs; rw [← List.map_id p]
      apply List.map_congr_left
      intro c hc
      have := hd c hc
      simp only [id, Function.comp]; omega⟩
    have e : vd (ds.map (48 + ·)) = fb 10 0 ds := vdA_map ds 0
    have hds : (dgs 10 (fb 10 0 ds)).reverse = ds := dgs_fb (by omega) (fun d hd' => by have := hd (48 + d) (List.mem_map.2 ⟨d, hd', rfl⟩); omega) (fun h0 => hhd (by rw [List.head?_map, h0]; rfl))
    have hv : fb 10 0 ds ≠ 0 := fun h0 => by
      rw [h0, dgs_zero] at hds
      exact hne (by rw [← hds]; rfl)
    rw [e]
    unfold textL
    rw [if_neg hv, hds]
theorem jn_cons (a : Nat) (L : List Nat) : jn (a :: L) = 46 :: textL a ++ jn L := by unfold jn; rw [List.flatMap_cons]
theorem dot_cons (a : Nat) (L : List Nat) : dot (a :: L) = textL a ++ jn L := by unfold dot; rw [jn_cons]; rfl
theorem split_jn : ∀ (L : List Nat) (a : Nat), splitD (textL a ++ jn L) = (a :: L).map textL
  | [], a => by
    rw [show jn [] = [] from rfl, List.append_nil, split_none (text_46 a)]; rfl
  | b :: L, a => by
    rw [jn_cons, List.cons_append, split_at _ (text_46 a), split_jn L b]; rfl
theorem split_join : ∀ (s : List Nat), ∃ p ps, splitD s = p :: ps ∧ s = p ++ ps.flatMap (46 :: ·)
  | [] => ⟨[], [], rfl, rfl⟩
  | c :: s => by
    obtain ⟨p, ps, e1, e2⟩ := split_join s
    rw [splitD, e1]
    by_cases h : c = 46
    · rw [if_pos h]
      exact ⟨[], p :: ps, rfl, by rw [List.nil_append, List.flatMap_cons, h, List.cons_append, ← e2]⟩
    · rw [if_neg h]
      exact ⟨c :: p, ps, rfl, by rw [List.cons_append, ← e2]⟩
theorem fits_text {L : List Nat} (h1 : L.length ≤ 16) (h2 : ∀ x ∈ L, x < 4294967296) : fits (L.map textL) = true := by
  unfold fits
  rw [Bool.and_eq_true, decide_eq_true_eq, List.length_map, List.all_eq_true]
  refine ⟨h1, fun p hp => ?_⟩
  obtain ⟨x, hx, rfl⟩ := List.mem_map.1 hp
  rw [decide_eq_true_eq, text_vd]
  have := h2 x hx; omega
theorem prs_text {n : Nat} {l : List Nat} (ho : OkO n l) (h : chkO n l = 0) : prsO (txO n l) = (n, l, 0) := by
  obtain ⟨a, b, m, rfl, -, -, hp, hm, h2, h16⟩ := valid_form ho h
  have ht : (a :: b :: m).take n = a :: b :: m.take (n - 2) := by
    obtain ⟨n, rfl⟩ : ∃ k, n = k + 2 := ⟨n - 2, by omega⟩
    rfl
  have hlen : (a :: b :: m.take (n - 2)).length = n := by simp; omega
  have h32 : ∀ x ∈ a :: b :: m.take (n - 2), x < 4294967296 := fun x hx => ho.a32 x (by rw [← ht] at hx; exact List.mem_of_mem_take hx)
  have hs : splitD (txO n (a :: b :: m)) = (a :: b :: m.take (n - 2)).map textL := by
    unfold txO
    rw [if_pos h, ht, dot_cons, split_jn]
  have hvd : ((a :: b :: m.take (n - 2)).map textL).map vd = a :: b :: m.take (n - 2) := by
    rw [List.map_map]
    conv => rhs; rw [← List.map_id (a :: b :: m.take (n - 2))]
    exact List.map_congr_left fun x _ => text_vd x
  unfold prsO
  rw [hs, if_neg (by
    rw [Bool.not_eq_false, List.all_eq_true]
    intro p hp
    obtain ⟨x, -, rfl⟩ := List.mem_map.1 hp
    exact text_dec x), if_neg (by rw [fits_text (by rw [hlen]; exact h16) h32]; decide), hvd, List.length_map, hlen, ← hp, if_pos h]
theorem txt_prs {s : List Nat} {n : Nat} {k : List Nat} (h : prsO s = (n, k, 0)) : OkO n k ∧ chkO n k = 0 ∧ txO n k = s := by
  unfold prsO at h
  split at h
  · cases h
  · rename_i h1
    split at h
    · cases h
    · rename_i h2
      split at h
      · rename_i h3
        simp only [Prod.mk.injEq, and_true] at h
        obtain ⟨rfl, rfl⟩ := h
        rw [Bool.not_eq_false] at h1 h2
        have h2' := h2
        unfold fits at h2'
        rw [Bool.and_eq_true, decide_eq_true_eq, List.all_eq_true] at h2'
        have hlen : ((splitD s).map vd).length = (splitD s).length := List.length_map _
        have ho : OkO (splitD s).length (pad ((splitD s).map vd)) := by
          have := okO_pad (l := (splitD s).map vd) (by rw [hlen]; exact h2'.1) fun x hx => by
            obtain ⟨p, hp, rfl⟩ := List.mem_map.1 hx
            have := h2'.2 p hp
            rw [decide_eq_true_eq] at this
            omega
          rwa [hlen] at this
        refine ⟨ho, h3, ?_⟩
        unfold txO
        rw [if_pos h3, ← hlen, pad_take]
        obtain ⟨p, ps, e1, e2⟩ := split_join s
        rw [e1] at h1 ⊢
        rw [List.all_eq_true] at h1
        rw [List.map_cons, dot_cons, dec_text_vd (h1 p (by simp))]
        conv => rhs; rw [e2]
        congr 1
        unfold jn
        rw [List.flatMap_map, List.flatMap_def, List.flatMap_def]
        congr 1
        exact List.map_congr_left fun q hq => by rw [dec_text_vd (h1 q (by simp [hq]))]
      · cases h
theorem txO_all (n : Nat) (l : List Nat) : All8 (txO n l) := by
  unfold txO
  split
  · exact dot_all _
  · intro x hx; simp at hx; omega
theorem txO_len {n : Nat} {l : List Nat} (ho : OkO n l) : (txO n l).length ≤ 1000 := by
  unfold txO
  split
  · have := dot_len (l := l.take n) fun x hx => ho.a32 x (List.mem_of_mem_take hx)
    rw [List.length_take, ho.len] at this
    omega
  · simp
end Go.Proofs.YtaiiihdckdjpoaaGreatDoor

/-!
  Layer 6: the statements' own data: the OID of an A; it is valid.
  Conditions: the plain data are in their kinds.
-/
namespace Go.Proofs.YtaiiihdckdjpoaaGreatDoor
open Go.RowKit

/-- The arcs of an A. -/
def aL (f s : Nat) (l : List Nat) : List Nat := (f % 3) :: min (if f % 3 < 2 then s % 40 else s) 4294967215 :: l.take 14
theorem aL_len (f s : Nat) (l : List Nat) : (aL f s l).length ≤ 16 := by unfold aL; simp; omega
theorem aL_ok {f s : Nat} {l : List Nat} (h : ∀ y ∈ l, y < 4294967296) : OkO (aL f s l).length (pad (aL f s l)) := okO_pad (aL_len f s l) fun y hy => by
  unfold aL at hy
  rcases List.mem_cons.1 hy with rfl | hy
  · omega
  · rcases List.mem_cons.1 hy with rfl | hy
    · omega
    · exact h y (List.mem_of_mem_take hy)
theorem aL_chk (f s : Nat) (l : List Nat) : chkO (aL f s l).length (pad (aL f s l)) = 0 := by
  have h1 := aL_len f s l
  have h2 : tl0 (aL f s l).length (pad (aL f s l)) = true := by
    unfold tl0
    rw [List.all_eq_true]
    intro x hx
    unfold pad at hx
    rw [List.drop_left' rfl] at hx
    rw [(List.mem_replicate.1 hx).2]; rfl
  unfold chkO
  refine if_pos ⟨by unfold aL; simp, h1, ?_, h2⟩
  unfold pad fst2 aL
  simp only [List.cons_append, Bool.and_eq_true, decide_eq_true_eq]
  refine ⟨by omega, ?_⟩
  split <;> split <;> omega
theorem sliced0 (A : Option Addr) (h m s : Nat) : sliced A 0 h m s = .slice A h m := by
  unfold sliced
  rw [Nat.zero_mul, Nat.sub_zero, Nat.sub_zero]
  have : A.map (·.add 0) = A := by cases A <;> rfl
  rw [this, ite_self]
theorem slice_to32 (k N c : Nat) (A : Option Addr) (hk : k ≤ c) (W : World) : (Instr.slice 70 (.slice A N c) none (some (.int .i64 (k : Int))) none).run Tryz.prog W = .ok (.slice A k c) W := by
  have hsz : (sizeOf (Tryz.prog.elem 70)).run Tryz.prog W = .ok 1 W := by kernel_rfl
  rw [run_slice_h (P := Tryz.prog) W 70 A N c (by kernel_rfl) .i64 (k : Int) (by omega) (by omega), hsz]
  simp only [Result.andThen, Int.toNat_natCast, sliced0]
theorem one32 (l : List Nat) : ∀ u ∈ cs32 l, u.oneCell' = true := by intro u hu; obtain ⟨n, _, rfl⟩ := List.mem_map.1 hu; rfl
theorem info32 : (Tryz.prog.info? 23).map (fun i => (i.zero, i.size, i.bytes)) = some (some (.int .u32 0), 1, 4) := by kernel_rfl
/-- 'append(v, s...)' of words. -/
theorem app32s {w : World} {base : Nat} {v : Value} {xs ys : List Nat} {A : Option Addr} {c : Nat} (hown : w.ownsRow base 23 1 v xs.length (cs32 xs)) (hy : R32 w A ys) (hb : base ≤ w.heap.size) (hl : xs.length + ys.length ≤ 1000) :
    ∃ v' w', (Builtin.append_ #[70, 70] 70 #[v, .slice A ys.length c]).run Tryz.prog w = .ok v' w' ∧ w'.ownsRow base 23 1 v' (xs ++ ys).length (cs32 (xs ++ ys)) ∧ Below base w w' := by
  obtain ⟨v', w', h1, h2, h3⟩ := app_src (P := Tryz.prog) (ty := 70) Tryz.underlying70 info32 rfl (by rw [cs32_length]; exact hown) (c := c) hy (one32 ys) hb (by rw [cs32_length, cs32_length]; omega) (by rw [cs32_length, cs32_length]; unfold maxLen; omega)
  have e : cs32 xs ++ cs32 ys = cs32 (xs ++ ys) := by unfold cs32; rw [List.map_append]
  rw [cs32_length] at h1
  rw [e, cs32_length] at h2
  exact ⟨v', w', h1, h2, h3⟩

set_option maxRecDepth 100000 in
set_option maxHeartbeats 2000000 in
theorem aof_any (f s : Nat) (A : Option Addr) (l : List Nat) (c : Nat) (w : World) (hf : f < 256) (hs : s < 4294967296) (hA : R32 w A l) (hlc : l.length ≤ c) :
    Calls Tryz.prog 52 #[.agg #[.int .u8 (f : Int), .int .u32 (s : Int), .slice A l.length c]] w (GiveO w (aL f s l).length (pad (aL f s l))) := by
  have hz := zero25
  obtain ⟨zl, hzl⟩ : ∃ zl, zeroL = zl := ⟨_, rfl⟩
  have HZL : Hid (zl.length = 16) := Lib.hid (by rw [← hzl]; exact zeroL_length)
  rw [hzl] at hz
  clear hzl
  obtain ⟨a, ha⟩ : ∃ a, f % 3 = a := ⟨_, rfl⟩
  obtain ⟨y1, hy1⟩ : ∃ y, (if a < 2 then s % 40 else s) = y := ⟨_, rfl⟩
  obtain ⟨y, hy⟩ : ∃ y, min y1 4294967215 = y := ⟨_, rfl⟩
  obtain ⟨k, hk⟩ : ∃ k, min 14 l.length = k := ⟨_, rfl⟩
  have HF := Lib.hid (show aL f s l = [a, y] ++ l.take k from by
    unfold aL
    rw [ha, hy1, hy, ← hk, List.cons_append, List.cons_append, List.nil_append]
    congr 2
    rw [Nat.min_comm, List.take_eq_take_iff]; omega)
  have hai : (f : Int) % 3 = (a : Int) := by omega
  have ha3 : a < 3 := by omega
  have hyi : min (y1 : Int) 4294967215 = (y : Int) := by omega
  have hki : min (14 : Int) (l.length : Int) = (k : Int) := by omega
  have hk14 : k ≤ 14 := by omega
  have hkl : (l.take k).length = k := by rw [List.length_take]; omega
  have HSL := Lib.hid (slice_to32 k l.length c A (by omega))
  have S0 := Lib.hid ((Bk.new w 72 [.int .u8 (f : Int), .int .u32 (s : Int), .slice A l.length c]).alloc (.cells (oc 0 zl).toArray 26))
  have T0 := Lib.hid (show Bk ((w.alloc (.cells #[.int .u8 (f : Int), .int .u32 (s : Int), .slice A l.length c] 72)).alloc (.cells (oc 0 zl).toArray 26)) (w.heap.size + 1) 26 (oc 0 zl) from by
    have := Bk.new (w.alloc (.cells #[.int .u8 (f : Int), .int .u32 (s : Int), .slice A l.length c] 72)) 26 (oc 0 zl)
    rwa [World.size_alloc] at this)
  have B0 := Lib.hid ((bel1 w (.cells #[.int .u8 (f : Int), .int .u32 (s : Int), .slice A l.length c] 72)).alloc (by simp) (.cells (oc 0 zl).toArray 26))
  have HA := Lib.hid hA
  have HKK := Lib.hid hk
  clear hA ha hy hk hlc
  go_enter Tryz.func52, Tryz.ntmps52
  go_upto_region 1 with fail
  generalize (w.alloc (.cells #[.int .u8 (f : Int), .int .u32 (s : Int), .slice A l.length c] 72)).alloc (.cells (oc 0 zl).toArray 26) = w1 at *
  have c0 : w1.cell? ⟨w.heap.size, 0, none⟩ = some (.int .u8 (f : Int)) := by rw [S0.out.cell]; rfl
  have c1 : w1.cell? ⟨w.heap.size, 1, none⟩ = some (.int .u32 (s : Int)) := by rw [S0.out.cell]; rfl
  have K2 := Lib.hid (Bk.new w1 23 [.int .u32 (a : Int), .int .u32 (s : Int)])
  have S2 := Lib.hid (S0.out.alloc (.cells #[.int .u32 (a : Int), .int .u32 (s : Int)] 23))
  have T2 := Lib.hid (T0.out.alloc (.cells #[.int .u32 (a : Int), .int .u32 (s : Int)] 23))
  have B2 := Lib.hid (B0.out.alloc B0.out.size (.cells #[.int .u32 (a : Int), .int .u32 (s : Int)] 23))
  have hlt : w.heap.size + 1 < w1.heap.size := T0.out.lt
  have HLT := Lib.hid hlt
  clear S0 T0 B0 hlt
  go_upto_region 2 with fail
  generalize w1.alloc (.cells #[.int .u32 (a : Int), .int .u32 (s : Int)] 23) = w2 at *
  generalize w1.heap.size = b at *
  clear c0 c1 hai
  have k3 : ∃ w3, (if a < 2 then w2.setCell ⟨b, 1, none⟩ (.int .u32 (y1 : Int)) else w2) = w3 := ⟨_, rfl⟩
  obtain ⟨w3, hw3⟩ := k3
  have HW3 := Lib.hid hw3
  have K3 : Hid (Bk w3 b 23 [.int .u32 (a : Int), .int .u32 (y1 : Int)]) := Lib.hid (by
    rw [← hw3]; by_cases h : a < 2
    · rw [if_pos h]; exact K2.out.store 1 _
    · rw [if_neg h]; rw [if_neg h] at hy1; rw [← hy1]; exact K2.out)
  have S3 : Hid (Bk w3 w.heap.size 72 [.int .u8 (f : Int), .int .u32 (s : Int), .slice A l.length c]) := Lib.hid (by
    rw [← hw3]; by_cases h : a < 2
    · rw [if_pos h]; exact S2.out.far (p := ⟨b, 1, none⟩) (by have := HLT.out; show w.heap.size ≠ b; omega) _
    · rw [if_neg h]; exact S2.out)
  have T3 : Hid (Bk w3 (w.heap.size + 1) 26 (oc 0 zl)) := Lib.hid (by
    rw [← hw3]; by_cases h : a < 2
    · rw [if_pos h]; exact T2.out.far (p := ⟨b, 1, none⟩) (by have := HLT.out; show w.heap.size + 1 ≠ b; omega) _
    · rw [if_neg h]; exact T2.out)
  have B3 : Hid (Below w.heap.size w w3) := Lib.hid (by
    rw [← hw3]; by_cases h : a < 2
    · rw [if_pos h]; exact B2.out.setCell (p := ⟨b, 1, none⟩) (by have := HLT.out; show w.heap.size ≤ b; omega) _
    · rw [if_neg h]; exact B2.out)
  have d0 : w2.cell? ⟨b, 0, none⟩ = some (.int .u32 (a : Int)) := by rw [K2.out.cell]; rfl
  have d1 : w2.cell? ⟨b, 1, none⟩ = some (.int .u32 (s : Int)) := by rw [K2.out.cell]; rfl
  have f1 := K2.out.free 1
  clear hw3 S2 T2 B2 K2
  by_cases h2 : a < 2
  · rw [if_pos h2] at hy1 HW3
    have hsi : (s : Int) % 40 = (y1 : Int) := by omega
    have HY1 := Lib.hid hy1
    clear hy1
    go_upto_region 4 with fail
    rw [HW3.out]
    clear d0 d1 f1 hsi
    have e1 : w3.cell? ⟨b, 1, none⟩ = some (.int .u32 (y1 : Int)) := by rw [K3.out.cell]; rfl
    have g1 := K3.out.free 1
    have K4 := Lib.hid (show Bk (w3.setCell ⟨b, 1, none⟩ (.int .u32 (y : Int))) b 23 [.int .u32 (a : Int), .int .u32 (y : Int)] from K3.out.store 1 _)
    have S4 := Lib.hid (S3.out.far (p := ⟨b, 1, none⟩) (by have := HLT.out; show w.heap.size ≠ b; omega) (.int .u32 (y : Int)))
    have T4 := Lib.hid (T3.out.far (p := ⟨b, 1, none⟩) (by have := HLT.out; show w.heap.size + 1 ≠ b; omega) (.int .u32 (y : Int)))
    have B4 := Lib.hid (B3.out.setCell (p := ⟨b, 1, none⟩) (by have := HLT.out; show w.heap.size ≤ b; omega) (.int .u32 (y : Int)))
    clear K3 S3 T3 B3
    go_upto_region 5 with fail
    generalize w3.setCell ⟨b, 1, none⟩ (.int .u32 (y : Int)) = w4 at *
    clear e1 g1 hyi
    have hown : w4.ownsRow b 23 1 (.slice (some ⟨b, 0, none⟩) 2 2) [a, y].length (cs32 [a, y]) :=
      ⟨rfl, .inr ⟨b, 2, #[.int .u32 (a : Int), .int .u32 (y : Int)], rfl, Nat.le_refl _, K4.out, Nat.le_refl _, by unfold maxLen; omega, rfl, rfl⟩⟩
    have hR : R32 w4 A (l.take k) := by
      have := (HA.out.below B4.out).take_ k
      unfold R32 cs32
      rw [List.map_take]
      exact this
    obtain ⟨v', w5, hrun, hown', hb5⟩ := app32s (c := c) hown hR (Nat.le_of_lt K4.out.lt) (by rw [hkl]; show 2 + k ≤ 1000; omega)
    rw [hkl] at hrun
    have S5 := Lib.hid (S4.out.below hb5 (by have := HLT.out; omega))
    have T5 := Lib.hid (T4.out.below hb5 (by have := HLT.out; omega))
    have B5 := Lib.hid (B4.out.trans (hb5.mono (by have := HLT.out; omega)))
    obtain ⟨A2, c2, rfl, hR2, -, -⟩ := own32 hown'
    have e2 : w4.cell? ⟨w.heap.size, 2, none⟩ = some (.slice A l.length c) := by rw [S4.out.cell]; rfl
    have hsl := HSL.out
    have h16 : ([a, y] ++ l.take k).length ≤ 16 := by rw [List.length_append, hkl]; show 2 + k ≤ 16; omega
    generalize [a, y] ++ l.take k = xs at *
    have HM := Lib.hid (made_any A2 xs c2 w5 h16 hR2)
    have hpl := pad_length h16
    obtain ⟨N, hN⟩ : ∃ N, xs.length = N := ⟨_, rfl⟩
    rw [hN] at hrun HM
    have HN := Lib.hid hN
    obtain ⟨pl, hPL⟩ : ∃ pl, pad xs = pl := ⟨_, rfl⟩
    have HPL := Lib.hid hPL
    rw [hPL] at HM hpl
    clear hown hR hb5 hown' hR2 h16 hN hkl K4 S4 T4 B4 hPL
    go_wp2_with (first
      | (refine wpList_app rfl _ _ _ _ rfl _ _ rfl rfl hrun ?_)
      | (go_at_call 69; refine HM.out.mono ?_; rintro e w6 ⟨rfl, hb⟩; have T6 := kt T5 (Lib.hid hb); have B6 := bt B5 (Lib.hid hb); clear hb)
      | (refine wpList_store25 rfl (.tmp 2) (.tmp 36) rfl (n := N) (l := pl) rfl rfl T6.out (by rw [oc_length, HZL.out]) hpl ?_; intro w7 S7 hg7 hz7; have HS7 := Lib.hid S7; have HB7 := Lib.hid (B6.out.grown hg7 B6.out.size (fun k e => by injection e with e; omega)); clear S7 hg7 hz7))
    exact ret25 rfl rfl HS7.out hpl rfl ⟨by rw [HF.out, HN.out, HPL.out], HB7.out⟩
  · rw [if_neg h2] at hy1 HW3
    have ew := HW3.out
    subst ew
    have HY1 := Lib.hid hy1
    clear f1 HW3 hy1
    go_upto_region 4 with fail
    clear d0 d1
    have e1 : w2.cell? ⟨b, 1, none⟩ = some (.int .u32 (y1 : Int)) := by rw [K3.out.cell]; rfl
    have g1 := K3.out.free 1
    have K4 := Lib.hid (show Bk (w2.setCell ⟨b, 1, none⟩ (.int .u32 (y : Int))) b 23 [.int .u32 (a : Int), .int .u32 (y : Int)] from K3.out.store 1 _)
    have S4 := Lib.hid (S3.out.far (p := ⟨b, 1, none⟩) (by have := HLT.out; show w.heap.size ≠ b; omega) (.int .u32 (y : Int)))
    have T4 := Lib.hid (T3.out.far (p := ⟨b, 1, none⟩) (by have := HLT.out; show w.heap.size + 1 ≠ b; omega) (.int .u32 (y : Int)))
    have B4 := Lib.hid (B3.out.setCell (p := ⟨b, 1, none⟩) (by have := HLT.out; show w.heap.size ≤ b; omega) (.int .u32 (y : Int)))
    clear K3 S3 T3 B3
    go_upto_region 5 with fail
    generalize w2.setCell ⟨b, 1, none⟩ (.int .u32 (y : Int)) = w4 at *
    clear e1 g1 hyi
    have hown : w4.ownsRow b 23 1 (.slice (some ⟨b, 0, none⟩) 2 2) [a, y].length (cs32 [a, y]) :=
      ⟨rfl, .inr ⟨b, 2, #[.int .u32 (a : Int), .int .u32 (y : Int)], rfl, Nat.le_refl _, K4.out, Nat.le_refl _, by unfold maxLen; omega, rfl, rfl⟩⟩
    have hR : R32 w4 A (l.take k) := by
      have := (HA.out.below B4.out).take_ k
      unfold R32 cs32
      rw [List.map_take]
      exact this
    obtain ⟨v', w5, hrun, hown', hb5⟩ := app32s (c := c) hown hR (Nat.le_of_lt K4.out.lt) (by rw [hkl]; show 2 + k ≤ 1000; omega)
    rw [hkl] at hrun
    have S5 := Lib.hid (S4.out.below hb5 (by have := HLT.out; omega))
    have T5 := Lib.hid (T4.out.below hb5 (by have := HLT.out; omega))
    have B5 := Lib.hid (B4.out.trans (hb5.mono (by have := HLT.out; omega)))
    obtain ⟨A2, c2, rfl, hR2, -, -⟩ := own32 hown'
    have e2 : w4.cell? ⟨w.heap.size, 2, none⟩ = some (.slice A l.length c) := by rw [S4.out.cell]; rfl
    have hsl := HSL.out
    have h16 : ([a, y] ++ l.take k).length ≤ 16 := by rw [List.length_append, hkl]; show 2 + k ≤ 16; omega
    generalize [a, y] ++ l.take k = xs at *
    have HM := Lib.hid (made_any A2 xs c2 w5 h16 hR2)
    have hpl := pad_length h16
    obtain ⟨N, hN⟩ : ∃ N, xs.length = N := ⟨_, rfl⟩
    rw [hN] at hrun HM
    have HN := Lib.hid hN
    obtain ⟨pl, hPL⟩ : ∃ pl, pad xs = pl := ⟨_, rfl⟩
    have HPL := Lib.hid hPL
    rw [hPL] at HM hpl
    clear hown hR hb5 hown' hR2 h16 hN hkl K4 S4 T4 B4 hPL
    go_wp2_with (first
      | (refine wpList_app rfl _ _ _ _ rfl _ _ rfl rfl hrun ?_)
      | (go_at_call 69; refine HM.out.mono ?_; rintro e w6 ⟨rfl, hb⟩; have T6 := kt T5 (Lib.hid hb); have B6 := bt B5 (Lib.hid hb); clear hb)
      | (refine wpList_store25 rfl (.tmp 2) (.tmp 36) rfl (n := N) (l := pl) rfl rfl T6.out (by rw [oc_length, HZL.out]) hpl ?_; intro w7 S7 hg7 hz7; have HS7 := Lib.hid S7; have HB7 := Lib.hid (B6.out.grown hg7 B6.out.size (fun k e => by injection e with e; omega)); clear S7 hg7 hz7))
    exact ret25 rfl rfl HS7.out hpl rfl ⟨by rw [HF.out, HN.out, HPL.out], HB7.out⟩
end Go.Proofs.YtaiiihdckdjpoaaGreatDoor
