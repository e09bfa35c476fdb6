/-
  Layer 6, pure: what Put writes is what Get reads, and back; what Text writes is what Parse reads, and back.
  Conditions: none.
-/
import Derived.Test.YtndamidmgglneaaDoorOidL
import Derived.Test.YtndamidmgglneaaDoorOidT
import Derived.Test.YtndamidmgglneaaDoorOidZ
namespace Go.Proofs.YtndamidmgglneaaDoor

/-! Digits. -/
def fb (b v : Nat) (ds : List Nat) : Nat := ds.foldl (fun a d => b * a + d) v
theorem fb_snoc (b v d : Nat) (ds : List Nat) : fb b v (ds ++ [d]) = b * fb b v ds + d := by unfold fb; rw [List.foldl_append]; rfl
theorem fb_cons (b v d : Nat) (ds : List Nat) : fb b v (d :: ds) = fb b (b * v + d) ds := rfl
theorem fb_ge {b : Nat} (hb : 2 ≤ b) : ∀ (ds : List Nat) (v : Nat), v ≤ fb b v ds
  | [], _ => Nat.le_refl _
  | d :: ds, v => by
    refine Nat.le_trans ?_ (fb_ge hb ds (b * v + d))
    have : 1 * v ≤ b * v := Nat.mul_le_mul_right v (by omega)
    omega
theorem fb_dgs {b : Nat} (hb : 2 ≤ b) (u : Nat) : fb b 0 (dgs b u).reverse = u := by
  induction u using Nat.strongRecOn with
  | ind u ih =>
    by_cases h : u = 0
    · subst h; rw [dgs_zero]; rfl
    · rw [dgs_pos hb h, List.reverse_cons, fb_snoc, ih (u / b) (Nat.div_lt_self (by omega) (by omega))]
      exact Nat.div_add_mod u b
theorem dgs_head {b : Nat} (hb : 2 ≤ b) (u : Nat) : (dgs b u).reverse.head? ≠ some 0 := by
  induction u using Nat.strongRecOn with
  | ind u ih =>
    by_cases h : u = 0
    · subst h; rw [dgs_zero]; simp
    · rw [dgs_pos hb h, List.reverse_cons]
      by_cases h2 : u / b = 0
      · rw [h2, dgs_zero]
        have : u < b := by
          rcases Nat.lt_or_ge u b with h3 | h3
          · exact h3
          · have := Nat.div_pos h3 (by omega); omega
        rw [Nat.mod_eq_of_lt this]
        simpa using h
      · have hne : (dgs b (u / b)).reverse ≠ [] := by rw [dgs_pos hb h2]; simp
        obtain ⟨a, t, e⟩ : ∃ a t, (dgs b (u / b)).reverse = a :: t := by
          cases hq : (dgs b (u / b)).reverse with
          | nil => exact absurd hq hne
          | cons a t => exact ⟨a, t, rfl⟩
        have := ih (u / b) (Nat.div_lt_self (by omega) (by omega))
        rw [e] at this ⊢
        simpa using this
theorem dgs_fbr {b : Nat} (hb : 2 ≤ b) : ∀ (rs : List Nat), (∀ d ∈ rs, d < b) → rs.reverse.head? ≠ some 0 → (dgs b (fb b 0 rs.reverse)).reverse = rs.reverse
  | [], _, _ => by show (dgs b 0).reverse = []; rw [dgs_zero]; rfl
  | d :: rs, h, h0 => by
    have hd := h d (by simp)
    rw [List.reverse_cons, fb_snoc]
    by_cases hr : rs = []
    · subst hr
      have : d ≠ 0 := fun e => h0 (by rw [e]; rfl)
      show (dgs b (b * 0 + d)).reverse = [d]
      rw [Nat.mul_zero, Nat.zero_add, dgs_pos hb this, Nat.mod_eq_of_lt hd, Nat.div_eq_of_lt hd, dgs_zero]
      rfl
    · obtain ⟨a, t, e⟩ : ∃ a t, rs.reverse = a :: t := by
        cases hq : rs.reverse with
        | nil => exact absurd (List.reverse_eq_nil_iff.1 hq) hr
        | cons a t => exact ⟨a, t, rfl⟩
      have ih := dgs_fbr hb rs (fun x hx => h x (by simp [hx])) (by rw [List.reverse_cons, e] at h0; rw [e]; simpa using h0)
      have hne : fb b 0 rs.reverse ≠ 0 := fun e0 => by
        rw [e0, dgs_zero, e] at ih
        cases ih
      have hpos : b * fb b 0 rs.reverse + d ≠ 0 := by
        have := Nat.mul_le_mul (show 1 ≤ b by omega) (show 1 ≤ fb b 0 rs.reverse by omega)
        omega
      rw [dgs_pos hb hpos, Nat.mul_add_div (by omega), Nat.div_eq_of_lt hd, Nat.add_zero, Nat.mul_add_mod, Nat.mod_eq_of_lt hd, List.reverse_cons, ih]
theorem dgs_fb {b : Nat} (hb : 2 ≤ b) {ds : List Nat} (h : ∀ d ∈ ds, d < b) (h0 : ds.head? ≠ some 0) : (dgs b (fb b 0 ds)).reverse = ds := by
  have := dgs_fbr hb ds.reverse (fun d hd => h d (by simpa using hd)) (by rwa [List.reverse_reverse])
  rwa [List.reverse_reverse] at this

/-! Octets. -/
theorem rdS_run (y : Nat) (hy : y < 128) (rest : List Nat) : ∀ (ds : List Nat) (v k : Nat), (∀ d ∈ ds, d < 128) → 128 * fb 128 v ds + y ≤ 4294967295 → rdS v k (ds.map (128 + ·) ++ y :: rest) = (128 * fb 128 v ds + y, k + ds.length + 1, 0)
  | [], v, k, _, h => by
    show (if 4294967295 < 128 * v + y % 128 then _ else if y < 128 then _ else _) = _
    change 128 * v + y ≤ 4294967295 at h
    rw [Nat.mod_eq_of_lt hy, if_neg (by omega), if_pos hy]
    rfl
  | d :: ds, v, k, hd, h => by
    have h1 := hd d (by simp)
    change 128 * fb 128 (128 * v + d) ds + y ≤ 4294967295 at h
    have h2 := fb_ge (b := 128) (by omega) ds (128 * v + d)
    show (if 4294967295 < 128 * v + (128 + d) % 128 then _ else if 128 + d < 128 then _ else rdS (128 * v + (128 + d) % 128) (k + 1) (ds.map (128 + ·) ++ y :: rest)) = _
    rw [show (128 + d) % 128 = d by omega, if_neg (by omega), if_neg (by omega), rdS_run y hy rest ds _ _ (fun x hx => hd x (by simp [hx])) h]
    show (128 * fb 128 (128 * v + d) ds + y, k + 1 + ds.length + 1, 0) = (128 * fb 128 (128 * v + d) ds + y, k + (ds.length + 1) + 1, 0)
    rw [show k + 1 + ds.length + 1 = k + (ds.length + 1) + 1 by omega]
theorem gl_form (n : Nat) : gl n = ((dgs 128 (n / 128)).reverse).map (128 + ·) ++ [n % 128] := by unfold gl; rw [List.map_reverse]
theorem subO_gl {n : Nat} (h : n < 4294967296) (rest : List Nat) : subO (gl n ++ rest) = (n, (gl n).length, 0) := by
  have hf := fb_dgs (b := 128) (by omega) (n / 128)
  have hh := dgs_head (b := 128) (by omega) (n / 128)
  have hl : ∀ d ∈ (dgs 128 (n / 128)).reverse, d < 128 := fun d hd => dgs_lt (b := 128) (by omega) (n / 128) d (by simpa using hd)
  rw [gl_form]
  generalize (dgs 128 (n / 128)).reverse = ds at *
  have hm : n % 128 < 128 := Nat.mod_lt _ (by omega)
  have hrun := rdS_run (n % 128) hm rest ds 0 0 hl (by rw [hf]; omega)
  rw [hf, show 128 * (n / 128) + n % 128 = n from Nat.div_add_mod n 128] at hrun
  have hlen : (ds.map (128 + ·) ++ [n % 128]).length = ds.length + 1 := by simp
  rw [hlen, List.append_assoc, List.singleton_append]
  have hrun' : rdS 0 0 (ds.map (128 + ·) ++ n % 128 :: rest) = (n, ds.length + 1, 0) := by rw [hrun, Nat.zero_add]
  cases ds with
  | nil =>
    rw [List.map_nil, List.nil_append] at hrun' ⊢
    rw [subO_cons, if_neg (by omega), hrun']
  | cons d ds =>
    rw [List.map_cons, List.cons_append] at hrun' ⊢
    have : d ≠ 0 := fun e => hh (by rw [e]; rfl)
    rw [subO_cons, if_neg (by omega), hrun']
theorem rdS_inv : ∀ (l : List Nat) (v k x s : Nat), All8 l → rdS v k l = (x, s, 0) → ∃ ds y rest, l = ds.map (128 + ·) ++ y :: rest ∧ y < 128 ∧ (∀ d ∈ ds, d < 128) ∧ x = 128 * fb 128 v ds + y ∧ s = k + ds.length + 1
  | [], _, _, _, _, _, h => by cases h
  | b :: l, v, k, x, s, h8, h => by
    have hb := h8 b (by simp)
    change (if 4294967295 < 128 * v + b % 128 then (0, 0, 3) else if b < 128 then (128 * v + b % 128, k + 1, 0) else rdS (128 * v + b % 128) (k + 1) l) = (x, s, 0) at h
    split at h
    · cases h
    · split at h
      · rename_i h2
        simp only [Prod.mk.injEq, and_true] at h
        exact ⟨[], b, l, rfl, h2, by simp, by rw [← h.1, Nat.mod_eq_of_lt h2]; rfl, by rw [← h.2]; rfl⟩
      · rename_i h2
        obtain ⟨ds, y, rest, e1, e2, e3, e4, e5⟩ := rdS_inv l _ _ x s (fun c hc => h8 c (by simp [hc])) h
        refine ⟨(b - 128) :: ds, y, rest, ?_, e2, ?_, ?_, ?_⟩
        · rw [e1, List.map_cons, List.cons_append, show 128 + (b - 128) = b by omega]
        · intro d hd
          rcases List.mem_cons.1 hd with hd | hd
          · omega
          · exact e3 d hd
        · rw [e4, fb_cons, show b % 128 = b - 128 by omega]
        · rw [e5, List.length_cons]; omega
theorem subO_inv {l : List Nat} {x s : Nat} (h8 : All8 l) (h : subO l = (x, s, 0)) : l = gl x ++ l.drop s ∧ s = (gl x).length := by
  cases l with
  | nil => cases h
  | cons b l =>
    rw [subO_cons] at h
    split at h
    · cases h
    · rename_i hne
      obtain ⟨ds, y, rest, e1, e2, e3, e4, e5⟩ := rdS_inv _ _ _ _ _ h8 h
      have hh : ds.head? ≠ some 0 := by
        cases ds with
        | nil => simp
        | cons d ds =>
          rw [List.map_cons, List.cons_append] at e1
          injection e1 with e1 _
          intro e
          have : d = 0 := by simpa using e
          omega
      have hg : gl x = ds.map (128 + ·) ++ [y] := by
        rw [gl_form, show x / 128 = fb 128 0 ds by omega, dgs_fb (by omega) e3 hh, show x % 128 = y by omega]
      have hs : s = (gl x).length := by rw [hg]; simp; omega
      refine ⟨?_, hs⟩
      rw [hs, e1, hg, show ds.map (128 + ·) ++ y :: rest = (ds.map (128 + ·) ++ [y]) ++ rest by simp, List.drop_left' rfl]
theorem gl_pos (n : Nat) : 1 ≤ (gl n).length := by unfold gl; simp
theorem getF_back : ∀ (is : List Nat) (acc : List Nat) (f : Nat), (∀ x ∈ is, x < 4294967296) → acc.length + is.length ≤ 15 → (is.flatMap gl).length ≤ f → getF f acc (is.flatMap gl) = (acc ++ is, 0)
  | [], acc, f, _, _, _ => by rw [List.flatMap_nil, List.append_nil]; cases f <;> rfl
  | x :: is, acc, f, h, h15, hf => by
    have hx := h x (by simp)
    have hp := gl_pos x
    rw [List.flatMap_cons] at hf ⊢
    rw [List.length_append] at hf
    rw [List.length_cons] at h15
    obtain ⟨f, rfl⟩ : ∃ f', f = f' + 1 := ⟨f - 1, by omega⟩
    have hs := subO_gl hx (is.flatMap gl)
    obtain ⟨b, t, e⟩ : ∃ b t, gl x ++ is.flatMap gl = b :: t := by
      cases hq : gl x ++ is.flatMap gl with
      | nil => have := congrArg List.length hq; rw [List.length_append, List.length_nil] at this; omega
      | cons b t => exact ⟨b, t, rfl⟩
    rw [e] at hs ⊢
    rw [getF, if_neg (by omega), hs, if_neg (by simp), ← e]
    simp only
    rw [List.drop_left' rfl, getF_back is (acc ++ [x]) f (fun y hy => h y (by simp [hy])) (by simp; omega) (by omega), List.append_assoc]
    rfl
theorem getF_inv : ∀ (f : Nat) (acc l r : List Nat), All8 l → l.length ≤ f → acc.length ≤ 15 → getF f acc l = (r, 0) → ∃ is, r = acc ++ is ∧ l = is.flatMap gl ∧ (∀ x ∈ is, x < 4294967296) ∧ acc.length + is.length ≤ 15 := fun f => by
  induction f with
  | zero =>
    intro acc l r h8 hl h15 h
    obtain rfl : l = [] := List.eq_nil_of_length_eq_zero (by omega)
    simp only [getF, Prod.mk.injEq, and_true] at h
    exact ⟨[], by rw [← h, List.append_nil], rfl, by simp, by simpa using h15⟩
  | succ f ih =>
    intro acc l r h8 hl h15 h
    cases l with
    | nil =>
      simp only [getF, Prod.mk.injEq, and_true] at h
      exact ⟨[], by rw [← h, List.append_nil], rfl, by simp, by simpa using h15⟩
    | cons b l =>
      rw [getF] at h
      split at h
      · cases h
      · rename_i hne
        split at h
        · rename_i h2
          simp only [Prod.mk.injEq] at h
          exact absurd h.2 h2
        · rename_i h2
          have h2 : (subO (b :: l)).2.2 = 0 := by omega
          obtain ⟨s1, s2, s3⟩ := subO_ok h2
          obtain ⟨i1, i2⟩ := subO_inv h8 (x := (subO (b :: l)).1) (s := (subO (b :: l)).2.1) (by rw [← h2])
          obtain ⟨is, e1, e2, e3, e4⟩ := ih _ _ _ (h8.drop _) (by rw [List.length_drop]; simp at hl ⊢; omega) (by simp; omega) h
          refine ⟨(subO (b :: l)).1 :: is, by rw [e1, List.append_assoc]; rfl, ?_, ?_, by simp at e4 ⊢; omega⟩
          · rw [List.flatMap_cons, ← e2]; exact i1
          · intro y hy
            rcases List.mem_cons.1 hy with rfl | hy
            · exact s3
            · exact e3 y hy
theorem flat_gl {is : List Nat} (h : ∀ x ∈ is, x < 4294967296) : is.flatMap ocs = is.flatMap gl := by
  rw [List.flatMap_def, List.flatMap_def]
  congr 1
  exact List.map_congr_left fun x hx => ocs_gl (by have := h x hx; omega)
theorem valid_form {n : Nat} {l : List Nat} (ho : OkO n l) (h : chkO n l = 0) : ∃ a b m, l = a :: b :: m ∧ a ≤ 2 ∧ (b ≤ if a = 2 then 4294967215 else 39) ∧ l = pad (a :: b :: m.take (n - 2)) ∧ m.length = 14 ∧ 2 ≤ n ∧ n ≤ 16 := by
  obtain ⟨e, h2, h16⟩ := chk_pad ho h
  obtain ⟨a, b, m, rfl, hm, -, -⟩ := ids_lt ho h
  have hf : fst2 (a :: b :: m) = true := by
    unfold chkO at h; split at h
    · rename_i h'; exact h'.2.2.1
    · cases h
  unfold fst2 at hf
  simp only [Bool.and_eq_true, decide_eq_true_eq] at hf
  refine ⟨a, b, m, rfl, hf.1, hf.2, ?_, hm, h2, h16⟩
  obtain ⟨n, rfl⟩ : ∃ k, n = k + 2 := ⟨n - 2, by omega⟩
  exact e
theorem get_put {n : Nat} {l : List Nat} (ho : OkO n l) (h : chkO n l = 0) : getO (putO n l) = (n, l, 0) := by
  obtain ⟨a, b, m, rfl, ha, hb, hp, hm, h2, h16⟩ := valid_form ho h
  have h32 : ∀ x ∈ (40 * a + b) :: m.take (n - 2), x < 4294967296 := fun x hx => by
    rcases List.mem_cons.1 hx with rfl | hx
    · by_cases h2 : a = 2
      · rw [if_pos h2] at hb; omega
      · rw [if_neg h2] at hb; omega
    · exact ho.a32 x (by simp [List.mem_of_mem_take hx])
  have hput : putO n (a :: b :: m) = ((40 * a + b) :: m.take (n - 2)).flatMap gl := flat_gl h32
  have hne : (putO n (a :: b :: m)).length ≠ 0 := by rw [hput, List.flatMap_cons, List.length_append]; have := gl_pos (40 * a + b); omega
  have hlen : (m.take (n - 2)).length = n - 2 := by rw [List.length_take]; omega
  have hf := getF_back ((40 * a + b) :: m.take (n - 2)) [] (putO n (a :: b :: m)).length h32 (by simp; omega) (by rw [hput]; exact Nat.le_refl _)
  rw [← hput, List.nil_append] at hf
  unfold getO
  rw [if_neg hne, hf, if_neg (by simp)]
  have e1 : min ((40 * a + b) / 40) 2 = a := by
    by_cases h2 : a = 2
    · omega
    · rw [if_neg h2] at hb; omega
  show (((40 * a + b) :: m.take (n - 2)).length + 1, mkL ((40 * a + b) :: m.take (n - 2)), 0) = _
  rw [mkL, e1, show 40 * a + b - 40 * a = b by omega, ← hp, List.length_cons, hlen, show n - 2 + 1 + 1 = n by omega]
theorem tl0_self {L : List Nat} : tl0 L.length (pad L) = true := by
  unfold tl0 pad
  rw [List.drop_left' rfl, List.all_eq_true]
  intro x hx
  rw [(List.mem_replicate.1 hx).2]; rfl
theorem pad_take {L : List Nat} : (pad L).take L.length = L := by unfold pad; rw [List.take_left' rfl]
theorem put_get {l : List Nat} {n : Nat} {k : List Nat} (h8 : All8 l) (h : getO l = (n, k, 0)) : OkO n k ∧ chkO n k = 0 ∧ putO n k = l := by
  unfold getO at h
  split at h
  · cases h
  · rename_i h0
    split at h
    · rename_i h1
      simp only [Prod.mk.injEq] at h
      exact absurd h.2.2 h1
    · rename_i h1
      obtain ⟨is, e1, e2, e3, e4⟩ := getF_inv l.length [] l (getF l.length [] l).1 h8 (Nat.le_refl _) (by simp) (by rw [← show (getF l.length [] l).2 = 0 by omega])
      rw [List.nil_append] at e1
      rw [e1] at h
      simp only [Prod.mk.injEq, and_true] at h
      obtain ⟨hn, hk⟩ := h
      obtain ⟨x, m, rfl⟩ : ∃ x m, is = x :: m := by
        cases is with
        | nil => rw [e2] at h0; simp at h0
        | cons x m => exact ⟨x, m, rfl⟩
      have hx := e3 x (by simp)
      simp only [List.length_cons, List.length_nil, Nat.zero_add] at e4 hn
      have hk2 : k = pad (min (x / 40) 2 :: (x - 40 * min (x / 40) 2) :: m) := hk.symm
      obtain ⟨d, hd⟩ : ∃ d, min (x / 40) 2 = d := ⟨_, rfl⟩
      rw [hd] at hk2
      have hL : (d :: (x - 40 * d) :: m).length = n := by simp; omega
      have ho : OkO n k := by
        rw [hk2, ← hL]
        refine okO_pad (by rw [hL]; omega) fun y hy => ?_
        rcases List.mem_cons.1 hy with rfl | hy
        · omega
        · rcases List.mem_cons.1 hy with rfl | hy
          · omega
          · exact e3 y (by simp [hy])
      have hc : chkO n k = 0 := by
        unfold chkO
        refine if_pos ⟨by omega, by omega, ?_, ?_⟩
        · rw [hk2, pad2]
          unfold fst2
          simp only [Bool.and_eq_true, decide_eq_true_eq]
          refine ⟨by omega, ?_⟩
          by_cases h2 : d = 2
          · rw [if_pos h2]; omega
          · rw [if_neg h2]; omega
        · rw [hk2, ← hL]; exact tl0_self
      refine ⟨ho, hc, ?_⟩
      rw [e2, ← flat_gl e3]
      unfold putO
      congr 1
      rw [hk2, pad2]
      unfold ids
      simp only
      rw [List.take_append_of_le_length (by omega), List.take_of_length_le (by omega), show 40 * d + (x - 40 * d) = x by omega]
end Go.Proofs.YtndamidmgglneaaDoor
