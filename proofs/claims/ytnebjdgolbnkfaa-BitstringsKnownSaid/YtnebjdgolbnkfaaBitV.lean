/-
  Plain arithmetic of bits: the bits of bytes, the bytes of bits, what octets are a bit string, and named bits.
  Conditions: none (no program is named here).
-/
import Derived.Test.YtnebjdgolbnkfaaNum
import Derived.Test.YtnebjdgolbnkfaaMem
namespace Go.Proofs.Ytnebjdgolbnkfaa.Bit
open Go.RowKit

/-- The bit i of bytes, the most significant one of the first byte first. -/
def bt1 (b : List Nat) (i : Nat) : Nat := b.getD (i / 8) 0 / 2 ^ (7 - i % 8) % 2
/-- The bits of bytes. -/
def bts (b : List Nat) : List Nat := (List.range (8 * b.length)).map (bt1 b)
/-- The value of the first k bits from a place on. -/
def vP (l : List Nat) (i : Nat) : Nat → Nat
  | 0 => 0
  | k + 1 => 2 * vP l i k + l.getD (i + k) 0
/-- Bits as bytes, with bits 0 at the end. -/
def byt (l : List Nat) : List Nat := (List.range ((l.length + 7) / 8)).map fun j => vP l (8 * j) 8

theorem bts_length (b : List Nat) : (bts b).length = 8 * b.length := by simp [bts]
theorem bt1_lt (b : List Nat) (i : Nat) : bt1 b i < 2 := Nat.mod_lt _ (by omega)
theorem bts_get {b : List Nat} {i : Nat} (h : i < 8 * b.length) : (bts b)[i]? = some (bt1 b i) := by
  unfold bts; rw [List.getElem?_map, List.getElem?_range h]; rfl
theorem bts_getD (b : List Nat) (i : Nat) : (bts b).getD i 0 = bt1 b i := by
  rw [List.getD_eq_getElem?_getD]
  by_cases h : i < 8 * b.length
  · rw [bts_get h]; rfl
  · rw [List.getElem?_eq_none (by rw [bts_length]; omega)]
    unfold bt1
    rw [List.getD_eq_getElem?_getD, List.getElem?_eq_none (by omega)]
    simp
theorem bts_lt (b : List Nat) : Lt 2 (bts b) := by
  intro x hx
  simp only [bts, List.mem_map] at hx
  obtain ⟨i, _, rfl⟩ := hx
  exact bt1_lt b i
theorem byt_length (l : List Nat) : (byt l).length = (l.length + 7) / 8 := by simp [byt]
theorem byt_get {l : List Nat} {j : Nat} (h : j < (l.length + 7) / 8) : (byt l)[j]? = some (vP l (8 * j) 8) := by
  unfold byt; rw [List.getElem?_map, List.getElem?_range h]; rfl
theorem getD_lt {l : List Nat} {m : Nat} (h : Lt m l) (hm : 0 < m) (i : Nat) : l.getD i 0 < m := by
  rw [List.getD_eq_getElem?_getD]
  cases e : l[i]? with
  | none => exact hm
  | some x => exact h x (List.mem_of_getElem? e)
theorem vP_lt {l : List Nat} (h : Lt 2 l) (i k : Nat) : vP l i k < 2 ^ k := by
  induction k with
  | zero => simp [vP]
  | succ k ih =>
    have := getD_lt h (by omega) (i + k)
    rw [vP, Nat.pow_succ]; omega
theorem byt_all {l : List Nat} (h : Lt 2 l) : All8 (byt l) := by
  intro x hx
  simp only [byt, List.mem_map] at hx
  obtain ⟨j, _, rfl⟩ := hx
  exact vP_lt h _ 8
theorem vP_bit {l : List Nat} (h : Lt 2 l) (i : Nat) : ∀ (k m : Nat), m < k → vP l i k / 2 ^ (k - 1 - m) % 2 = l.getD (i + m) 0 := by
  intro k
  induction k with
  | zero => intro m hm; omega
  | succ k ih =>
    intro m hm
    have hx := getD_lt h (by omega) (i + k)
    rw [vP]
    by_cases e : m = k
    · subst e
      rw [show m + 1 - 1 - m = 0 from by omega, Nat.pow_zero, Nat.div_one]; omega
    · rw [show k + 1 - 1 - m = (k - 1 - m) + 1 from by omega, Nat.pow_succ, Nat.mul_comm (2 ^ (k - 1 - m)) 2, ← Nat.div_div_eq_div_mul,
        show (2 * vP l i k + l.getD (i + k) 0) / 2 = vP l i k from by omega]
      exact ih m (by omega)
theorem bt1_byt {l : List Nat} (h : Lt 2 l) {i : Nat} (hi : i < 8 * ((l.length + 7) / 8)) : bt1 (byt l) i = l.getD i 0 := by
  unfold bt1
  have hj : i / 8 < (l.length + 7) / 8 := by omega
  rw [List.getD_eq_getElem?_getD, byt_get hj]
  have := vP_bit h (8 * (i / 8)) 8 (i % 8) (Nat.mod_lt _ (by omega))
  rw [show 8 * (i / 8) + i % 8 = i from by omega] at this
  exact this
/-- The bits of the bytes of bits: those, and zeros. -/
theorem bts_byt {l : List Nat} (h : Lt 2 l) : bts (byt l) = l ++ List.replicate (8 * ((l.length + 7) / 8) - l.length) 0 := by
  apply List.ext_getElem?
  intro i
  by_cases hi : i < 8 * ((l.length + 7) / 8)
  · rw [bts_get (by rw [byt_length]; exact hi), bt1_byt h hi]
    by_cases hl : i < l.length
    · rw [List.getElem?_append_left hl, List.getD_eq_getElem?_getD, List.getElem?_eq_getElem hl]; rfl
    · rw [List.getElem?_append_right (by omega), List.getElem?_replicate, if_pos (by omega), List.getD_eq_getElem?_getD, List.getElem?_eq_none (by omega)]; rfl
  · rw [List.getElem?_eq_none (by rw [bts_length, byt_length]; omega), List.getElem?_eq_none (by simp; omega)]
theorem bts_byt_take {l : List Nat} (h : Lt 2 l) : (bts (byt l)).take l.length = l := by rw [bts_byt h]; simp
theorem vP_of {l : List Nat} {x i : Nat} (hx : x < 256) : ∀ k, k ≤ 8 → (∀ m, m < k → l.getD (i + m) 0 = x / 2 ^ (7 - m) % 2) → vP l i k = x / 2 ^ (8 - k) := by
  intro k
  induction k with
  | zero => intro _ _; rw [vP]; exact (Nat.div_eq_of_lt (by simpa using hx)).symm
  | succ k ih =>
    intro hk hm
    rw [vP, ih (by omega) (fun m h => hm m (by omega)), hm k (by omega), show 8 - k = (7 - k) + 1 from by omega, Nat.pow_succ, ← Nat.div_div_eq_div_mul, show 8 - (k + 1) = 7 - k from by omega]
    omega
theorem vP_congr {l m : List Nat} (h : ∀ i, l.getD i 0 = m.getD i 0) (i k : Nat) : vP l i k = vP m i k := by
  induction k with
  | zero => rfl
  | succ k ih => rw [vP, vP, ih, h]
/-- The bits from a place on are 0. -/
def zr (b : List Nat) (n : Nat) : Bool := ((bts b).drop n).all (· == 0)
theorem zr_iff {b : List Nat} {n : Nat} : zr b n = true ↔ ∀ i, n ≤ i → bt1 b i = 0 := by
  unfold zr
  rw [List.all_eq_true]
  constructor
  · intro h i hi
    by_cases hl : i < 8 * b.length
    · have := h (bt1 b i) (List.mem_of_getElem? (i := i - n) (by rw [List.getElem?_drop, show n + (i - n) = i from by omega, bts_get hl]))
      simpa using this
    · unfold bt1
      rw [List.getD_eq_getElem?_getD, List.getElem?_eq_none (by omega)]; simp
  · intro h x hx
    obtain ⟨j, hj⟩ := List.getElem?_of_mem hx
    rw [List.getElem?_drop] at hj
    have hl : n + j < 8 * b.length := by
      rcases Nat.lt_or_ge (n + j) (8 * b.length) with hl | hl
      · exact hl
      · rw [List.getElem?_eq_none (by rw [bts_length]; omega)] at hj; cases hj
    rw [bts_get hl] at hj
    have := h (n + j) (by omega)
    simp only [Option.some.injEq] at hj
    rw [← hj, this]; rfl
/-- The bytes of the first n bits of bytes that end in zeros. -/
theorem byt_bts {b : List Nat} {n : Nat} (h8 : All8 b) (hn : (n + 7) / 8 = b.length) (hz : zr b n = true) (_hle : n ≤ 8 * b.length) : byt ((bts b).take n) = b := by
  have hlen : ((bts b).take n).length = n := by rw [List.length_take, bts_length]; omega
  have hg : ∀ i, ((bts b).take n).getD i 0 = bt1 b i := by
    intro i
    rw [List.getD_eq_getElem?_getD, List.getElem?_take]
    by_cases hi : i < n
    · rw [if_pos hi, bts_get (by omega)]; rfl
    · rw [if_neg hi, zr_iff.1 hz i (by omega)]; rfl
  apply List.ext_getElem?
  intro j
  by_cases hj : j < b.length
  · rw [byt_get (by rw [hlen]; omega), List.getElem?_eq_getElem hj]
    congr 1
    have := vP_of (l := (bts b).take n) (x := b[j]) (i := 8 * j) (h8 _ (List.getElem_mem hj)) 8 (Nat.le_refl _) (fun m hm => by
      rw [hg]; unfold bt1
      rw [show (8 * j + m) / 8 = j from by omega, show (8 * j + m) % 8 = m from by omega, List.getD_eq_getElem?_getD, List.getElem?_eq_getElem hj]; rfl)
    rw [this]; simp
  · rw [List.getElem?_eq_none (by rw [byt_length, hlen]; omega), List.getElem?_eq_none (by omega)]

/-! What is a bit string. -/
/-- Bytes and a number of bits are a bit string, however long. -/
def okB (b : List Nat) (n : Int) : Bool := decide (0 ≤ n) && decide (n ≤ 8 * (b.length : Int)) && decide (8 * (b.length : Int) ≤ n + 7) && zr b n.toNat
theorem okB_iff {b : List Nat} {n : Int} : okB b n = true ↔ 0 ≤ n ∧ n ≤ 8 * (b.length : Int) ∧ 8 * (b.length : Int) ≤ n + 7 ∧ zr b n.toNat = true := by
  unfold okB; simp only [Bool.and_eq_true, decide_eq_true_eq, and_assoc]
/-- The error of a bit string. -/
def chkB (b : List Nat) (n : Int) : Nat := if 524288 < n then 3 else if okB b n then 0 else 1
/-- The number of bits of content octets. -/
def gtN (c : List Nat) : Int := 8 * ((c.length : Int) - 1) - (c.headD 0 : Nat)
/-- The error of the number of bits of content octets. -/
def szE (c : List Nat) : Nat := if c = [] then 11 else if okB c.tail (gtN c) then 0 else 11
def szN (c : List Nat) : Nat := if szE c = 0 then (gtN c).toNat else 0
/-- Get's error, bytes, number of bits. -/
def gtE (c : List Nat) : Nat := if szE c = 0 then (if 524288 < szN c then 3 else 0) else 11
def gtB (c : List Nat) : List Nat := if gtE c = 0 then c.tail else []
def gtK (c : List Nat) : Nat := if gtE c = 0 then szN c else 0
/-- The bits of content octets. -/
def gtL (c : List Nat) : List Nat := if gtE c = 0 then (bts c.tail).take (szN c) else []
/-- The content octets of bits. -/
def putB (l : List Nat) : List Nat := (8 * ((l.length + 7) / 8) - l.length) :: byt l
/-- Put's octets. -/
def ptB (b : List Nat) (n : Int) : List Nat := if chkB b n = 0 then (8 * (b.length : Int) - n).toNat :: b else []
theorem szE_0 {c : List Nat} (h : szE c = 0) : ∃ u t, c = u :: t ∧ okB t (8 * (t.length : Int) - (u : Nat)) = true ∧ szN c = 8 * t.length - u ∧ u ≤ 7 ∧ u ≤ 8 * t.length := by
  have h0 := h
  unfold szE at h
  cases c with
  | nil => simp at h
  | cons u t =>
    rw [if_neg (by simp)] at h
    have e : gtN (u :: t) = 8 * (t.length : Int) - (u : Nat) := by unfold gtN; simp
    by_cases ho : okB (u :: t).tail (gtN (u :: t)) = true
    · rw [e] at ho
      have ho' : okB t (8 * (t.length : Int) - (u : Nat)) = true := ho
      obtain ⟨h1, h2, h3, _⟩ := okB_iff.1 ho'
      refine ⟨u, t, rfl, ho', ?_, by omega, by omega⟩
      unfold szN; rw [if_pos h0, e]; omega
    · rw [if_neg ho] at h; omega
theorem szE_or (c : List Nat) : szE c = 0 ∨ szE c = 11 := by unfold szE; split; · simp
                                                             split <;> simp
theorem szE_cons {u : Nat} {t : List Nat} (hu : u ≤ 7) (hn : u ≤ 8 * t.length) (hz : zr t (8 * t.length - u) = true) : szE (u :: t) = 0 ∧ szN (u :: t) = 8 * t.length - u := by
  have e : gtN (u :: t) = 8 * (t.length : Int) - (u : Nat) := by unfold gtN; simp
  have ho : okB (u :: t).tail (gtN (u :: t)) = true := by
    rw [e]
    refine okB_iff.2 ⟨by omega, by simp only [List.tail_cons]; omega, by simp only [List.tail_cons]; omega, ?_⟩
    rw [show (8 * (t.length : Int) - (u : Nat)).toNat = 8 * t.length - u from by omega]; exact hz
  have e0 : szE (u :: t) = 0 := by unfold szE; rw [if_neg (by simp), if_pos ho]
  exact ⟨e0, by unfold szN; rw [if_pos e0, e]; omega⟩
theorem gtL_byt {c : List Nat} (h8 : All8 c) : byt (gtL c) = gtB c ∧ (gtL c).length = gtK c := by
  unfold gtL gtB gtK
  by_cases h : gtE c = 0
  · rw [if_pos h, if_pos h, if_pos h]
    have hs : szE c = 0 := by unfold gtE at h; split at h; · assumption
                              · omega
    obtain ⟨u, t, rfl, ho, hn, hu, hu2⟩ := szE_0 hs
    obtain ⟨h1, h2, h3, hz⟩ := okB_iff.1 ho
    rw [show (8 * (t.length : Int) - (u : Nat)).toNat = 8 * t.length - u from by omega, ← hn] at hz
    exact ⟨byt_bts (fun x hx => h8 x (by simp only [List.tail_cons] at hx; simp [hx])) (by simp only [List.tail_cons]; omega) hz (by simp only [List.tail_cons]; omega), by rw [List.length_take, bts_length, List.tail_cons]; omega⟩
  · rw [if_neg h, if_neg h, if_neg h]; exact ⟨rfl, rfl⟩
theorem gtE_sz {c : List Nat} (h : gtE c = 0) : szE c = 0 ∧ szN c ≤ 524288 := by
  unfold gtE at h
  by_cases hs : szE c = 0
  · rw [if_pos hs] at h
    refine ⟨hs, ?_⟩
    by_cases h2 : 524288 < szN c
    · rw [if_pos h2] at h; omega
    · omega
  · rw [if_neg hs] at h; omega
/-- What Put makes of what Get reads. -/
theorem put_get {c : List Nat} (h : gtE c = 0) : chkB (gtB c) (gtK c : Nat) = 0 ∧ ptB (gtB c) (gtK c : Nat) = c := by
  obtain ⟨hs, hl⟩ := gtE_sz h
  obtain ⟨u, t, rfl, ho, hn, hu, hu2⟩ := szE_0 hs
  have e1 : gtB (u :: t) = t := by unfold gtB; rw [if_pos h]; rfl
  have e2 : gtK (u :: t) = 8 * t.length - u := by unfold gtK; rw [if_pos h, hn]
  have e3 : ((8 * t.length - u : Nat) : Int) = 8 * (t.length : Int) - (u : Nat) := by omega
  have e4 : chkB t ((8 * t.length - u : Nat) : Int) = 0 := by
    unfold chkB; rw [if_neg (by omega), e3, if_pos ho]
  rw [e1, e2]
  refine ⟨e4, ?_⟩
  unfold ptB
  rw [if_pos e4]
  congr 1
  omega
/-- The bytes of bits are a bit string. -/
theorem ok_byt {l : List Nat} (h : Lt 2 l) : okB (byt l) (l.length : Nat) = true := by
  have hb := byt_length l
  refine okB_iff.2 ⟨by omega, by omega, by omega, ?_⟩
  rw [Int.toNat_natCast]
  refine zr_iff.2 fun i hi => ?_
  by_cases hl : i < 8 * ((l.length + 7) / 8)
  · rw [bt1_byt h hl, List.getD_eq_getElem?_getD, List.getElem?_eq_none hi]; rfl
  · unfold bt1; rw [List.getD_eq_getElem?_getD, List.getElem?_eq_none (by rw [hb]; omega)]; simp
theorem putB_eq {l : List Nat} (h : Lt 2 l) (hl : l.length ≤ 524288) : chkB (byt l) (l.length : Nat) = 0 ∧ ptB (byt l) (l.length : Nat) = putB l := by
  have e : chkB (byt l) (l.length : Nat) = 0 := by unfold chkB; rw [if_neg (by omega), if_pos (ok_byt h)]
  refine ⟨e, ?_⟩
  unfold ptB putB
  rw [if_pos e, byt_length]
  congr 1
  omega
theorem get_putB {l : List Nat} (h : Lt 2 l) (hl : l.length ≤ 524288) : gtE (putB l) = 0 ∧ gtB (putB l) = byt l ∧ gtK (putB l) = l.length ∧ gtL (putB l) = l := by
  have ho := ok_byt h
  obtain ⟨h1, h2, h3, hz⟩ := okB_iff.1 ho
  have hb := byt_length l
  rw [Int.toNat_natCast] at hz
  obtain ⟨s1, s2⟩ := szE_cons (u := 8 * ((l.length + 7) / 8) - l.length) (t := byt l) (by omega) (by rw [hb]; omega) (by rw [hb, show 8 * ((l.length + 7) / 8) - (8 * ((l.length + 7) / 8) - l.length) = l.length from by omega]; exact hz)
  rw [hb, show 8 * ((l.length + 7) / 8) - (8 * ((l.length + 7) / 8) - l.length) = l.length from by omega] at s2
  have e : gtE (putB l) = 0 := by unfold gtE putB; rw [if_pos s1, s2, if_neg (by omega)]
  refine ⟨e, by unfold gtB; rw [if_pos e]; rfl, by unfold gtK; rw [if_pos e]; exact s2, ?_⟩
  unfold gtL; rw [if_pos e]
  show (bts (byt l)).take (szN (putB l)) = l
  rw [show szN (putB l) = l.length from s2]
  exact bts_byt_take h

/-! Named bits. -/
/-- GetNamed's error and value. -/
def gnE (c : List Nat) : Nat := if szE c = 0 then (if 0 < szN c ∧ bt1 c.tail (szN c - 1) = 0 then 11 else if 64 < szN c then 3 else 0) else 11
def gnV (c : List Nat) : Nat := if gnE c = 0 then vl 2 ((bts c.tail).take (szN c)) else 0
/-- PutNamed's octets. -/
def pnB (w : Nat) : List Nat := putB (dgs 2 w)
theorem dgs2_len {w : Nat} (h : w < 2 ^ 64) : (dgs 2 w).length ≤ 64 := (dgs_length (by omega) w 64).2 h
theorem dgs2_last {w : Nat} : ∀ (_h : 0 < (dgs 2 w).length), (dgs 2 w).getD ((dgs 2 w).length - 1) 0 = 1 := by
  induction w using Nat.strongRecOn with
  | ind w ih =>
    intro h
    by_cases hw : w = 0
    · subst hw; simp [dgs_zero] at h
    · rw [dgs_pos (by omega) hw]
      by_cases h2 : w / 2 = 0
      · rw [h2, dgs_zero]
        simp
        omega
      · have hl : 0 < (dgs 2 (w / 2)).length := by rw [dgs_pos (by omega) h2]; simp
        have := ih (w / 2) (by omega) hl
        rw [List.length_cons, Nat.add_sub_cancel]
        obtain ⟨k, hk⟩ : ∃ k, (dgs 2 (w / 2)).length = k + 1 := ⟨_, (Nat.sub_add_cancel hl).symm⟩
        rw [hk] at this ⊢
        simpa using this
theorem gn_pn {w : Nat} (h : w < 2 ^ 64) : gnE (pnB w) = 0 ∧ gnV (pnB w) = w := by
  have hl := dgs2_len h
  have h2 := dgs_lt (b := 2) (by omega) w
  obtain ⟨g1, g2, g3, g4⟩ := get_putB h2 (by omega)
  obtain ⟨s1, s2⟩ := gtE_sz g1
  have s3 : szN (pnB w) = (dgs 2 w).length := by unfold gtK at g3; rw [if_pos g1] at g3; exact g3
  have hb : ∀ i, bt1 (pnB w).tail i = bt1 (byt (dgs 2 w)) i := fun i => rfl
  have e : gnE (pnB w) = 0 := by
    unfold gnE
    rw [if_pos (show szE (pnB w) = 0 from s1), s3, if_neg ?_, if_neg (by omega)]
    rintro ⟨h0, hz⟩
    rw [hb, bt1_byt h2 (by omega), dgs2_last h0] at hz
    omega
  refine ⟨e, ?_⟩
  unfold gnV
  rw [if_pos e, s3]
  show vl 2 ((bts (byt (dgs 2 w))).take (dgs 2 w).length) = w
  rw [bts_byt_take h2, vl_dgs (by omega)]
theorem pn_gn {c : List Nat} (h8 : All8 c) (h : gnE c = 0) : pnB (gnV c) = c := by
  have hs : szE c = 0 := by unfold gnE at h; split at h; · assumption
                            · omega
  obtain ⟨u, t, rfl, ho, hn, hu, hu2⟩ := szE_0 hs
  obtain ⟨h1, h2, h3, hz⟩ := okB_iff.1 ho
  rw [show (8 * (t.length : Int) - (u : Nat)).toNat = 8 * t.length - u from by omega, ← hn] at hz
  have h0 := h
  unfold gnE at h0
  rw [if_pos hs] at h0
  have hbits : Lt 2 ((bts t).take (szN (u :: t))) := fun x hx => bts_lt t x (List.mem_of_mem_take hx)
  have hlen : ((bts t).take (szN (u :: t))).length = szN (u :: t) := by rw [List.length_take, bts_length]; omega
  have htr : trimL ((bts t).take (szN (u :: t))) = (bts t).take (szN (u :: t)) := by
    by_cases hn0 : szN (u :: t) = 0
    · rw [hn0, List.take_zero]; rfl
    · obtain ⟨k, hk⟩ : ∃ k, szN (u :: t) = k + 1 := ⟨szN (u :: t) - 1, by omega⟩
      rw [hk]
      have hkl : k < (bts t).length := by rw [bts_length]; omega
      rw [List.take_succ_eq_append_getElem hkl]
      refine trimL_last _ _ ?_
      have hg : (bts t)[k] = bt1 t k := by
        have := bts_get (b := t) (i := k) (by omega)
        rw [List.getElem?_eq_getElem hkl] at this
        exact Option.some.inj this
      rw [hg]
      intro hz0
      rw [if_pos ⟨by omega, by rw [hk]; exact hz0⟩] at h0
      omega
  unfold gnV pnB putB
  rw [if_pos h]
  show (8 * (((dgs 2 (vl 2 ((bts t).take (szN (u :: t))))).length + 7) / 8) - (dgs 2 (vl 2 ((bts t).take (szN (u :: t))))).length) :: byt (dgs 2 (vl 2 ((bts t).take (szN (u :: t))))) = u :: t
  rw [dgs_vl (by omega) hbits, htr, hlen, byt_bts (fun x hx => h8 x (by simp [hx])) (by omega) hz (by omega)]
  congr 1
  omega
theorem vl2_lt {l : List Nat} (h : Lt 2 l) (hl : l.length ≤ 64) : vl 2 l < 2 ^ 64 := Nat.lt_of_lt_of_le (vl_lt h) (Nat.pow_le_pow_right (by omega) hl)
theorem gnV_lt (c : List Nat) : gnV c < 2 ^ 64 := by
  unfold gnV
  by_cases h : gnE c = 0
  · rw [if_pos h]
    refine vl2_lt (fun x hx => bts_lt c.tail x (List.mem_of_mem_take hx)) ?_
    have : szN c ≤ 64 := by
      unfold gnE at h
      split at h
      · split at h
        · omega
        · split at h <;> omega
      · omega
    rw [List.length_take]; omega
  · rw [if_neg h]; omega

/-! The eight bytes of named bits, while they are filled. -/
/-- Eight bytes of bits. -/
def byt8 (l : List Nat) : List Nat := (List.range 8).map fun j => vP l (8 * j) 8
theorem byt8_length (l : List Nat) : (byt8 l).length = 8 := by simp [byt8]
theorem byt8_get {l : List Nat} {j : Nat} (h : j < 8) : (byt8 l)[j]? = some (vP l (8 * j) 8) := by
  unfold byt8; rw [List.getElem?_map, List.getElem?_range h]; rfl
theorem byt8_all {l : List Nat} (h : Lt 2 l) : All8 (byt8 l) := by
  intro x hx
  simp only [byt8, List.mem_map] at hx
  obtain ⟨j, _, rfl⟩ := hx
  exact vP_lt h _ 8
theorem byt8_nil : byt8 [] = List.replicate 8 0 := by decide
theorem byt8_take {l : List Nat} (h : l.length ≤ 64) : (byt8 l).take ((l.length + 7) / 8) = byt l := by
  apply List.ext_getElem?
  intro j
  rw [List.getElem?_take]
  by_cases hj : j < (l.length + 7) / 8
  · rw [if_pos hj, byt8_get (by omega), byt_get hj]
  · rw [if_neg hj, List.getElem?_eq_none (by rw [byt_length]; omega)]
theorem vP_snoc (l : List Nat) (x i : Nat) : ∀ m, vP (l ++ [x]) i m = vP l i m + if i ≤ l.length ∧ l.length < i + m then x * 2 ^ (i + m - 1 - l.length) else 0 := by
  intro m
  induction m with
  | zero => rw [if_neg (by omega)]; rfl
  | succ m ih =>
    rw [vP, vP, ih]
    have hg : (l ++ [x]).getD (i + m) 0 = if i + m = l.length then x else l.getD (i + m) 0 := by
      rw [List.getD_eq_getElem?_getD, List.getD_eq_getElem?_getD]
      by_cases h : i + m < l.length
      · rw [List.getElem?_append_left h, if_neg (by omega)]
      · rw [List.getElem?_append_right (by omega)]
        by_cases h2 : i + m = l.length
        · rw [if_pos h2, show i + m - l.length = 0 from by omega]; rfl
        · rw [if_neg h2, List.getElem?_eq_none (by simp; omega), List.getElem?_eq_none (by omega)]
    have hl : i + m = l.length → l.getD (i + m) 0 = 0 := fun h => by rw [List.getD_eq_getElem?_getD, List.getElem?_eq_none (by omega)]; rfl
    rw [hg]
    by_cases h2 : i + m = l.length
    · rw [if_pos h2, if_neg (by omega), if_pos (by omega), hl h2, show i + (m + 1) - 1 - l.length = 0 from by omega]; simp
    · rw [if_neg h2]
      by_cases h3 : i ≤ l.length ∧ l.length < i + m
      · rw [if_pos h3, if_pos (by omega), show i + (m + 1) - 1 - l.length = (i + m - 1 - l.length) + 1 from by omega, Nat.pow_succ, ← Nat.mul_assoc]
        omega
      · rw [if_neg h3, if_neg (by omega)]; omega
theorem byt8_snoc {l : List Nat} (x : Nat) (hk : l.length < 64) : byt8 (l ++ [x]) = (byt8 l).set (l.length / 8) (vP l (8 * (l.length / 8)) 8 + x * 2 ^ (7 - l.length % 8)) := by
  apply List.ext_getElem?
  intro j
  rw [List.getElem?_set]
  by_cases hj : j < 8
  · rw [byt8_get hj, vP_snoc]
    by_cases e : l.length / 8 = j
    · subst e
      rw [if_pos (show 8 * (l.length / 8) ≤ l.length ∧ l.length < 8 * (l.length / 8) + 8 from by omega), if_pos rfl, if_pos (by rw [byt8_length]; omega), show 8 * (l.length / 8) + 8 - 1 - l.length = 7 - l.length % 8 from by omega]
    · rw [if_neg e, if_neg (by omega), byt8_get hj]; rfl
  · rw [List.getElem?_eq_none (by rw [byt8_length]; omega), if_neg (by omega), List.getElem?_eq_none (by rw [byt8_length]; omega)]
theorem vP_clear {l : List Nat} (h : Lt 2 l) : vP l (8 * (l.length / 8)) 8 / 2 ^ (7 - l.length % 8) % 2 = 0 := by
  have := vP_bit h (8 * (l.length / 8)) 8 (l.length % 8) (Nat.mod_lt _ (by omega))
  rw [show 8 * (l.length / 8) + l.length % 8 = l.length from by omega, List.getD_eq_getElem?_getD, List.getElem?_eq_none (Nat.le_refl _)] at this
  exact this
theorem dgs2_get (w : Nat) : ∀ k, (dgs 2 w).getD k 0 = w / 2 ^ k % 2 := by
  induction w using Nat.strongRecOn with
  | ind w ih =>
    intro k
    by_cases hw : w = 0
    · subst hw; rw [dgs_zero]; simp
    · rw [dgs_pos (by omega) hw]
      cases k with
      | zero => simp
      | succ k =>
        rw [List.getD_cons_succ, ih (w / 2) (by omega) k, Nat.pow_succ, Nat.mul_comm (2 ^ k) 2, ← Nat.div_div_eq_div_mul]
theorem dgs2_take {w k : Nat} (h : k < (dgs 2 w).length) : (dgs 2 w).take (k + 1) = (dgs 2 w).take k ++ [w / 2 ^ k % 2] := by
  rw [List.take_succ_eq_append_getElem h]
  have := dgs2_get w k
  rw [List.getD_eq_getElem?_getD, List.getElem?_eq_getElem h] at this
  rw [← this]; rfl
theorem dgs2_step {w k : Nat} (hw : w < 2 ^ 64) (h : k < (dgs 2 w).length) : byt8 ((dgs 2 w).take (k + 1)) = (byt8 ((dgs 2 w).take k)).set (k / 8) (vP ((dgs 2 w).take k) (8 * (k / 8)) 8 + w / 2 ^ k % 2 * 2 ^ (7 - k % 8)) := by
  have hl : ((dgs 2 w).take k).length = k := by rw [List.length_take]; omega
  have := dgs2_len hw
  rw [dgs2_take h, byt8_snoc _ (by omega), hl]
theorem dgs2_clear {w k : Nat} (h : k < (dgs 2 w).length) : vP ((dgs 2 w).take k) (8 * (k / 8)) 8 / 2 ^ (7 - k % 8) % 2 = 0 := by
  have hl : ((dgs 2 w).take k).length = k := by rw [List.length_take]; omega
  have := vP_clear (l := (dgs 2 w).take k) (fun x hx => dgs_lt (by omega) w x (List.mem_of_mem_take hx))
  rwa [hl] at this
theorem set_same {l : List Nat} {i x : Nat} (h : l[i]? = some x) : l.set i x = l := by
  apply List.ext_getElem?
  intro j
  rw [List.getElem?_set]
  by_cases e : i = j
  · subst e
    rw [if_pos rfl]
    obtain ⟨hi, _⟩ := List.getElem?_eq_some_iff.1 h
    rw [if_pos hi, h]
  · rw [if_neg e]
theorem dgs2_skip {w k : Nat} (hw : w < 2 ^ 64) (h : k < (dgs 2 w).length) (h0 : w / 2 ^ k % 2 = 0) : byt8 ((dgs 2 w).take (k + 1)) = byt8 ((dgs 2 w).take k) := by
  have := dgs2_len hw
  rw [dgs2_step hw h, h0, Nat.zero_mul, Nat.add_zero]
  exact set_same (byt8_get (by omega))
/-- The value of the first k bits of a list, the least significant one first. -/
theorem vl2_take {l : List Nat} {k : Nat} (h : k < l.length) : vl 2 (l.take (k + 1)) = vl 2 (l.take k) + 2 ^ k * l.getD k 0 := by
  rw [List.take_succ_eq_append_getElem h, vl_append, List.length_take, Nat.min_eq_left (by omega)]
  rw [List.getD_eq_getElem?_getD, List.getElem?_eq_getElem h]
  simp [vl]
theorem vl2_lt_take {l : List Nat} (h : Lt 2 l) (k : Nat) : vl 2 (l.take k) < 2 ^ k := by
  have h1 := vl_lt (b := 2) (l := l.take k) (fun x hx => h x (List.mem_of_mem_take hx))
  exact Nat.lt_of_lt_of_le h1 (Nat.pow_le_pow_right (by omega) (List.length_take_le _ _))
/-! The last byte. -/
theorem byte_tail : ∀ x u : Nat, x < 256 → u < 8 → ((∀ k, k < 8 → 8 - u ≤ k → x / 2 ^ (7 - k) % 2 = 0) ↔ x % 2 ^ u = 0) := by
  have h : ∀ x : Fin 256, ∀ u : Fin 8, (∀ k : Fin 8, 8 - u.val ≤ k.val → x.val / 2 ^ (7 - k.val) % 2 = 0) ↔ x.val % 2 ^ u.val = 0 := by decide +kernel
  intro x u hx hu
  rw [← h ⟨x, hx⟩ ⟨u, hu⟩]
  exact ⟨fun a k => a k.val k.isLt, fun a k hk => a ⟨k, hk⟩⟩
theorem zr_last {b : List Nat} {n u x : Nat} (hb : b[b.length - 1]? = some x) (hx : x < 256) (hn : n + u = 8 * b.length) (hu : 0 < u) (h8 : u < 8) : zr b n = decide (x % 2 ^ u = 0) := by
  rw [Bool.eq_iff_iff, zr_iff, decide_eq_true_iff, ← byte_tail x u hx h8]
  have hl : 0 < b.length := by omega
  have hg : ∀ k, k < 8 → bt1 b (8 * (b.length - 1) + k) = x / 2 ^ (7 - k) % 2 := by
    intro k hk
    unfold bt1
    rw [show (8 * (b.length - 1) + k) / 8 = b.length - 1 from by omega, show (8 * (b.length - 1) + k) % 8 = k from by omega, List.getD_eq_getElem?_getD, hb]; rfl
  constructor
  · intro h k hk hk2
    rw [← hg k hk]; exact h _ (by omega)
  · intro h i hi
    by_cases hi8 : i < 8 * b.length
    · have := h (i - 8 * (b.length - 1)) (by omega) (by omega)
      rw [← hg _ (by omega), show 8 * (b.length - 1) + (i - 8 * (b.length - 1)) = i from by omega] at this
      exact this
    · unfold bt1
      rw [List.getD_eq_getElem?_getD, List.getElem?_eq_none (by omega)]; simp
theorem zr_full {b : List Nat} {n : Nat} (h : 8 * b.length ≤ n) : zr b n = true := by
  refine zr_iff.2 fun i hi => ?_
  unfold bt1
  rw [List.getD_eq_getElem?_getD, List.getElem?_eq_none (by omega)]; simp
theorem okB_last {b : List Nat} {n : Int} {u x : Nat} (hb : b[b.length - 1]? = some x) (hx : x < 256) (hn : 8 * (b.length : Int) - n = (u : Nat)) (h0 : 0 ≤ n) (hu : 0 < u) (h8 : u < 8) : okB b n = decide (x % 2 ^ u = 0) := by
  unfold okB
  rw [decide_eq_true h0, decide_eq_true (show n ≤ 8 * (b.length : Int) by omega), decide_eq_true (show 8 * (b.length : Int) ≤ n + 7 by omega), zr_last hb hx (n := n.toNat) (by omega) hu h8]; rfl
theorem okB_full {b : List Nat} {n : Int} (hn : 8 * (b.length : Int) - n = 0) : okB b n = true :=
  okB_iff.2 ⟨by omega, by omega, by omega, zr_full (by omega)⟩
theorem okB_not {b : List Nat} {n : Int} (h : n < 0 ∨ 8 * (b.length : Int) - n < 0 ∨ 7 < 8 * (b.length : Int) - n) : okB b n = false := by
  rw [Bool.eq_false_iff]
  intro e
  obtain ⟨h1, h2, h3, _⟩ := okB_iff.1 e
  omega
end Go.Proofs.Ytnebjdgolbnkfaa.Bit
