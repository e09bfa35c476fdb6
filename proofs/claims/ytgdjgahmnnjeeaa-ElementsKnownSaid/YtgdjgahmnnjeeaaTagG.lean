/-
  Package tags: the contract of Get.
  Conditions: slices are no longer than a word allows, and read as bytes.
-/
import Derived.Test.YtgdjgahmnnjeeaaTagF
namespace Go.Proofs.Ytgdjgahmnnjeeaa
open Go.RowKit

/-- What Get reads: class, number, form, size, error. -/
def rdT (c n : Nat) (k : Bool) (s : Nat) : Nat × Nat × Bool × Nat × Nat := if chk c n k ≠ 0 then (0, 0, false, 0, chk c n k) else (c, n, k, s, 0)
def rdL : List Nat → Nat × Nat × Bool × Nat × Nat
  | [] => (0, 0, false, 0, 7)
  | x :: r => if x % 32 = 31 then (if (gg r).2.2 ≠ 0 then (0, 0, false, 0, (gg r).2.2) else rdT (x / 64) (gg r).1 (decide (x / 32 % 2 = 1)) (1 + (gg r).2.1)) else rdT (x / 64) (x % 32) (decide (x / 32 % 2 = 1)) 1
/-- A tag, a size and an error. -/
def GiveT (w : World) (q : Nat × Nat × Bool × Nat × Nat) (e : Ending) (w' : World) : Prop :=
  e = .returned (.tuple #[tagV q.1 q.2.1 q.2.2.1, .int .i64 (q.2.2.2.1 : Nat), .int .i64 (q.2.2.2.2 : Nat)]) ∧ Below w.heap.size w w'

theorem and32 (x : Nat) (h : x < 256) : (bits BinOp.and IntKind.u8 (x : Int) 32 != 0) = decide (x / 32 % 2 = 1) :=
  (show ∀ x : Fin 256, (bits BinOp.and IntKind.u8 (x.val : Int) 32 != 0) = decide (x.val / 32 % 2 = 1) by decide +kernel) ⟨x, h⟩
theorem and31 (x : Nat) (h : x < 256) : bits BinOp.and IntKind.u8 (x : Int) 31 = ((x % 32 : Nat) : Int) :=
  (show ∀ x : Fin 256, bits BinOp.and IntKind.u8 (x.val : Int) 31 = ((x.val % 32 : Nat) : Int) by decide +kernel) ⟨x, h⟩

theorem slice_one (b off N c : Nat) (hN : 0 < N) (hc : N ≤ c) (hm : c < 9223372036854775808) : ∃ A' c', (∀ W : World, (Instr.slice 26 (.slice (some ⟨b, off, none⟩) N c) (some (.int .i64 1)) none none).run Try.prog W = .ok (.slice A' (N - 1) c') W) ∧ (∀ W : World, (Instr.sliceAt 26 (.slice (some ⟨b, off, none⟩) N c) (some (.int .i64 1)) none none).run Try.prog W = .ok (.slice A' (N - 1) c') W) ∧ (N = 1 ∨ A' = some ⟨b, off + 1, none⟩) ∧ N - 1 ≤ c' ∧ c' < 9223372036854775808 := by
  by_cases h : c = 1
  · subst h
    obtain rfl : N = 1 := by omega
    exact ⟨some ⟨b, off, none⟩, 0, fun W => by simp [go_sem], fun W => by simp [go_sem], Or.inl rfl, by omega, by omega⟩
  · have h1 : 1 < c := by omega
    have h2 : ¬ c = 1 := h
    have q : ∀ W : World, (Instr.slice 26 (.slice (some ⟨b, off, none⟩) N c) (some (.int .i64 1)) none none).run Try.prog W = .ok (.slice (some ⟨b, off + 1, none⟩) (N - 1) (c - 1)) W := fun W => by
      simp [go_sem, h2]
      intro hx
      exact absurd hx (by omega)
    refine ⟨some ⟨b, off + 1, none⟩, c - 1, q, fun W => ?_, Or.inr rfl, by omega, by omega⟩
    rw [← q W]
    simp [go_sem]

/-- What lies in a tag's box, behind whatever has been made since. -/
theorem tag_cells_d {w w1 : World} {a b c : Value} (hb : Below (w.alloc (.cells #[a, b, c] 25)).drew.heap.size (w.alloc (.cells #[a, b, c] 25)).drew w1) :
    Bk w1 w.heap.size 25 [a, b, c] ∧ w.heap.size < w1.heap.size := by
  have h := Bk.new w 25 [a, b, c]
  have h2 : Bk (w.alloc (.cells #[a, b, c] 25)).drew w.heap.size 25 [a, b, c] := h
  have h3 := h2.below hb h2.lt
  exact ⟨h3, h3.lt⟩

theorem set3 {w1 : World} {g : Nat} {a b c a' b' c' : Value} (h : Bk w1 g 25 [a, b, c]) : Bk (((w1.setCell ⟨g, 0, none⟩ a').setCell ⟨g, 1, none⟩ b').setCell ⟨g, 2, none⟩ c') g 25 [a', b', c'] := by
  have := ((h.store 0 a').store 1 b').store 2 c'
  simpa using this
theorem below3 {w w1 : World} {g : Nat} {a' b' c' : Value} (h : Below w.heap.size w w1) (hg : w.heap.size ≤ g) : Below w.heap.size w (((w1.setCell ⟨g, 0, none⟩ a').setCell ⟨g, 1, none⟩ b').setCell ⟨g, 2, none⟩ c') :=
  ((h.setCell (p := ⟨g, 0, none⟩) hg _).setCell (p := ⟨g, 1, none⟩) hg _).setCell (p := ⟨g, 2, none⟩) hg _
theorem bel_d {w w1 : World} {o : Obj} (hb : Below (w.alloc o).drew.heap.size (w.alloc o).drew w1) : Below w.heap.size w w1 :=
  (((Below.refl w.heap.size w).alloc (Nat.le_refl _) o).drew).trans (hb.mono (by show w.heap.size ≤ (w.alloc o).heap.size; simp))

theorem ggA_num (f : Nat) : ∀ (i acc : Nat) (l : List Nat), i + f = 4 → acc < 128 ^ i → (ggA f i acc l).1 < 268435456 ∧ (ggA f i acc l).2.1 ≤ 4 := by
  induction f with
  | zero => intro i acc l _ _; exact ⟨Nat.zero_lt_succ _, Nat.zero_le _⟩
  | succ f ih =>
    intro i acc l hi ha
    cases l with
    | nil => exact ⟨Nat.zero_lt_succ _, Nat.zero_le _⟩
    | cons x l =>
      have h1 : acc * 128 + x % 128 < 128 ^ (i + 1) := by rw [Nat.pow_succ]; omega
      have h2 : 128 ^ (i + 1) ≤ 128 ^ 4 := Nat.pow_le_pow_right (by omega) (by omega)
      rw [ggA]
      split
      · exact ⟨by decide, by decide⟩
      · split
        · exact ih _ _ _ (by omega) h1
        · split
          · exact ⟨by decide, by decide⟩
          · simp only; omega
theorem gg_num (l : List Nat) : (gg l).1 < 268435456 ∧ (gg l).2.1 ≤ 4 := ggA_num 4 0 0 l rfl (by decide)

set_option maxRecDepth 100000 in
set_option maxHeartbeats 1000000 in
theorem get_nil (A : Option Addr) (c : Nat) (w : World) :
    Calls Try.prog 71 #[.slice A 0 c] w (GiveT w (rdL [])) := by
  go_enter Try.func71, Try.ntmps71
  go_wp2_with fail
  refine bodyPost_ret (v := .tuple #[tagV 0 0 false, .int .i64 0, .int .i64 7]) (by simp [results, Try.results71, go_sem]) rfl ⟨rfl, ?_⟩
  exact (Below.refl _ _).alloc (Nat.le_refl _) _

set_option maxHeartbeats 1000000 in
set_option maxRecDepth 100000 in
theorem get_cons (A : Option Addr) (x : Nat) (r : List Nat) (c : Nat) (w : World) (hn : (x :: r).length ≤ c) (hcm : c ≤ maxLen) (h : Rb w A (x :: r)) :
    Calls Try.prog 71 #[.slice A (x :: r).length c] w (GiveT w (rdL (x :: r))) := by
  obtain ⟨b, off, rfl, hb, hx, hcell⟩ := h.at_ (k := 0) (by simp)
  simp only [List.getElem_cons_zero] at hx hcell
  simp only [Nat.add_zero] at hcell
  obtain ⟨N, hN⟩ : ∃ N, (x :: r).length = N := ⟨_, rfl⟩
  rw [hN] at hn ⊢
  have hN0 : 0 < N := by rw [← hN]; simp
  have HN := Lib.hid hN
  clear hN
  unfold maxLen at hcm
  have h32 := and32 x hx
  have h31 := and31 x hx
  obtain ⟨m, hm⟩ : ∃ m, x % 32 = m := ⟨_, rfl⟩
  obtain ⟨k, hk⟩ : ∃ k, decide (x / 32 % 2 = 1) = k := ⟨_, rfl⟩
  have hm2 : m < 32 := by omega
  rw [hm] at h31
  rw [hk] at h32
  have HM := Lib.hid hm
  have HK := Lib.hid hk
  clear hm hk
  have hc4 : x / 64 ≤ 3 := by omega
  have hx64 : ((x : Int) / 64) = ((x / 64 : Nat) : Int) := by simp
  obtain ⟨q, hq⟩ : ∃ q, x / 64 = q := ⟨_, rfl⟩
  rw [hq] at hx64 hc4
  have HQ := Lib.hid hq
  clear hq
  obtain ⟨A', c', hs1, hs2, hs3, hs4, hs5⟩ := slice_one b off N c hN0 hn (by omega)
  have hrN : r.length = N - 1 := by have := HN.out; simp at this; omega
  have hR : Rb w A' r := by
    rcases hs3 with h1 | rfl
    · have : r = [] := List.eq_nil_of_length_eq_zero (by omega)
      rw [this]; exact Rb.nil
    · exact h.drop_ 1
  rw [← hrN] at hs1 hs2 hs4
  have HHR := Lib.hid hR
  have Hs := Lib.hid (And.intro hs4 hs5)
  have HrN := Lib.hid hrN
  clear hR hs3 hs4 hs5 hrN h
  by_cases hm31 : m = 31
  · subst hm31
    obtain ⟨g1, g2, g3, hg⟩ : ∃ g1 g2 g3, gg r = (g1, g2, g3) := ⟨_, _, _, rfl⟩
    have hgn := gg_num r
    rw [hg] at hgn
    simp only at hgn
    obtain ⟨hg1, hg2⟩ := hgn
    have HG := Lib.hid hg
    clear hg
    by_cases h30 : g3 = 0
    · subst h30
      have HZ := Lib.hid (show rdL (x :: r) = rdT q g1 k (1 + g2) by rw [rdL, HM.out, HK.out, HQ.out, HG.out, if_pos rfl, if_neg (by simp)])
      obtain ⟨e0, he0⟩ : ∃ e0, chk q g1 k = e0 := ⟨_, rfl⟩
      have HE := Lib.hid he0
      clear he0
      by_cases hez : e0 = 0
      · subst hez
        go_enter Try.func71, Try.ntmps71
        go_wp2_with fail
        obtain ⟨W, hW⟩ : ∃ W, w.alloc (.cells #[.int .u8 0, .bool false, .int .u32 0] 25) = W := ⟨_, rfl⟩
        have hcW : W.cell? ⟨b, off, none⟩ = some (.int .u8 (x : Int)) := by rw [← hW]; exact (((Below.refl _ w).alloc (Nat.le_refl _) _).cell (p := ⟨b, off, none⟩) hb).trans hcell
        rw [hW]
        refine wp_region_still_tail 15 (by kernel_rfl) (by kernel_rfl) ?_
        simp only [List.take_succ_cons, List.take_zero, List.drop_succ_cons, List.drop_zero]
        repeat still_step
        refine wpStill_nil ?_
        change wpList _ _ _ _ _ W.drew
        subst hW
        clear hcW
        go_wp2_with (first | (go_at_call 82; refine (gg_any A' r c' _ (by have := Hs.out; unfold maxLen; omega) (HHR.out.below (((Below.refl w.heap.size w).alloc (Nat.le_refl _) _).drew))).mono ?_; rintro e w' ⟨rfl, rfl⟩; rw [HG.out]) | (go_at_call 55; refine (check_any q g1 k _ (by omega) (by omega)).mono ?_; rintro e w1 ⟨rfl, hb1⟩; rw [HE.out]; obtain ⟨hbk1, hsz1⟩ := tag_cells_d hb1; have r0 := hbk1.cell 0; have r1 := hbk1.cell 1; have r2 := hbk1.cell 2; have f0 := hbk1.free 0; have f1 := hbk1.free 1; have f2 := hbk1.free 2; simp only [List.getElem?_cons_zero, List.getElem?_cons_succ] at r0 r1 r2; have HB1 := Lib.hid hb1; have HBk1 := Lib.hid hbk1; clear hb1 hbk1))
        have HS := Lib.hid (set3 (a' := .int .u8 (q : Int)) (b' := .bool k) (c' := .int .u32 (g1 : Int)) HBk1.out)
        have s0 := HS.out.cell 0
        have s1 := HS.out.cell 1
        have s2 := HS.out.cell 2
        simp only [List.getElem?_cons_zero, List.getElem?_cons_succ] at s0 s1 s2
        refine bodyPost_ret (v := .tuple #[tagV q g1 k, .int .i64 (1 + (g2 : Int)), .int .i64 0]) (by simp [results, Try.results71, go_sem, s0, s1, s2]) rfl ⟨?_, below3 (bel_d HB1.out) (Nat.le_refl _)⟩
        rw [HZ.out, rdT, if_neg (by rw [HE.out]; omega)]
        refine congrArg (fun z => Ending.returned (.tuple #[tagV q g1 k, .int .i64 z, .int .i64 0])) ?_
        simp
      · have hez1 : ((e0 : Int) != 0) = true := by rw [bne_iff_ne]; omega
        go_enter Try.func71, Try.ntmps71
        go_wp2_with fail
        obtain ⟨W, hW⟩ : ∃ W, w.alloc (.cells #[.int .u8 0, .bool false, .int .u32 0] 25) = W := ⟨_, rfl⟩
        have hcW : W.cell? ⟨b, off, none⟩ = some (.int .u8 (x : Int)) := by rw [← hW]; exact (((Below.refl _ w).alloc (Nat.le_refl _) _).cell (p := ⟨b, off, none⟩) hb).trans hcell
        rw [hW]
        refine wp_region_still_tail 15 (by kernel_rfl) (by kernel_rfl) ?_
        simp only [List.take_succ_cons, List.take_zero, List.drop_succ_cons, List.drop_zero]
        repeat still_step
        refine wpStill_nil ?_
        change wpList _ _ _ _ _ W.drew
        subst hW
        clear hcW
        go_wp2_with (first | (go_at_call 82; refine (gg_any A' r c' _ (by have := Hs.out; unfold maxLen; omega) (HHR.out.below (((Below.refl w.heap.size w).alloc (Nat.le_refl _) _).drew))).mono ?_; rintro e w' ⟨rfl, rfl⟩; rw [HG.out]) | (go_at_call 55; refine (check_any q g1 k _ (by omega) (by omega)).mono ?_; rintro e w1 ⟨rfl, hb1⟩; rw [HE.out]; obtain ⟨hbk1, hsz1⟩ := tag_cells_d hb1; have r0 := hbk1.cell 0; have r1 := hbk1.cell 1; have r2 := hbk1.cell 2; have f0 := hbk1.free 0; have f1 := hbk1.free 1; have f2 := hbk1.free 2; simp only [List.getElem?_cons_zero, List.getElem?_cons_succ] at r0 r1 r2; have HB1 := Lib.hid hb1; have HBk1 := Lib.hid hbk1; clear hb1 hbk1))
        have HS := Lib.hid (set3 (a' := .int .u8 0) (b' := .bool false) (c' := .int .u32 0) HBk1.out)
        have s0 := HS.out.cell 0
        have s1 := HS.out.cell 1
        have s2 := HS.out.cell 2
        simp only [List.getElem?_cons_zero, List.getElem?_cons_succ] at s0 s1 s2
        refine bodyPost_ret (v := .tuple #[tagV 0 0 false, .int .i64 0, .int .i64 (e0 : Int)]) (by simp [results, Try.results71, go_sem, s0, s1, s2]) rfl ⟨?_, below3 (bel_d HB1.out) (Nat.le_refl _)⟩
        rw [HZ.out, rdT, if_pos (by rw [HE.out]; omega), HE.out]
        rfl
    · have HZ := Lib.hid (show rdL (x :: r) = (0, 0, false, 0, g3) by rw [rdL, HM.out, HG.out, if_pos rfl, if_pos h30])
      have h3b : ((g3 : Int) != 0) = true := by rw [bne_iff_ne]; omega
      go_enter Try.func71, Try.ntmps71
      go_wp2_with fail
      obtain ⟨W, hW⟩ : ∃ W, w.alloc (.cells #[.int .u8 0, .bool false, .int .u32 0] 25) = W := ⟨_, rfl⟩
      have hcW : W.cell? ⟨b, off, none⟩ = some (.int .u8 (x : Int)) := by rw [← hW]; exact (((Below.refl _ w).alloc (Nat.le_refl _) _).cell (p := ⟨b, off, none⟩) hb).trans hcell
      rw [hW]
      refine wp_region_still_tail 15 (by kernel_rfl) (by kernel_rfl) ?_
      simp only [List.take_succ_cons, List.take_zero, List.drop_succ_cons, List.drop_zero]
      repeat still_step
      refine wpStill_nil ?_
      change wpList _ _ _ _ _ W.drew
      subst hW
      clear hcW
      go_wp2_with (go_at_call 82; refine (gg_any A' r c' _ (by have := Hs.out; unfold maxLen; omega) (HHR.out.below (((Below.refl w.heap.size w).alloc (Nat.le_refl _) _).drew))).mono ?_; rintro e w' ⟨rfl, rfl⟩; rw [HG.out])
      refine bodyPost_ret (v := .tuple #[tagV 0 0 false, .int .i64 0, .int .i64 (g3 : Int)]) (by simp [results, Try.results71, go_sem]) rfl ⟨?_, ((Below.refl w.heap.size w).alloc (Nat.le_refl _) _).drew⟩
      rw [HZ.out]
      rfl
  · have HZ := Lib.hid (show rdL (x :: r) = rdT q m k 1 by rw [rdL, HM.out, HK.out, HQ.out, if_neg hm31])
    have hm31b : ((m : Int) == 31) = false := by rw [beq_eq_false_iff_ne]; omega
    clear hm31
    obtain ⟨e0, he0⟩ : ∃ e0, chk q m k = e0 := ⟨_, rfl⟩
    have HE := Lib.hid he0
    clear he0 hs1 hs2
    by_cases hez : e0 = 0
    · subst hez
      go_enter Try.func71, Try.ntmps71
      go_wp2_with fail
      obtain ⟨W, hW⟩ : ∃ W, w.alloc (.cells #[.int .u8 0, .bool false, .int .u32 0] 25) = W := ⟨_, rfl⟩
      have hcW : W.cell? ⟨b, off, none⟩ = some (.int .u8 (x : Int)) := by rw [← hW]; exact (((Below.refl _ w).alloc (Nat.le_refl _) _).cell (p := ⟨b, off, none⟩) hb).trans hcell
      rw [hW]
      refine wp_region_still_tail 15 (by kernel_rfl) (by kernel_rfl) ?_
      simp only [List.take_succ_cons, List.take_zero, List.drop_succ_cons, List.drop_zero]
      repeat still_step
      refine wpStill_nil ?_
      change wpList _ _ _ _ _ W.drew
      subst hW
      clear hcW
      go_wp2_with (go_at_call 55; refine (check_any q m k _ (by omega) (by omega)).mono ?_; rintro e w1 ⟨rfl, hb1⟩; rw [HE.out]; obtain ⟨hbk1, hsz1⟩ := tag_cells_d hb1; have r0 := hbk1.cell 0; have r1 := hbk1.cell 1; have r2 := hbk1.cell 2; have f0 := hbk1.free 0; have f1 := hbk1.free 1; have f2 := hbk1.free 2; simp only [List.getElem?_cons_zero, List.getElem?_cons_succ] at r0 r1 r2; have HB1 := Lib.hid hb1; have HBk1 := Lib.hid hbk1; clear hb1 hbk1)
      have HS := Lib.hid (set3 (a' := .int .u8 (q : Int)) (b' := .bool k) (c' := .int .u32 (m : Int)) HBk1.out)
      have s0 := HS.out.cell 0
      have s1 := HS.out.cell 1
      have s2 := HS.out.cell 2
      simp only [List.getElem?_cons_zero, List.getElem?_cons_succ] at s0 s1 s2
      refine bodyPost_ret (v := .tuple #[tagV q m k, .int .i64 1, .int .i64 0]) (by simp [results, Try.results71, go_sem, s0, s1, s2]) rfl ⟨?_, below3 (bel_d HB1.out) (Nat.le_refl _)⟩
      rw [HZ.out, rdT, if_neg (by rw [HE.out]; omega)]
      rfl
    · have hez1 : ((e0 : Int) != 0) = true := by rw [bne_iff_ne]; omega
      go_enter Try.func71, Try.ntmps71
      go_wp2_with fail
      obtain ⟨W, hW⟩ : ∃ W, w.alloc (.cells #[.int .u8 0, .bool false, .int .u32 0] 25) = W := ⟨_, rfl⟩
      have hcW : W.cell? ⟨b, off, none⟩ = some (.int .u8 (x : Int)) := by rw [← hW]; exact (((Below.refl _ w).alloc (Nat.le_refl _) _).cell (p := ⟨b, off, none⟩) hb).trans hcell
      rw [hW]
      refine wp_region_still_tail 15 (by kernel_rfl) (by kernel_rfl) ?_
      simp only [List.take_succ_cons, List.take_zero, List.drop_succ_cons, List.drop_zero]
      repeat still_step
      refine wpStill_nil ?_
      change wpList _ _ _ _ _ W.drew
      subst hW
      clear hcW
      go_wp2_with (go_at_call 55; refine (check_any q m k _ (by omega) (by omega)).mono ?_; rintro e w1 ⟨rfl, hb1⟩; rw [HE.out]; obtain ⟨hbk1, hsz1⟩ := tag_cells_d hb1; have r0 := hbk1.cell 0; have r1 := hbk1.cell 1; have r2 := hbk1.cell 2; have f0 := hbk1.free 0; have f1 := hbk1.free 1; have f2 := hbk1.free 2; simp only [List.getElem?_cons_zero, List.getElem?_cons_succ] at r0 r1 r2; have HB1 := Lib.hid hb1; have HBk1 := Lib.hid hbk1; clear hb1 hbk1)
      have HS := Lib.hid (set3 (a' := .int .u8 0) (b' := .bool false) (c' := .int .u32 0) HBk1.out)
      have s0 := HS.out.cell 0
      have s1 := HS.out.cell 1
      have s2 := HS.out.cell 2
      simp only [List.getElem?_cons_zero, List.getElem?_cons_succ] at s0 s1 s2
      refine bodyPost_ret (v := .tuple #[tagV 0 0 false, .int .i64 0, .int .i64 (e0 : Int)]) (by simp [results, Try.results71, go_sem, s0, s1, s2]) rfl ⟨?_, below3 (bel_d HB1.out) (Nat.le_refl _)⟩
      rw [HZ.out, rdT, if_pos (by rw [HE.out]; omega), HE.out]
      rfl

theorem get_any (A : Option Addr) (l : List Nat) (c : Nat) (w : World) (hn : l.length ≤ c) (hcm : c ≤ maxLen) (h : Rb w A l) :
    Calls Try.prog 71 #[.slice A l.length c] w (GiveT w (rdL l)) := by
  cases l with
  | nil => exact get_nil A c w
  | cons x r => exact get_cons A x r c w hn hcm h
end Go.Proofs.Ytgdjgahmnnjeeaa
