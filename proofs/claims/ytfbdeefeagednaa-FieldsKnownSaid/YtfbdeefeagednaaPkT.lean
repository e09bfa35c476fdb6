/-
  Contracts and facts of layers 1 to 10 that later statements rest on: part T (TagA TagB TagC TagD TagE TagF TagG TagS TagV).
  Conditions: as each says.
-/
import Derived.Test.YtfbdeefeagednaaPkC
import Derived.Test.YtfbdeefeagednaaRows
import Derived.WalkSpells
import Derived.Handy
import Derived.Deep.QuietTactic
import Derived.BigQuiet
import Derived.StillTailTactics
import Derived.Lib.BytesEntry
import Derived.IntWalk
import Derived.Lib.ItoaNum
import Derived.Test.YtfbdeefeagednaaShelf
import Derived.RangeFuncNested
import Derived.RangeFuncBound
import Derived.RangeFuncCalls
import Derived.RangeFuncLeaves
import Derived.RangeFuncBox
import Derived.Shelf.Abstract
import Derived.Shelf.RegionOpen
import Derived.WalkKit
import Derived.OwnWalkIn
import Derived.TacticsInMore
import Derived.LoopNIn
import Derived.LoopIn
import Derived.ArgAppend
import Derived.Laws.BitsLemmas
import Derived.Laws.AppendOwnNone
set_option maxRecDepth 100000
namespace Go.Proofs.Ytfbdeefeagednaa
open Go.RowKit
/-- The error of a tag. -/
def chk (c n : Nat) (k : Bool) : Nat := if 3 < c ∨ 268435455 < n then 1 else if c = 0 ∧ (n = 0 ∨ (k = false ∧ (n = 16 ∨ n = 17))) then 9 else 0
/-- A tag is one of those that no element has. -/
def exc (c n : Nat) (k : Bool) : Bool := decide (c = 0 ∧ (n = 0 ∨ (k = false ∧ (n = 16 ∨ n = 17))))
/-- A tag's value. -/
@[reducible] def tagV (c n : Nat) (k : Bool) : Value := .agg #[.int .u8 (c : Int), .bool k, .int .u32 (n : Int)]
set_option maxHeartbeats 400000 in
theorem excl_any (c n : Nat) (k : Bool) (w : World) (_hc : c < 256) (_hn : n < 4294967296) :
    Calls Try.prog 72 #[tagV c n k] w fun e w' => e = .returned (.bool (exc c n k)) ∧ Below w.heap.size w w' := by
  go_enter Try.func72, Try.ntmps72
  cases k
  all_goals
    go_wp2
  all_goals go_ret
  all_goals refine ⟨?_, (Below.refl _ _).alloc (Nat.le_refl _) _⟩
  all_goals unfold exc
  all_goals try simp only [bne_iff_ne, ne_eq, bne_eq_false_iff_eq, beq_iff_eq, beq_eq_false_iff_ne] at *
  all_goals first | (refine congrArg (fun b => Ending.returned (Value.bool b)) (Eq.symm (decide_eq_true ?_)); first | omega | (simp; done) | (simp; omega)) | (refine congrArg (fun b => Ending.returned (Value.bool b)) (Eq.symm (decide_eq_false ?_)); first | omega | (simp; done) | (simp; omega))
theorem exc_yes {c n : Nat} {k : Bool} (h : exc c n k = true) (h3 : ¬ 3 < c) (h4 : ¬ 268435455 < n) : chk c n k = 9 := by
  unfold exc at h; unfold chk
  rw [if_neg (by omega), if_pos (by simpa using h)]
theorem exc_no {c n : Nat} {k : Bool} (h : exc c n k = false) (h3 : ¬ 3 < c) (h4 : ¬ 268435455 < n) : chk c n k = 0 := by
  unfold exc at h; unfold chk
  rw [if_neg (by omega), if_neg (by simpa using h)]
theorem chk_one {c n : Nat} {k : Bool} (h : 3 < c ∨ 268435455 < n) : chk c n k = 1 := by unfold chk; rw [if_pos h]
set_option maxHeartbeats 400000 in
theorem check_any (c n : Nat) (k : Bool) (w : World) (hc : c < 256) (hn : n < 4294967296) :
    Calls Try.prog 60 #[tagV c n k] w fun e w' => e = .returned (.int .i64 (chk c n k : Nat)) ∧ Below w.heap.size w w' := by
  by_cases h3 : 3 < c
  · have HE := Lib.hid (chk_one (n := n) (k := k) (Or.inl h3))
    go_enter Try.func60, Try.ntmps60
    go_wp2_with fail
    go_ret
    exact ⟨by rw [HE.out]; rfl, (Below.refl _ _).alloc (Nat.le_refl _) _⟩
  by_cases h4 : 268435455 < n
  · have HE := Lib.hid (chk_one (c := c) (k := k) (Or.inr h4))
    go_enter Try.func60, Try.ntmps60
    go_wp2_with fail
    go_ret
    exact ⟨by rw [HE.out]; rfl, (Below.refl _ _).alloc (Nat.le_refl _) _⟩
  cases hx : exc c n k
  · have HE := Lib.hid (exc_no hx h3 h4)
    have HX := Lib.hid hx
    clear hx
    go_enter Try.func60, Try.ntmps60
    go_wp2_with (go_at_call 72; refine (excl_any c n k _ hc hn).mono ?_; rintro e w1 ⟨rfl, hb⟩; rw [HX.out]; have HB := Lib.hid hb; clear hb)
    go_ret
    exact ⟨by rw [HE.out]; rfl, ((Below.refl _ _).alloc (Nat.le_refl _) _).trans (HB.out.mono (by simp))⟩
  · have HE := Lib.hid (exc_yes hx h3 h4)
    have HX := Lib.hid hx
    clear hx
    go_enter Try.func60, Try.ntmps60
    go_wp2_with (go_at_call 72; refine (excl_any c n k _ hc hn).mono ?_; rintro e w1 ⟨rfl, hb⟩; rw [HX.out]; have HB := Lib.hid hb; clear hb)
    go_ret
    exact ⟨by rw [HE.out]; rfl, ((Below.refl _ _).alloc (Nat.le_refl _) _).trans (HB.out.mono (by simp))⟩
end Go.Proofs.Ytfbdeefeagednaa
namespace Go.Proofs.Ytfbdeefeagednaa
/-- The groups of a number above 0, as octets. -/
def gl (n : Nat) : List Nat := ((dgs 128 (n / 128)).map (128 + ·)).reverse ++ [n % 128]
/-- What the iterator yields at the place i, counted from the last one. -/
def item (n i : Nat) : Nat × Bool := (n / 128 ^ i % 128, decide (0 < i))
/-- What it yields in all. -/
def items (n L : Nat) : List (Nat × Bool) := (List.range L).map fun j => item n (L - 1 - j)
/-- The octet of a group. -/
def oct (x : Nat × Bool) : Nat := if x.2 then 128 + x.1 else x.1
theorem items_length (n L : Nat) : (items n L).length = L := by simp [items]
theorem oct_lt {n i : Nat} : oct (item n i) < 256 := by
  have : n / 128 ^ i % 128 < 128 := Nat.mod_lt _ (by omega)
  unfold oct item; split <;> simp <;> omega
theorem items_lt {n L : Nat} {x : Nat × Bool} (h : x ∈ items n L) : x.1 < 128 := by
  simp only [items, List.mem_map, List.mem_range] at h
  obtain ⟨j, _, rfl⟩ := h
  exact Nat.mod_lt _ (by omega)
theorem items_take {n L j : Nat} (h : j < L) : (items n L).take (j + 1) = (items n L).take j ++ [item n (L - 1 - j)] := by
  rw [List.take_succ_eq_append_getElem (by rw [items_length]; exact h)]
  congr 1
  simp [items]
theorem am_eq (L : Nat) : ∀ m : Nat, m < 128 ^ L → (L ≠ 0 → 128 ^ (L - 1) ≤ m) → (List.range L).map (fun j => 128 + m / 128 ^ (L - 1 - j) % 128) = ((dgs 128 m).map (128 + ·)).reverse := by
  induction L with
  | zero => intro m h _; obtain rfl : m = 0 := by simpa using h
            rfl
  | succ L ih =>
    intro m h h1
    have h1 : 128 ^ L ≤ m := by simpa using h1
    have hp : 0 < 128 ^ L := Nat.pow_pos (by omega)
    rw [dgs_pos (by omega) (by omega), List.map_cons, List.reverse_cons, ← ih (m / 128) (by rw [Nat.pow_succ] at h; omega) (fun hL => by
      obtain ⟨K, rfl⟩ : ∃ K, L = K + 1 := ⟨L - 1, by omega⟩
      rw [Nat.pow_succ] at h1
      simp only [Nat.add_sub_cancel]
      omega), List.range_succ, List.map_append]
    simp only [List.map_cons, List.map_nil, Nat.add_sub_cancel, Nat.sub_self, Nat.pow_zero, Nat.div_one]
    congr 1
    apply List.map_congr_left
    intro j hj
    have hj := List.mem_range.1 hj
    rw [show L - j = (L - 1 - j) + 1 by omega, Nat.pow_succ, Nat.mul_comm, ← Nat.div_div_eq_div_mul]
theorem octs_eq {n L : Nat} (h : n < 128 ^ (L + 1)) (h1 : 128 ^ L ≤ n) : (items n (L + 1)).map oct = gl n := by
  unfold gl
  rw [← am_eq L (n / 128) (by rw [Nat.pow_succ] at h; omega) (fun hL => by
      obtain ⟨K, rfl⟩ : ∃ K, L = K + 1 := ⟨L - 1, by omega⟩
      rw [Nat.pow_succ] at h1
      simp only [Nat.add_sub_cancel]
      omega)]
  unfold items
  rw [List.map_map, List.range_succ, List.map_append]
  congr 1
  · apply List.map_congr_left
    intro j hj
    have hj := List.mem_range.1 hj
    simp only [Function.comp, oct, item, Nat.add_sub_cancel]
    rw [if_pos (by simp; omega), show L - j = (L - 1 - j) + 1 by omega, Nat.pow_succ, Nat.mul_comm, ← Nat.div_div_eq_div_mul]
  · simp [oct, item]
/-- How many groups there are behind the first one. -/
def gk (n : Nat) : Nat := (Lib.bitLen n - 1) / 7
theorem gk_spec {n : Nat} (h : 0 < n) (h64 : n < 2 ^ 64) : n < 128 ^ (gk n + 1) ∧ 128 ^ gk n ≤ n := by
  obtain ⟨h1, h2, h3⟩ := Lib.bitLenAux_bounds 64 n h64 (by omega)
  change 1 ≤ Lib.bitLen n at h1
  change 2 ^ (Lib.bitLen n - 1) ≤ n at h2
  change n < 2 ^ Lib.bitLen n at h3
  unfold gk
  rw [show 128 = 2 ^ 7 from rfl, ← Nat.pow_mul, ← Nat.pow_mul]
  exact ⟨Nat.lt_of_lt_of_le h3 (Nat.pow_le_pow_right (by omega) (by omega)), Nat.le_trans (Nat.pow_le_pow_right (by omega) (by omega)) h2⟩
theorem gk_le {n : Nat} (h : n < 268435456) : gk n ≤ 3 := by
  have := Lib.bitLen_le n 28 (by omega) h
  unfold gk; omega
theorem gl_of {n : Nat} (h : 0 < n) (h64 : n < 2 ^ 64) : (items n (gk n + 1)).map oct = gl n := octs_eq (gk_spec h h64).1 (gk_spec h h64).2
theorem gl_length {n : Nat} (h : 0 < n) (h64 : n < 2 ^ 64) : (gl n).length = gk n + 1 := by rw [← gl_of h h64, List.length_map, items_length]
end Go.Proofs.Ytfbdeefeagednaa
namespace Go.Proofs.Ytfbdeefeagednaa
open Go.RowKit Go.Shelf
attribute [local go_sem] Oper.semAt_some
/-- A box holds what it held. -/
def KeepB (Bn : Nat) (A B : World) : Prop := B.cell? ⟨Bn, 0, none⟩ = A.cell? ⟨Bn, 0, none⟩
theorem KeepB.t {Bn : Nat} : ∀ {A B C : World}, KeepB Bn A B → KeepB Bn B C → KeepB Bn A C := fun h k => Eq.trans k h
theorem KeepB.b {Bn : Nat} {w : World} (h : Bn < w.heap.size) : ∀ (W : World) (l : Nat) (o o' : Obj), w.heap.size ≤ l → W.heap[l]? = some o → o.isCells = false → o.isWalk = false → KeepB Bn W (W.putObj l o') := fun W l o o' hl ho hc hw =>
  (belowK_b (w := w) (n₀ := Bn + 1) h W l o o' hl ho hc hw).cell (p := ⟨Bn, 0, none⟩) (Nat.lt_succ_self _)
/-- What is handed to a round. -/
abbrev encI (x : Nat × Bool) : Array Value := #[.int .u8 (x.1 : Int), .bool x.2]
theorem andNot128 (x : Nat) (h : x < 256) : bits BinOp.andNot IntKind.u8 (x : Int) 128 = ((x % 128 : Nat) : Int) :=
  (show ∀ x : Fin 256, bits BinOp.andNot IntKind.u8 (x.val : Int) 128 = ((x.val % 128 : Nat) : Int) by decide +kernel) ⟨x, h⟩
theorem or128 (x : Nat) (h : x < 128) : bits BinOp.or IntKind.u8 (x : Int) 128 = ((128 + x : Nat) : Int) :=
  (show ∀ x : Fin 128, bits BinOp.or IntKind.u8 (x.val : Int) 128 = ((128 + x.val : Nat) : Int) by decide +kernel) ⟨x, h⟩
theorem item_bits (n t : Nat) : bits BinOp.andNot IntKind.u8 ((n : Int) / 2 ^ (7 * t) % 256) 128 = ((item n t).1 : Int) := by
  have e : ((n : Int) / 2 ^ (7 * t) % 256) = ((n / 128 ^ t % 256 : Nat) : Int) := by
    rw [show 128 = 2 ^ 7 from rfl, ← Nat.pow_mul]; simp
  rw [e, andNot128 _ (Nat.mod_lt _ (by omega))]
  unfold item
  simp only
  omega
theorem wrap64_in {x : Int} (h : -9223372036854775808 ≤ x) (h2 : x ≤ 9223372036854775807) : wrap64 x = x := by unfold wrap64; omega
theorem len_gk (n : Nat) (h : 0 < n) (h2 : n < 268435456) : wrap64 ((wrap64 ((Lib.bitLen n : Int) - 1)).tdiv 7) = (gk n : Int) := by
  have h1 := (Lib.bitLenAux_bounds 64 n (by omega) (by omega)).1
  change 1 ≤ Lib.bitLen n at h1
  have h3 := Lib.bitLen_le n 28 (by omega) h2
  unfold gk
  generalize Lib.bitLen n = b at *
  rw [show ((b : Int) - 1) = ((b - 1 : Nat) : Int) by omega, wrap64_in (x := ((b - 1 : Nat) : Int)) (by omega) (by omega), Int.tdiv_eq_ediv_of_nonneg (by omega), wrap64_in (by omega) (by omega)]
  omega
set_option maxRecDepth 100000 in
set_option maxHeartbeats 2000000 in
theorem iter_in (n0 : Nat) (hn1 : 0 < n0) (hn2 : n0 < 268435456) (n : Nat) (hn : 3 ≤ n) (l Bn : Nat) (J Jx : List (Nat × Bool) → World → Prop)
    (hY : ∀ pre x W, J pre W → pre.length < gk n0 + 1 → YieldAt Fence.wide (n - 1) Try.prog l (encI x) W fun e W' =>
      (e = .returned (.bool true) ∧ J (pre ++ [x]) W' ∧ KeepB Bn W W') ∨ (e = .returned (.bool false) ∧ Jx (pre ++ [x]) W'))
    (W : World) (hc : W.cell? ⟨Bn, 0, none⟩ = some (.int .u32 (n0 : Int))) (h0 : J [] W) :
    CallsIn Fence.wide n Try.prog 73 #[.func (.yield l) #[] #[], .pointer (some ⟨Bn, 0, none⟩)] W fun e W' => (∃ v, e = .returned v) ∧
      ((∃ ys, ys = items n0 (gk n0 + 1) ∧ J ys W') ∨ (∃ pre, pre <+: items n0 (gk n0 + 1) ∧ Jx pre W')) := by
  refine callsIn_of_wp Try.func73 rfl trivial ?_ rfl
  simp only [Try.ntmps73, List.size_toArray, List.length_cons, List.length_nil, Nat.reduceAdd, Nat.reduceSub, Array.replicate_succ, Array.replicate_zero, List.push_toArray, List.append_toArray, List.nil_append, List.cons_append]
  have h1 : 1 ≤ n := by omega
  have hg := gk_le hn2
  have hx1 := (Int.natCast_pos (n := n0)).2 hn1
  gi_wp2_with (refine ⟨trivial, ?_⟩; gi_at_call 74; refine (callsIn_wide.2 (Try.bits_Len32 _ _ (by omega) (by omega))).mono ?_; rintro e w1 ⟨rfl, rfl⟩)
  gi_loopw [4] (fun i wr => ∃ j : Nat, j ≤ gk n0 + 1 ∧ i = .int .i64 ((gk n0 : Int) - j) ∧ J ((items n0 (gk n0 + 1)).take j) wr ∧ KeepB Bn w1 wr) (fun i _ => (intOf i + 1).toNat)
  case atStart =>
    exact ⟨0, by omega, by rw [len_gk n0 hn1 hn2]; simp, by simpa using h0, rfl⟩
  case round =>
    obtain ⟨j, hj, rfl, hJ, hB⟩ := hrel
    by_cases hjl : j = gk n0 + 1
    · subst hjl
      rw [List.take_of_length_le (by rw [items_length]; omega)] at hJ
      gi_wp2_with fail
      go_end0
      exact ⟨⟨_, rfl⟩, .inl ⟨_, rfl, hJ⟩⟩
    · obtain ⟨t, ht⟩ : ∃ t, gk n0 = j + t := ⟨gk n0 - j, by omega⟩
      have e1 : ((gk n0 : Int) - j) = (t : Int) := by omega
      rw [e1]
      have hcr : wr.cell? ⟨Bn, 0, none⟩ = some (.int .u32 (n0 : Int)) := hB.trans hc
      obtain ⟨fn, tmps, assign, body, hy, hR⟩ := hY _ (item n0 t) wr hJ (by rw [List.length_take, items_length]; omega)
      have htk := items_take (n := n0) (L := gk n0 + 1) (j := j) (by omega)
      rw [show gk n0 + 1 - 1 - j = t by omega] at htk
      have HT := Lib.hid htk
      have hbits := item_bits n0 t
      have h2 : (item n0 t).2 = decide (0 < t) := rfl
      generalize item n0 t = x at *
      obtain ⟨x1, x2⟩ := x
      simp only at hbits h2
      subst h2
      clear htk e1 hJ
      simp only [encI] at hy
      gi_wp2_with fail
      refine hR.mono ?_
      rintro e W3 (⟨rfl, hJ3, hk3⟩ | ⟨rfl, hJx3⟩)
      · gi_wp2_with fail
        rw [← HT.out] at hJ3
        exact ⟨⟨j + 1, by omega, by congr 1; omega, hJ3, hk3.trans hB⟩, by simp [intOf]⟩
      · gi_wp2_with fail
        refine bodyPost_ret (results_none rfl _ _ _) rfl ?_
        rw [← HT.out] at hJx3
        exact ⟨⟨_, rfl⟩, .inr ⟨_, List.take_prefix _ _, hJx3⟩⟩
theorem iter_stops (n0 : Nat) (hn1 : 0 < n0) (hn2 : n0 < 268435456) (n : Nat) (hn : 3 ≤ n) (Bn : Nat) (w : World) (hBn : Bn < w.heap.size) (hc : w.cell? ⟨Bn, 0, none⟩ = some (.int .u32 (n0 : Int))) :
    SeqStopsK Fence.wide n Try.prog 73 #[.pointer (some ⟨Bn, 0, none⟩)] encI (KeepB Bn) (fun ys => ys = items n0 (gk n0 + 1)) (fun pre => pre <+: items n0 (gk n0 + 1)) (gk n0 + 1) w := fun l J Jx W hW _ _ hY h0 =>
  iter_in n0 hn1 hn2 n hn l Bn J Jx hY W ((hW.cell (p := ⟨Bn, 0, none⟩) hBn).trans hc) h0
end Go.Proofs.Ytfbdeefeagednaa
namespace Go.Proofs.Ytfbdeefeagednaa
open Go.RowKit Go.Shelf
attribute [local go_sem] Oper.semAt_some
theorem cell_new_l (W : World) (v : Value) (t : TypeId) : (W.alloc (.cells #[v] t)).cell? ⟨W.heap.size, 0, none⟩ = some v ∧ (W.alloc (.cells #[v] t)).frozen? ⟨W.heap.size, 0, none⟩ = false := by
  have h := Boxed.new W t v
  exact ⟨h.cell, h.frozen⟩
theorem groups_in (n0 : Nat) (n : Nat) (w : World) :
    CallsIn Fence.wide n Try.prog 62 #[.int .u32 (n0 : Int)] w fun e w' => e = .returned (.func (.func 73) #[] #[.pointer (some ⟨w.heap.size, 0, none⟩)]) ∧ w' = w.alloc (.cells #[.int .u32 (n0 : Int)] 23) := by
  refine callsIn_of_wp Try.func62 rfl trivial ?_ rfl
  simp only [Try.ntmps62, List.size_toArray, List.length_cons, List.length_nil, Nat.reduceAdd, Nat.reduceSub, Array.replicate_succ, Array.replicate_zero, List.push_toArray, List.append_toArray, List.nil_append, List.cons_append]
  gi_wp2_with fail
  go_ret
  exact ⟨rfl, rfl⟩
/-- What lies in a tag's box, behind whatever has been made since. -/
theorem tag_cells {w w1 : World} {c n : Nat} {k : Bool} (hb : Below (w.alloc (.cells #[.int .u8 (c : Int), .bool k, .int .u32 (n : Int)] 25)).heap.size (w.alloc (.cells #[.int .u8 (c : Int), .bool k, .int .u32 (n : Int)] 25)) w1) :
    w1.cell? ⟨w.heap.size, 0, none⟩ = some (.int .u8 (c : Int)) ∧ w1.cell? ⟨w.heap.size, 1, none⟩ = some (.bool k) ∧ w1.cell? ⟨w.heap.size, 2, none⟩ = some (.int .u32 (n : Int)) ∧ w.heap.size < w1.heap.size := by
  have hz := hb.size
  rw [World.size_alloc] at hz
  have h := fun o => hb.cell (p := ⟨w.heap.size, o, none⟩) (show w.heap.size < (w.alloc (.cells #[.int .u8 (c : Int), .bool k, .int .u32 (n : Int)] 25)).heap.size by rw [World.size_alloc]; omega)
  refine ⟨(h 0).trans ?_, (h 1).trans ?_, (h 2).trans ?_, by omega⟩ <;> simp
/-- How many identifier octets a tag has. -/
def sizeN (c n : Nat) (k : Bool) : Nat := if chk c n k ≠ 0 then 0 else if n < 31 then 1 else gk n + 2
theorem chk_zero {c n : Nat} {k : Bool} (h : chk c n k = 0) : c ≤ 3 ∧ n < 268435456 := by
  unfold chk at h
  by_cases h1 : 3 < c ∨ 268435455 < n
  · rw [if_pos h1] at h; cases h
  · omega
set_option maxRecDepth 100000 in
set_option maxHeartbeats 1000000 in
theorem size_small (c n : Nat) (k : Bool) (w : World) (hc : c < 256) (hn : n < 4294967296) (h : chk c n k ≠ 0 ∨ n < 31) :
    Calls Try.prog 61 #[tagV c n k] w fun e w' => e = .returned (.int .i64 (sizeN c n k : Nat)) ∧ Below w.heap.size w w' := by
  by_cases h0 : chk c n k = 0
  · have hn31 : n < 31 := by omega
    have HS := Lib.hid (show sizeN c n k = 1 by unfold sizeN; rw [if_neg (by omega), if_pos hn31])
    have H0 := Lib.hid h0
    clear h0 h
    go_enter Try.func61, Try.ntmps61
    go_wp2_with (go_at_call 60; refine (check_any c n k _ hc hn).mono ?_; rintro e w1 ⟨rfl, hb⟩; rw [H0.out]; obtain ⟨c0, c1, c2, hsz⟩ := tag_cells hb; have HB := Lib.hid hb; clear hb)
    go_ret
    exact ⟨by rw [HS.out]; rfl, (((Below.refl _ _).alloc (Nat.le_refl _) _).trans (HB.out.mono (by simp))).alloc (by omega) _⟩
  · have HS := Lib.hid (show sizeN c n k = 0 by unfold sizeN; rw [if_pos h0])
    have h1 : ((chk c n k : Int) != 0) = true := by rw [bne_iff_ne]; omega
    obtain ⟨e0, he⟩ : ∃ e0, chk c n k = e0 := ⟨_, rfl⟩
    have HE := Lib.hid he
    rw [he] at h1
    clear he h0
    clear h
    go_enter Try.func61, Try.ntmps61
    go_wp2_with (go_at_call 60; refine (check_any c n k _ hc hn).mono ?_; rintro e w1 ⟨rfl, hb⟩; rw [HE.out]; have HB := Lib.hid hb; clear hb)
    go_ret
    exact ⟨by rw [HS.out]; rfl, ((Below.refl _ _).alloc (Nat.le_refl _) _).trans (HB.out.mono (by simp))⟩
set_option maxRecDepth 100000 in
set_option maxHeartbeats 2000000 in
theorem size_big_in (c n : Nat) (k : Bool) (m : Nat) (hm : 6 ≤ m) (w : World) (hc : c < 256) (hn : n < 4294967296) (h : chk c n k = 0) (hn31 : 31 ≤ n) :
    CallsIn Fence.wide m Try.prog 61 #[tagV c n k] w fun e w' => e = .returned (.int .i64 (sizeN c n k : Nat)) ∧ Below w.heap.size w w' := by
  have HS := Lib.hid (show sizeN c n k = gk n + 2 by unfold sizeN; rw [if_neg (by omega), if_neg (by omega)])
  have h28 := (chk_zero h).2
  have hg := gk_le h28
  have H0 := Lib.hid h
  have h1 : 1 ≤ m := by omega
  clear h
  refine callsIn_of_wp_marks Try.func61 rfl trivial ?_ rfl
  simp only [Try.ntmps61, List.size_toArray, List.length_cons, List.length_nil, Nat.reduceAdd, Nat.reduceSub, Array.replicate_succ, Array.replicate_zero, List.push_toArray, List.append_toArray, List.nil_append, List.cons_append]
  gi_wp2_with (first | (refine ⟨trivial, ?_⟩; gi_at_call 60; refine (callsIn_wide.2 (check_any c n k _ hc hn)).mono ?_; rintro e w1 ⟨rfl, hb⟩; rw [H0.out]; obtain ⟨c0, c1, c2, hsz⟩ := tag_cells hb; have HB := Lib.hid hb; clear hb) | (refine ⟨trivial, ?_⟩; gi_at_call 62; refine (groups_in n _ _).mono ?_; rintro e w' ⟨rfl, rfl⟩))
  have hs := cell_new_l w1 (.int .i64 1) 3
  have hb := cell_new_l (w1.alloc (.cells #[.int .i64 1] 3)) (.int .u32 (n : Int)) 23
  rw [World.size_alloc] at hb
  have hB0 : Below w.heap.size w ((w1.alloc (.cells #[.int .i64 1] 3)).alloc (.cells #[.int .u32 (n : Int)] 23)) := ((((Below.refl _ w).alloc (Nat.le_refl _) _).trans (HB.out.mono (by simp))).alloc (by omega) _).alloc (by simp; omega) _
  refine wpIn_rangeFunc_ownF rfl h1 (gf := 73) (lb := #[.pointer (some ⟨w1.heap.size + 1, 0, none⟩)]) rfl trivial (enters_of Try.func73 (by kernel_rfl) rfl)
    (iter_stops n (by omega) h28 (m - 1) (by omega) (w1.heap.size + 1) _ (by simp) hb.1) KeepB.t (KeepB.b (by simp)) (Below.refl _ _) (fun _ => rfl)
    (fun pre W => (W.cell? ⟨w1.heap.size, 0, none⟩ = some (.int .i64 ((1 + pre.length : Nat) : Int)) ∧ W.frozen? ⟨w1.heap.size, 0, none⟩ = false) ∧ Below w.heap.size w W)
    (fun _ _ _ => False)
    (OwnFrom.and (Own.from (fun s A B row hs hg hr => ⟨cell_kept hs.1 hg hr, (frozen_kept hs.1 hg hr).trans hs.2⟩) _) (ownFrom_below (Nat.le_refl _) (by simp; omega)))
    (fun _ _ _ _ _ hs _ _ => hs)
    ⟨⟨by rw [List.length_nil]; exact (Boxed.new w1 _ _).alloc _ |>.cell, (Boxed.new w1 _ _).alloc _ |>.frozen⟩, hB0⟩
    (fun x => { tmps := #[tagV c n k, .pointer (some ⟨w.heap.size, 0, none⟩), .int .i64 0, .pointer (some ⟨w1.heap.size, 0, none⟩), .agg #[.int .u8 (c : Int), .bool k, .int .u32 (n : Int)], .int .i64 0, .bool false, .pointer (some ⟨w.heap.size, 2, none⟩), .int .u32 (n : Int), .bool true, .pointer (some ⟨w.heap.size, 2, none⟩), .int .u32 (n : Int), .func (.func 73) #[] #[.pointer (some ⟨w1.heap.size + 1, 0, none⟩)], .int .u8 (x.1 : Int), .bool x.2, undef, undef, undef], defers := [] }) ?assign ?body ?done ?stop
  case assign =>
    rintro l ⟨x1, x2⟩ W K hK
    gi_wp2_with fail
    simpa [encI] using hK
  case body =>
    rintro l pre x W ⟨⟨hcW, hfW⟩, hBW⟩ hpl
    have hle : pre.length ≤ 100 := by omega
    have HBW := Lib.hid hBW
    clear hBW
    gi_wp2_with fail
    refine ⟨KeepsOthers.setCell _ _ _, World.cell?_setCell_other W ⟨w1.heap.size, 0, none⟩ ⟨w1.heap.size + 1, 0, none⟩ _ (by simp), ⟨?_, by rw [World.frozen?_setCell]; exact hfW⟩, HBW.out.setCell (p := ⟨w1.heap.size, 0, none⟩) (by show w.heap.size ≤ w1.heap.size; omega) _⟩
    rw [World.cell?_setCell_same' _ _ _ (by rw [hcW]; rfl)]
    rw [List.length_append, List.length_singleton]
    congr 2
  case done =>
    rintro D ys W hD rfl ⟨⟨hcW, _⟩, hBW⟩ hK
    rw [items_length] at hcW
    have HBW := Lib.hid hBW
    clear hBW
    gi_wp2_with fail
    refine ⟨by simp, .inl ⟨_, _, rfl, run_takeDeferred hK, ?_⟩⟩
    exact ⟨_, results_tmp rfl _ _ _, by rw [HS.out, show gk n + 2 = 1 + (gk n + 1) by omega]; rfl, HBW.out.trans (belowK_b (w := w) (Nat.le_refl _) W D _ _ (by simp at hD; omega) hK rfl rfl)⟩
  case stop =>
    rintro D c pre W _ _ h _
    exact h.elim
theorem size_any (c n : Nat) (k : Bool) (w : World) (hc : c < 256) (hn : n < 4294967296) :
    Calls Try.prog 61 #[tagV c n k] w fun e w' => e = .returned (.int .i64 (sizeN c n k : Nat)) ∧ Below w.heap.size w w' := by
  by_cases h : chk c n k ≠ 0 ∨ n < 31
  · exact size_small c n k w hc hn h
  · exact (callsIn_wide (n := 6)).1 (size_big_in c n k 6 (Nat.le_refl _) w hc hn (by omega) (by omega))
end Go.Proofs.Ytfbdeefeagednaa
namespace Go.Proofs.Ytfbdeefeagednaa
open Go.RowKit Go.Shelf
attribute [local go_sem] Oper.semAt_some
/-- The walk's step at the builtin append inside a fence, by what it runs to. -/
theorem wpListIn_app {F : Fence} {n : Nat} {P : Program} {w : World} {ops : Array Oper} {rest : List Oper} {o : Oper} {a : Act} {Q : Exit → Act → World → Prop} (hgd : o.guard = none) (s x : Operand) (t1 t2 : TypeId)
    (ho : o.op = .call { callee := .builtin .append, args := #[s, x], argTypes := #[t1, t2] }) (u v : Value) (hs : a.eval s = u) (hx : a.eval x = v) {r : Value} {w1 : World}
    (hrun : (Builtin.append_ #[t1, t2] o.type #[u, v]).run P w = .ok r w1) (h : wpListIn F n P ops Q rest (a.put o.dst r) w1) : wpListIn F n P ops Q (o :: rest) a w := by
  refine wpListIn_plain hgd fun K hK' => ?_
  unfold Oper.wpIn
  refine ⟨?_, ?_⟩
  · simp [Oper.about, ho, resolve, Target.leads, Sem.run_pure]
  · rw [Oper.semAt_plain F _ _ (by rw [ho]; intro c hc'; cases hc')]
    simp [execOp, ho, resolve, invoke, builtin, hs, hx, hrun, Result.andThen]
    exact hK' _ _ h
theorem info5 : (Try.prog.info? 5).map (fun i => (i.zero, i.size, i.bytes)) = some (some (.int .u8 0), 1, 1) := by kernel_rfl
theorem made_one (v : Value) (n : Nat) : madeCells #[v] n = (List.replicate n v).toArray := by
  unfold madeCells
  apply Array.ext
  · simp
  · intro i h1 h2
    simp [Nat.mod_one]
theorem make_cap (L : Nat) (hL : L ≤ 1000000) (W : World) : (Instr.makeSlice 26 (.int .i64 0) (.int .i64 (L : Int))).run Try.prog W = .ok (.slice (some ⟨W.heap.size, 0, none⟩) 0 L) (W.alloc (.cells (List.replicate L (by8 0)).toArray 5)) := by
  obtain ⟨i, hi, hz0, hz1, hz2⟩ := info_parts info5
  have h := run_make (P := Try.prog) W 26 5 i (.int .u8 0) Try.underlying26 hi hz0 .i64 .i64 0 (L : Int) (by omega) (by omega) (by rw [hz2]; omega) (by omega)
  rw [h, hz1, Int.toNat_natCast, Nat.mul_one, show (Value.int IntKind.u8 0).cells = #[Value.int IntKind.u8 0] from rfl, made_one, Int.toNat_zero]
  rfl
/-- A cell is put where there is room. -/
theorem app_room {w : World} {g L : Nat} {xs : List Value} (hb : Bk w g 5 (xs ++ List.replicate (L - xs.length) (by8 0))) (hl : xs.length < L) (v : Value) (h1 : v.oneCell' = true) (b o : Nat) (ha : w.cell? ⟨b, o, none⟩ = some v) :
    (Builtin.append_ #[26, 26] 26 #[.slice (some ⟨g, 0, none⟩) xs.length L, .slice (some ⟨b, o, none⟩) 1 1]).run Try.prog w = .ok (.slice (some ⟨g, 0, none⟩) (xs.length + 1) L) (w.setCell ⟨g, xs.length, none⟩ v) ∧
    Bk (w.setCell ⟨g, xs.length, none⟩ v) g 5 ((xs ++ [v]) ++ List.replicate (L - (xs ++ [v]).length) (by8 0)) := by
  obtain ⟨i, hi, hz0, hz1, hz2⟩ := info_parts info5
  have hsz : (xs ++ List.replicate (L - xs.length) (by8 0)).length = L := by simp; omega
  constructor
  · have h := run_append_room_cells (P := Try.prog) (w := w) 26 26 5 i Try.underlying26 hi g 0 xs.length L ⟨b, o, none⟩ 1 1 [v] (by rw [hz1]; rfl)
      (fun j u hj => by
        obtain ⟨hj1, rfl⟩ := List.getElem?_eq_some_iff.1 hj
        have : j = 0 := by simpa using hj1
        subst this
        simpa [Addr.add_lit] using ha) (by simpa using h1) (by omega)
      (fun j hj => by
        have : j = 0 := by simpa using hj
        subst this
        rw [hb.cell, List.getElem?_eq_getElem (by rw [hsz, hz1]; omega)]; rfl)
      (fun j _ => hb.free _)
    rw [h, hz1]
    simp [World.setCells]
  · have h := hb.store xs.length v
    have e : (xs ++ List.replicate (L - xs.length) (by8 0)).set xs.length v = (xs ++ [v]) ++ List.replicate (L - (xs ++ [v]).length) (by8 0) := by
      rw [show L - xs.length = (L - (xs ++ [v]).length) + 1 by simp; omega, List.replicate_succ]
      simp
    rwa [e] at h
/-- The walk's step at an append for which there is room. -/
theorem wpListIn_app_room {F : Fence} {n : Nat} {w : World} {ops : Array Oper} {rest : List Oper} {o : Oper} {a : Act} {Q : Exit → Act → World → Prop} (hgd : o.guard = none) (s x : Operand)
    (ho : o.op = .call { callee := .builtin .append, args := #[s, x], argTypes := #[26, 26] }) (hty : o.type = 26) {g L b len : Nat} {v : Value} (l : List Value) (hs : a.eval s = .slice (some ⟨g, 0, none⟩) len L) (hx : a.eval x = .slice (some ⟨b, 0, none⟩) 1 1)
    (hlen : l.length = len) (hb : Bk w g 5 (l ++ List.replicate (L - l.length) (by8 0))) (hl : len < L) (h1 : v.oneCell' = true) (hy : w.cell? ⟨b, 0, none⟩ = some v)
    (h : ∀ w1, Bk w1 g 5 ((l ++ [v]) ++ List.replicate (L - (l ++ [v]).length) (by8 0)) → w.grownBy w1 (some g) → w1.heap.size = w.heap.size → KeepsOthers w w1 → wpListIn F n Try.prog ops Q rest (a.put o.dst (.slice (some ⟨g, 0, none⟩) (len + 1) L)) w1) :
    wpListIn F n Try.prog ops Q (o :: rest) a w := by
  subst hlen
  obtain ⟨h2, h3⟩ := app_room hb hl v h1 b 0 hy
  exact wpListIn_app hgd s x _ _ ho _ _ hs hx (by rw [hty]; exact h2) (h _ h3 (only_store (World.grownBy.refl w _) _ _) (by simp [World.setCell]) (KeepsOthers.setCell _ _ _))
/-- The first octet's class and form. -/
def hd (c : Nat) (k : Bool) : Nat := 64 * c + (if k then 32 else 0)
/-- The identifier octets of a valid tag. -/
def putL (c n : Nat) (k : Bool) : List Nat := if n < 31 then [hd c k + n] else (hd c k + 31) :: gl n
/-- Octets without spare capacity, and an error. -/
def GiveP (w : World) (l : List Nat) (f : Nat) (e : Ending) (w' : World) : Prop :=
  ∃ A, e = .returned (.tuple #[.slice A l.length l.length, .int .i64 (f : Int)]) ∧ Rb w' A l ∧ Below w.heap.size w w'
/-- The same, in a block that was not there. -/
def GiveN (w : World) (l : List Nat) (f : Nat) (e : Ending) (w' : World) : Prop :=
  ∃ g, e = .returned (.tuple #[.slice (some ⟨g, 0, none⟩) l.length l.length, .int .i64 (f : Int)]) ∧ w.heap.size ≤ g ∧ Rb w' (some ⟨g, 0, none⟩) l ∧ Below w.heap.size w w'
theorem GiveN.p {w w' : World} {l : List Nat} {f : Nat} {e : Ending} (h : GiveN w l f e w') : GiveP w l f e w' := let ⟨_, h1, _, h3, h4⟩ := h; ⟨_, h1, h3, h4⟩
theorem or_bits (c n : Nat) (k : Bool) (h : c ≤ 3) (hn : n ≤ 31) : bits BinOp.or IntKind.u8 ((hd c k : Nat) : Int) (n : Int) = ((hd c k + n : Nat) : Int) :=
  (show ∀ (x : Fin 4) (y : Fin 32) (k : Bool), bits BinOp.or IntKind.u8 ((hd x.val k : Nat) : Int) (y.val : Int) = ((hd x.val k + y.val : Nat) : Int) by decide +kernel) ⟨c, by omega⟩ ⟨n, by omega⟩ k
theorem or31 (c : Nat) (k : Bool) (h : c ≤ 3) : bits BinOp.or IntKind.u8 ((hd c k : Nat) : Int) 31 = ((hd c k + 31 : Nat) : Int) := or_bits c 31 k h (by omega)
theorem or32 (c : Nat) (h : c ≤ 3) : bits BinOp.or IntKind.u8 ((c : Int) * 64) 32 = ((hd c true : Nat) : Int) :=
  (show ∀ x : Fin 4, bits BinOp.or IntKind.u8 ((x.val : Int) * 64) 32 = ((hd x.val true : Nat) : Int) by decide +kernel) ⟨c, by omega⟩
theorem hd_false (c : Nat) : ((hd c false : Nat) : Int) = (c : Int) * 64 := by unfold hd; simp; omega
theorem hd_le (c : Nat) (k : Bool) (h : c ≤ 3) : hd c k ≤ 224 := by unfold hd; cases k <;> simp <;> omega
theorem one_bytes {w : World} {x : Nat} (h : x < 256) : Rb (w.alloc (.cells #[.int .u8 (x : Int)] 5)) (some ⟨w.heap.size, 0, none⟩) [x] :=
  ⟨(Bk.new w 5 (cs8 [x])).rd 0, by intro y hy; simp at hy; omega⟩
set_option maxRecDepth 100000 in
set_option maxHeartbeats 1000000 in
theorem put_bad (c n : Nat) (k : Bool) (w : World) (hc : c < 256) (hn : n < 4294967296) (h : chk c n k ≠ 0) :
    Calls Try.prog 38 #[tagV c n k] w (GiveP w [] (chk c n k)) := by
  have h1 : ((chk c n k : Int) != 0) = true := by rw [bne_iff_ne]; omega
  obtain ⟨e0, he⟩ : ∃ e0, chk c n k = e0 := ⟨_, rfl⟩
  have HE := Lib.hid he
  rw [he] at h1 ⊢
  clear he h
  go_enter Try.func38, Try.ntmps38
  go_wp2_with (go_at_call 60; refine (check_any c n k _ hc hn).mono ?_; rintro e w1 ⟨rfl, hb⟩; rw [HE.out]; have HB := Lib.hid hb; clear hb)
  go_ret2
  exact ⟨none, rfl, Rb.nil, ((Below.refl _ _).alloc (Nat.le_refl _) _).trans (HB.out.mono (by simp))⟩
set_option maxRecDepth 100000 in
set_option maxHeartbeats 1000000 in
theorem put_small (c n : Nat) (k : Bool) (w : World) (hc : c < 256) (hn : n < 4294967296) (h : chk c n k = 0) (h31 : n < 31) :
    Calls Try.prog 38 #[tagV c n k] w (GiveN w (putL c n k) 0) := by
  have HP := Lib.hid (show putL c n k = [hd c k + n] from if_pos h31)
  have hc3 := (chk_zero h).1
  have H0 := Lib.hid h
  clear h
  have hl := hd_le c k hc3
  obtain ⟨E, hE⟩ : ∃ E, hd c k + n = E := ⟨_, rfl⟩
  have hEl : E < 256 := by omega
  have o1 := or_bits c n k hc3 (by omega)
  rw [hE] at o1
  have HE := Lib.hid hE
  clear hE
  cases k
  · rw [hd_false] at o1
    clear hl
    go_enter Try.func38, Try.ntmps38
    go_wp2_with (go_at_call 60; refine (check_any c n false _ hc hn).mono ?_; rintro e w1 ⟨rfl, hb⟩; rw [H0.out]; obtain ⟨c0, c1, c2, hsz⟩ := tag_cells hb; have HB := Lib.hid hb; clear hb)
    go_ret2
    rw [HP.out, HE.out]
    exact ⟨_, rfl, Nat.le_of_lt hsz, one_bytes hEl, (((Below.refl _ _).alloc (Nat.le_refl _) _).trans (HB.out.mono (by simp))).alloc (by omega) _⟩
  · have o2 := or32 c hc3
    generalize hd c true = D at *
    go_enter Try.func38, Try.ntmps38
    go_wp2_with (go_at_call 60; refine (check_any c n true _ hc hn).mono ?_; rintro e w1 ⟨rfl, hb⟩; rw [H0.out]; obtain ⟨c0, c1, c2, hsz⟩ := tag_cells hb; have HB := Lib.hid hb; clear hb)
    go_ret2
    rw [HP.out, HE.out]
    exact ⟨_, rfl, Nat.le_of_lt hsz, one_bytes hEl, (((Below.refl _ _).alloc (Nat.le_refl _) _).trans (HB.out.mono (by simp))).alloc (by omega) _⟩
/-- The cell of a group. -/
def octV (x : Nat × Bool) : Value := if x.2 then .int .u8 (bits BinOp.or IntKind.u8 (x.1 : Int) 128) else .int .u8 (x.1 : Int)
theorem octV_items (n L : Nat) : (items n L).map octV = cs8 ((items n L).map oct) := by
  unfold cs8
  rw [List.map_map]
  apply List.map_congr_left
  intro x hx
  have := items_lt hx
  obtain ⟨x1, x2⟩ := x
  cases x2
  · rfl
  · simp only [octV, Function.comp, oct, if_true, by8]
    rw [or128 x1 this]
theorem own_ne {A : World} {g : Nat} {t : TypeId} {cs : Array Value} {row : Option Nat} (h : A.heap[g]? = some (.cells cs t (0, 0))) (hr : ∀ r, row = some r → ∃ o : Obj, A.heap[r]? = some o ∧ o.isCells = false) : some g ≠ row := fun e => by
  obtain ⟨o, ho, hc⟩ := hr g e.symm
  rw [h] at ho
  cases ho
  cases hc
/-- What is known behind the first append. -/
theorem put_pre {w2 w3 : World} {L E : Nat} (hg : (((w2.alloc (.cells (List.replicate L (by8 0)).toArray 5)).alloc (.cells #[.slice (some ⟨w2.heap.size, 0, none⟩) 0 L] 26)).alloc (.cells #[.int .u8 (E : Int)] 5)).grownBy w3 (some w2.heap.size)) :
    Boxed w3 (w2.heap.size + 1) 26 (.slice (some ⟨w2.heap.size, 0, none⟩) 0 L) ∧ Below w2.heap.size w2 w3 ∧ w2.heap.size + 1 < w3.heap.size := by
  have h0 := (Boxed.new (w2.alloc (.cells (List.replicate L (by8 0)).toArray 5)) 26 (.slice (some ⟨w2.heap.size, 0, none⟩) 0 L)).alloc (.cells #[.int .u8 (E : Int)] 5)
  rw [World.size_alloc] at h0
  have h1 := h0.kept hg (by simp)
  exact ⟨h1, ((((Below.refl _ w2).alloc (Nat.le_refl _) _).alloc (by simp) _).alloc (by simp; omega) _).grown hg (by simp; omega) (fun k e => by injection e with e; omega), h1.lt⟩
/-- A round's end. -/
theorem body_end {w W w5 : World} {g L E b : Nat} {pre : List (Nat × Bool)} {x : Nat × Bool} {o : Obj} {a : Act} (hb : Below w.heap.size w w5) (hv : Boxed w5 (g + 1) 26 (.slice (some ⟨g, 0, none⟩) (1 + pre.length) L))
    (hbk : Bk w5 g 5 (((.int .u8 (E : Int) :: pre.map octV) ++ [octV x]) ++ List.replicate (L - ((.int .u8 (E : Int) :: pre.map octV) ++ [octV x]).length) (by8 0))) (hg : (W.alloc o).grownBy w5 (some g)) (hk : KeepsOthers (W.alloc o) w5) (hz : w5.heap.size = (W.alloc o).heap.size)
    (h4 : g + 1 < b) (hw : b < W.heap.size) (hgw : w.heap.size ≤ g) :
    ownPostK (KeepB b) (fun pre W => (Boxed W (g + 1) 26 (.slice (some ⟨g, 0, none⟩) (1 + pre.length) L) ∧ Bk W g 5 ((.int .u8 (E : Int) :: pre.map octV) ++ List.replicate (L - (1 + pre.length)) (by8 0))) ∧ Below w.heap.size w W ∧ b < W.heap.size)
      (fun _ _ _ => False) (pre ++ [x]) W Exit.normal a (w5.setCell ⟨g + 1, 0, none⟩ (.slice (some ⟨g, 0, none⟩) (1 + pre.length + 1) L)) := by
  refine ⟨((KeepsOthers.alloc W o).trans hk).trans (KeepsOthers.setCell _ _ _), ?_, ⟨?_, ?_⟩, hb.setCell (p := ⟨g + 1, 0, none⟩) (by show w.heap.size ≤ g + 1; omega) _, by show b < (w5.setCell _ _).heap.size; rw [show (w5.setCell ⟨g + 1, 0, none⟩ (.slice (some ⟨g, 0, none⟩) (1 + pre.length + 1) L)).heap.size = w5.heap.size by simp [World.setCell], hz, World.size_alloc]; omega⟩
  · unfold KeepB
    rw [World.cell?_setCell_other w5 ⟨g + 1, 0, none⟩ ⟨b, 0, none⟩ _ (by intro e; injection e with e; omega)]
    exact (World.cell?_of_block (hg.block b (by simp; omega) (by simp; omega))).trans (World.cell?_of_block (Below.heap_alloc W o b hw))
  · rw [List.length_append, List.length_singleton, ← Nat.add_assoc]
    exact hv.set _
  · have h := hbk.far (p := ⟨g + 1, 0, none⟩) (by simp) (.slice (some ⟨g, 0, none⟩) (1 + pre.length + 1) L)
    have e : ((.int .u8 (E : Int) :: pre.map octV) ++ [octV x]).length = 1 + (pre ++ [x]).length := by simp; omega
    rw [e] at h
    rw [List.map_append]
    exact h
/-- What has been built. -/
theorem put_rb {W : World} {g L E n D : Nat} {l : List Nat} {ob : Obj} (hb : Bk W g 5 ((.int .u8 (E : Int) :: (items n (gk n + 1)).map octV) ++ List.replicate (L - (1 + (items n (gk n + 1)).length)) (by8 0))) (hL : gk n + 2 = L) (h0 : 0 < n) (h64 : n < 2 ^ 64)
    (hl : l = E :: gl n) (hE : E < 256) (hK : W.heap[D]? = some (.deferred (some []))) : Rb (W.putObj D ob) (some ⟨g, 0, none⟩) l := by
  rw [items_length, show L - (1 + (gk n + 1)) = 0 by omega, List.replicate_zero, List.append_nil, octV_items, gl_of h0 h64] at hb
  have hne : g ≠ D := fun e => by subst e; rw [show W.heap[g]? = _ from hb] at hK; cases hK
  have hb2 : Bk (W.putObj D ob) g 5 (cs8 l) := by
    rw [hl]
    exact (World.putObj_heap_other hne).trans hb
  refine ⟨hb2.rd 0, ?_⟩
  rw [hl]
  refine All8.cons hE ?_
  rw [← gl_of h0 h64]
  intro y hy
  simp only [List.mem_map, items, List.mem_range] at hy
  obtain ⟨x, ⟨j, _, rfl⟩, rfl⟩ := hy
  exact oct_lt
set_option maxRecDepth 100000 in
set_option maxHeartbeats 2000000 in
theorem put_big_in (c n : Nat) (k : Bool) (m : Nat) (hm : 6 ≤ m) (w : World) (hc : c < 256) (hn : n < 4294967296) (h : chk c n k = 0) (h31 : 31 ≤ n) :
    CallsIn Fence.wide m Try.prog 38 #[tagV c n k] w (GiveN w (putL c n k) 0) := by
  have HP := Lib.hid (show putL c n k = (hd c k + 31) :: gl n from if_neg (by omega))
  have hc3 := (chk_zero h).1
  have h28 := (chk_zero h).2
  have hg := gk_le h28
  obtain ⟨L, hL⟩ : ∃ L, gk n + 2 = L := ⟨_, rfl⟩
  have hL1 : 2 ≤ L := by omega
  have hL5 : L ≤ 5 := by omega
  have HZ := Lib.hid (show sizeN c n k = L by unfold sizeN; rw [if_neg (by omega), if_neg (by omega), hL])
  have HL := Lib.hid hL
  clear hL
  have h1 : 1 ≤ m := by omega
  have H0 := Lib.hid h
  clear h
  have hl := hd_le c k hc3
  obtain ⟨E, hE⟩ : ∃ E, hd c k + 31 = E := ⟨_, rfl⟩
  have hEl : E < 256 := by omega
  have o1 := or31 c k hc3
  rw [hE] at o1
  have HE := Lib.hid hE
  clear hE
  cases k
  · rw [hd_false] at o1
    clear hl
    refine callsIn_of_wp_marks Try.func38 rfl trivial ?_ rfl
    simp only [Try.ntmps38, List.size_toArray, List.length_cons, List.length_nil, Nat.reduceAdd, Nat.reduceSub, Array.replicate_succ, Array.replicate_zero, List.push_toArray, List.append_toArray, List.nil_append, List.cons_append]
    gi_wp2_with (first | (refine ⟨trivial, ?_⟩; gi_at_call 60; refine (callsIn_wide.2 (check_any c n false _ hc hn)).mono ?_; rintro e w1 ⟨rfl, hb⟩; rw [H0.out]; obtain ⟨c0, c1, c2, hsz⟩ := tag_cells hb; have HB := Lib.hid hb; clear hb) | (refine ⟨trivial, ?_⟩; gi_at_call 61; refine (callsIn_wide.2 (size_any c n false _ hc hn)).mono ?_; rintro e w2 ⟨rfl, hb2⟩; rw [HZ.out]; have hmk := make_cap L (by omega) w2; have c2' := (hb2.cell (p := ⟨w.heap.size, 2, none⟩) hsz).trans c2; have hsz2 := Nat.lt_of_lt_of_le hsz hb2.size; have HB2 := Lib.hid hb2; clear hb2 c0 c1 c2) | (gi_at_builtin; go_must (refine wpListIn_app_room rfl _ _ rfl rfl (v := .int .u8 (E : Int)) [] rfl rfl rfl (((Bk.new w2 _ _).alloc _).alloc _) (by omega) (by simp [Value.oneCell']) (by first | (simp [go_sem]; done) | (go_simp; done)) ?_); intro w3 hbk3 hgr3 hsz3 hko3; obtain ⟨hv3, hB3, hlt3⟩ := put_pre hgr3; have c3 := (hB3.cell (p := ⟨w.heap.size, 2, none⟩) hsz2).trans c2'; have b3 := hv3.cell; have f3 := hv3.frozen; have HBk3 := Lib.hid hbk3; have HV3 := Lib.hid hv3; have HB3 := Lib.hid hB3; clear hbk3 hv3 hB3 hgr3 hko3 hsz3 hmk c2') | (refine ⟨trivial, ?_⟩; gi_at_call 62; refine (groups_in n _ _).mono ?_; rintro e w' ⟨rfl, rfl⟩))
    have HB0 := Lib.hid (show Below w.heap.size w w3 from (((Below.refl _ w).alloc (Nat.le_refl _) _).trans (HB.out.mono (by simp))).trans ((HB2.out.mono (by omega)).trans (HB3.out.mono (by omega))))
    have hv4 := (HV3.out.set (.slice (some ⟨w2.heap.size, 0, none⟩) 1 L))
    have hbk4 := (HBk3.out.far (p := ⟨w2.heap.size + 1, 0, none⟩) (by simp) (.slice (some ⟨w2.heap.size, 0, none⟩) 1 L))
    have hb4 := HB0.out.setCell (p := ⟨w2.heap.size + 1, 0, none⟩) (by show w.heap.size ≤ w2.heap.size + 1; omega) (.slice (some ⟨w2.heap.size, 0, none⟩) 1 L)
    have hz4 : w2.heap.size + 1 < (w3.setCell ⟨w2.heap.size + 1, 0, none⟩ (.slice (some ⟨w2.heap.size, 0, none⟩) 1 L)).heap.size := hv4.lt
    have hz3 : (w3.setCell ⟨w2.heap.size + 1, 0, none⟩ (.slice (some ⟨w2.heap.size, 0, none⟩) 1 L)).heap.size = w3.heap.size := by simp [World.setCell]
    rw [← hz3]
    generalize w3.setCell ⟨w2.heap.size + 1, 0, none⟩ (.slice (some ⟨w2.heap.size, 0, none⟩) 1 L) = w4 at *
    have hb := cell_new_l w4 (.int .u32 (n : Int)) 23
    clear c3 b3 f3 HV3 HBk3 HB3 HB2 HB hz3 hlt3
    refine wpIn_rangeFunc_ownF rfl h1 (gf := 73) (lb := #[.pointer (some ⟨w4.heap.size, 0, none⟩)]) rfl trivial (enters_of Try.func73 (by kernel_rfl) rfl)
      (iter_stops n (by omega) h28 (m - 1) (by omega) w4.heap.size _ (by simp) hb.1) KeepB.t (KeepB.b (by simp)) (Below.refl _ _) (fun _ => rfl)
      (fun pre W => (Boxed W (w2.heap.size + 1) 26 (.slice (some ⟨w2.heap.size, 0, none⟩) (1 + pre.length) L) ∧ Bk W w2.heap.size 5 ((.int .u8 (E : Int) :: pre.map octV) ++ List.replicate (L - (1 + pre.length)) (by8 0))) ∧ Below w.heap.size w W ∧ w4.heap.size < W.heap.size)
      (fun _ _ _ => False)
      (OwnFrom.and (Own.from (fun s A B row hs hg hr => ⟨hs.1.kept hg (own_ne hs.1 hr), hs.2.only hg (own_ne hs.2 hr)⟩) _) (OwnFrom.and (ownFrom_below (Nat.le_refl _) (by simp; omega)) (Own.from (fun s A B row hs hg hr => Nat.lt_of_lt_of_le hs hg.size) _)))
      (fun _ _ _ _ _ hs _ _ => hs)
      ⟨⟨hv4.alloc _, hbk4.alloc _⟩, hb4.alloc (by omega) _, by simp⟩
      (fun x => { tmps := #[tagV c n false, .pointer (some ⟨w.heap.size, 0, none⟩), .slice none 0 0, .int .i64 0, .int .i64 0, .int .u8 ((c : Int) * 64), .pointer (some ⟨w2.heap.size + 1, 0, none⟩), .int .u8 (x.1 : Int), .bool x.2,
        .agg #[.int .u8 (c : Int), .bool false, .int .u32 (n : Int)], .int .i64 0, .int .i64 0, .bool false, undef, .pointer (some ⟨w.heap.size, 0, none⟩), .int .u8 (c : Int), .int .u8 ((c : Int) * 64), .pointer (some ⟨w.heap.size, 1, none⟩), .bool false, undef, undef,
        .pointer (some ⟨w.heap.size, 2, none⟩), .int .u32 (n : Int), .bool (decide ((n : Int) < 31)), undef, undef, undef, undef, undef, undef, .agg #[.int .u8 (c : Int), .bool false, .int .u32 (n : Int)], .int .i64 (L : Int),
        .slice (some ⟨w2.heap.size, 0, none⟩) 0 L, .slice (some ⟨w2.heap.size, 0, none⟩) 0 L, .int .u8 ((c : Int) * 64), .int .u8 (E : Int), .slice (some ⟨w2.heap.size + 1 + 1, 0, none⟩) 1 1, .slice (some ⟨w2.heap.size, 0, none⟩) 1 L,
        .pointer (some ⟨w.heap.size, 2, none⟩), .int .u32 (n : Int), .func (.func 73) #[] #[.pointer (some ⟨w4.heap.size, 0, none⟩)], .int .u8 (x.1 : Int), .bool x.2, undef, undef, undef, undef, undef, undef, undef, undef], defers := [] }) ?assign ?body ?done ?stop
    case assign =>
      rintro l ⟨x1, x2⟩ W K hK
      gi_wp2_with fail
      simpa [encI] using hK
    case body =>
      rintro l pre ⟨x1, x2⟩ W ⟨⟨hvW, hbkW⟩, hBW, hzW⟩ hpl
      have hcW := hvW.cell
      have hfW := hvW.frozen
      have hplL : 1 + pre.length < L := by have := HL.out; omega
      have HvW := Lib.hid hvW
      have HbkW := Lib.hid hbkW
      have HBW := Lib.hid hBW
      clear hvW hbkW hBW
      cases x2
      · gi_wp2_with (gi_at_builtin; go_must (refine wpListIn_app_room (v := octV (x1, false)) rfl _ _ rfl rfl (.int .u8 (E : Int) :: pre.map octV) rfl rfl (by simp; omega) (by rw [List.length_cons, List.length_map, Nat.add_comm pre.length 1]; exact HbkW.out.alloc _) hplL (by simp [octV, Value.oneCell']) (by simp [octV, go_sem]; done) ?_); intro w5 hbk5 hgr5 hsz5 hko5; have hv5 := (HvW.out.alloc (.cells #[_] 5)).kept hgr5 (by simp); have c5 := hv5.cell; have f5 := hv5.frozen; have hB5 := Below.grown ((HBW.out).alloc HBW.out.size _) hgr5 (by simp; exact Nat.le_succ_of_le HBW.out.size) (fun k e => by injection e with e; omega); have HV5 := Lib.hid hv5; have HBk5 := Lib.hid hbk5; have HB5 := Lib.hid hB5; have HG5 := Lib.hid hgr5; have HK5 := Lib.hid hko5; have HZ5 := Lib.hid hsz5; clear hv5 hbk5 hB5 hgr5 hko5 hsz5)
        exact body_end HB5.out HV5.out HBk5.out HG5.out HK5.out HZ5.out hz4 hzW (by omega)
      · gi_wp2_with (gi_at_builtin; go_must (refine wpListIn_app_room (v := octV (x1, true)) rfl _ _ rfl rfl (.int .u8 (E : Int) :: pre.map octV) rfl rfl (by simp; omega) (by rw [List.length_cons, List.length_map, Nat.add_comm pre.length 1]; exact HbkW.out.alloc _) hplL (by simp [octV, Value.oneCell']) (by simp [octV, go_sem]; done) ?_); intro w5 hbk5 hgr5 hsz5 hko5; have hv5 := (HvW.out.alloc (.cells #[_] 5)).kept hgr5 (by simp); have c5 := hv5.cell; have f5 := hv5.frozen; have hB5 := Below.grown ((HBW.out).alloc HBW.out.size _) hgr5 (by simp; exact Nat.le_succ_of_le HBW.out.size) (fun k e => by injection e with e; omega); have HV5 := Lib.hid hv5; have HBk5 := Lib.hid hbk5; have HB5 := Lib.hid hB5; have HG5 := Lib.hid hgr5; have HK5 := Lib.hid hko5; have HZ5 := Lib.hid hsz5; clear hv5 hbk5 hB5 hgr5 hko5 hsz5)
        exact body_end HB5.out HV5.out HBk5.out HG5.out HK5.out HZ5.out hz4 hzW (by omega)
    case done =>
      rintro D ys W hD rfl ⟨⟨hvW, hbkW⟩, hBW, hzW⟩ hK
      have hcW := hvW.cell
      have HBW := Lib.hid hBW
      have HbkW := Lib.hid hbkW
      have HvW := Lib.hid hvW
      clear hBW hbkW hvW
      gi_wp2_with fail
      refine ⟨by simp, .inl ⟨_, _, rfl, run_takeDeferred hK, ?_⟩⟩
      have hLn := HL.out
      have hlen : (putL c n false).length = L := by rw [HP.out, List.length_cons, gl_length (by omega) (by omega)]; omega
      refine ⟨_, results_tmp2 rfl _ _ _, w2.heap.size, ?_, ?_, put_rb HbkW.out hLn (by omega) (by omega) ?_ ?_ hK, HBW.out.trans (belowK_b (w := w) (Nat.le_refl _) W D _ _ (by simp at hD; omega) hK rfl rfl)⟩
      · rw [hlen, items_length, show 1 + (gk n + 1) = L by omega]; rfl
      · omega
      · rw [HP.out, HE.out]
      · exact hEl
    case stop =>
      rintro D c pre W _ _ h _
      exact h.elim
  · have o2 := or32 c hc3
    generalize hd c true = D at *
    refine callsIn_of_wp_marks Try.func38 rfl trivial ?_ rfl
    simp only [Try.ntmps38, List.size_toArray, List.length_cons, List.length_nil, Nat.reduceAdd, Nat.reduceSub, Array.replicate_succ, Array.replicate_zero, List.push_toArray, List.append_toArray, List.nil_append, List.cons_append]
    gi_wp2_with (first | (refine ⟨trivial, ?_⟩; gi_at_call 60; refine (callsIn_wide.2 (check_any c n true _ hc hn)).mono ?_; rintro e w1 ⟨rfl, hb⟩; rw [H0.out]; obtain ⟨c0, c1, c2, hsz⟩ := tag_cells hb; have HB := Lib.hid hb; clear hb) | (refine ⟨trivial, ?_⟩; gi_at_call 61; refine (callsIn_wide.2 (size_any c n true _ hc hn)).mono ?_; rintro e w2 ⟨rfl, hb2⟩; rw [HZ.out]; have hmk := make_cap L (by omega) w2; have c2' := (hb2.cell (p := ⟨w.heap.size, 2, none⟩) hsz).trans c2; have hsz2 := Nat.lt_of_lt_of_le hsz hb2.size; have HB2 := Lib.hid hb2; clear hb2 c0 c1 c2) | (gi_at_builtin; go_must (refine wpListIn_app_room rfl _ _ rfl rfl (v := .int .u8 (E : Int)) [] rfl rfl rfl (((Bk.new w2 _ _).alloc _).alloc _) (by omega) (by simp [Value.oneCell']) (by first | (simp [go_sem]; done) | (go_simp; done)) ?_); intro w3 hbk3 hgr3 hsz3 hko3; obtain ⟨hv3, hB3, hlt3⟩ := put_pre hgr3; have c3 := (hB3.cell (p := ⟨w.heap.size, 2, none⟩) hsz2).trans c2'; have b3 := hv3.cell; have f3 := hv3.frozen; have HBk3 := Lib.hid hbk3; have HV3 := Lib.hid hv3; have HB3 := Lib.hid hB3; clear hbk3 hv3 hB3 hgr3 hko3 hsz3 hmk c2') | (refine ⟨trivial, ?_⟩; gi_at_call 62; refine (groups_in n _ _).mono ?_; rintro e w' ⟨rfl, rfl⟩))
    have HB0 := Lib.hid (show Below w.heap.size w w3 from (((Below.refl _ w).alloc (Nat.le_refl _) _).trans (HB.out.mono (by simp))).trans ((HB2.out.mono (by omega)).trans (HB3.out.mono (by omega))))
    have hv4 := (HV3.out.set (.slice (some ⟨w2.heap.size, 0, none⟩) 1 L))
    have hbk4 := (HBk3.out.far (p := ⟨w2.heap.size + 1, 0, none⟩) (by simp) (.slice (some ⟨w2.heap.size, 0, none⟩) 1 L))
    have hb4 := HB0.out.setCell (p := ⟨w2.heap.size + 1, 0, none⟩) (by show w.heap.size ≤ w2.heap.size + 1; omega) (.slice (some ⟨w2.heap.size, 0, none⟩) 1 L)
    have hz4 : w2.heap.size + 1 < (w3.setCell ⟨w2.heap.size + 1, 0, none⟩ (.slice (some ⟨w2.heap.size, 0, none⟩) 1 L)).heap.size := hv4.lt
    have hz3 : (w3.setCell ⟨w2.heap.size + 1, 0, none⟩ (.slice (some ⟨w2.heap.size, 0, none⟩) 1 L)).heap.size = w3.heap.size := by simp [World.setCell]
    rw [← hz3]
    generalize w3.setCell ⟨w2.heap.size + 1, 0, none⟩ (.slice (some ⟨w2.heap.size, 0, none⟩) 1 L) = w4 at *
    have hb := cell_new_l w4 (.int .u32 (n : Int)) 23
    clear c3 b3 f3 HV3 HBk3 HB3 HB2 HB hz3 hlt3
    refine wpIn_rangeFunc_ownF rfl h1 (gf := 73) (lb := #[.pointer (some ⟨w4.heap.size, 0, none⟩)]) rfl trivial (enters_of Try.func73 (by kernel_rfl) rfl)
      (iter_stops n (by omega) h28 (m - 1) (by omega) w4.heap.size _ (by simp) hb.1) KeepB.t (KeepB.b (by simp)) (Below.refl _ _) (fun _ => rfl)
      (fun pre W => (Boxed W (w2.heap.size + 1) 26 (.slice (some ⟨w2.heap.size, 0, none⟩) (1 + pre.length) L) ∧ Bk W w2.heap.size 5 ((.int .u8 (E : Int) :: pre.map octV) ++ List.replicate (L - (1 + pre.length)) (by8 0))) ∧ Below w.heap.size w W ∧ w4.heap.size < W.heap.size)
      (fun _ _ _ => False)
      (OwnFrom.and (Own.from (fun s A B row hs hg hr => ⟨hs.1.kept hg (own_ne hs.1 hr), hs.2.only hg (own_ne hs.2 hr)⟩) _) (OwnFrom.and (ownFrom_below (Nat.le_refl _) (by simp; omega)) (Own.from (fun s A B row hs hg hr => Nat.lt_of_lt_of_le hs hg.size) _)))
      (fun _ _ _ _ _ hs _ _ => hs)
      ⟨⟨hv4.alloc _, hbk4.alloc _⟩, hb4.alloc (by omega) _, by simp⟩
      (fun x => { tmps := #[tagV c n true, .pointer (some ⟨w.heap.size, 0, none⟩), .slice none 0 0, .int .i64 0, .int .i64 0, .int .u8 (D : Int), .pointer (some ⟨w2.heap.size + 1, 0, none⟩), .int .u8 (x.1 : Int), .bool x.2,
        .agg #[.int .u8 (c : Int), .bool true, .int .u32 (n : Int)], .int .i64 0, .int .i64 0, .bool false, undef, .pointer (some ⟨w.heap.size, 0, none⟩), .int .u8 (c : Int), .int .u8 ((c : Int) * 64), .pointer (some ⟨w.heap.size, 1, none⟩), .bool true, .int .u8 ((c : Int) * 64), .int .u8 (D : Int),
        .pointer (some ⟨w.heap.size, 2, none⟩), .int .u32 (n : Int), .bool (decide ((n : Int) < 31)), undef, undef, undef, undef, undef, undef, .agg #[.int .u8 (c : Int), .bool true, .int .u32 (n : Int)], .int .i64 (L : Int),
        .slice (some ⟨w2.heap.size, 0, none⟩) 0 L, .slice (some ⟨w2.heap.size, 0, none⟩) 0 L, .int .u8 (D : Int), .int .u8 (E : Int), .slice (some ⟨w2.heap.size + 1 + 1, 0, none⟩) 1 1, .slice (some ⟨w2.heap.size, 0, none⟩) 1 L,
        .pointer (some ⟨w.heap.size, 2, none⟩), .int .u32 (n : Int), .func (.func 73) #[] #[.pointer (some ⟨w4.heap.size, 0, none⟩)], .int .u8 (x.1 : Int), .bool x.2, undef, undef, undef, undef, undef, undef, undef, undef], defers := [] }) ?assign ?body ?done ?stop
    case assign =>
      rintro l ⟨x1, x2⟩ W K hK
      gi_wp2_with fail
      simpa [encI] using hK
    case body =>
      rintro l pre ⟨x1, x2⟩ W ⟨⟨hvW, hbkW⟩, hBW, hzW⟩ hpl
      have hcW := hvW.cell
      have hfW := hvW.frozen
      have hplL : 1 + pre.length < L := by have := HL.out; omega
      have HvW := Lib.hid hvW
      have HbkW := Lib.hid hbkW
      have HBW := Lib.hid hBW
      clear hvW hbkW hBW
      cases x2
      · gi_wp2_with (gi_at_builtin; go_must (refine wpListIn_app_room (v := octV (x1, false)) rfl _ _ rfl rfl (.int .u8 (E : Int) :: pre.map octV) rfl rfl (by simp; omega) (by rw [List.length_cons, List.length_map, Nat.add_comm pre.length 1]; exact HbkW.out.alloc _) hplL (by simp [octV, Value.oneCell']) (by simp [octV, go_sem]; done) ?_); intro w5 hbk5 hgr5 hsz5 hko5; have hv5 := (HvW.out.alloc (.cells #[_] 5)).kept hgr5 (by simp); have c5 := hv5.cell; have f5 := hv5.frozen; have hB5 := Below.grown ((HBW.out).alloc HBW.out.size _) hgr5 (by simp; exact Nat.le_succ_of_le HBW.out.size) (fun k e => by injection e with e; omega); have HV5 := Lib.hid hv5; have HBk5 := Lib.hid hbk5; have HB5 := Lib.hid hB5; have HG5 := Lib.hid hgr5; have HK5 := Lib.hid hko5; have HZ5 := Lib.hid hsz5; clear hv5 hbk5 hB5 hgr5 hko5 hsz5)
        exact body_end HB5.out HV5.out HBk5.out HG5.out HK5.out HZ5.out hz4 hzW (by omega)
      · gi_wp2_with (gi_at_builtin; go_must (refine wpListIn_app_room (v := octV (x1, true)) rfl _ _ rfl rfl (.int .u8 (E : Int) :: pre.map octV) rfl rfl (by simp; omega) (by rw [List.length_cons, List.length_map, Nat.add_comm pre.length 1]; exact HbkW.out.alloc _) hplL (by simp [octV, Value.oneCell']) (by simp [octV, go_sem]; done) ?_); intro w5 hbk5 hgr5 hsz5 hko5; have hv5 := (HvW.out.alloc (.cells #[_] 5)).kept hgr5 (by simp); have c5 := hv5.cell; have f5 := hv5.frozen; have hB5 := Below.grown ((HBW.out).alloc HBW.out.size _) hgr5 (by simp; exact Nat.le_succ_of_le HBW.out.size) (fun k e => by injection e with e; omega); have HV5 := Lib.hid hv5; have HBk5 := Lib.hid hbk5; have HB5 := Lib.hid hB5; have HG5 := Lib.hid hgr5; have HK5 := Lib.hid hko5; have HZ5 := Lib.hid hsz5; clear hv5 hbk5 hB5 hgr5 hko5 hsz5)
        exact body_end HB5.out HV5.out HBk5.out HG5.out HK5.out HZ5.out hz4 hzW (by omega)
    case done =>
      rintro D ys W hD rfl ⟨⟨hvW, hbkW⟩, hBW, hzW⟩ hK
      have hcW := hvW.cell
      have HBW := Lib.hid hBW
      have HbkW := Lib.hid hbkW
      have HvW := Lib.hid hvW
      clear hBW hbkW hvW
      gi_wp2_with fail
      refine ⟨by simp, .inl ⟨_, _, rfl, run_takeDeferred hK, ?_⟩⟩
      have hLn := HL.out
      have hlen : (putL c n true).length = L := by rw [HP.out, List.length_cons, gl_length (by omega) (by omega)]; omega
      refine ⟨_, results_tmp2 rfl _ _ _, w2.heap.size, ?_, ?_, put_rb HbkW.out hLn (by omega) (by omega) ?_ ?_ hK, HBW.out.trans (belowK_b (w := w) (Nat.le_refl _) W D _ _ (by simp at hD; omega) hK rfl rfl)⟩
      · rw [hlen, items_length, show 1 + (gk n + 1) = L by omega]; rfl
      · omega
      · rw [HP.out, HE.out]
      · exact hEl
    case stop =>
      rintro D c pre W _ _ h _
      exact h.elim
theorem putn_any (c n : Nat) (k : Bool) (w : World) (hc : c < 256) (hn : n < 4294967296) (h : chk c n k = 0) :
    Calls Try.prog 38 #[tagV c n k] w (GiveN w (putL c n k) 0) := by
  by_cases h31 : n < 31
  · exact put_small c n k w hc hn h h31
  · exact (callsIn_wide (n := 6)).1 (put_big_in c n k 6 (Nat.le_refl _) w hc hn h (by omega))
end Go.Proofs.Ytfbdeefeagednaa
namespace Go.Proofs.Ytfbdeefeagednaa
open Go.RowKit
/-- What getGroups reads: the number, how many octets, the error. -/
def ggA : Nat → Nat → Nat → List Nat → Nat × Nat × Nat
  | 0, _, _, _ => (0, 0, 9)
  | _ + 1, _, _, [] => (0, 0, 7)
  | f + 1, i, acc, x :: l => if i = 0 ∧ x = 128 then (0, 0, 9) else if 128 ≤ x then ggA f (i + 1) (acc * 128 + x % 128) l else if acc * 128 + x % 128 < 31 then (0, 0, 9) else (acc * 128 + x % 128, i + 1, 0)
def gg (l : List Nat) : Nat × Nat × Nat := ggA 4 0 0 l
end Go.Proofs.Ytfbdeefeagednaa
namespace Go.Proofs.Ytfbdeefeagednaa
open Go.RowKit
/-- What Get reads: class, number, form, size, error. -/
def rdT (c n : Nat) (k : Bool) (s : Nat) : Nat × Nat × Bool × Nat × Nat := if chk c n k ≠ 0 then (0, 0, false, 0, chk c n k) else (c, n, k, s, 0)
def rdL : List Nat → Nat × Nat × Bool × Nat × Nat
  | [] => (0, 0, false, 0, 7)
  | x :: r => if x % 32 = 31 then (if (gg r).2.2 ≠ 0 then (0, 0, false, 0, (gg r).2.2) else rdT (x / 64) (gg r).1 (decide (x / 32 % 2 = 1)) (1 + (gg r).2.1)) else rdT (x / 64) (x % 32) (decide (x / 32 % 2 = 1)) 1
end Go.Proofs.Ytfbdeefeagednaa
namespace Go.Proofs.Ytfbdeefeagednaa
open Go.RowKit
/-- The walk's step at the builtin append, by what it runs to. -/
theorem wpList_app {P : Program} {w : World} {ops : Array Oper} {rest : List Oper} {o : Oper} {a : Act} {Q : Exit → Act → World → Prop} (hgd : o.guard = none) (s x : Operand) (t1 t2 : TypeId)
    (ho : o.op = .call { callee := .builtin .append, args := #[s, x], argTypes := #[t1, t2] }) (u v : Value) (hs : a.eval s = u) (hx : a.eval x = v) {r : Value} {w1 : World}
    (hrun : (Builtin.append_ #[t1, t2] o.type #[u, v]).run P w = .ok r w1) (h : wpList P ops Q rest (a.put o.dst r) w1) : wpList P ops Q (o :: rest) a w := by
  refine wpList_plain hgd fun K hK => ?_
  have hK' := hK _ _ h
  unfold Oper.wp execOp
  simp only [ho, resolve, invoke, builtin, Sem.run_bind, Sem.run_pure, Result.andThen_ok, List.map_toArray, List.map_cons, List.map_nil, hs, hx, hrun]
  exact hK'
theorem cs8_length (l : List Nat) : (cs8 l).length = l.length := by unfold cs8; rw [List.length_map]
theorem gl_le {n : Nat} (h : n < 268435456) : (gl n).length ≤ 5 := by
  by_cases h0 : n = 0
  · subst h0; decide
  · rw [gl_length (by omega) (by omega)]; have := gk_le h; omega
theorem gl_all {n : Nat} (h : n < 268435456) : All8 (gl n) := by
  by_cases h0 : n = 0
  · subst h0; intro x hx; simp [gl, dgs, dgsF] at hx; omega
  · rw [← gl_of (n := n) (by omega) (by omega)]
    intro x hx
    simp only [List.mem_map, items, List.mem_range] at hx
    obtain ⟨y, ⟨j, _, rfl⟩, rfl⟩ := hx
    exact oct_lt
end Go.Proofs.Ytfbdeefeagednaa
namespace Go.Proofs.Ytfbdeefeagednaa
theorem hd_div (c n : Nat) (k : Bool) (_hc : c ≤ 3) (hn : n < 32) : (hd c k + n) / 64 = c ∧ (hd c k + n) % 32 = n ∧ decide ((hd c k + n) / 32 % 2 = 1) = k := by
  unfold hd
  cases k
  · simp only [Bool.false_eq_true, if_false, decide_eq_false_iff_not]; omega
  · simp only [if_true, decide_eq_true_iff]; omega
theorem ggA_cons (f i acc x : Nat) (l : List Nat) : ggA (f + 1) i acc (x :: l) = if i = 0 ∧ x = 128 then (0, 0, 9) else if 128 ≤ x then ggA f (i + 1) (acc * 128 + x % 128) l else if acc * 128 + x % 128 < 31 then (0, 0, 9) else (acc * 128 + x % 128, i + 1, 0) := rfl
/-- The octets of the d last groups. -/
def lastG (n d : Nat) : List Nat := (List.range d).map fun j => oct (item n (d - 1 - j))
theorem lastG_succ (n d : Nat) : lastG n (d + 1) = oct (item n d) :: lastG n d := by
  unfold lastG
  rw [List.range_succ_eq_map, List.map_cons, List.map_map]
  congr 1
  apply List.map_congr_left
  intro j _
  simp only [Function.comp]
  congr 2
  omega
theorem lastG_gl {n : Nat} (h : 0 < n) (h64 : n < 2 ^ 64) : lastG n (gk n + 1) = gl n := by
  rw [← gl_of h h64]
  unfold lastG items
  rw [List.map_map]
  rfl
theorem top_pos {n : Nat} (h : 0 < n) (h64 : n < 2 ^ 64) : 0 < n / 128 ^ gk n ∧ n / 128 ^ gk n < 128 := by
  obtain ⟨h1, h2⟩ := gk_spec h h64
  have hp : 0 < 128 ^ gk n := Nat.pow_pos (by omega)
  rw [Nat.pow_succ] at h1
  exact ⟨Nat.div_pos h2 hp, (Nat.div_lt_iff_lt_mul hp).2 (by rw [Nat.mul_comm]; exact h1)⟩
theorem oct_more (n d : Nat) (h : 0 < d) : oct (item n d) = 128 + n / 128 ^ d % 128 := by
  unfold oct item
  simp only [h, decide_true, if_true]
theorem oct_last (n : Nat) : oct (item n 0) = n % 128 := by simp [oct, item]
theorem gg_last (n : Nat) (h31 : 31 ≤ n) (h28 : n < 268435456) (after : List Nat) : ∀ d i, gk n + 1 = i + d → 1 ≤ d → ggA (4 - i) i (n / 128 ^ d) (lastG n d ++ after) = (n, gk n + 1, 0) := by
  have hk := gk_le h28
  have ht := top_pos (n := n) (by omega) (by omega)
  intro d
  induction d with
  | zero => intro i _ h; omega
  | succ d ih =>
    intro i hi _
    obtain ⟨f, hf⟩ : ∃ f, 4 - i = f + 1 := ⟨3 - i, by omega⟩
    rw [hf, lastG_succ, List.cons_append, ggA_cons]
    have hdiv : n / 128 ^ (d + 1) = n / 128 ^ d / 128 := by rw [Nat.pow_succ, Nat.div_div_eq_div_mul]
    by_cases hd : d = 0
    · subst hd
      rw [oct_last]
      have e : n / 128 ^ (0 + 1) * 128 + n % 128 % 128 = n := by omega
      rw [if_neg (by omega), if_neg (by omega), e, if_neg (by omega), hi]
    · rw [oct_more n d (by omega)]
      have e : n / 128 ^ (d + 1) * 128 + (128 + n / 128 ^ d % 128) % 128 = n / 128 ^ d := by rw [hdiv]; omega
      rw [if_neg (by
        intro ⟨h0, h1⟩
        have : d = gk n := by omega
        rw [this] at h1
        omega), if_pos (by omega), e, show f = 4 - (i + 1) by omega]
      exact ih (i + 1) (by omega) (by omega)
theorem gg_back (n : Nat) (h31 : 31 ≤ n) (h28 : n < 268435456) (after : List Nat) : gg (gl n ++ after) = (n, gk n + 1, 0) := by
  have h := gg_last n h31 h28 after (gk n + 1) 0 (by omega) (by omega)
  rw [lastG_gl (by omega) (by omega), Nat.div_eq_of_lt (gk_spec (by omega) (by omega)).1] at h
  exact h
theorem rdT_ok {c n s : Nat} {k : Bool} (h : chk c n k = 0) : rdT c n k s = (c, n, k, s, 0) := by unfold rdT; rw [if_neg (by omega)]
theorem rd_back (c n : Nat) (k : Bool) (after : List Nat) (h : chk c n k = 0) : rdL (putL c n k ++ after) = (c, n, k, (putL c n k).length, 0) := by
  obtain ⟨hc, hn⟩ := chk_zero h
  by_cases h31 : n < 31
  · obtain ⟨e1, e2, e3⟩ := hd_div c n k hc (by omega)
    rw [show putL c n k = [hd c k + n] from if_pos h31, List.singleton_append, rdL, e1, e2, e3, if_neg (by omega), rdT_ok h]
    rfl
  · obtain ⟨e1, e2, e3⟩ := hd_div c 31 k hc (by omega)
    rw [show putL c n k = (hd c k + 31) :: gl n from if_neg h31, List.cons_append, rdL, e1, e2, e3, if_pos rfl, gg_back n (by omega) hn, if_neg (by simp), rdT_ok h, List.length_cons, gl_length (by omega) (by omega)]
    rw [show 1 + (gk n + 1) = gk n + 1 + 1 by omega]
end Go.Proofs.Ytfbdeefeagednaa
