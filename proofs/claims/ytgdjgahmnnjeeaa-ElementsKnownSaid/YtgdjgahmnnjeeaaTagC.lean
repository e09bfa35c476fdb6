/-
  Package tags: the iterator over the groups of a number.
  Conditions: the number is that of a valid tag, and above 0.
-/
import Derived.Test.YtgdjgahmnnjeeaaTagA
import Derived.Test.YtgdjgahmnnjeeaaTagB
import Derived.Test.YtgdjgahmnnjeeaaShelf
import Derived.RangeFuncNested
import Derived.RangeFuncBound
import Derived.RangeFuncCalls
import Derived.RangeFuncLeaves
import Derived.RangeFuncBox
import Derived.Shelf.Abstract
import Derived.Shelf.RegionOpen
import Derived.WalkKit
import Derived.OwnWalkIn
import Derived.TacticsInMore
import Derived.LoopNIn
import Derived.LoopIn
namespace Go.Proofs.Ytgdjgahmnnjeeaa
open Go.RowKit Go.Shelf
attribute [local go_sem] Oper.semAt_some

/-- A box holds what it held. -/
def KeepB (Bn : Nat) (A B : World) : Prop := B.cell? ⟨Bn, 0, none⟩ = A.cell? ⟨Bn, 0, none⟩
theorem KeepB.t {Bn : Nat} : ∀ {A B C : World}, KeepB Bn A B → KeepB Bn B C → KeepB Bn A C := fun h k => Eq.trans k h
theorem KeepB.b {Bn : Nat} {w : World} (h : Bn < w.heap.size) : ∀ (W : World) (l : Nat) (o o' : Obj), w.heap.size ≤ l → W.heap[l]? = some o → o.isCells = false → o.isWalk = false → KeepB Bn W (W.putObj l o') := fun W l o o' hl ho hc hw =>
  (belowK_b (w := w) (n₀ := Bn + 1) h W l o o' hl ho hc hw).cell (p := ⟨Bn, 0, none⟩) (Nat.lt_succ_self _)

/-- What is handed to a round. -/
abbrev encI (x : Nat × Bool) : Array Value := #[.int .u8 (x.1 : Int), .bool x.2]

theorem andNot128 (x : Nat) (h : x < 256) : bits BinOp.andNot IntKind.u8 (x : Int) 128 = ((x % 128 : Nat) : Int) :=
  (show ∀ x : Fin 256, bits BinOp.andNot IntKind.u8 (x.val : Int) 128 = ((x.val % 128 : Nat) : Int) by decide +kernel) ⟨x, h⟩
theorem or128 (x : Nat) (h : x < 128) : bits BinOp.or IntKind.u8 (x : Int) 128 = ((128 + x : Nat) : Int) :=
  (show ∀ x : Fin 128, bits BinOp.or IntKind.u8 (x.val : Int) 128 = ((128 + x.val : Nat) : Int) by decide +kernel) ⟨x, h⟩
theorem item_bits (n t : Nat) : bits BinOp.andNot IntKind.u8 ((n : Int) / 2 ^ (7 * t) % 256) 128 = ((item n t).1 : Int) := by
  have e : ((n : Int) / 2 ^ (7 * t) % 256) = ((n / 128 ^ t % 256 : Nat) : Int) := by
    rw [show 128 = 2 ^ 7 from rfl, ← Nat.pow_mul]; simp
  rw [e, andNot128 _ (Nat.mod_lt _ (by omega))]
  unfold item
  simp only
  omega
theorem wrap64_in {x : Int} (h : -9223372036854775808 ≤ x) (h2 : x ≤ 9223372036854775807) : wrap64 x = x := by unfold wrap64; omega
theorem len_gk (n : Nat) (h : 0 < n) (h2 : n < 268435456) : wrap64 ((wrap64 ((Lib.bitLen n : Int) - 1)).tdiv 7) = (gk n : Int) := by
  have h1 := (Lib.bitLenAux_bounds 64 n (by omega) (by omega)).1
  change 1 ≤ Lib.bitLen n at h1
  have h3 := Lib.bitLen_le n 28 (by omega) h2
  unfold gk
  generalize Lib.bitLen n = b at *
  rw [show ((b : Int) - 1) = ((b - 1 : Nat) : Int) by omega, wrap64_in (x := ((b - 1 : Nat) : Int)) (by omega) (by omega), Int.tdiv_eq_ediv_of_nonneg (by omega), wrap64_in (by omega) (by omega)]
  omega

set_option maxRecDepth 100000 in
set_option maxHeartbeats 2000000 in
theorem iter_in (n0 : Nat) (hn1 : 0 < n0) (hn2 : n0 < 268435456) (n : Nat) (hn : 3 ≤ n) (l Bn : Nat) (J Jx : List (Nat × Bool) → World → Prop)
    (hY : ∀ pre x W, J pre W → pre.length < gk n0 + 1 → YieldAt Fence.wide (n - 1) Try.prog l (encI x) W fun e W' =>
      (e = .returned (.bool true) ∧ J (pre ++ [x]) W' ∧ KeepB Bn W W') ∨ (e = .returned (.bool false) ∧ Jx (pre ++ [x]) W'))
    (W : World) (hc : W.cell? ⟨Bn, 0, none⟩ = some (.int .u32 (n0 : Int))) (h0 : J [] W) :
    CallsIn Fence.wide n Try.prog 79 #[.func (.yield l) #[] #[], .pointer (some ⟨Bn, 0, none⟩)] W fun e W' => (∃ v, e = .returned v) ∧
      ((∃ ys, ys = items n0 (gk n0 + 1) ∧ J ys W') ∨ (∃ pre, pre <+: items n0 (gk n0 + 1) ∧ Jx pre W')) := by
  refine callsIn_of_wp Try.func79 rfl trivial ?_ rfl
  simp only [Try.ntmps79, List.size_toArray, List.length_cons, List.length_nil, Nat.reduceAdd, Nat.reduceSub, Array.replicate_succ, Array.replicate_zero, List.push_toArray, List.append_toArray, List.nil_append, List.cons_append]
  have h1 : 1 ≤ n := by omega
  have hg := gk_le hn2
  have hx1 := (Int.natCast_pos (n := n0)).2 hn1
  gi_wp2_with (refine ⟨trivial, ?_⟩; gi_at_call 80; refine (callsIn_wide.2 (Try.bits_Len32 _ _ (by omega) (by omega))).mono ?_; rintro e w1 ⟨rfl, rfl⟩)
  gi_loopw [4] (fun i wr => ∃ j : Nat, j ≤ gk n0 + 1 ∧ i = .int .i64 ((gk n0 : Int) - j) ∧ J ((items n0 (gk n0 + 1)).take j) wr ∧ KeepB Bn w1 wr) (fun i _ => (intOf i + 1).toNat)
  case atStart =>
    exact ⟨0, by omega, by rw [len_gk n0 hn1 hn2]; simp, by simpa using h0, rfl⟩
  case round =>
    obtain ⟨j, hj, rfl, hJ, hB⟩ := hrel
    by_cases hjl : j = gk n0 + 1
    · subst hjl
      rw [List.take_of_length_le (by rw [items_length]; omega)] at hJ
      gi_wp2_with fail
      go_end0
      exact ⟨⟨_, rfl⟩, .inl ⟨_, rfl, hJ⟩⟩
    · obtain ⟨t, ht⟩ : ∃ t, gk n0 = j + t := ⟨gk n0 - j, by omega⟩
      have e1 : ((gk n0 : Int) - j) = (t : Int) := by omega
      rw [e1]
      have hcr : wr.cell? ⟨Bn, 0, none⟩ = some (.int .u32 (n0 : Int)) := hB.trans hc
      obtain ⟨fn, tmps, assign, body, hy, hR⟩ := hY _ (item n0 t) wr hJ (by rw [List.length_take, items_length]; omega)
      have htk := items_take (n := n0) (L := gk n0 + 1) (j := j) (by omega)
      rw [show gk n0 + 1 - 1 - j = t by omega] at htk
      have HT := Lib.hid htk
      have hbits := item_bits n0 t
      have h2 : (item n0 t).2 = decide (0 < t) := rfl
      generalize item n0 t = x at *
      obtain ⟨x1, x2⟩ := x
      simp only at hbits h2
      subst h2
      clear htk e1 hJ
      simp only [encI] at hy
      gi_wp2_with fail
      refine hR.mono ?_
      rintro e W3 (⟨rfl, hJ3, hk3⟩ | ⟨rfl, hJx3⟩)
      · gi_wp2_with fail
        rw [← HT.out] at hJ3
        exact ⟨⟨j + 1, by omega, by congr 1; omega, hJ3, hk3.trans hB⟩, by simp [intOf]⟩
      · gi_wp2_with fail
        refine bodyPost_ret (results_none rfl _ _ _) rfl ?_
        rw [← HT.out] at hJx3
        exact ⟨⟨_, rfl⟩, .inr ⟨_, List.take_prefix _ _, hJx3⟩⟩
theorem iter_stops (n0 : Nat) (hn1 : 0 < n0) (hn2 : n0 < 268435456) (n : Nat) (hn : 3 ≤ n) (Bn : Nat) (w : World) (hBn : Bn < w.heap.size) (hc : w.cell? ⟨Bn, 0, none⟩ = some (.int .u32 (n0 : Int))) :
    SeqStopsK Fence.wide n Try.prog 79 #[.pointer (some ⟨Bn, 0, none⟩)] encI (KeepB Bn) (fun ys => ys = items n0 (gk n0 + 1)) (fun pre => pre <+: items n0 (gk n0 + 1)) (gk n0 + 1) w := fun l J Jx W hW _ _ hY h0 =>
  iter_in n0 hn1 hn2 n hn l Bn J Jx hY W ((hW.cell (p := ⟨Bn, 0, none⟩) hBn).trans hc) h0
end Go.Proofs.Ytgdjgahmnnjeeaa
