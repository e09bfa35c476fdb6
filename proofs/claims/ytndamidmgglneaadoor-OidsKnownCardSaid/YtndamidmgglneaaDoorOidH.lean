/-
  Package oids: the iterator over the octets of a subidentifier.
  Conditions: none.
-/
import Derived.Test.YtndamidmgglneaaDoorOidA
import Derived.Test.YtndamidmgglneaaDoorTagB
import Derived.Test.YtndamidmgglneaaDoorShelf
import Derived.RangeFuncNested
import Derived.RangeFuncBound
import Derived.RangeFuncCalls
import Derived.RangeFuncLeaves
import Derived.RangeFuncBox
import Derived.Shelf.Abstract
import Derived.Shelf.RegionOpen
import Derived.WalkKit
import Derived.OwnWalkIn
import Derived.TacticsInMore
import Derived.LoopNIn
import Derived.LoopIn
namespace Go.Proofs.YtndamidmgglneaaDoor
open Go.RowKit Go.Shelf
attribute [local go_sem] Oper.semAt_some

/-- A box holds what it held. -/
def KeepB (Bn : Nat) (A B : World) : Prop := B.cell? ⟨Bn, 0, none⟩ = A.cell? ⟨Bn, 0, none⟩
theorem KeepB.t {Bn : Nat} : ∀ {A B C : World}, KeepB Bn A B → KeepB Bn B C → KeepB Bn A C := fun h k => Eq.trans k h
theorem KeepB.b {Bn : Nat} {w : World} (h : Bn < w.heap.size) : ∀ (W : World) (l : Nat) (o o' : Obj), w.heap.size ≤ l → W.heap[l]? = some o → o.isCells = false → o.isWalk = false → KeepB Bn W (W.putObj l o') := fun W l o o' hl ho hc hw =>
  (belowK_b (w := w) (n₀ := Bn + 1) h W l o o' hl ho hc hw).cell (p := ⟨Bn, 0, none⟩) (Nat.lt_succ_self _)

/-- What is handed to a round. -/
abbrev encI (x : Nat) : Array Value := #[.int .u8 (x : Int)]

theorem andNot128 (x : Nat) (h : x < 256) : bits BinOp.andNot IntKind.u8 (x : Int) 128 = ((x % 128 : Nat) : Int) :=
  (show ∀ x : Fin 256, bits BinOp.andNot IntKind.u8 (x.val : Int) 128 = ((x.val % 128 : Nat) : Int) by decide +kernel) ⟨x, h⟩
theorem or128 (x : Nat) (h : x < 128) : bits BinOp.or IntKind.u8 (x : Int) 128 = ((128 + x : Nat) : Int) :=
  (show ∀ x : Fin 128, bits BinOp.or IntKind.u8 (x.val : Int) 128 = ((128 + x.val : Nat) : Int) by decide +kernel) ⟨x, h⟩
theorem item_bits (n t : Nat) : bits BinOp.andNot IntKind.u8 ((n : Int) / 2 ^ (7 * t) % 256) 128 = ((item n t).1 : Int) := by
  have e : ((n : Int) / 2 ^ (7 * t) % 256) = ((n / 128 ^ t % 256 : Nat) : Int) := by
    rw [show 128 = 2 ^ 7 from rfl, ← Nat.pow_mul]; simp
  rw [e, andNot128 _ (Nat.mod_lt _ (by omega))]
  unfold item
  simp only
  omega
theorem wrap64_in {x : Int} (h : -9223372036854775808 ≤ x) (h2 : x ≤ 9223372036854775807) : wrap64 x = x := by unfold wrap64; omega
/-- The octets of a number. -/
def ocs (n : Nat) : List Nat := (items n (gk n + 1)).map oct
theorem ocs_length (n : Nat) : (ocs n).length = gk n + 1 := by unfold ocs; rw [List.length_map, items_length]
theorem gk5 {n : Nat} (h : n < 4294967296) : gk n ≤ 4 := by
  have := Lib.bitLen_le n 32 (by omega) h
  unfold gk; omega
theorem ocs_gl {n : Nat} (h : n < 2 ^ 64) : ocs n = gl n := by
  rcases Nat.eq_zero_or_pos n with rfl | h0
  · decide
  · exact gl_of h0 h
theorem item_lt (n t : Nat) : (item n t).1 < 128 := Nat.mod_lt _ (by omega)
theorem ocs_take {n j t : Nat} (h : gk n = j + t) : (ocs n).take (j + 1) = (ocs n).take j ++ [oct (item n t)] := by
  have := items_take (n := n) (L := gk n + 1) (j := j) (by omega)
  unfold ocs
  rw [← List.map_take, this, List.map_append, List.map_take, show gk n + 1 - 1 - j = t by omega]
  rfl
theorem len_gk {n : Nat} (h2 : n < 4294967296) : wrap64 ((max 0 (wrap64 ((Lib.bitLen n : Int) - 1))).tdiv 7) = (gk n : Int) := by
  have h3 := Lib.bitLen_le n 32 (by omega) h2
  unfold gk
  generalize Lib.bitLen n = b at *
  rw [wrap64_in (x := ((b : Int) - 1)) (by omega) (by omega), show max 0 ((b : Int) - 1) = ((b - 1 : Nat) : Int) by omega, Int.tdiv_eq_ediv_of_nonneg (by omega), wrap64_in (by omega) (by omega)]
  omega

set_option maxRecDepth 100000 in
set_option maxHeartbeats 2000000 in
theorem iter_in (n0 : Nat) (hn2 : n0 < 4294967296) (n : Nat) (hn : 3 ≤ n) (l Bn : Nat) (J Jx : List Nat → World → Prop)
    (hY : ∀ pre x W, J pre W → pre.length < gk n0 + 1 → YieldAt Fence.wide (n - 1) Tryd.prog l (encI x) W fun e W' =>
      (e = .returned (.bool true) ∧ J (pre ++ [x]) W' ∧ KeepB Bn W W') ∨ (e = .returned (.bool false) ∧ Jx (pre ++ [x]) W'))
    (W : World) (hc : W.cell? ⟨Bn, 0, none⟩ = some (.int .u32 (n0 : Int))) (h0 : J [] W) :
    CallsIn Fence.wide n Tryd.prog 36 #[.func (.yield l) #[] #[], .pointer (some ⟨Bn, 0, none⟩)] W fun e W' => (∃ v, e = .returned v) ∧
      ((∃ ys, ys = ocs n0 ∧ J ys W') ∨ (∃ pre, pre <+: ocs n0 ∧ Jx pre W')) := by
  refine callsIn_of_wp Tryd.func36 rfl trivial ?_ rfl
  simp only [Tryd.ntmps36, List.size_toArray, List.length_cons, List.length_nil, Nat.reduceAdd, Nat.reduceSub, Array.replicate_succ, Array.replicate_zero, List.push_toArray, List.append_toArray, List.nil_append, List.cons_append]
  have h1 : 1 ≤ n := by omega
  have hg := gk5 hn2
  gi_wp2_with (refine ⟨trivial, ?_⟩; gi_at_call 37; refine (callsIn_wide.2 (Tryd.bits_Len32 _ _ (by omega) (by omega))).mono ?_; rintro e w1 ⟨rfl, rfl⟩)
  gi_loopw [4, 5] (fun i _ wr => ∃ j : Nat, j ≤ gk n0 + 1 ∧ i = .int .i64 ((gk n0 : Int) - j) ∧ J ((ocs n0).take j) wr ∧ KeepB Bn w1 wr) (fun i _ _ => (intOf i + 1).toNat)
  case atStart =>
    exact ⟨0, by omega, by rw [len_gk hn2]; simp, by simpa using h0, rfl⟩
  case round =>
    obtain ⟨j, hj, rfl, hJ, hB⟩ := hrel
    by_cases hjl : j = gk n0 + 1
    · subst hjl
      rw [List.take_of_length_le (by rw [ocs_length]; exact Nat.le_refl _)] at hJ
      gi_wp2_with fail
      go_end0
      exact ⟨⟨_, rfl⟩, .inl ⟨_, rfl, hJ⟩⟩
    · obtain ⟨t, ht⟩ : ∃ t, gk n0 = j + t := ⟨gk n0 - j, by omega⟩
      have e1 : ((gk n0 : Int) - j) = (t : Int) := by omega
      rw [e1]
      have hcr : wr.cell? ⟨Bn, 0, none⟩ = some (.int .u32 (n0 : Int)) := hB.trans hc
      obtain ⟨x, hx⟩ : ∃ x, oct (item n0 t) = x := ⟨_, rfl⟩
      obtain ⟨fn, tmps, assign, body, hy, hR⟩ := hY _ x wr hJ (by rw [List.length_take, ocs_length]; omega)
      have htk := ocs_take ht
      rw [hx] at htk
      have HT := Lib.hid htk
      have hbits := item_bits n0 t
      have hlt := item_lt n0 t
      have ht4 : t ≤ 4 := by omega
      clear htk e1 hJ hg
      simp only [encI] at hy
      by_cases ht0 : t = 0
      · subst ht0
        have hb2 : bits BinOp.andNot IntKind.u8 ((n0 : Int) % 256) 128 = (x : Int) := by
          have : ((item n0 0).1 : Int) = (x : Int) := by rw [← hx]; simp [oct, item]
          rw [← this, ← hbits]; simp
        have HTT := Lib.hid ht
        clear hx hbits ht
        rw [show ((0 : Nat) : Int) = 0 from rfl]
        gi_wp2_with fail
        refine hR.mono ?_
        rintro e W3 (⟨rfl, hJ3, hk3⟩ | ⟨rfl, hJx3⟩)
        · gi_wp2_with fail
          rw [← HT.out] at hJ3
          exact ⟨⟨j + 1, by omega, by have := HTT.out; congr 1; omega, hJ3, hk3.trans hB⟩, by simp [intOf]⟩
        · gi_wp2_with fail
          refine bodyPost_ret (results_none rfl _ _ _) rfl ?_
          rw [← HT.out] at hJx3
          exact ⟨⟨_, rfl⟩, .inr ⟨_, List.take_prefix _ _, hJx3⟩⟩
      · have hpos : 0 < t := by omega
        obtain ⟨y, hy0⟩ : ∃ y, (item n0 t).1 = y := ⟨_, rfl⟩
        rw [hy0] at hbits hlt
        have hor : bits BinOp.or IntKind.u8 (y : Int) 128 = (x : Int) := by
          rw [or128 y hlt, ← hx, ← hy0]
          congr 1
          simp [oct, item, hpos]
        have HTT := Lib.hid ht
        clear hx ht ht0 hy0
        gi_wp2_with fail
        refine hR.mono ?_
        rintro e W3 (⟨rfl, hJ3, hk3⟩ | ⟨rfl, hJx3⟩)
        · gi_wp2_with fail
          rw [← HT.out] at hJ3
          exact ⟨⟨j + 1, by omega, by have := HTT.out; congr 1; omega, hJ3, hk3.trans hB⟩, by simp [intOf]⟩
        · gi_wp2_with fail
          refine bodyPost_ret (results_none rfl _ _ _) rfl ?_
          rw [← HT.out] at hJx3
          exact ⟨⟨_, rfl⟩, .inr ⟨_, List.take_prefix _ _, hJx3⟩⟩
theorem iter_stops (n0 : Nat) (hn2 : n0 < 4294967296) (n : Nat) (hn : 3 ≤ n) (Bn : Nat) (w : World) (hBn : Bn < w.heap.size) (hc : w.cell? ⟨Bn, 0, none⟩ = some (.int .u32 (n0 : Int))) :
    SeqStopsK Fence.wide n Tryd.prog 36 #[.pointer (some ⟨Bn, 0, none⟩)] encI (KeepB Bn) (fun ys => ys = ocs n0) (fun pre => pre <+: ocs n0) (gk n0 + 1) w := fun l J Jx W hW _ _ hY h0 =>
  iter_in n0 hn2 n hn l Bn J Jx hY W ((hW.cell (p := ⟨Bn, 0, none⟩) hBn).trans hc) h0
end Go.Proofs.YtndamidmgglneaaDoor
