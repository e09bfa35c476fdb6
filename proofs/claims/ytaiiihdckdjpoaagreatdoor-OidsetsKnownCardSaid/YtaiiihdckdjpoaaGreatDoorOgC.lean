/-
  Package oids: the iterator over the octets of a subidentifier.
  Conditions: none.
-/
import Derived.Test.YtaiiihdckdjpoaaGreatDoorOgB
import Derived.Test.YtaiiihdckdjpoaaGreatDoorOgA
import Derived.Test.YtaiiihdckdjpoaaGreatDoorShelf
import Derived.RangeFuncNested
import Derived.RangeFuncBound
import Derived.RangeFuncCalls
import Derived.RangeFuncLeaves
import Derived.RangeFuncBox
import Derived.Shelf.Abstract
import Derived.Shelf.RegionOpen
import Derived.WalkKit
import Derived.OwnWalkIn
import Derived.TacticsInMore
import Derived.LoopNIn
import Derived.LoopIn
import Derived.Laws.AppendOwnNone
import Derived.Deep.Onto
import Derived.Laws.ResultCell
import Derived.Shelf.Strconv.Itoa3
import Derived.Lib.AppendIntMem
import Derived.Deep.RegionHeld3
import Derived.StillTailTactics
namespace Go.Proofs.YtaiiihdckdjpoaaGreatDoor
open Go.RowKit Go.Shelf
attribute [local go_sem] Oper.semAt_some

/-- A box holds what it held. -/
def KeepB (Bn : Nat) (A B : World) : Prop := B.cell? ⟨Bn, 0, none⟩ = A.cell? ⟨Bn, 0, none⟩
theorem KeepB.t {Bn : Nat} : ∀ {A B C : World}, KeepB Bn A B → KeepB Bn B C → KeepB Bn A C := fun h k => Eq.trans k h
theorem KeepB.b {Bn : Nat} {w : World} (h : Bn < w.heap.size) : ∀ (W : World) (l : Nat) (o o' : Obj), w.heap.size ≤ l → W.heap[l]? = some o → o.isCells = false → o.isWalk = false → KeepB Bn W (W.putObj l o') := fun W l o o' hl ho hc hw =>
  (belowK_b (w := w) (n₀ := Bn + 1) h W l o o' hl ho hc hw).cell (p := ⟨Bn, 0, none⟩) (Nat.lt_succ_self _)

/-- What is handed to a round. -/
abbrev encI (x : Nat) : Array Value := #[.int .u8 (x : Int)]

theorem andNot128 (x : Nat) (h : x < 256) : bits BinOp.andNot IntKind.u8 (x : Int) 128 = ((x % 128 : Nat) : Int) :=
  (show ∀ x : Fin 256, bits BinOp.andNot IntKind.u8 (x.val : Int) 128 = ((x.val % 128 : Nat) : Int) by decide +kernel) ⟨x, h⟩
theorem or128 (x : Nat) (h : x < 128) : bits BinOp.or IntKind.u8 (x : Int) 128 = ((128 + x : Nat) : Int) :=
  (show ∀ x : Fin 128, bits BinOp.or IntKind.u8 (x.val : Int) 128 = ((128 + x.val : Nat) : Int) by decide +kernel) ⟨x, h⟩
theorem item_bits (n t : Nat) : bits BinOp.andNot IntKind.u8 ((n : Int) / 2 ^ (7 * t) % 256) 128 = ((item n t).1 : Int) := by
  have e : ((n : Int) / 2 ^ (7 * t) % 256) = ((n / 128 ^ t % 256 : Nat) : Int) := by
    rw [show 128 = 2 ^ 7 from rfl, ← Nat.pow_mul]; simp
  rw [e, andNot128 _ (Nat.mod_lt _ (by omega))]
  unfold item
  simp only
  omega
theorem wrap64_in {x : Int} (h : -9223372036854775808 ≤ x) (h2 : x ≤ 9223372036854775807) : wrap64 x = x := by unfold wrap64; omega
/-- The octets of a number. -/
def ogs (n : Nat) : List Nat := (items n (gk n + 1)).map oct
theorem ocs_length (n : Nat) : (ogs n).length = gk n + 1 := by unfold ogs; rw [List.length_map, items_length]
theorem gk5 {n : Nat} (h : n < 4294967296) : gk n ≤ 4 := by
  have := Lib.bitLen_le n 32 (by omega) h
  unfold gk; omega
theorem ocs_gl {n : Nat} (h : n < 2 ^ 64) : ogs n = gl n := by
  rcases Nat.eq_zero_or_pos n with rfl | h0
  · decide
  · exact gl_of h0 h
theorem item_lt (n t : Nat) : (item n t).1 < 128 := Nat.mod_lt _ (by omega)
theorem ogs_take {n j t : Nat} (h : gk n = j + t) : (ogs n).take (j + 1) = (ogs n).take j ++ [oct (item n t)] := by
  have := items_take (n := n) (L := gk n + 1) (j := j) (by omega)
  unfold ogs
  rw [← List.map_take, this, List.map_append, List.map_take, show gk n + 1 - 1 - j = t by omega]
  rfl
theorem len_gk {n : Nat} (h2 : n < 4294967296) : wrap64 ((max 0 (wrap64 ((Lib.bitLen n : Int) - 1))).tdiv 7) = (gk n : Int) := by
  have h3 := Lib.bitLen_le n 32 (by omega) h2
  unfold gk
  generalize Lib.bitLen n = b at *
  rw [wrap64_in (x := ((b : Int) - 1)) (by omega) (by omega), show max 0 ((b : Int) - 1) = ((b - 1 : Nat) : Int) by omega, Int.tdiv_eq_ediv_of_nonneg (by omega), wrap64_in (by omega) (by omega)]
  omega

end Go.Proofs.YtaiiihdckdjpoaaGreatDoor

/-!
  Package oids: the contract of Put.
  Conditions: the OID's cells are in their kinds.
-/
namespace Go.Proofs.YtaiiihdckdjpoaaGreatDoor
open Go.RowKit Go.Shelf
attribute [local go_sem] Oper.semAt_some

/-- The subidentifiers. -/
def ids (n : Nat) (l : List Nat) : List Nat := match l with
  | a :: b :: m => (40 * a + b) :: m.take (n - 2)
  | _ => []
/-- The content octets. -/
def putO (n : Nat) (l : List Nat) : List Nat := (ids n l).flatMap ogs
def GiveP (w : World) (l : List Nat) (f : Nat) (e : Ending) (w' : World) : Prop :=
  ∃ A, e = .returned (.tuple #[.slice A l.length l.length, .int .i64 (f : Int)]) ∧ Rb w' A l ∧ Below w.heap.size w w'
theorem ids_lt {n : Nat} {l : List Nat} (ho : OkO n l) (h : chkO n l = 0) : ∃ a b m, l = a :: b :: m ∧ m.length = 14 ∧ 40 * a + b < 4294967296 ∧ (∀ x ∈ m, x < 4294967296) := by
  obtain ⟨h8, hl, h32⟩ := ho
  obtain ⟨a, b, m, rfl⟩ : ∃ a b m, l = a :: b :: m := by
    match l, hl with
    | a :: b :: m, _ => exact ⟨a, b, m, rfl⟩
  refine ⟨a, b, m, rfl, by simpa using hl, ?_, fun x hx => h32 x (by simp [hx])⟩
  have hf : fst2 (a :: b :: m) = true := by
    unfold chkO at h; split at h
    · rename_i h'; exact h'.2.2.1
    · cases h
  rcases (fst2_ab a b m).1 hf with h' | h' <;> omega
theorem zero23 : ∀ w : World, (zeroValue 24).run Tryz.prog w = .ok (.agg (cs32 zeroL).toArray) w := fun _ => by kernel_rfl
theorem range23 {w : World} {g n : Nat} {l : List Nat} (h : Bk w g 26 (oc n l)) : w.rangeAt g 1 (cs32 l) := fun j v hj => by rw [h.cell, Nat.add_comm]; exact hj
theorem wpList_load23 {ops : Array Oper} {rest : List Oper} {o : Oper} {a : Act} {w : World} {Q : Exit → Act → World → Prop} (hgd : o.guard = none) (x : Operand) (ho : o.op = .load 24 x)
    {g n : Nat} {l : List Nat} (hx : a.eval x = .pointer (some ⟨g, 1, none⟩)) (hg : Bk w g 26 (oc n l)) (hl : l.length = 16) (h : wpList Tryz.prog ops Q rest (a.put o.dst (.agg (cs32 l).toArray)) w) : wpList Tryz.prog ops Q (o :: rest) a w :=
  wpList_load_mid hgd _ x ho g 1 hx (cs32 l) _ (range23 hg) Tryz.underlying24 rfl (by rw [cs32_length, hl]; exact info23) h
theorem wpList_store23 {ops : Array Oper} {rest : List Oper} {o : Oper} {a : Act} {w : World} {Q : Exit → Act → World → Prop} (hgd : o.guard = none) (x v : Operand) (ho : o.op = .store 24 x v)
    {g : Nat} {l : List Nat} {cs : List Value} (hx : a.eval x = .pointer (some ⟨g, 0, none⟩)) (hv : a.eval v = .agg (cs32 l).toArray) (hg : Bk w g 24 cs) (hc : cs.length = 16) (hl : l.length = 16)
    (h : ∀ w', Bk w' g 24 (cs32 l) → w.grownBy w' (some g) → w'.heap.size = w.heap.size → wpList Tryz.prog ops Q rest (a.put o.dst undef) w') : wpList Tryz.prog ops Q (o :: rest) a w :=
  wpList_plain hgd fun K hK => by
    have h1 := run_storeVar_row (P := Tryz.prog) w g 24 24 cs.toArray (cs32 l).toArray hg (by rw [List.size_toArray, cs32_length, hl]; exact info23) (by simp [cs32_length, hc, hl]) (all_oneCell_toArray (cs32_one l))
    have hK' := hK _ _ (h (w.setRow g (cs32 l).toArray) (setRow_heap w g _ _ _ _ hg) ⟨rfl, rfl, rfl, by simp [World.setRow], fun k hk hne => setRow_other w g k _ (fun e => hne (by rw [e]))⟩ (by simp [World.setRow]))
    unfold Oper.wp execOp
    simp only [ho, hx, hv, Instr.storeAt, Instr.sureAddr, Sem.run_bind, Sem.run_pure, Result.andThen_ok, h1]
    exact hK'
theorem slice23lh (g n : Nat) (h1 : 1 ≤ n) (hn : n ≤ 16) (W : World) : (Instr.sliceAt 24 (.pointer (some ⟨g, 0, none⟩)) (some (.int .i64 1)) (some (.int .u8 (n : Int))) none).run Tryz.prog W = .ok (.slice (some ⟨g, 1, none⟩) (n - 1) 15) W := by
  rw [run_sliceAt_array_lh (P := Tryz.prog) W 24 ⟨g, 0, none⟩ (by kernel_rfl) .i64 .u8 1 (n : Int) (by omega) (by omega) (by rw [len23]; omega), size23, len23, Int.toNat_natCast]
  rfl

/-- A mark on a function's deferred calls. -/
def mkD (D : Nat) : Deferred := { target := .collected D, args := #[] }
/-- What stands between two rounds of Put. -/
structure PutR (w : World) (ga gb : Nat) (L is : List Nat) (ms : List Nat) (j : Nat) (wr : World) : Prop where
  box : ∃ v, Boxed wr gb 80 v ∧ wr.ownsRow w.heap.size 5 1 v ((is.take j).flatMap ogs).length (cs8 ((is.take j).flatMap ogs))
  arr : Bk wr ga 24 (cs32 L)
  bel : Below w.heap.size w wr
  nod : ms.Nodup
  mar : ∀ D ∈ ms, w.heap.size ≤ D ∧ wr.heap[D]? = some (.deferred (some []))
theorem ocs_all (x : Nat) : All8 (ogs x) := by
  unfold ogs items
  intro y hy
  simp only [List.mem_map, List.mem_range] at hy
  obtain ⟨z, ⟨j, _, rfl⟩, rfl⟩ := hy
  exact oct_lt
theorem flat_all (is : List Nat) : All8 (is.flatMap ogs) := fun y hy => by
  obtain ⟨x, _, h⟩ := List.mem_flatMap.1 hy
  exact ocs_all x y h
theorem flat_len : ∀ {is : List Nat}, (∀ x ∈ is, x < 4294967296) → (is.flatMap ogs).length ≤ 5 * is.length
  | [], _ => by simp
  | x :: is, h => by
    have h1 := gk5 (h x (by simp))
    have h2 := flat_len (is := is) fun y hy => h y (by simp [hy])
    rw [List.flatMap_cons, List.length_append, ocs_length, List.length_cons]
    omega
/-- A function that has marks alone among its deferred calls leaves. -/
theorem leaves_marks {F : Fence} {n : Nat} {P : Program} {fn : Func} {tmps : Array Value} {R : Ending → World → Prop} {v : Value} (hres : ∀ W, (results fn tmps).run P W = .ok v W) (I : World → Prop)
    (B : Nat) (hI : ∀ W D, B ≤ D → I W → W.heap[D]? = some (.deferred (some [])) → I (W.putObj D (.deferred none))) (hR : ∀ W, I W → R (.returned v) W) :
    ∀ (ms : List Nat) (W : World), ms.Nodup → (∀ D ∈ ms, B ≤ D ∧ W.heap[D]? = some (.deferred (some []))) → I W → LeavesInM F n P fn tmps R (ms.map mkD) .returning W
  | [], W, _, _, h => ⟨v, hres W, hR W h⟩
  | D :: ms, W, hn, hm, h => by
    obtain ⟨hD, hk⟩ := hm D (by simp)
    rw [List.nodup_cons] at hn
    refine ⟨by simp, .inl ⟨D, _, rfl, run_takeDeferred hk, leaves_marks hres I B hI hR ms _ hn.2 (fun D' hD' => ⟨(hm D' (by simp [hD'])).1, ?_⟩) (hI W D hD h hk)⟩⟩
    rw [World.putObj_heap_other (show D' ≠ D from fun e => hn.1 (by rw [← e]; exact hD'))]
    exact (hm D' (by simp [hD'])).2
theorem bk_not_row {W : World} {g : Nat} {t e : TypeId} {cs : List Value} (h : Bk W g t cs) (hte : t ≠ e) {base size k : Nat} {v : Value} {xs : List Value} (hr : W.ownsRow base e size v k xs) : some g ≠ v.ownBlock := by
  rcases hr.2 with ⟨rfl, _⟩ | ⟨g', cap, cur, rfl, _, hgb, _⟩
  · simp [Value.ownBlock]
  · intro e'
    obtain rfl : g = g' := by simpa [Value.ownBlock] using e'
    rw [show W.heap[g]? = _ from h] at hgb
    simp only [Option.some.injEq, Obj.cells.injEq] at hgb
    exact hte hgb.2.1
theorem own_bk (g : Nat) (t : TypeId) (cs : List Value) {β : Type} : Own (fun (_ : β) W => Bk W g t cs) := fun s A B row hs hg hr => (hg.block g hs.lt (fun e => by
  obtain ⟨o, ho, hc⟩ := hr g e.symm
  rw [show A.heap[g]? = _ from hs] at ho; cases ho; cases hc)).trans hs
theorem own_box (g : Nat) (t : TypeId) (v : Value) {β : Type} : Own (fun (_ : β) W => Boxed W g t v) := fun s A B row hs hg hr => hs.kept hg (fun e => by
  obtain ⟨o, ho, hc⟩ := hr g e.symm
  rw [show A.heap[g]? = _ from hs] at ho; cases ho; cases hc)
theorem own_marks (ms : List Nat) (B : Nat) (hB : ∀ D ∈ ms, D < B) {β : Type} : OwnFrom B (fun (_ : β) W => ∀ D ∈ ms, W.heap[D]? = some (.deferred (some []))) := fun s W W' row hs hg hr D hD =>
  (hg.block D (Array.getElem?_eq_some_iff.1 (hs D hD)).1 (fun e => by have := (hr D e.symm).1; have := hB D hD; omega)).trans (hs D hD)
/-- What stands within the inner loop. -/
def PutI (w : World) (ga gb b0 x : Nat) (L out ms : List Nat) (pre : List Nat) (W : World) : Prop :=
  (((∃ v, Boxed W gb 80 v ∧ W.ownsRow w.heap.size 5 1 v (out ++ pre).length (cs8 (out ++ pre)) ∧ True) ∧ Boxed W b0 23 (.int .u32 (x : Int))) ∧ Bk W ga 24 (cs32 L)) ∧ Below w.heap.size w W ∧ (∀ D ∈ ms, W.heap[D]? = some (.deferred (some [])))
theorem putI_own (w : World) (ga gb b0 x : Nat) (L out ms : List Nat) (B : Nat) (hB : w.heap.size ≤ B) (hm : ∀ D ∈ ms, D < B) : OwnFrom B (PutI w ga gb b0 x L out ms) :=
  OwnFrom.and (OwnFrom.and (OwnFrom.and (Own.from (holdsRow_own w.heap.size gb 80 5 1 (fun pre => (out ++ pre).length) (fun pre => cs8 (out ++ pre)) (fun _ _ => True)) B) (Own.from (own_box b0 23 _) B)) (Own.from (own_bk ga 24 _) B)) (OwnFrom.and (ownFrom_below (Nat.le_refl _) hB) (own_marks ms B hm))
theorem info5 : (Tryz.prog.info? 5).map (fun i => (i.zero, i.size, i.bytes)) = some (some (.int .u8 0), 1, 1) := by kernel_rfl
/-- The walk's step at the builtin append inside a fence, by what it runs to. -/
theorem wpListIn_app {F : Fence} {n : Nat} {P : Program} {w : World} {ops : Array Oper} {rest : List Oper} {o : Oper} {a : Act} {Q : Exit → Act → World → Prop} (hgd : o.guard = none) (s x : Operand) (t1 t2 : TypeId)
    (ho : o.op = .call { callee := .builtin .append, args := #[s, x], argTypes := #[t1, t2] }) (u v : Value) (hs : a.eval s = u) (hx : a.eval x = v) {r : Value} {w1 : World}
    (hrun : (Builtin.append_ #[t1, t2] o.type #[u, v]).run P w = .ok r w1) (h : wpListIn F n P ops Q rest (a.put o.dst r) w1) : wpListIn F n P ops Q (o :: rest) a w := by
  refine wpListIn_plain hgd fun K hK' => ?_
  unfold Oper.wpIn
  refine ⟨?_, ?_⟩
  · simp [Oper.about, ho, resolve, Target.leads, Sem.run_pure]
  · rw [Oper.semAt_plain F _ _ (by rw [ho]; intro c hc'; cases hc')]
    simp [execOp, ho, resolve, invoke, builtin, hs, hx, hrun, Result.andThen]
    exact hK' _ _ h
theorem app_own {w : World} {base : Nat} {v : Value} {xs : List Nat} (hown : w.ownsRow base 5 1 v xs.length (cs8 xs)) (y : Nat) (hb : base ≤ w.heap.size) (hl : xs.length ≤ 1000) :
    ∃ g' cap' w', (Builtin.append_ #[80, 80] 80 #[v, .slice (some ⟨w.heap.size, 0, none⟩) 1 1]).run Tryz.prog (w.alloc (.cells #[.int .u8 (y : Int)] 5)) = .ok (.slice (some ⟨g', 0, none⟩) (xs.length + 1) cap') w' ∧
      w'.ownsRow base 5 1 (.slice (some ⟨g', 0, none⟩) (xs.length + 1) cap') (xs.length + 1) (cs8 xs ++ [.int .u8 (y : Int)]) ∧ (w.alloc (.cells #[.int .u8 (y : Int)] 5)).grownBy w' v.ownBlock := by
  obtain ⟨i, hi, hz0, hz1, hz2⟩ := info_parts info5
  obtain ⟨v', w', hrun, h2, h3, _⟩ := run_append_own (P := Tryz.prog) (w.alloc (.cells #[.int .u8 (y : Int)] 5)) base 80 80 5 i (.int .u8 0) 1 1 Tryz.underlying80 hi hz0 hz1 hz2 rfl (by decide) v xs.length (cs8 xs) (hown.alloc _) ⟨w.heap.size, 0, none⟩ 1 1 [.int .u8 (y : Int)] rfl
    (fun j u hu => by
      obtain ⟨hj, rfl⟩ := List.getElem?_eq_some_iff.1 hu
      have : j = 0 := by simpa using hj
      subst this
      simp [Addr.add, go_sem]) (by simp [Value.oneCell']) (by unfold maxLen; omega) (by omega) (by simp; omega)
  obtain ⟨g', cap', rfl⟩ := ownsRow_succ h2
  exact ⟨g', cap', w', hrun, h2, h3⟩
/-- A round of the inner loop ends. -/
theorem putI_end {w W w3 : World} {ga gb b0 x y : Nat} {L out ms pre : List Nat} {v v' : Value} {tmp : Obj} {a : Act} {N : Nat} (hN : (out ++ pre).length + 1 = N) (hv : Boxed W gb 80 v) (hrow : W.ownsRow w.heap.size 5 1 v (out ++ pre).length (cs8 (out ++ pre))) (hbx : Boxed W b0 23 (.int .u32 (x : Int)))
    (hbk : Bk W ga 24 (cs32 L)) (hBW : Below w.heap.size w W) (hmk : ∀ D ∈ ms, W.heap[D]? = some (.deferred (some []))) (h1 : w.heap.size ≤ gb) (h2 : ga ≠ gb) (h3 : b0 ≠ gb)
    (hown : w3.ownsRow w.heap.size 5 1 v' N (cs8 (out ++ pre) ++ [.int .u8 (y : Int)])) (hg : (W.alloc tmp).grownBy w3 v.ownBlock) :
    ownPostK (KeepB b0) (PutI w ga gb b0 x L out ms) (fun _ _ _ => False) (pre ++ [y]) W Exit.normal a (w3.setCell ⟨gb, 0, none⟩ v') := by
  obtain ⟨k1, k2, k3, k4, k5⟩ := hv.appended (by decide) hrow hBW.size h1 hown hg
  have kb : Boxed (w3.setCell ⟨gb, 0, none⟩ v') b0 23 (.int .u32 (x : Int)) := ((hbx.alloc tmp).kept hg (hbx.not_row (by decide) hrow)).other h3 v'
  refine ⟨k4, kb.cell.trans hbx.cell.symm, ⟨⟨⟨⟨v', k2, ?_, trivial⟩, kb⟩, (((hbk.alloc tmp).only hg (bk_not_row hbk (by decide) hrow)).far (p := ⟨gb, 0, none⟩) h2 v')⟩, hBW.trans k5, fun D hD => k4.same D _ (hmk D hD) rfl⟩⟩
  have e1 : cs8 (out ++ pre) ++ [.int .u8 (y : Int)] = cs8 (out ++ (pre ++ [y])) := by unfold cs8; rw [← List.append_assoc, List.map_append (l₂ := [y])]; rfl
  have e2 : N = (out ++ (pre ++ [y])).length := by rw [← hN]; simp; omega
  rw [← e1, ← e2]
  exact k3

end Go.Proofs.YtaiiihdckdjpoaaGreatDoor

/-!
  The reference of layers 2 and 6: contracts of Groups and of layer 6's Put.
  Conditions: the OID is valid; the number is less than 2^32.
-/
namespace Go.Proofs.YtaiiihdckdjpoaaGreatDoor
open Go.RowKit

/-- The walk's step at the builtin append, by what it runs to. -/
theorem wpList_app {P : Program} {w : World} {ops : Array Oper} {rest : List Oper} {o : Oper} {a : Act} {Q : Exit → Act → World → Prop} (hgd : o.guard = none) (s x : Operand) (t1 t2 : TypeId)
    (ho : o.op = .call { callee := .builtin .append, args := #[s, x], argTypes := #[t1, t2] }) (u v : Value) (hs : a.eval s = u) (hx : a.eval x = v) {r : Value} {w1 : World}
    (hrun : (Builtin.append_ #[t1, t2] o.type #[u, v]).run P w = .ok r w1) (h : wpList P ops Q rest (a.put o.dst r) w1) : wpList P ops Q (o :: rest) a w := by
  refine wpList_plain hgd fun K hK => ?_
  have hK' := hK _ _ h
  unfold Oper.wp execOp
  simp only [ho, resolve, invoke, builtin, Sem.run_bind, Sem.run_pure, Result.andThen_ok, List.map_toArray, List.map_cons, List.map_nil, hs, hx, hrun]
  exact hK'
/-- 'append(v, s...)' to what the call has built, whatever s is. -/
theorem app_src {P : Program} {t ty e : TypeId} {z : Value} {bytes : Nat} (ht : P.underlying t = some (.slice e)) (hinfo : (P.info? e).map (fun i => (i.zero, i.size, i.bytes)) = some (some z, 1, bytes)) (hz : z.cells.size = 1)
    {w : World} {base : Nat} {v : Value} {xs : List Value} (hown : w.ownsRow base e 1 v xs.length xs) {A : Option Addr} {ys : List Value} {c : Nat} (hy : Rd w A ys) (h1 : ∀ u ∈ ys, u.oneCell' = true) (hb : base ≤ w.heap.size)
    (hl : (xs.length + ys.length) * bytes ≤ 140737488355328) (hm : xs.length + ys.length ≤ maxLen) :
    ∃ v' w', (Builtin.append_ #[t, t] ty #[v, .slice A ys.length c]).run P w = .ok v' w' ∧ w'.ownsRow base e 1 v' (xs ++ ys).length (xs ++ ys) ∧ Below base w w' := by
  obtain ⟨i, hi, hz0, hz1, hz2⟩ := info_parts hinfo
  cases A with
  | some a =>
    obtain ⟨v', w', hrun, h2, h3, _⟩ := run_append_own (P := P) w base t ty e i z 1 bytes ht hi hz0 hz1 hz2 hz (by omega) v xs.length xs hown a ys.length c ys (by simp)
      (fun j u hu => by
        obtain ⟨b, off, e, _, hc⟩ := hy (by intro e; subst e; simp at hu)
        injection e with e
        subst e
        rw [addr_add]; exact hc j u hu) h1 hm hl hb
    exact ⟨v', w', hrun, by rw [List.length_append]; exact h2, (Below.refl base w).grown h3 hb (fun k hk => (hown.lt k hk).1)⟩
  | none =>
    have hnil : ys = [] := by
      cases ys with
      | nil => rfl
      | cons u m => obtain ⟨_, _, e, _⟩ := hy (by simp); cases e
    subst hnil
    refine ⟨v, w, ?_, by simpa using hown, Below.refl _ _⟩
    rcases hown.2 with ⟨rfl, h0⟩ | ⟨g, cap, cur, rfl, _, _, hnc, _⟩
    · simp [Builtin.append_, run_underlying ht, sizeOf, typeInfo, hi, Builtin.lenOf, Builtin.firstCells]
    · simp [Builtin.append_, run_underlying ht, sizeOf, typeInfo, hi, Builtin.lenOf, Builtin.firstCells, hnc, storeCells]
/-- A slice literal of one element. -/
theorem own_lit (w : World) (e : TypeId) (x : Value) : (w.alloc (.cells #[x] e)).ownsRow w.heap.size e 1 (.slice (some ⟨w.heap.size, 0, none⟩) 1 1) [x].length [x] :=
  ⟨rfl, .inr ⟨w.heap.size, 1, #[x], rfl, Nat.le_refl _, heap_alloc_new w _, Nat.le_refl _, by unfold maxLen; omega, rfl, rfl⟩⟩
theorem cs8_length (l : List Nat) : (cs8 l).length = l.length := by unfold cs8; rw [List.length_map]

/-- A slice that the call has made is returned. -/
def GiveW (w : World) (l : List Nat) (e : Ending) (w' : World) : Prop :=
  ∃ v, e = .returned v ∧ w'.ownsRow w.heap.size 5 1 v l.length (cs8 l) ∧ Below w.heap.size w w'
theorem own_below {w w' : World} {base : Nat} {e : TypeId} {size : Nat} {v : Value} {n : Nat} {xs : List Value} (h : w.ownsRow base e size v n xs) (hb : Below w.heap.size w w') : w'.ownsRow base e size v n xs := by
  refine ⟨h.1, ?_⟩
  rcases h.2 with h2 | ⟨g, cap, cur, rfl, h3, h4, rest⟩
  · exact .inl h2
  · exact .inr ⟨g, cap, cur, rfl, h3, (hb.block g (Array.getElem?_eq_some_iff.1 h4).1).trans h4, rest⟩
theorem own_rd {w : World} {base : Nat} {v : Value} {l : List Nat} (h : w.ownsRow base 5 1 v l.length (cs8 l)) : ∃ A c, v = .slice A l.length c ∧ Rd w A (cs8 l) ∧ l.length ≤ c ∧ c ≤ maxLen := by
  have := own_open (e := 5) (base := base) (w := w) (v := v) (xs := cs8 l) (by rw [cs8_length]; exact h)
  rw [cs8_length] at this
  exact this
theorem ogs_len {n : Nat} (h : n < 4294967296) : (ogs n).length ≤ 5 := by rw [ocs_length]; have := gk5 h; omega
theorem one8 (l : List Nat) : ∀ u ∈ cs8 l, u.oneCell' = true := by intro u hu; obtain ⟨n, _, rfl⟩ := List.mem_map.1 hu; rfl
/-- 'append(v, s...)' of bytes. -/
theorem app8 {w : World} {base : Nat} {v : Value} {xs ys : List Nat} {A : Option Addr} {c : Nat} (hown : w.ownsRow base 5 1 v xs.length (cs8 xs)) (hy : Rd w A (cs8 ys)) (hb : base ≤ w.heap.size) (hl : xs.length + ys.length ≤ 1000) :
    ∃ v' w', (Builtin.append_ #[80, 80] 80 #[v, .slice A ys.length c]).run Tryz.prog w = .ok v' w' ∧ w'.ownsRow base 5 1 v' (xs ++ ys).length (cs8 (xs ++ ys)) ∧ Below base w w' := by
  obtain ⟨v', w', h1, h2, h3⟩ := app_src (P := Tryz.prog) (ty := 80) Tryz.underlying80 info5 rfl (by rw [cs8_length]; exact hown) (c := c) hy (one8 ys) hb (by rw [cs8_length, cs8_length]; omega) (by rw [cs8_length, cs8_length]; unfold maxLen; omega)
  have e : cs8 xs ++ cs8 ys = cs8 (xs ++ ys) := by unfold cs8; rw [List.map_append]
  rw [cs8_length] at h1
  rw [e, cs8_length] at h2
  exact ⟨v', w', h1, h2, h3⟩

theorem putO_small {n : Nat} {l : List Nat} (ho : OkO n l) (h : chkO n l = 0) : ∀ k, (((ids n l).take k).flatMap ogs).length ≤ 80 := fun k => by
  obtain ⟨a, b, m, rfl, hm, hab, h32⟩ := ids_lt ho h
  have hn := chkO_n h
  have h1 := flat_len (is := (ids n (a :: b :: m)).take k) (fun x hx => by
    rcases List.mem_cons.1 (List.mem_of_mem_take hx) with rfl | hx
    · exact hab
    · exact h32 x (List.mem_of_mem_take hx))
  have h2 : ((ids n (a :: b :: m)).take k).length ≤ 16 := by
    rw [List.length_take]; unfold ids; simp only [List.length_cons, List.length_take]; omega
  omega

end Go.Proofs.YtaiiihdckdjpoaaGreatDoor

/-!
  Package oids: the contract of subidentifier.
  Conditions: the slice reads as bytes.
-/
namespace Go.Proofs.YtaiiihdckdjpoaaGreatDoor
open Go.RowKit

/-- The value of a subidentifier, the number of its octets, the error: v so far, k octets so far. -/
def rdS (v k : Nat) : List Nat → Nat × Nat × Nat
  | [] => (0, 0, 7)
  | b :: l => if 4294967295 < 128 * v + b % 128 then (0, 0, 3) else if b < 128 then (128 * v + b % 128, k + 1, 0) else rdS (128 * v + b % 128) (k + 1) l
def subO : List Nat → Nat × Nat × Nat
  | b :: l => if b = 128 then (0, 0, 11) else rdS 0 0 (b :: l)
  | [] => (0, 0, 7)
theorem rdS_drop {v k j : Nat} {l : List Nat} (h : j < l.length) : rdS v k (l.drop j) = if 4294967295 < 128 * v + l[j] % 128 then (0, 0, 3) else if l[j] < 128 then (128 * v + l[j] % 128, k + 1, 0) else rdS (128 * v + l[j] % 128) (k + 1) (l.drop (j + 1)) := by
  rw [List.drop_eq_getElem_cons h]; rfl
def GiveS (w : World) (r : Nat × Nat × Nat) (e : Ending) (w' : World) : Prop := e = .returned (.tuple #[.int .u32 (r.1 : Int), .int .i64 (r.2.1 : Int), .int .i64 (r.2.2 : Int)]) ∧ w = w'
theorem wraps_u64 (n : Int) (h₀ : 0 ≤ n) (h₁ : n < 2 ^ 64) : IntKind.u64.wrap n = n := by rw [IntKind.wrap_u64]; omega
theorem or_u64 (v y : Nat) (hv : v < 4294967296) (hy : y < 128) : bits BinOp.or IntKind.u64 ((v : Int) * 128) (y : Int) = ((128 * v + y : Nat) : Int) := by
  rw [bits_join .u64 64 (by decide) wraps_u64 7 ((v : Int) * 128) (y : Int) (by omega) (by omega) (by omega) (by omega) (by omega) (by omega)]
  omega
theorem and128 (x : Nat) (h : x < 256) : (bits BinOp.and IntKind.u8 (x : Int) 128 == 0) = decide (x < 128) :=
  (show ∀ x : Fin 256, (bits BinOp.and IntKind.u8 (x.val : Int) 128 == 0) = decide (x.val < 128) by decide +kernel) ⟨x, h⟩

end Go.Proofs.YtaiiihdckdjpoaaGreatDoor

/-!
  Package oids: the contract of Get.
  Conditions: the slice reads as bytes.
-/
namespace Go.Proofs.YtaiiihdckdjpoaaGreatDoor
open Go.RowKit

/-- The subidentifiers that octets hold, or the error. -/
def getF : Nat → List Nat → List Nat → List Nat × Nat
  | _, acc, [] => (acc, 0)
  | 0, _, _ :: _ => ([], 0)
  | f + 1, acc, b :: l => if acc.length = 15 then ([], 3) else if (subO (b :: l)).2.2 ≠ 0 then ([], (subO (b :: l)).2.2) else getF f (acc ++ [(subO (b :: l)).1]) ((b :: l).drop (subO (b :: l)).2.1)
/-- The arcs out of the subidentifiers. -/
def mkL : List Nat → List Nat
  | [] => zeroL
  | x :: m => pad (min (x / 40) 2 :: (x - 40 * min (x / 40) 2) :: m)
/-- What Get reads: N, the arcs, the error. -/
def getO (l : List Nat) : Nat × List Nat × Nat :=
  if l.length = 0 then (0, zeroL, 7) else if (getF l.length [] l).2 ≠ 0 then (0, zeroL, (getF l.length [] l).2) else ((getF l.length [] l).1.length + 1, mkL (getF l.length [] l).1, 0)
def GiveG (w : World) (r : Nat × List Nat × Nat) (e : Ending) (w' : World) : Prop := e = .returned (.tuple #[oV r.1 r.2.1, .int .i64 (r.2.2 : Int)]) ∧ Below w.heap.size w w'

theorem rdS_ok : ∀ (l : List Nat) (v k : Nat), (rdS v k l).2.2 = 0 → k + 1 ≤ (rdS v k l).2.1 ∧ (rdS v k l).2.1 ≤ k + l.length ∧ (rdS v k l).1 < 4294967296
  | [], v, k, h => by simp [rdS] at h
  | b :: l, v, k, h => by
    unfold rdS at h ⊢
    by_cases h1 : 4294967295 < 128 * v + b % 128
    · rw [if_pos h1] at h; simp at h
    · rw [if_neg h1] at h ⊢
      by_cases h2 : b < 128
      · rw [if_pos h2]; simp only [List.length_cons]; omega
      · rw [if_neg h2] at h ⊢
        have := rdS_ok l _ _ h
        rw [List.length_cons]
        omega
theorem subO_cons (b : Nat) (l : List Nat) : subO (b :: l) = if b = 128 then (0, 0, 11) else rdS 0 0 (b :: l) := rfl
theorem subO_ok {l : List Nat} (h : (subO l).2.2 = 0) : 1 ≤ (subO l).2.1 ∧ (subO l).2.1 ≤ l.length ∧ (subO l).1 < 4294967296 := by
  cases l with
  | nil => simp [subO] at h
  | cons b l =>
    rw [subO_cons] at h ⊢
    by_cases h1 : b = 128
    · rw [if_pos h1] at h; simp at h
    · rw [if_neg h1] at h ⊢
      have := rdS_ok (b :: l) 0 0 h
      omega
theorem pad_snoc (l : List Nat) (x : Nat) (h : l.length < 16) : (pad l).set l.length x = pad (l ++ [x]) := by
  have := pad_set (l ++ [x]) l.length (by simp) (by simp; omega)
  rw [List.take_left' rfl, List.take_of_length_le (by simp)] at this
  rw [← this]
  congr 1
  simp
theorem slice_from (s N c : Nat) (A : Option Addr) (w : World) (l : List Nat) (hN : l.length = N) (hA : Rb w A l) (h1 : 1 ≤ s) (hs : s ≤ N) (hc : N ≤ c) (hm : c ≤ maxLen) :
    ∃ A' c', (∀ W : World, (Instr.slice 80 (.slice A N c) (some (.int .i64 (s : Int))) none none).run Tryz.prog W = .ok (.slice A' (N - s) c') W) ∧ (∀ W : World, (Instr.sliceAt 80 (.slice A N c) (some (.int .i64 (s : Int))) none none).run Tryz.prog W = .ok (.slice A' (N - s) c') W) ∧ Rb w A' (l.drop s) ∧ N - s ≤ c' ∧ c' ≤ maxLen ∧ (∀ q', A' = some q' → ∃ q, A = some q ∧ q'.block = q.block) := by
  obtain ⟨b, off, rfl, hb, -, -⟩ := hA.at_ (k := 0) (by omega)
  have hsz : ∀ W, (sizeOf (Tryz.prog.elem 80)).run Tryz.prog W = .ok 1 W := fun W => by kernel_rfl
  have q : ∀ W : World, (Instr.slice 80 (.slice (some ⟨b, off, none⟩) N c) (some (.int .i64 (s : Int))) none none).run Tryz.prog W = .ok (.slice (if c = s then some ⟨b, off, none⟩ else some ⟨b, off + s, none⟩) (N - s) (c - s)) W := fun W => by
    rw [run_slice_l (P := Tryz.prog) W 80 (some ⟨b, off, none⟩) N c (by kernel_rfl) .i64 (s : Int) (by omega) (by omega), hsz W]
    simp only [Result.andThen, sliced, Int.toNat_natCast, Option.map_some, addr_add, Nat.mul_one]
  refine ⟨_, _, q, fun W => ?_, ?_, by omega, by unfold maxLen at *; omega, fun q' hq => ⟨_, rfl, by split at hq <;> (injection hq with hq; rw [← hq])⟩⟩
  · rw [← q W]; exact run_sliceAt_slice (P := Tryz.prog) W 80 _ _ _ _ (by kernel_rfl)
  · by_cases h : c = s
    · rw [if_pos h, List.drop_of_length_le (by omega)]; exact Rb.nil
    · rw [if_neg h]; exact hA.drop_ s
/-- A whole OID and a number are returned. -/
theorem ret25t {fn : Func} {p u : Tmp} (h : fn.results = #[.cell p 26, .tmp u]) {a : Act} {w : World} {g n : Nat} {l : List Nat} {v : Value} (hp : a.tmps.getD p undef = .pointer (some ⟨g, 0, none⟩)) (hu : a.tmps.getD u undef = v) (hg : Bk w g 26 (oc n l)) (hl : l.length = 16) (hd : a.defers = [])
    {R : Ending → World → Prop} (hR : R (.returned (.tuple #[oV n l, v])) w) : bodyPost Tryz.prog fn R .ret a w :=
  bodyPost_ret (by
    rw [results_cell_tmp h, hp]
    have := run_loadVar_mid (P := Tryz.prog) w g 0 _ (oc n l) _ (range25 hg) Tryz.underlying26 rfl (by rw [oc_length, hl]; exact info25)
    simp only [asAddr, Sem.run_pure, Result.andThen_ok, this, hu]) hd hR

theorem pad2 (a b : Nat) (m : List Nat) : pad (a :: b :: m) = a :: b :: (m ++ List.replicate (14 - m.length) 0) := by
  unfold pad
  rw [List.length_cons, List.length_cons, show 16 - (m.length + 1 + 1) = 14 - m.length by omega]
  rfl
/-- What stands between two rounds of Get. -/
structure GetR (w : World) (g : Nat) (r : List Nat × Nat) (acc l' : List Nat) (A' : Option Addr) (c' : Nat) (wr : World) : Prop where
  rd : Rb wr A' l'
  lc : l'.length ≤ c'
  cm : c' ≤ maxLen
  al : acc.length ≤ 15
  a32 : ∀ x ∈ acc, x < 4294967296
  loc : Bk wr g 26 (oc (acc.length + 1) (pad (0 :: acc)))
  res : Bk wr w.heap.size 26 (oc 0 zeroL)
  bel : Below w.heap.size w wr
  eq : ∃ f, l'.length ≤ f ∧ r = getF f acc l'
  ne : l' = [] → acc ≠ []
  ap : ∀ q, A' = some q → q.block < w.heap.size

end Go.Proofs.YtaiiihdckdjpoaaGreatDoor

/-!
  The reference of layer 6: the contract of Get.
  Conditions: the slice reads as bytes.
-/
namespace Go.Proofs.YtaiiihdckdjpoaaGreatDoor
open Go.RowKit

theorem infoI : (Tryz.prog.info? 3).map (fun i => (i.zero, i.size, i.bytes)) = some (some (.int .i64 0), 1, 8) := by kernel_rfl
theorem appInt {w : World} {base : Nat} {v : Value} {l : List Nat} (hown : w.ownsRow base 3 1 v l.length (csI l)) (x : Nat) (hb : base ≤ w.heap.size) (hl : l.length ≤ 1000000) :
    ∃ v' w', (Builtin.append_ #[99, 99] 99 #[v, .slice (some ⟨w.heap.size, 0, none⟩) 1 1]).run Tryz.prog (w.alloc (.cells #[.int .i64 (x : Int)] 3)) = .ok v' w' ∧ w'.ownsRow base 3 1 v' (l ++ [x]).length (csI (l ++ [x])) ∧ Below base w w' := by
  rw [← csI_length] at hown
  obtain ⟨v', w', h1, h2, h3⟩ := app_one (P := Tryz.prog) (ty := 99) Tryz.underlying99 infoI rfl hown (.int .i64 (x : Int)) rfl hb (by rw [csI_length]; omega) (by rw [csI_length]; unfold maxLen; omega)
  refine ⟨v', w', h1, ?_, h3⟩
  rw [csI_snoc, csI_length] at h2
  exact h2
theorem own_form {w : World} {base : Nat} {e : TypeId} {v : Value} {n : Nat} {xs : List Value} (h : w.ownsRow base e 1 v n xs) : ∃ A c, v = .slice A n c := by
  rcases h.2 with ⟨rfl, rfl⟩ | ⟨g, cap, cur, rfl, _⟩
  · exact ⟨_, _, rfl⟩
  · exact ⟨_, _, rfl⟩
theorem own_int {w : World} {base : Nat} {A : Option Addr} {n c : Nat} {l : List Nat} (h : w.ownsRow base 3 1 (.slice A n c) l.length (csI l)) : Ri w A l := by
  have := own_open (e := 3) (base := base) (w := w) (v := .slice A n c) (xs := csI l) (by rw [csI_length]; exact h)
  obtain ⟨A', c', e, hr, _⟩ := this
  injection e with e
  rw [e]; exact hr
/-- What stands between two rounds of the reference's Get. -/
structure RGetR (w : World) (l : List Nat) (r : List Nat × Nat) (acc : List Nat) (i : Nat) (v : Value) (wr : World) : Prop where
  il : i ≤ l.length
  al : acc.length ≤ 15
  a32 : ∀ x ∈ acc, x < 4294967296
  own : wr.ownsRow (w.heap.size + 1) 3 1 v acc.length (csI acc)
  res : Bk wr w.heap.size 26 (oc 0 zeroL)
  bel : Below w.heap.size w wr
  eq : ∃ f, l.length - i ≤ f ∧ r = getF f acc (l.drop i)
  ne : i = l.length → acc ≠ []

end Go.Proofs.YtaiiihdckdjpoaaGreatDoor

/-!
  Package oids: what the listed variables hold; the contract of Text.
  Conditions: the variables hold what the program's text lays.
-/
namespace Go.Proofs.YtaiiihdckdjpoaaGreatDoor
open Go.RowKit

/-- The variables that the program reads hold what its text lays. -/
structure Env (w : World) : Prop where
  tab : Lib.TabIs Tryz.prog w "internal/strconv.uint64pow10" .u64 Lib.pow10Tab
  rng : ∃ tp p, w.var? Tryz.prog "strconv.ErrRange" = some #[.iface tp p]
theorem var_below {P : Program} {w w' : World} {name : String} {cs : Array Value} (h : w.var? P name = some cs) (hb : Below w.heap.size w w') : w'.var? P name = some cs := by
  unfold World.var? at *
  cases hg : P.globalNamed name with
  | none => rw [hg] at h; cases h
  | some g =>
    rw [hg] at h
    simp only [Option.bind_some] at h ⊢
    have hlt : g < w.heap.size := by
      rcases Nat.lt_or_ge g w.heap.size with h1 | h1
      · exact h1
      · rw [Array.getElem?_eq_none h1] at h; cases h
    rw [hb.block g hlt]
    exact h
theorem Env.below {w w' : World} (h : Env w) (hb : Below w.heap.size w w') : Env w' :=
  ⟨var_below h.tab hb, by obtain ⟨t, p, e⟩ := h.rng; exact ⟨t, p, var_below e hb⟩⟩
theorem et {a b : World} (h : Hid (Env a)) (h2 : Hid (Below a.heap.size a b)) : Hid (Env b) := Lib.hid (h.out.below h2.out)
/-- The decimal form. -/
def textL (v : Nat) : List Nat := if v = 0 then [48] else (dgs 10 v).reverse.map (48 + ·)
theorem dec_text (u : Nat) : Lib.decDigits u = (textL u).map UInt8.ofNat := by
  induction u using Nat.strongRecOn with
  | ind u ih =>
    by_cases h : u < 10
    · rw [Lib.decDigits_one h]
      by_cases h0 : u = 0
      · subst h0; rfl
      · rw [textL, if_neg h0, dgs_pos (by omega) h0, Nat.div_eq_of_lt h, Nat.mod_eq_of_lt h]
        rfl
    · rw [Lib.decDigits, dif_neg h, ih (u / 10) (by omega), textL, textL, if_neg (by omega), if_neg (by omega), dgs_pos (v := u) (by omega) (by omega)]
      simp
theorem dec_str (u : Nat) : (⟨(Lib.decDigits u).toArray⟩ : ByteArray) = bstr (textL u) := by rw [dec_text]; rfl
theorem textL_pos (u : Nat) : 0 < (textL u).length := by
  unfold textL; split
  · simp
  · rename_i h; rw [dgs_pos (by omega) h]; simp
theorem textL_le {u : Nat} (h : u < 18446744073709551616) : (textL u).length ≤ 20 := by
  unfold textL; split
  · simp
  · rw [List.length_map, List.length_reverse]
    exact (dgs_length (by omega) u 20).2 (by omega)
theorem textL_all (u : Nat) : All8 (textL u) := by
  unfold textL
  split
  · intro x hx; simp at hx; omega
  · intro x hx
    simp only [List.mem_map, List.mem_reverse] at hx
    obtain ⟨y, hy, rfl⟩ := hx
    have := dgs_lt (b := 10) (by omega) u y hy
    omega
theorem dec_cells (u : Nat) : Lib.byteCells (Lib.decDigits u) = cs8 (textL u) := by
  rw [dec_text]
  unfold Lib.byteCells cs8
  rw [List.map_map]
  apply List.map_congr_left
  intro x hx
  simp only [Function.comp, by8]
  rw [UInt8.toNat_ofNat_of_lt' (textL_all u x hx)]
theorem dec_len (u : Nat) : (Lib.decDigits u).length = (textL u).length := by rw [dec_text, List.length_map]
/-- Numbers in decimal with a dot ahead of each. -/
def jn (l : List Nat) : List Nat := l.flatMap fun a => 46 :: textL a
/-- .. between any two. -/
def dot (l : List Nat) : List Nat := (jn l).drop 1
theorem jn_snoc (l : List Nat) (x : Nat) : jn (l ++ [x]) = jn l ++ 46 :: textL x := by unfold jn; rw [List.flatMap_append]; simp
theorem dot_one (x : Nat) : dot [x] = textL x := by unfold dot jn; simp
theorem dot_snoc {l : List Nat} (h : l ≠ []) (x : Nat) : dot (l ++ [x]) = dot l ++ [46] ++ textL x := by
  unfold dot
  rw [jn_snoc]
  obtain ⟨a, m, rfl⟩ : ∃ a m, l = a :: m := by cases l with
    | nil => exact absurd rfl h
    | cons a m => exact ⟨a, m, rfl⟩
  unfold jn
  simp
theorem jn_all (l : List Nat) : All8 (jn l) := by
  intro x hx
  obtain ⟨a, _, h⟩ := List.mem_flatMap.1 hx
  rcases List.mem_cons.1 h with rfl | h
  · omega
  · exact textL_all a x h
theorem dot_all (l : List Nat) : All8 (dot l) := (jn_all l).drop 1
theorem jn_len : ∀ {l : List Nat}, (∀ x ∈ l, x < 4294967296) → (jn l).length ≤ 21 * l.length
  | [], _ => by simp [jn]
  | a :: l, h => by
    have h1 := textL_le (u := a) (by have := h a (by simp); omega)
    have h2 := jn_len (l := l) fun x hx => h x (by simp [hx])
    unfold jn at *
    rw [List.flatMap_cons, List.length_append, List.length_cons, List.length_cons]
    omega
theorem dot_len {l : List Nat} (h : ∀ x ∈ l, x < 4294967296) : (dot l).length ≤ 21 * l.length := by
  have := jn_len h
  unfold dot
  rw [List.length_drop]
  omega
theorem appU (B u : Nat) (l : List Nat) (sv : Value) (w : World) (hu : u < 4294967296) (hown : w.ownsRow B 5 1 sv l.length (cs8 l)) (hB : B ≤ w.heap.size) (hl : l.length ≤ 1000) (hE : Env w) :
    Calls Tryz.prog 61 #[sv, .int .u64 (u : Int), .int .i64 10] w fun e w' => ∃ v', e = .returned v' ∧ w'.ownsRow B 5 1 v' (l ++ textL u).length (cs8 (l ++ textL u)) ∧ Below B w w' := by
  have hcall := Lib.hid (Tryz.internal_strconv_AppendUint_10 B l.length u (by omega) sv (cs8 l) w hown hB (by omega) hE.tab)
  clear hE hown
  go_enter Tryz.func61, Tryz.ntmps61
  go_wp2_with (go_at_call 77; refine hcall.out.mono ?_; rintro e w' ⟨v', rfl, h1, h2, -⟩; have H1 := Lib.hid h1; have H2 := Lib.hid h2; clear h1 h2)
  go_ret
  refine ⟨v', rfl, ?_, H2.out⟩
  have := H1.out
  rw [dec_cells, dec_len] at this
  rw [List.length_append]
  unfold cs8 at *
  rw [List.map_append]
  exact this
def GiveT (w : World) (l : List Nat) (e : Ending) (w' : World) : Prop := e = .returned (.string (bstr l)) ∧ Below w.heap.size w w'
/-- The dotted form. -/
def txO (n : Nat) (l : List Nat) : List Nat := if chkO n l = 0 then dot (l.take n) else [63]

set_option maxRecDepth 100000 in
set_option maxHeartbeats 2000000 in
theorem text_any (n : Nat) (l : List Nat) (w : World) (ho : OkO n l) (hE : Env w) : Calls Tryz.prog 41 #[oV n l] w (GiveT w (txO n l)) := by
  have S := Lib.hid (Bk.new w 26 (oc n l))
  have B0 := Lib.hid (bel1 w (.cells (oc n l).toArray 26))
  have HE := Lib.hid hE
  have HO := Lib.hid ho
  have HL := Lib.hid ho.len
  have h32 := ho.a32
  clear ho hE
  go_enter Tryz.func41, Tryz.ntmps41
  go_upto_region 1 with fail
  generalize w.alloc (.cells (oc n l).toArray 26) = w1 at *
  rcases chkO_01 n l with hc | hc
  · have HT : Hid (txO n l = dot (l.take n)) := Lib.hid (if_pos hc)
    have hn := chkO_n hc
    have HC := Lib.hid hc
    have H32 := Lib.hid h32
    clear hc h32
    go_wp2_with (refine wpList_load25 rfl (.tmp 1) rfl rfl S.out HL.out ?_)
    refine (check_any n l _ HO.out).mono ?_
    rw [HC.out]
    rintro e w2 ⟨rfl, hb⟩
    have B2 := bt B0 (Lib.hid hb)
    have S2 := kt S (Lib.hid hb)
    have E2 := et HE B2
    clear hb S B0
    have cn := oid_n S2.out
    have hsl := slice23h w.heap.size n hn.2 .u8
    go_wp2
    clear cn hsl
    go_loopw [3, 4, 5, 14] (fun v _ _ i wr => ∃ j : Nat, j ≤ n ∧ i = .int .i64 (j : Int) ∧ wr.ownsRow (w.heap.size + 1) 5 1 v (dot (l.take j)).length (cs8 (dot (l.take j))) ∧ Bk wr w.heap.size 26 (oc n l) ∧ Below w.heap.size w wr) (fun _ _ _ i _ => n - (intOf i).toNat)
    case atStart => exact ⟨0, Nat.zero_le _, rfl, World.ownsRow_nil _ _ _ _, S2.out, B2.out⟩
    case round =>
      obtain ⟨j, hj, rfl, hown, hbk, hbel⟩ := hrel
      have HOWN := Lib.hid hown
      have HBK := Lib.hid hbk
      have HBEL := Lib.hid hbel
      have E3 := et HE HBEL
      have hlen := HL.out
      rcases Nat.lt_or_ge j n with hjn | hjn
      · have hjl : j < l.length := by omega
        have hc := oid_a' hbk (i := j) hjl
        have hx32 := H32.out _ (List.getElem_mem hjl)
        have hts := List.take_succ_eq_append_getElem hjl
        generalize l[j] = x at *
        have HTS := Lib.hid hts
        have hdl := dot_len (l := l.take j) (fun y hy => H32.out y (List.mem_of_mem_take hy))
        rw [List.length_take] at hdl
        have hjl16 : j < 16 := by omega
        have hdl2 : (dot (l.take j)).length ≤ 400 := by omega
        obtain ⟨Av, cv, hv⟩ := own_form hown
        subst hv
        by_cases hj0 : j = 0
        · subst hj0
          have hds : Hid (dot (l.take (0 + 1)) = dot (l.take 0) ++ textL x) := Lib.hid (by rw [HTS.out, List.take_zero]; exact dot_one x)
          clear hts hown hbk hbel hdl hlen
          rw [show ((0 : Nat) : Int) = 0 from rfl]
          go_wp2_with fail
          refine (appU (w.heap.size + 1) x (dot (l.take 0)) _ _ hx32 HOWN.out HBK.out.lt (by omega) E3.out).mono ?_
          rintro e w4 ⟨v4, rfl, hown4, hb4⟩
          have HOWN4 := Lib.hid hown4
          have HBK4 := Lib.hid (HBK.out.below hb4 (Nat.lt_succ_self _))
          have HBEL4 := Lib.hid (HBEL.out.trans (hb4.mono (Nat.le_succ _)))
          clear hown4 hb4
          go_wp2
          exact ⟨⟨1, by omega, rfl, by rw [show (1 : Nat) = 0 + 1 from rfl, hds.out]; exact HOWN4.out, HBK4.out, HBEL4.out⟩, by simp [intOf]; omega⟩
        · have hne : l.take j ≠ [] := fun e => by
            have := congrArg List.length e
            rw [List.length_take, List.length_nil] at this
            omega
          have hds : Hid (dot (l.take (j + 1)) = (dot (l.take j) ++ [46]) ++ textL x) := Lib.hid (by rw [HTS.out, dot_snoc hne])
          have hjp : 0 < j := by omega
          obtain ⟨v2, w3, hrun, hown3, hb3⟩ := app8 (xs := dot (l.take j)) (ys := [46]) (c := 1) (own_below HOWN.out (bel1 _ (.cells #[.int .u8 46] 5))) (A := some ⟨wr.heap.size, 0, none⟩) ((Bk.new wr 5 (cs8 [46])).rd 0) (by have := HBK.out.lt; simp; omega) (by simp; omega)
          have HOWN3 := Lib.hid hown3
          have HBK3 := Lib.hid ((HBK.out.alloc (.cells #[.int .u8 46] 5)).below hb3 (Nat.lt_succ_self _))
          have HBEL3 := Lib.hid ((HBEL.out.alloc HBEL.out.size (.cells #[.int .u8 46] 5)).trans (hb3.mono (Nat.le_succ _)))
          have E4 := et HE HBEL3
          clear hts hown hbk hbel hown3 hb3 hdl hlen hj0 hne
          go_wp2_with (at_builtin; refine wpList_app rfl _ _ _ _ rfl _ _ rfl rfl hrun ?_)
          refine (appU (w.heap.size + 1) x (dot (l.take j) ++ [46]) _ _ hx32 HOWN3.out HBK3.out.lt (by simp; omega) E4.out).mono ?_
          rintro e w4 ⟨v4, rfl, hown4, hb4⟩
          have HOWN4 := Lib.hid hown4
          have HBK4 := Lib.hid (HBK3.out.below hb4 (Nat.lt_succ_self _))
          have HBEL4 := Lib.hid (HBEL3.out.trans (hb4.mono (Nat.le_succ _)))
          clear hown4 hb4
          go_wp2
          exact ⟨⟨j + 1, by omega, by go_num, by rw [hds.out]; exact HOWN4.out, HBK4.out, HBEL4.out⟩, by simp [intOf]; omega⟩
      · obtain rfl : j = n := by omega
        obtain ⟨A, c, hv, hr, _, _⟩ := own_rd hown
        subst hv
        have hcv := fun (W : World) (h : Rb W A (dot (l.take j))) => run_str (P := Tryz.prog) (src := 80) (dst := 9) (w := W) Tryz.underlying80 Tryz.underlying5 Tryz.underlying9 h c
        have hcv := hcv wr ⟨hr, dot_all _⟩
        clear hown hbk hbel hr
        go_wp2
        go_ret
        rw [HT.out]
        exact ⟨rfl, HBEL.out⟩
  · have HT : Hid (txO n l = [63]) := Lib.hid (if_neg (by rw [hc]; decide))
    have HC := Lib.hid hc
    clear hc h32
    go_wp2_with (refine wpList_load25 rfl (.tmp 1) rfl rfl S.out HL.out ?_)
    refine (check_any n l _ HO.out).mono ?_
    rw [HC.out]
    rintro e w2 ⟨rfl, hb⟩
    have B2 := bt B0 (Lib.hid hb)
    clear hb
    go_wp2
    go_ret
    rw [HT.out]
    exact ⟨rfl, B2.out⟩
end Go.Proofs.YtaiiihdckdjpoaaGreatDoor

/-!
  The reference of layers 1 and 6: contracts of Small, Text (of a number), and layer 6's Text.
  Conditions: the OID's cells are in their kinds.
-/
namespace Go.Proofs.YtaiiihdckdjpoaaGreatDoor
open Go.RowKit

theorem info3 : (Tryz.prog.info? 3).map (fun i => (i.zero, i.size, i.bytes)) = some (some (.int .i64 0), 1, 8) := by kernel_rfl
theorem dgs10_le {v k : Nat} (h : v < 10 ^ k) : (dgs 10 v).length ≤ k := (dgs_length (by omega) v k).2 h
theorem appI {w : World} {base : Nat} {v : Value} {l : List Nat} (hown : w.ownsRow base 3 1 v l.length (csI l)) (x : Nat) (hb : base ≤ w.heap.size) (hl : l.length ≤ 1000000) :
    ∃ v' w', (Builtin.append_ #[100, 100] 100 #[v, .slice (some ⟨w.heap.size, 0, none⟩) 1 1]).run Tryz.prog (w.alloc (.cells #[.int .i64 (x : Int)] 3)) = .ok v' w' ∧ w'.ownsRow base 3 1 v' (l ++ [x]).length (csI (l ++ [x])) ∧ Below base w w' := by
  rw [← csI_length] at hown
  obtain ⟨v', w', h1, h2, h3⟩ := app_one (P := Tryz.prog) (ty := 100) Tryz.underlying100 info3 rfl hown (.int .i64 (x : Int)) rfl hb (by rw [csI_length]; omega) (by rw [csI_length]; unfold maxLen; omega)
  refine ⟨v', w', h1, ?_, h3⟩
  rw [csI_snoc, csI_length] at h2
  exact h2

set_option maxHeartbeats 800000 in
set_option maxRecDepth 100000 in
theorem small_any (n : Nat) (w : World) (hn : n < 9223372036854775808) : Calls Tryz.prog 71 #[.int .i64 n] w (GiveI w (dgs 10 n)) := by
  have hlen0 := dgs10_le (v := n) (k := 19) (by omega)
  go_enter Tryz.func71, Tryz.ntmps71
  go_wp2_with fail
  go_loopw [0, 3] (fun r v wr => ∃ (q : Nat) (o : List Nat), q < 9223372036854775808 ∧ r = .int .i64 q ∧ dgs 10 n = o ++ dgs 10 q ∧ wr.ownsRow w.heap.size 3 1 v o.length (csI o) ∧ Below w.heap.size w wr) (fun r _ _ => (intOf r).toNat)
  case atStart => exact ⟨n, [], hn, rfl, rfl, World.ownsRow_nil _ _ _ _, Below.refl _ _⟩
  case round =>
    obtain ⟨q, o, hq, rfl, hd, hown, hbel⟩ := hrel
    have hol : o.length ≤ 19 := by
      have := congrArg List.length hd
      rw [List.length_append] at this
      omega
    have HD := Lib.hid hd
    have HBel := Lib.hid hbel
    have HOwn := Lib.hid hown
    clear hd hbel hown
    by_cases hq0 : q = 0
    · subst hq0
      obtain ⟨A', c', hv', hr', hc1, hc2⟩ := own_open (by rw [csI_length]; exact HOwn.out)
      rw [csI_length] at hc1 hv'
      subst hv'
      have HR := Lib.hid (show Ri wr A' o from hr')
      have HC := Lib.hid (And.intro hc1 hc2)
      have HD2 : Hid (dgs 10 n = o) := HD.out.trans (by rw [dgs_zero, List.append_nil])
      clear hr' hc1 hc2
      go_wp2_with fail
      go_ret
      rw [HD2.out]
      exact ⟨A', c', rfl, HR.out, HC.out.1, HC.out.2, HBel.out⟩
    · have hqpos : 0 < q := by omega
      obtain ⟨v', w1, hrun, hown1, hb1⟩ := appI HOwn.out (q % 10) HBel.out.size (by omega)
      have hy : ((q % 10 : Nat) : Int) = (q : Int) % 10 := by omega
      rw [hy] at hrun
      have HOwn1 := Lib.hid hown1
      have HB1 := Lib.hid hb1
      have HD2 := Lib.hid (HD.out.trans (by rw [dgs_pos (by omega) hq0] : o ++ dgs 10 q = o ++ (q % 10 :: dgs 10 (q / 10))))
      clear hown1 hb1 hy hq0
      go_wp2_with (at_builtin; refine wpList_app rfl _ _ _ _ rfl _ _ rfl rfl hrun ?_)
      exact ⟨⟨q / 10, o ++ [q % 10], by omega, by go_num, by rw [HD2.out, List.append_assoc]; rfl, HOwn1.out, (HBel.out).trans ((HB1.out).mono (Nat.le_refl _))⟩, by simp [intOf]; omega⟩

/-- The k-th digit's character. -/
theorem dslice (x : Nat) (hx : x < 10) (W : World) : (Instr.slice 9 (.string ⟨#[48, 49, 50, 51, 52, 53, 54, 55, 56, 57]⟩) (some (.int .i64 (x : Int))) (some (.int .i64 ((x : Int) + 1))) none).run Tryz.prog W = .ok (.string (bstr [48 + x])) W := by
  rcases x with _ | _ | _ | _ | _ | _ | _ | _ | _ | _ | x
  all_goals first | omega | kernel_rfl
theorem dslice' (x : Nat) (hx : x < 10) (W : World) : (Instr.sliceAt 9 (.string ⟨#[48, 49, 50, 51, 52, 53, 54, 55, 56, 57]⟩) (some (.int .i64 (x : Int))) (some (.int .i64 ((x : Int) + 1))) none).run Tryz.prog W = .ok (.string (bstr [48 + x])) W := by
  rcases x with _ | _ | _ | _ | _ | _ | _ | _ | _ | _ | x
  all_goals first | omega | kernel_rfl
set_option maxHeartbeats 800000 in
set_option maxRecDepth 100000 in
theorem rtext_any (A : Option Addr) (v c : Nat) (w : World) (hv : (dgs 10 v).length ≤ 1000) (h : Ri w A (dgs 10 v)) :
    Calls Tryz.prog 72 #[.slice A (dgs 10 v).length c] w fun e w' => e = .returned (.string (bstr (textL v))) ∧ Below w.heap.size w w' := by
  by_cases hv0 : v = 0
  · subst hv0
    have e0 : (dgs 10 0).length = 0 := rfl
    rw [e0]
    clear h hv
    go_enter Tryz.func72, Tryz.ntmps72
    go_wp2_with fail
    go_ret
    exact ⟨rfl, Below.refl _ _⟩
  · have HT := Lib.hid (show textL v = (dgs 10 v).reverse.map (48 + ·) from if_neg hv0)
    have h10 := dgs_lt (b := 10) (by omega) v
    have hpos : 0 < (dgs 10 v).length := by rw [dgs_pos (by omega) hv0]; simp
    generalize dgs 10 v = l at *
    have hb0 : ((l.length : Int) == 0) = false := by rw [beq_eq_false_iff_ne]; omega
    clear hv0
    go_enter Tryz.func72, Tryz.ntmps72
    go_wp2_with fail
    go_loopw [3, 4] (fun s i wr => ∃ k : Nat, k ≤ l.length ∧ i = .int .i64 ((k : Int) - 1) ∧ s = .string (bstr ((l.drop k).reverse.map (48 + ·))) ∧ Below w.heap.size w wr) (fun _ i _ => (intOf i + 1).toNat)
    case atStart => exact ⟨l.length, Nat.le_refl _, rfl, by rw [List.drop_eq_nil_of_le (Nat.le_refl _)]; rfl, Below.refl _ _⟩
    case round =>
      obtain ⟨k, hk, rfl, rfl, hbel⟩ := hrel
      have HBel := Lib.hid hbel
      clear hbel
      by_cases hk0 : k = 0
      · subst hk0
        rw [List.drop_zero]
        go_wp2_with fail
        go_ret
        exact ⟨by rw [HT.out]; rfl, HBel.out⟩
      · obtain ⟨j, rfl⟩ : ∃ j, k = j + 1 := ⟨k - 1, by omega⟩
        have hjl : j < l.length := by omega
        obtain ⟨b, off, rfl, hb, hcell0⟩ := h.at_ hjl
        have hcell : wr.cell? ⟨b, off + j, none⟩ = some (.int .i64 (l[j] : Int)) := (HBel.out.cell hb).trans hcell0
        have hx := h10 _ (List.getElem_mem hjl)
        have HDr := Lib.hid (List.drop_eq_getElem_cons hjl)
        have e1 : (((j + 1 : Nat) : Int) - 1) = (j : Int) := by omega
        rw [e1]
        have H := Lib.hid h
        generalize l[j] = x at hcell hx HDr
        obtain ⟨S, hS⟩ : ∃ S, List.map (48 + ·) (List.drop (j + 1) l).reverse = S := ⟨_, rfl⟩
        have hSl : S.length ≤ 1000 := by rw [← hS]; simp; omega
        rw [hS]
        have HSe := Lib.hid hS
        clear hS
        have hsz : ¬ 9223372036854775807 < (bstr S).size + (bstr [48 + x]).size := by rw [bstr_size, bstr_size]; simp; omega
        have q1 : IntKind.i64.wrap ((x : Int) + 1) = (x : Int) + 1 := IntWalk.i64_in _ (by omega)
        have q2 := dslice x hx
        have q3 := dslice' x hx
        clear hcell0 e1 hk0 h
        go_wp2_with fail
        refine wp_region_still_tail 12 (by kernel_rfl) (by kernel_rfl) ?_
        simp only [List.take_succ_cons, List.take_zero, List.drop_succ_cons, List.drop_zero]
        repeat still_step
        refine wpStill_nil ?_
        change wpList _ _ _ _ _ wr.drew
        clear q1 q2 q3
        go_wp2_with fail
        refine ⟨⟨j, by omega, rfl, ?_, HBel.out.drew⟩, by simp [intOf]⟩
        rw [HDr.out, List.reverse_cons, List.map_append, HSe.out]
        exact congrArg Value.string (bstr_app S [48 + x])

set_option maxRecDepth 100000 in
set_option maxHeartbeats 2000000 in
theorem rtextO_any (n : Nat) (l : List Nat) (w : World) (ho : OkO n l) : Calls Tryz.prog 54 #[oV n l] w (GiveT w (txO n l)) := by
  have S := Lib.hid (Bk.new w 26 (oc n l))
  have B0 := Lib.hid (bel1 w (.cells (oc n l).toArray 26))
  have HO := Lib.hid ho
  have HL := Lib.hid ho.len
  have h32 := ho.a32
  clear ho
  go_enter Tryz.func54, Tryz.ntmps54
  go_upto_region 1 with fail
  generalize w.alloc (.cells (oc n l).toArray 26) = w1 at *
  rcases chkO_01 n l with hc | hc
  · have HT : Hid (txO n l = dot (l.take n)) := Lib.hid (if_pos hc)
    have hn := chkO_n hc
    have HC := Lib.hid hc
    have H32 := Lib.hid h32
    clear hc h32
    go_wp2_with (refine wpList_load25 rfl (.tmp 1) rfl rfl S.out HL.out ?_)
    refine (rcheck_any n l _ HO.out).mono ?_
    rw [HC.out]
    rintro e w2 ⟨rfl, hb⟩
    have B2 := bt B0 (Lib.hid hb)
    have S2 := kt S (Lib.hid hb)
    clear hb S B0
    go_wp2
    go_loopw [3, 4] (fun v i wr => ∃ j : Nat, j ≤ n ∧ i = .int .i64 (j : Int) ∧ v = .string (bstr (dot (l.take j))) ∧ Bk wr w.heap.size 26 (oc n l) ∧ Below w.heap.size w wr) (fun _ i _ => n - (intOf i).toNat)
    case atStart => exact ⟨0, Nat.zero_le _, rfl, rfl, S2.out, B2.out⟩
    case round =>
      obtain ⟨j, hj, rfl, rfl, hbk, hbel⟩ := hrel
      have HBK := Lib.hid hbk
      have HBEL := Lib.hid hbel
      have hlen := HL.out
      have cn := oid_n hbk
      rcases Nat.lt_or_ge j n with hjn | hjn
      · have hjl : j < l.length := by omega
        have hc := oid_a' hbk (i := j) hjl
        have hx32 := H32.out _ (List.getElem_mem hjl)
        have hts := List.take_succ_eq_append_getElem hjl
        generalize l[j] = x at *
        have HTS := Lib.hid hts
        have hdl := dot_len (l := l.take j) (fun y hy => H32.out y (List.mem_of_mem_take hy))
        rw [List.length_take] at hdl
        have hjl16 : j < 16 := by omega
        have hdl2 : (dot (l.take j)).length ≤ 400 := by omega
        have htl := textL_le (u := x) (by omega)
        by_cases hj0 : j = 0
        · subst hj0
          have hds : Hid (dot (l.take (0 + 1)) = dot (l.take 0) ++ textL x) := Lib.hid (by rw [HTS.out, List.take_zero]; exact dot_one x)
          generalize dot (l.take 0) = D at *
          have hsz : ¬ 9223372036854775807 < (bstr D).size + (bstr (textL x)).size := by rw [bstr_size, bstr_size]; omega
          clear hts hbk hbel hdl hlen
          rw [show ((0 : Nat) : Int) = 0 from rfl]
          go_wp2_with fail
          refine (small_any x _ (by omega)).mono ?_
          rintro e w3 ⟨A, c, rfl, hr, _, _, hb3⟩
          have HR := Lib.hid hr
          have HB3 := Lib.hid hb3
          clear hr hb3
          go_wp2_with fail
          refine (rtext_any A x c _ (by have := dgs10_le (v := x) (k := 10) (by omega); omega) HR.out).mono ?_
          rintro e w4 ⟨rfl, hb4⟩
          have HBK4 := Lib.hid ((HBK.out.below HB3.out HBK.out.lt).below hb4 (Nat.lt_of_lt_of_le HBK.out.lt HB3.out.size))
          have HBEL4 := Lib.hid ((HBEL.out.trans (HB3.out.mono HBEL.out.size)).trans (hb4.mono (Nat.le_trans HBEL.out.size HB3.out.size)))
          clear hb4 cn
          generalize textL x = tx at *
          go_wp2
          exact ⟨⟨1, by omega, rfl, by rw [show (1 : Nat) = 0 + 1 from rfl, hds.out, ← bstr_app], HBK4.out, HBEL4.out⟩, by simp [intOf]; omega⟩
        · have hne : l.take j ≠ [] := fun e => by
            have := congrArg List.length e
            rw [List.length_take, List.length_nil] at this
            omega
          have hds : Hid (dot (l.take (j + 1)) = (dot (l.take j) ++ [46]) ++ textL x) := Lib.hid (by rw [HTS.out, dot_snoc hne])
          have hjp : 0 < j := by omega
          generalize dot (l.take j) = D at *
          have hsz0 : ¬ 9223372036854775807 < (bstr D).size + 1 := by rw [bstr_size]; omega
          have hsz : ¬ 9223372036854775807 < (bstr D).size + 1 + (bstr (textL x)).size := by rw [bstr_size, bstr_size]; omega
          clear hts hbk hbel hdl hlen hj0 hne
          go_wp2_with fail
          refine (small_any x _ (by omega)).mono ?_
          rintro e w3 ⟨A, c, rfl, hr, _, _, hb3⟩
          have HR := Lib.hid hr
          have HB3 := Lib.hid hb3
          clear hr hb3
          go_wp2_with fail
          refine (rtext_any A x c _ (by have := dgs10_le (v := x) (k := 10) (by omega); omega) HR.out).mono ?_
          rintro e w4 ⟨rfl, hb4⟩
          have HBK4 := Lib.hid ((HBK.out.below HB3.out HBK.out.lt).below hb4 (Nat.lt_of_lt_of_le HBK.out.lt HB3.out.size))
          have HBEL4 := Lib.hid ((HBEL.out.trans (HB3.out.mono HBEL.out.size)).trans (hb4.mono (Nat.le_trans HBEL.out.size HB3.out.size)))
          clear hb4 cn
          generalize textL x = tx at *
          go_wp2
          exact ⟨⟨j + 1, by omega, by go_num, by rw [hds.out, ← bstr_app, ← bstr_app]; rfl, HBK4.out, HBEL4.out⟩, by simp [intOf]; omega⟩
      · obtain rfl : j = n := by omega
        clear hbk hbel
        go_wp2
        go_ret
        rw [HT.out]
        exact ⟨rfl, HBEL.out⟩
  · have HT : Hid (txO n l = [63]) := Lib.hid (if_neg (by rw [hc]; decide))
    have HC := Lib.hid hc
    clear hc h32
    go_wp2_with (refine wpList_load25 rfl (.tmp 1) rfl rfl S.out HL.out ?_)
    refine (rcheck_any n l _ HO.out).mono ?_
    rw [HC.out]
    rintro e w2 ⟨rfl, hb⟩
    have B2 := bt B0 (Lib.hid hb)
    clear hb
    go_wp2
    go_ret
    rw [HT.out]
    exact ⟨rfl, B2.out⟩
end Go.Proofs.YtaiiihdckdjpoaaGreatDoor
