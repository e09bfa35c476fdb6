/-
  Contracts and facts of layers 1 to 10 that later statements rest on: part E (ElA ElB ElC ElD ElE ElF ElG Hold ElH ElI ElJ ElK ElL ElM ElN ElO ElQ ElR ElS ElT ElW ElZa).
  Conditions: as each says.
-/
import Derived.Test.YtfbdeefeagednaaPkC
import Derived.Test.YtfbdeefeagednaaPkT
import Derived.Test.YtfbdeefeagednaaPkL
import Derived.Deep.RegionHeld3
import Derived.Deep.RegionWith
import Derived.Defers
import Derived.Recover
import Derived.WalkLawsBesides
import Derived.OrdersHeld
import Derived.Deep.RegionHeld
import Derived.Laws.EntriesVeiled
import Derived.Deep.Upon
import Derived.ArgAppend
import Derived.Laws.Externs
import Derived.Deep.AppendLies
import Derived.Deep.AppendSrc
import Derived.Deep.DeepCutAuto
set_option maxRecDepth 100000
namespace Go.Proofs.Ytfbdeefeagednaa
open Go.RowKit
/-- An element: class, number, constructed, content, sub-elements. -/
inductive El where
  | mk (c n : Nat) (k : Bool) (bs : List Nat) (ss : List El)
theorem El.ind {P : El → Prop} (h : ∀ c n k bs ss, (∀ e, e ∈ ss → P e) → P (.mk c n k bs ss)) : ∀ e, P e :=
  fun e => El.rec (motive_1 := P) (motive_2 := fun ss => ∀ e, e ∈ ss → P e) (fun c n k bs ss ih => h c n k bs ss ih) (fun _ he => absurd he (by simp))
    (fun _ _ h1 h2 e he => by
      rcases List.mem_cons.1 he with rfl | he
      · exact h1
      · exact h2 e he) e
/-- An element's value. -/
@[reducible] def elV (c n : Nat) (k : Bool) (u v : Value) : Value := .agg #[.int .u8 (c : Int), .bool k, .int .u32 (n : Int), u, v]
/-- The header's address reads as the cells xs, which lie in a block of S. -/
def RdX (S : Nat → Prop) (w : World) (A : Option Addr) (xs : List Value) : Prop :=
  xs ≠ [] → ∃ b off, A = some ⟨b, off, none⟩ ∧ b < w.heap.size ∧ S b ∧ ∀ j u, xs[j]? = some u → w.cell? ⟨b, off + j, none⟩ = some u
theorem RdX.rd {S : Nat → Prop} {w : World} {A : Option Addr} {xs : List Value} (h : RdX S w A xs) : Rd w A xs := fun hn =>
  let ⟨b, off, e, hb, _, hc⟩ := h hn
  ⟨b, off, e, hb, hc⟩
theorem RdX.nil {S : Nat → Prop} {w : World} {A : Option Addr} : RdX S w A [] := fun h => absurd rfl h
theorem RdX.keep {S T : Nat → Prop} {w w' : World} {A : Option Addr} {xs : List Value} (h : RdX S w A xs) (hz : w.heap.size ≤ w'.heap.size) (hk : ∀ k, S k → k < w.heap.size → w'.heap[k]? = w.heap[k]?) (hT : ∀ k, S k → k < w.heap.size → T k) : RdX T w' A xs := fun hn =>
  let ⟨b, off, e, hb, hS, hc⟩ := h hn
  ⟨b, off, e, Nat.lt_of_lt_of_le hb hz, hT b hS hb, fun j u hu => (World.cell?_of_block (w := w) (hk b hS hb)).trans (hc j u hu)⟩
mutual
/-- The value reads as the element; x: without spare capacity; what lies in memory lies in blocks of S. -/
def RdE (x : Bool) (S : Nat → Prop) (w : World) : El → Value → Prop
  | .mk c n k bs ss, v => c < 256 ∧ n < 4294967296 ∧ All8 bs ∧ ∃ A ca B cb, v = elV c n k (.slice A bs.length ca) (.slice B ss.length cb) ∧ RdX S w A (cs8 bs) ∧
      bs.length ≤ ca ∧ ca ≤ maxLen ∧ ss.length ≤ cb ∧ cb ≤ maxLen ∧ (x = true → ca = bs.length ∧ cb = ss.length) ∧ RdS x S w B ss
/-- The header's address reads as the elements, one behind the other. -/
def RdS (x : Bool) (S : Nat → Prop) (w : World) : Option Addr → List El → Prop
  | _, [] => True
  | A, e :: ss => ∃ b off v, A = some ⟨b, off, none⟩ ∧ b < w.heap.size ∧ S b ∧ (∀ j u, v.cells.toList[j]? = some u → w.cell? ⟨b, off + j, none⟩ = some u) ∧ RdE x S w e v ∧
      RdS x S w (some ⟨b, off + 5, none⟩) ss
end
section
variable {x : Bool} {S T : Nat → Prop} {w w' : World}
mutual
theorem RdE.keep (hz : w.heap.size ≤ w'.heap.size) (hk : ∀ k, S k → k < w.heap.size → w'.heap[k]? = w.heap[k]?) (hT : ∀ k, S k → k < w.heap.size → T k) : ∀ (e : El) (v : Value), RdE x S w e v → RdE x T w' e v
  | .mk c n k bs ss, v, h => by
    obtain ⟨h1, h2, h3, A, ca, B, cb, h4, h5, h6, h7, h8, h9, h10, h11⟩ := h
    exact ⟨h1, h2, h3, A, ca, B, cb, h4, h5.keep hz hk hT, h6, h7, h8, h9, h10, RdS.keep hz hk hT ss B h11⟩
theorem RdS.keep (hz : w.heap.size ≤ w'.heap.size) (hk : ∀ k, S k → k < w.heap.size → w'.heap[k]? = w.heap[k]?) (hT : ∀ k, S k → k < w.heap.size → T k) : ∀ (ss : List El) (A : Option Addr), RdS x S w A ss → RdS x T w' A ss
  | [], _, _ => trivial
  | e :: ss, A, h => by
    obtain ⟨b, off, v, h1, h2, h3, h4, h5, h6⟩ := h
    exact ⟨b, off, v, h1, Nat.lt_of_lt_of_le h2 hz, hT b h3 h2, fun j u hu => (World.cell?_of_block (w := w) (hk b h3 h2)).trans (h4 j u hu), RdE.keep hz hk hT e v h5, RdS.keep hz hk hT ss _ h6⟩
end
theorem RdE.below {B : Nat} {e : El} {v : Value} (h : RdE x S w e v) (hS : ∀ k, S k → k < w.heap.size → k < B) (hb : Below B w w') : RdE x S w' e v :=
  RdE.keep hb.size (fun k hs hk => hb.block k (hS k hs hk)) (fun _ hs _ => hs) e v h
theorem RdE.stay {e : El} {v : Value} (h : RdE x S w e v) (hb : Below w.heap.size w w') : RdE x S w' e v := h.below (fun _ _ hk => hk) hb
theorem RdS.stay {ss : List El} {A : Option Addr} (h : RdS x S w A ss) (hb : Below w.heap.size w w') : RdS x S w' A ss :=
  RdS.keep hb.size (fun k _ hk => hb.block k hk) (fun _ hs _ => hs) ss A h
/-- An element among those that lie one behind the other. -/
theorem RdS.at_ {A : Option Addr} {ss : List El} (h : RdS x S w A ss) {i : Nat} (hi : i < ss.length) :
    ∃ b off v, A = some ⟨b, off, none⟩ ∧ b < w.heap.size ∧ S b ∧ (∀ j u, v.cells.toList[j]? = some u → w.cell? ⟨b, off + i * 5 + j, none⟩ = some u) ∧ RdE x S w ss[i] v := by
  induction ss generalizing A i with
  | nil => simp at hi
  | cons e ss ih =>
    obtain ⟨b, off, v, h1, h2, h3, h4, h5, h6⟩ := h
    cases i with
    | zero => exact ⟨b, off, v, h1, h2, h3, fun j u hu => by rw [Nat.zero_mul, Nat.add_zero]; exact h4 j u hu, h5⟩
    | succ i =>
      obtain ⟨b', off', v', g1, g2, g3, g4, g5⟩ := ih h6 (by simpa using hi)
      simp only [Option.some.injEq, Addr.mk.injEq, and_true] at g1
      obtain ⟨rfl, rfl⟩ := g1
      exact ⟨b, off, v', h1, h2, h3, fun j u hu => by rw [show off + (i + 1) * 5 + j = off + 5 + i * 5 + j by omega]; exact g4 j u hu, g5⟩
/-- They lie one behind the other, said by their index. -/
theorem RdS.mk {b off : Nat} {ss : List El} (hb : b < w.heap.size) (hS : S b) (h : ∀ i, (hi : i < ss.length) → ∃ v, (∀ j u, v.cells.toList[j]? = some u → w.cell? ⟨b, off + i * 5 + j, none⟩ = some u) ∧ RdE x S w ss[i] v) : RdS x S w (some ⟨b, off, none⟩) ss := by
  induction ss generalizing off with
  | nil => trivial
  | cons e ss ih =>
    obtain ⟨v, h1, h2⟩ := h 0 (by simp)
    refine ⟨b, off, v, rfl, hb, hS, fun j u hu => by have := h1 j u hu; rwa [Nat.zero_mul, Nat.add_zero] at this, h2, ih fun i hi => ?_⟩
    obtain ⟨v', g1, g2⟩ := h (i + 1) (by simpa using hi)
    exact ⟨v', fun j u hu => by rw [show off + 5 + i * 5 + j = off + (i + 1) * 5 + j by omega]; exact g1 j u hu, g2⟩
end
end Go.Proofs.Ytfbdeefeagednaa
namespace Go.Proofs.Ytfbdeefeagednaa
open Go.RowKit
mutual
/-- How many elements there are. -/
def cntE : El → Nat
  | .mk _ _ _ _ ss => 1 + cntS ss
def cntS : List El → Nat
  | [] => 0
  | e :: ss => cntE e + cntS ss
end
mutual
/-- How many levels there are. -/
def depE : El → Nat
  | .mk _ _ _ _ ss => depS ss + 1
def depS : List El → Nat
  | [] => 0
  | e :: ss => max (depE e) (depS ss)
end
theorem cntE_pos (e : El) : 0 < cntE e := by cases e; unfold cntE; omega
theorem depS_append (a b : List El) : depS (a ++ b) = max (depS a) (depS b) := by
  induction a with
  | nil => simp [depS]
  | cons e a ih => rw [List.cons_append, depS, ih, depS]; omega
theorem depS_take {ss : List El} {i : Nat} (hi : i < ss.length) : depS (ss.take (i + 1)) = max (depS (ss.take i)) (depE ss[i]) := by
  rw [List.take_succ_eq_append_getElem hi, depS_append, depS, depS]; omega
theorem cntS_len (ss : List El) : ss.length ≤ cntS ss := by
  induction ss with
  | nil => simp
  | cons e ss ih => have := cntE_pos e; rw [cntS, List.length_cons]; omega
theorem depE_mem {ss : List El} {e : El} (h : e ∈ ss) : depE e ≤ depS ss := by
  induction ss with
  | nil => simp at h
  | cons x ss ih =>
    rw [depS]
    rcases List.mem_cons.1 h with rfl | h
    · omega
    · have := ih h; omega
end Go.Proofs.Ytfbdeefeagednaa
namespace Go.Proofs.Ytfbdeefeagednaa
open Go.RowKit
/-- The five cells of one of the elements that lie one behind the other. -/
theorem RdS.five {x : Bool} {S : Nat → Prop} {w : World} {A : Option Addr} {ss : List El} (h : RdS x S w A ss) {i : Nat} (hi : i < ss.length) :
    ∃ b off c n k u v, A = some ⟨b, off, none⟩ ∧ b < w.heap.size ∧ S b ∧ w.cell? ⟨b, off + i * 5, none⟩ = some (.int .u8 ((c : Nat) : Int)) ∧ w.cell? ⟨b, off + i * 5 + 1, none⟩ = some (.bool k) ∧ w.cell? ⟨b, off + i * 5 + 2, none⟩ = some (.int .u32 ((n : Nat) : Int)) ∧
      w.cell? ⟨b, off + i * 5 + 3, none⟩ = some u ∧ w.cell? ⟨b, off + i * 5 + 4, none⟩ = some v ∧ RdE x S w ss[i] (elV c n k u v) := by
  obtain ⟨b, off, y, h1, h2, h3, h4, h5⟩ := h.at_ hi
  generalize ss[i] = e at h5
  obtain ⟨c, n, k, bs, ts⟩ := e
  have h6 := h5
  obtain ⟨g1, g2, g3, A', ca, B', cb, rfl, g5⟩ := h5
  exact ⟨b, off, c, n, k, _, _, h1, h2, h3, h4 0 _ rfl, h4 1 _ rfl, h4 2 _ rfl, h4 3 _ rfl, h4 4 _ rfl, h6⟩
end Go.Proofs.Ytfbdeefeagednaa
namespace Go.Proofs.Ytfbdeefeagednaa
open Go.RowKit
/-- The cells of a block of five. -/
theorem Bk.five {w : World} {g : Nat} {t : TypeId} {a b c d e : Value} (h : Bk w g t [a, b, c, d, e]) :
    w.cell? ⟨g, 0, none⟩ = some a ∧ w.cell? ⟨g, 1, none⟩ = some b ∧ w.cell? ⟨g, 2, none⟩ = some c ∧ w.cell? ⟨g, 3, none⟩ = some d ∧ w.cell? ⟨g, 4, none⟩ = some e ∧ g < w.heap.size :=
  ⟨h.cell 0, h.cell 1, h.cell 2, h.cell 3, h.cell 4, h.lt⟩
mutual
/-- Not too large for a statement. -/
def bndE : El → Bool
  | .mk _ _ _ bs ss => decide (1 + cntS ss ≤ 60) && (decide (bs.length ≤ 200) && bndS ss)
def bndS : List El → Bool
  | [] => true
  | e :: ss => bndE e && bndS ss
end
end Go.Proofs.Ytfbdeefeagednaa
namespace Go.Proofs.Ytfbdeefeagednaa
open Go.RowKit
theorem bel1 (w : World) (o : Obj) : Below w.heap.size w (w.alloc o) := (Below.refl _ _).alloc (Nat.le_refl _) _
theorem bel2 (w : World) (o o' : Obj) : Below w.heap.size w ((w.alloc o).alloc o') := ((Below.refl _ _).alloc (Nat.le_refl _) _).alloc (by simp) _
theorem bel3 (w : World) (o o' o'' : Obj) : Below w.heap.size w (((w.alloc o).alloc o').alloc o'') := (bel2 w o o').alloc (by simp; omega) _
end Go.Proofs.Ytfbdeefeagednaa
namespace Go.Proofs.Ytfbdeefeagednaa
open Go.RowKit
/-- A fault as it is raised. -/
@[reducible] def fltV (f a : Nat) : Value := .iface 87 (.agg #[.int .i64 (f : Int), .int .i64 (a : Int)])
@[reducible] def fltP (f a : Nat) : PanicEntry := { v := fltV f a, recovered := false }
set_option maxRecDepth 100000 in
theorem raise_no (a : Int) (w : World) : Calls Try.prog 53 #[.int .i64 0, .int .i64 a] w fun e w' => e = .returned (.tuple #[]) ∧ w = w' := by
  go_enter Try.func53, Try.ntmps53
  go_wp2_with fail
  go_end0
  exact ⟨rfl, rfl⟩
set_option maxRecDepth 100000 in
theorem raise_yes (f a : Nat) (w : World) (hf : f ≠ 0) : Calls Try.prog 53 #[.int .i64 (f : Int), .int .i64 (a : Int)] w fun e w' => e = .panicked [fltP f a] ∧ w = w' := by
  have h1 : ((f : Int) != 0) = true := by simp; omega
  go_enter Try.func53, Try.ntmps53
  go_wp2_with fail
  exact ⟨rfl, rfl, rfl⟩
/-- The error of the place of an element. -/
def plcE (d b : Nat) : Nat := if 16 < d then 12 else if 8192 ≤ b then 3 else 0
set_option maxRecDepth 100000 in
theorem place_any (d b : Nat) (w : World) : Calls Try.prog 69 #[.int .i64 (d : Int), .int .i64 (b : Int)] w fun e w' => e = .returned (.int .i64 (plcE d b : Nat)) ∧ w = w' := by
  unfold plcE
  by_cases h1 : 16 < d
  · rw [if_pos h1]
    go_enter Try.func69, Try.ntmps69
    go_wp2_with fail
    go_ret
    exact ⟨rfl, rfl⟩
  rw [if_neg h1]
  by_cases h2 : 8192 ≤ b
  · rw [if_pos h2]
    go_enter Try.func69, Try.ntmps69
    go_wp2_with fail
    go_ret
    exact ⟨rfl, rfl⟩
  rw [if_neg h2]
  go_enter Try.func69, Try.ntmps69
  go_wp2_with fail
  go_ret
  exact ⟨rfl, rfl⟩
set_option maxRecDepth 100000 in
theorem bnd_no (z : Nat) (w : World) (h : z ≤ 1048576) : Calls Try.prog 64 #[.int .i64 (z : Int)] w fun e w' => e = .returned (.int .i64 (z : Int)) ∧ w = w' := by
  go_enter Try.func64, Try.ntmps64
  go_wp2_with fail
  go_ret
  exact ⟨rfl, rfl⟩
set_option maxRecDepth 100000 in
theorem bnd_yes (z : Nat) (w : World) (h : 1048576 < z) : Calls Try.prog 64 #[.int .i64 (z : Int)] w fun e w' => e = .panicked [fltP 3 0] ∧ w = w' := by
  go_enter Try.func64, Try.ntmps64
  go_wp2_with fail
  refine (raise_yes 3 0 w (by decide)).mono ?_
  rintro e w' ⟨rfl, rfl⟩
  exact ⟨rfl, rfl, rfl⟩
set_option maxRecDepth 100000 in
theorem catch1_yes (g f a : Nat) (older : List PanicEntry) (w : World) (h : Bk w g 87 [.int .i64 0, .int .i64 0]) :
    CallsD Try.prog 68 #[.pointer (some ⟨g, 0, none⟩)] (.panicking (fltP f a :: older)) w fun e u' w' =>
      e = .returned (.tuple #[]) ∧ u' = .panicking ({ v := fltV f a, recovered := true } :: older) ∧ w' = (w.setCell ⟨g, 0, none⟩ (.int .i64 (f : Int))).setCell ⟨g, 1, none⟩ (.int .i64 (a : Int)) := by
  have c0 := h.cell 0
  have c1 := h.cell 1
  have f0 := h.free 0
  have f1 := h.free 1
  simp only [List.getElem?_cons_zero, List.getElem?_cons_succ] at c0 c1
  have hta : ∀ w, (Instr.typeAssert (fltV f a) 20 87 false).run Try.prog w = .ok (.agg #[.int .i64 (f : Int), .int .i64 (a : Int)]) w := fun _ => by kernel_rfl
  refine callsD_of_wpS Try.func68 rfl fun c₀ cs hu => ?_
  simp only [Try.ntmps68, List.size_toArray, List.length_cons, List.length_nil, Nat.reduceAdd, Nat.reduceSub, Array.replicate_succ, Array.replicate_zero, List.push_toArray, List.append_toArray, List.nil_append, List.cons_append]
  apply wpS_seq
  apply wpS_region
  simp [wpOpsS, go_sem, recoverD, hu, Exit.thenS]
  refine wpS_of_wp ?_
  clear hu
  go_wp2_with fail
  simp [bodyPostS, results, Try.results68]
set_option maxRecDepth 100000 in
theorem catch1_no (p : Addr) (w : World) :
    CallsD Try.prog 68 #[.pointer (some p)] .returning w fun e u' w' => e = .returned (.tuple #[]) ∧ u' = .returning ∧ w' = w := by
  refine callsD_of_wpS Try.func68 rfl fun c₀ cs hu => ?_
  simp only [Try.ntmps68, List.size_toArray, List.length_cons, List.length_nil, Nat.reduceAdd, Nat.reduceSub, Array.replicate_succ, Array.replicate_zero, List.push_toArray, List.append_toArray, List.nil_append, List.cons_append]
  apply wpS_seq
  apply wpS_region
  simp [wpOpsS, go_sem, recoverD, hu, Exit.thenS]
  refine wpS_of_wp ?_
  go_wp2_with fail
  cases c₀
  simp_all [bodyPostS, results, Try.results68]
set_option maxHeartbeats 1000000 in
set_option maxRecDepth 100000 in
/-- 'catch': what the function that it calls raises, it returns. -/
theorem catch_any (K : Nat) (cap : Array Value) (R : Nat → Nat → World → Prop) (w : World) (hK : ∀ (args : Array Value) (w : World), (callFunc K args).run Try.prog w = .ok (.enter K args) w)
    (h : Calls Try.prog K cap (w.alloc (.cells #[.int .i64 0, .int .i64 0] 87)) fun e w' => ∃ f a, R f a w' ∧ Bk w' w.heap.size 87 [.int .i64 0, .int .i64 0] ∧ ((f = 0 ∧ a = 0 ∧ e = .returned (.tuple #[])) ∨ (f ≠ 0 ∧ e = .panicked [fltP f a]))) :
    Calls Try.prog 50 #[.func (.func K) #[] cap] w fun e w' => ∃ f a w1, R f a w1 ∧ w1.grownBy w' (some w.heap.size) ∧ e = .returned (.agg #[.int .i64 ((f : Nat) : Int), .int .i64 ((a : Nat) : Int)]) := by
  have hmf : ∀ (fn : Fn) (first cap : Array Value) (w : World), (Instr.makeFunc fn first cap).run Try.prog w = .ok (.func fn first cap) w := fun _ _ _ _ => rfl
  have H := Lib.hid h
  clear h
  go_enter_defers Try.func50, Try.ntmps50
  go_wp2_with fail
  refine H.out.mono ?_
  rintro e w1 ⟨f, a, hR, hbk, he⟩
  have HR := Lib.hid hR
  have HBK := Lib.hid hbk
  obtain ⟨c0, c1⟩ : w1.cell? ⟨w.heap.size, 0, none⟩ = some (.int .i64 0) ∧ w1.cell? ⟨w.heap.size, 1, none⟩ = some (.int .i64 0) := ⟨hbk.cell 0, hbk.cell 1⟩
  have f0 := hbk.free 0
  have f1 := hbk.free 1
  clear hR hbk H
  rcases he with ⟨rfl, rfl, rfl⟩ | ⟨hf, rfl⟩
  · go_wp2_with fail
    have HS := ((HBK.out.store 0 (.int .i64 0)).store 1 (.int .i64 0))
    have s0 := HS.cell 0
    have s1 := HS.cell 1
    simp only [List.set_cons_zero, List.set_cons_succ, List.getElem?_cons_zero, List.getElem?_cons_succ] at s0 s1
    refine leaves_cons (f := 68) (args := #[.pointer (some ⟨w.heap.size, 0, none⟩)]) (by simp) (by simp [go_sem]) ?_
    refine (catch1_no _ _).mono ?_
    rintro e u' w'' ⟨rfl, rfl, rfl⟩
    exact ⟨.agg #[.int .i64 0, .int .i64 0], by simp [results, Try.results50, go_sem, s0, s1], 0, 0, w1, HR.out, only_store (only_store (only_refl _ _) _ _) _ _, rfl⟩
  · go_wp2_with fail
    have HS := ((HBK.out.store 0 (.int .i64 (f : Int))).store 1 (.int .i64 (a : Int)))
    have s0 := HS.cell 0
    have s1 := HS.cell 1
    simp only [List.set_cons_zero, List.set_cons_succ, List.getElem?_cons_zero, List.getElem?_cons_succ] at s0 s1
    refine leaves_cons (f := 68) (args := #[.pointer (some ⟨w.heap.size, 0, none⟩)]) (by simp) (by simp [go_sem]) ?_
    refine (catch1_yes _ _ _ _ _ HBK.out).mono ?_
    rintro e u' w'' ⟨rfl, rfl, rfl⟩
    exact ⟨.agg #[.int .i64 (f : Int), .int .i64 (a : Int)], by simp [results, Try.results50, go_sem, s0, s1], f, a, w1, HR.out, only_store (only_store (only_refl _ _) _ _) _ _, rfl⟩
end Go.Proofs.Ytfbdeefeagednaa
namespace Go.Proofs.Ytfbdeefeagednaa
open Go.RowKit
/-- Of what was there nothing has turned but in blocks of T. -/
structure Kp (T : Nat → Prop) (w w' : World) : Prop where
  os : w'.os = w.os
  tape : w'.tape = w.tape
  output : w'.output = w.output
  size : w.heap.size ≤ w'.heap.size
  block : ∀ k, k < w.heap.size → ¬ T k → w'.heap[k]? = w.heap[k]?
section
variable {T U : Nat → Prop} {w w' w'' : World}
theorem Kp.refl (T : Nat → Prop) (w : World) : Kp T w w := ⟨rfl, rfl, rfl, Nat.le_refl _, fun _ _ _ => rfl⟩
theorem Kp.trans (h : Kp T w w') (k : Kp T w' w'') : Kp T w w'' :=
  ⟨k.os.trans h.os, k.tape.trans h.tape, k.output.trans h.output, Nat.le_trans h.size k.size, fun i hi hT => (k.block i (Nat.lt_of_lt_of_le hi h.size) hT).trans (h.block i hi hT)⟩
theorem Kp.mono (h : Kp T w w') (hT : ∀ k, k < w.heap.size → T k → U k) : Kp U w w' := ⟨h.os, h.tape, h.output, h.size, fun i hi hU => h.block i hi fun ht => hU (hT i hi ht)⟩
theorem kp_below (h : Below w.heap.size w w') (T : Nat → Prop) : Kp T w w' := ⟨h.os, h.tape, h.output, h.size, fun i hi _ => h.block i hi⟩
theorem kp_grown {g : Nat} (h : w.grownBy w' (some g)) (hT : T g) : Kp T w w' := ⟨h.os, h.tape, h.output, h.size, fun i hi hn => h.block i hi fun e => hn (by injection e with e; exact e ▸ hT)⟩
theorem Kp.below {B : Nat} (h : Kp T w w') (hB : B ≤ w.heap.size) (hT : ∀ k, T k → B ≤ k) : Below B w w' :=
  ⟨h.os, h.tape, h.output, h.size, fun k hk => h.block k (by omega) fun ht => by have := hT k ht; omega⟩
theorem Kp.alloc (h : Kp T w w') (o : Obj) : Kp T w (w'.alloc o) := h.trans (kp_below (bel1 _ o) T)
theorem Kp.setCell (h : Kp T w w') {p : Addr} (hp : T p.block ∨ w.heap.size ≤ p.block) (u : Value) : Kp T w (w'.setCell p u) :=
  ⟨h.os, h.tape, h.output, by simpa [World.setCell] using h.size, fun i hi hT => (Below.heap_setCell w' p u i (by rintro rfl; rcases hp with hp | hp; exact hT hp; omega)).trans (h.block i hi hT)⟩
theorem Kp.drew (h : Kp T w w') : Kp T w w'.drew := ⟨h.os, h.tape, h.output, h.size, h.block⟩
theorem Bk.kp {g : Nat} {t : TypeId} {cs : List Value} (h : Bk w g t cs) (k : Kp T w w') (hg : ¬ T g) : Bk w' g t cs := (k.block g h.lt hg).trans h
theorem RdE.kp {x : Bool} {S : Nat → Prop} {e : El} {v : Value} (h : RdE x S w e v) (k : Kp T w w') (hS : ∀ i, S i → ¬ T i) : RdE x S w' e v :=
  RdE.keep k.size (fun i hi hl => k.block i hl (hS i hi)) (fun _ hs _ => hs) e v h
theorem RdS.kp {x : Bool} {S : Nat → Prop} {ss : List El} {A : Option Addr} (h : RdS x S w A ss) (k : Kp T w w') (hS : ∀ i, S i → ¬ T i) : RdS x S w' A ss :=
  RdS.keep k.size (fun i hi hl => k.block i hl (hS i hi)) (fun _ hs _ => hs) ss A h
end
/-- The error of an element without its sub-elements. -/
def oneE : El → Nat → Nat → Nat
  | .mk c n k bs ss, d, b => if chk c n k ≠ 0 then chk c n k else if (k = true ∧ 0 < bs.length) ∨ (k = false ∧ 0 < ss.length) then 1 else plcE d b
theorem oneE_mk {c n : Nat} {k : Bool} {bs : List Nat} {ss : List El} {d b : Nat} : oneE (.mk c n k bs ss) d b = if chk c n k ≠ 0 then chk c n k else if (k = true ∧ 0 < bs.length) ∨ (k = false ∧ 0 < ss.length) then 1 else plcE d b := rfl
theorem oneE_place {c n : Nat} {k : Bool} {bs : List Nat} {ss : List El} {d b : Nat} (h0 : chk c n k = 0) (h1 : ¬ ((k = true ∧ 0 < bs.length) ∨ (k = false ∧ 0 < ss.length))) : oneE (.mk c n k bs ss) d b = plcE d b := by
  rw [oneE_mk, if_neg (by omega), if_neg h1]
set_option maxHeartbeats 1000000 in
set_option maxRecDepth 100000 in
theorem one_any {x : Bool} {S : Nat → Prop} (e : El) (v : Value) (d b : Nat) (w : World) (h : RdE x S w e v) :
    Calls Try.prog 54 #[v, .int .i64 (d : Int), .int .i64 (b : Int)] w fun e' w' => e' = .returned (.int .i64 (oneE e d b : Nat)) ∧ Below w.heap.size w w' := by
  obtain ⟨c, n, k, bs, ss⟩ := e
  obtain ⟨h1, h2, h3, A, ca, B, cb, rfl, h5, h6, h7, h8, h9, h10, h11⟩ := h
  have HBA := Lib.hid (bel1 w (.cells #[.int .u8 (c : Int), .bool k, .int .u32 (n : Int), .slice A bs.length ca, .slice B ss.length cb] 29))
  have HKA := Lib.hid (Bk.new w 29 [.int .u8 (c : Int), .bool k, .int .u32 (n : Int), .slice A bs.length ca, .slice B ss.length cb])
  have HC := Lib.hid fun w => check_any c n k w h1 h2
  clear h3 h5 h6 h7 h8 h9 h10 h11
  obtain ⟨z, hz⟩ : ∃ z, oneE (.mk c n k bs ss) d b = z := ⟨_, rfl⟩
  rw [hz]
  obtain ⟨f, hf⟩ : ∃ f, chk c n k = f := ⟨_, rfl⟩
  have HF := Lib.hid hf
  have HZ := Lib.hid hz
  by_cases hf0 : f = 0
  rotate_left
  · have hzf : f = z := by rw [← hz, oneE_mk, if_pos (by omega), hf]
    subst hzf
    clear hz hf
    have hf1 : ((f : Int) != 0) = true := by simp; omega
    go_enter Try.func54, Try.ntmps54
    go_wp2_with fail
    refine (HC.out _).mono ?_
    rintro e' w1 ⟨rfl, hb1⟩
    have HB1 := Lib.hid (HBA.out.trans (hb1.mono HBA.out.size))
    clear hb1
    rw [HF.out]
    go_wp2_with fail
    go_ret
    exact ⟨rfl, HB1.out⟩
  subst hf0
  by_cases hbad : (k = true ∧ 0 < bs.length) ∨ (k = false ∧ 0 < ss.length)
  · have hzf : 1 = z := by rw [← hz, oneE_mk, if_neg (by omega), if_pos hbad]
    subst hzf
    clear hz hf
    go_enter Try.func54, Try.ntmps54
    go_wp2_with fail
    refine (HC.out _).mono ?_
    rintro e' w1 ⟨rfl, hb1⟩
    obtain ⟨e0, e1, e2, e3, e4, hsz⟩ := (HKA.out.below hb1 (by simp)).five
    have HB1 := Lib.hid (HBA.out.trans (hb1.mono HBA.out.size))
    clear hb1
    rw [HF.out]
    rcases hbad with ⟨rfl, hl⟩ | ⟨rfl, hl⟩
    · go_wp2_with fail
      go_ret
      exact ⟨rfl, HB1.out⟩
    · go_wp2_with fail
      go_ret
      exact ⟨rfl, HB1.out⟩
  · have hp := oneE_place (d := d) (b := b) hf hbad
    rw [hz] at hp
    have HP := Lib.hid hp
    clear hz hf hp
    go_enter Try.func54, Try.ntmps54
    go_wp2_with fail
    refine (HC.out _).mono ?_
    rintro e' w1 ⟨rfl, hb1⟩
    obtain ⟨e0, e1, e2, e3, e4, hsz⟩ := (HKA.out.below hb1 (by simp)).five
    have HB1 := Lib.hid (HBA.out.trans (hb1.mono HBA.out.size))
    clear hb1
    rw [HF.out]
    cases k
    · have hl : ¬ 0 < ss.length := fun h => hbad (.inr ⟨rfl, h⟩)
      clear hbad
      go_wp2_with fail
      refine (place_any d b w1).mono ?_
      rintro e' w2 ⟨rfl, rfl⟩
      rw [← HP.out]
      go_wp2_with fail
      go_ret
      exact ⟨rfl, HB1.out⟩
    · have hl : ¬ 0 < bs.length := fun h => hbad (.inl ⟨rfl, h⟩)
      clear hbad
      go_wp2_with fail
      refine (place_any d b w1).mono ?_
      rintro e' w2 ⟨rfl, rfl⟩
      rw [← HP.out]
      go_wp2_with fail
      go_ret
      exact ⟨rfl, HB1.out⟩
end Go.Proofs.Ytfbdeefeagednaa
namespace Go.Proofs.Ytfbdeefeagednaa
open Go.RowKit
section
variable {P : Program} {ops : Array Oper} {Q : Exit → Act → World → Prop} {md : Region.Mode} {S : World → Prop} {k : Nat}
/-- Whatever order is picked from here on; S holds behind each operation as long as number k has not come up. -/
def wpAnyK (P : Program) (md : Region.Mode) (ops : Array Oper) (Q : Exit → Act → World → Prop) (S : World → Prop) (k : Nat) : Nat → Array Bool → Act → World → Prop
  | 0, listed, a, w => Region.ready md ops listed = [] ∧ Q .normal a w
  | fuel + 1, listed, a, w =>
    (Region.ready md ops listed = [] → Q .normal a w) ∧
    ∀ i ∈ Region.ready md ops listed, wpOp P ops Q i (fun a' w' => ((listed.setIfInBounds i true).getD k true = false → S w') ∧ wpAnyK P md ops Q S k fuel (listed.setIfInBounds i true) a' w') a w
/-- The only operation that may come up. -/
theorem wpAnyK_step {i : Nat} {o : Oper} {fuel : Nat} {listed : Array Bool} {a : Act} {w : World} (hr : Region.ready md ops listed = [i]) (ho : ops[i]? = some o)
    (h : ∀ K' : Act → World → Prop, Shut (∀ a w, ((listed.setIfInBounds i true).getD k true = false → S w) → wpAnyK P md ops Q S k fuel (listed.setIfInBounds i true) a w → K' a w) → if Region.wanted o (yielded ops a.tmps) = true then Oper.wp P o a w K' Q else K' (a.put o.dst undef) w) :
    wpAnyK P md ops Q S k (fuel + 1) listed a w :=
  ⟨fun h0 => (by rw [hr] at h0; cases h0), by
    rw [hr]
    intro j hj
    obtain rfl : j = i := by simpa using hj
    exact wpOp_step ho (fun K' hK => h K' (fun a w hS hW => hK a w ⟨hS, hW⟩))⟩
end
end Go.Proofs.Ytfbdeefeagednaa
namespace Go.Proofs.Ytfbdeefeagednaa
open Go.RowKit
mutual
/-- What is left when a function has seen each element in preorder; or the fault that it raised. -/
def visE {σ : Type} (step : σ → El → Nat → Except Nat σ) : El → σ → Nat → Except Nat σ
  | .mk c n k bs ss, s, d => match step s (.mk c n k bs ss) d with
    | .error f => .error f
    | .ok s' => visS step ss s' (d + 1)
def visS {σ : Type} (step : σ → El → Nat → Except Nat σ) : List El → σ → Nat → Except Nat σ
  | [], s, _ => .ok s
  | e :: ss, s, d => match visE step e s d with
    | .error f => .error f
    | .ok s' => visS step ss s' d
end
/-- How a call ends that sees elements. -/
def Outs {σ : Type} (I : σ → World → Prop) (T : Nat → Prop) (w : World) : Except Nat σ → Ending → World → Prop
  | .ok s, e, w' => e = .returned (.tuple #[]) ∧ I s w' ∧ Kp T w w'
  | .error f, e, w' => f ≠ 0 ∧ e = .panicked [fltP f 0] ∧ (∃ s, I s w') ∧ Kp T w w'
/-- The five cells of one of the elements that lie one behind the other, its slices written out. -/
theorem RdS.fives {x : Bool} {S : Nat → Prop} {w : World} {A : Option Addr} {ss : List El} (h : RdS x S w A ss) {i : Nat} (hi : i < ss.length) :
    ∃ b off c n k A1 l1 c1 A2 l2 c2, A = some ⟨b, off, none⟩ ∧ b < w.heap.size ∧ S b ∧ w.cell? ⟨b, off + i * 5, none⟩ = some (.int .u8 ((c : Nat) : Int)) ∧ w.cell? ⟨b, off + i * 5 + 1, none⟩ = some (.bool k) ∧ w.cell? ⟨b, off + i * 5 + 2, none⟩ = some (.int .u32 ((n : Nat) : Int)) ∧
      w.cell? ⟨b, off + i * 5 + 3, none⟩ = some (.slice A1 l1 c1) ∧ w.cell? ⟨b, off + i * 5 + 4, none⟩ = some (.slice A2 l2 c2) ∧ RdE x S w ss[i] (elV c n k (.slice A1 l1 c1) (.slice A2 l2 c2)) := by
  obtain ⟨b, off, y, h1, h2, h3, h4, h5⟩ := h.at_ hi
  generalize ss[i] = e at h5
  obtain ⟨c, n, k, bs, ts⟩ := e
  have h6 := h5
  obtain ⟨g1, g2, g3, A', ca, B', cb, rfl, g5⟩ := h5
  exact ⟨b, off, c, n, k, _, _, _, _, _, _, h1, h2, h3, h4 0 _ rfl, h4 1 _ rfl, h4 2 _ rfl, h4 3 _ rfl, h4 4 _ rfl, h6⟩
set_option maxHeartbeats 2000000 in
set_option maxRecDepth 100000 in
theorem walk_any {x : Bool} {S T : Nat → Prop} {σ : Type} (step : σ → El → Nat → Except Nat σ) (I : σ → World → Prop) (Pre : σ → El → Nat → Prop) (PreS : σ → List El → Nat → Prop) (K : Nat) (cap : Array Value)
    (hK : ∀ (args : Array Value) (w : World), (callFunc K args).run Try.prog w = .ok (.enter K args) w)
    (hI : ∀ s w w', I s w → Below w.heap.size w w' → I s w') (hT : ∀ s w, I s w → ∀ i, T i → i < w.heap.size)
    (hsee : ∀ s e d v w, Pre s e d → I s w → RdE x S w e v → Calls Try.prog K (#[v, .int .i64 ((d : Nat) : Int)] ++ cap) w (Outs I T w (step s e d)))
    (p1 : ∀ s c n k bs ss d s', Pre s (.mk c n k bs ss) d → step s (.mk c n k bs ss) d = .ok s' → PreS s' ss (d + 1))
    (p2 : ∀ s e ss d, PreS s (e :: ss) d → Pre s e d)
    (p3 : ∀ s e ss d s', PreS s (e :: ss) d → visE step e s d = .ok s' → PreS s' ss d)
    (gs gw : Nat) (hgs : ¬ T gs) (hgw : ¬ T gw) (hST : ∀ i, S i → ¬ T i) (e : El) :
    ∀ (s : σ) (d : Nat) (v : Value) (w : World), Pre s e d → d + depE e ≤ 20000 → I s w → RdE x S w e v → Bk w gs 78 [.func (.func K) #[] cap] →
      Bk w gw 78 [.func (.func 59) #[] #[.pointer (some ⟨gs, 0, none⟩), .pointer (some ⟨gw, 0, none⟩)]] →
      Calls Try.prog 59 #[v, .int .i64 (d : Int), .pointer (some ⟨gs, 0, none⟩), .pointer (some ⟨gw, 0, none⟩)] w (Outs I T w (visE step e s d)) := by
  refine El.ind (P := fun e => ∀ (s : σ) (d : Nat) (v : Value) (w : World), Pre s e d → d + depE e ≤ 20000 → I s w → RdE x S w e v → Bk w gs 78 [.func (.func K) #[] cap] →
      Bk w gw 78 [.func (.func 59) #[] #[.pointer (some ⟨gs, 0, none⟩), .pointer (some ⟨gw, 0, none⟩)]] →
      Calls Try.prog 59 #[v, .int .i64 (d : Int), .pointer (some ⟨gs, 0, none⟩), .pointer (some ⟨gw, 0, none⟩)] w (Outs I T w (visE step e s d))) ?_ e
  clear e
  intro c n k bs ss ih s d v w hpre hd hi h hs hw
  have hE := h
  obtain ⟨h1, h2, h3, A, ca, B, cb, rfl, h5, h6, h7, h8, h9, h10, h11⟩ := h
  have hlen : ss.length ≤ 9223372036854775807 := by unfold maxLen at h9; omega
  rw [depE] at hd
  have hba := bel1 w (.cells #[.int .u8 (c : Int), .bool k, .int .u32 (n : Int), .slice A bs.length ca, .slice B ss.length cb] 29)
  have HS := Lib.hid (hsee s _ d _ _ hpre (hI _ _ _ hi hba) (hE.stay hba))
  have HBA := Lib.hid hba
  have HKA := Lib.hid (Bk.new w 29 [.int .u8 (c : Int), .bool k, .int .u32 (n : Int), .slice A bs.length ca, .slice B ss.length cb])
  have HGS := Lib.hid hs
  have HGW := Lib.hid hw
  have c1 := (hs.below hba hs.lt).cell 0
  have c2 := (hw.below hba hw.lt).cell 0
  simp only [List.getElem?_cons_zero] at c1 c2
  clear hba hs hw hE h5 h6 h7 h8 h9 h10 hsee
  go_enter Try.func59, Try.ntmps59
  go_wp2_with fail
  refine HS.out.mono ?_
  have hTn : ¬ T w.heap.size := fun ht => absurd (hT _ _ hi _ ht) (by omega)
  cases hst : step s (.mk c n k bs ss) d with
  | error f =>
    have HV : visE step (.mk c n k bs ss) s d = .error f := by rw [visE, hst]
    rintro e' w1 ⟨hf, rfl, hj, hk1⟩
    rw [HV]
    exact ⟨rfl, hf, rfl, hj, (kp_below HBA.out T).trans hk1⟩
  | ok s1 =>
    have HV : visE step (.mk c n k bs ss) s d = visS step ss s1 (d + 1) := by rw [visE, hst]
    have hps := p1 _ _ _ _ _ _ _ _ hpre hst
    rw [HV]
    rintro e' w1 ⟨rfl, hi1, hk1⟩
    have hka := HKA.out.kp hk1 hTn
    have hkw := (kp_below HBA.out T).trans hk1
    obtain ⟨e0, e1, e2, e3, e4, hsz⟩ := hka.five
    have HKA1 := Lib.hid hka
    have HKW := Lib.hid hkw
    have HI := Lib.hid hi1
    have HPS := Lib.hid hps
    have HVT := Lib.hid HV
    clear hps hi1 hka hkw hk1 HV hst hpre hi HS HKA HBA c1 c2
    go_wp2_with fail
    go_loopw [15, 7] (fun i _ wr => ∃ (p : Nat) (s2 : σ), p ≤ ss.length ∧ i = .int .i64 (p : Int) ∧ visS step (ss.drop p) s2 (d + 1) = visS step ss s1 (d + 1) ∧ I s2 wr ∧ PreS s2 (ss.drop p) (d + 1) ∧ Kp T w wr) (fun i _ _ => ss.length - (intOf i).toNat)
    case atStart =>
      exact ⟨0, s1, Nat.zero_le _, rfl, rfl, HI.out, HPS.out, HKW.out⟩
    case round =>
      clear e0 e1 e2 e3 e4 hsz
      obtain ⟨p, s2, hp, rfl, hV, hi2, hps2, hk2⟩ := hrel
      have HV := Lib.hid hV
      have HI2 := Lib.hid hi2
      have HPS2 := Lib.hid hps2
      have HK2 := Lib.hid hk2
      have c1 := (HGS.out.kp hk2 hgs).cell 0
      have c2 := (HGW.out.kp hk2 hgw).cell 0
      simp only [List.getElem?_cons_zero] at c1 c2
      have H11 := Lib.hid (h11.kp hk2 hST)
      clear hV hi2 hps2 hk2
      by_cases hlt : p < ss.length
      · obtain ⟨b, off, c', n', k', A1, l1, q1, A2, l2, q2, rfl, hb, hS, f0, f1, f2, f3, f4, hE⟩ := H11.out.fives hlt
        have HE := Lib.hid hE
        clear hE hS
        have hdr := List.drop_eq_getElem_cons hlt
        have hdp := depE_mem (List.getElem_mem hlt)
        have hps3 := HPS2.out
        rw [hdr] at hps3
        have hq := p2 _ _ _ _ hps3
        have hba2 := bel1 wr (.cells #[.int .u8 (c' : Int), .bool k', .int .u32 (n' : Int), .slice A1 l1 q1, .slice A2 l2 q2] 29)
        have hk3 := HK2.out.trans (kp_below hba2 T)
        have hc := ih _ (List.getElem_mem hlt) s2 (d + 1) _ _ hq (by omega) (hI _ _ _ HI2.out hba2) (HE.out.stay hba2) (HGS.out.kp hk3 hgs) (HGW.out.kp hk3 hgw)
        rw [show ((d + 1 : Nat) : Int) = (d : Int) + 1 from rfl] at hc
        have HC := Lib.hid hc
        have HK3 := Lib.hid hk3
        have hd1 : (d : Int) + 1 ≤ 9223372036854775807 := by omega
        have hgs2 := (HGS.out.kp HK2.out hgs).lt
        have hgw2 := (HGW.out.kp HK2.out hgw).lt
        have HPS3 := Lib.hid hps3
        have HDR := Lib.hid hdr
        clear hdr hdp hps3 hq hba2 hk3 hc
        go_wp2_with fail
        refine HC.out.mono ?_
        cases hst : visE step ss[p] s2 (d + 1) with
        | error f =>
          rintro e' w2 ⟨hf, rfl, hj, hk4⟩
          have HW : visE step (.mk c n k bs ss) s d = .error f := by rw [HVT.out, ← HV.out, HDR.out, visS, hst]
          go_wp2_with fail
          rw [HW]
          exact ⟨rfl, hf, rfl, hj, HK3.out.trans hk4⟩
        | ok s3 =>
          rintro e' w2 ⟨rfl, hi3, hk4⟩
          have HI3 := Lib.hid hi3
          have HK4 := Lib.hid hk4
          have HST := Lib.hid hst
          clear hi3 hk4 hst
          go_wp2_with fail
          exact ⟨⟨p + 1, s3, by omega, by go_num, by rw [← HV.out, HDR.out, visS, HST.out], HI3.out, p3 _ _ _ _ _ HPS3.out HST.out, HK3.out.trans HK4.out⟩, by simp [intOf]; omega⟩
      · have HF := Lib.hid (HV.out.symm.trans (by rw [List.drop_eq_nil_of_le (by omega), visS]))
        go_wp2_with fail
        go_end0
        rw [HVT.out, HF.out]
        exact ⟨rfl, HI2.out, HK2.out⟩
set_option maxHeartbeats 2000000 in
set_option maxRecDepth 100000 in
theorem visit_any {x : Bool} {S T : Nat → Prop} {σ : Type} (step : σ → El → Nat → Except Nat σ) (I : σ → World → Prop) (Pre : σ → El → Nat → Prop) (PreS : σ → List El → Nat → Prop) (K : Nat) (cap : Array Value)
    (hK : ∀ (args : Array Value) (w : World), (callFunc K args).run Try.prog w = .ok (.enter K args) w)
    (hI : ∀ s w w', I s w → Below w.heap.size w w' → I s w') (hT : ∀ s w, I s w → ∀ i, T i → i < w.heap.size)
    (hsee : ∀ s e d v w, Pre s e d → I s w → RdE x S w e v → Calls Try.prog K (#[v, .int .i64 ((d : Nat) : Int)] ++ cap) w (Outs I T w (step s e d)))
    (p1 : ∀ s c n k bs ss d s', Pre s (.mk c n k bs ss) d → step s (.mk c n k bs ss) d = .ok s' → PreS s' ss (d + 1))
    (p2 : ∀ s e ss d, PreS s (e :: ss) d → Pre s e d)
    (p3 : ∀ s e ss d s', PreS s (e :: ss) d → visE step e s d = .ok s' → PreS s' ss d)
    (hST : ∀ i, S i → ¬ T i) (e : El) (s : σ) (v : Value) (w : World) (hpre : Pre s e 1) (hd : 1 + depE e ≤ 20000) (hi : I s w) (hE : RdE x S w e v) :
    Calls Try.prog 36 #[v, .func (.func K) #[] cap] w (Outs I T w (visE step e s 1)) := by
  have hmf : ∀ (fn : Fn) (first cap : Array Value) (w : World), (Instr.makeFunc fn first cap).run Try.prog w = .ok (.func fn first cap) w := fun _ _ _ _ => rfl
  obtain ⟨c, n, k, bs, ss⟩ := e
  have hE2 := hE
  obtain ⟨h1, h2, h3, A, ca, B, cb, rfl, h5, h6, h7, h8, h9, h10, h11⟩ := hE
  clear h1 h2 h3 h5 h6 h7 h8 h9 h10 h11
  obtain ⟨o1, ho1⟩ : ∃ o1, Obj.cells #[.int .u8 (c : Int), .bool k, .int .u32 (n : Int), .slice A bs.length ca, .slice B ss.length cb] 29 = o1 := ⟨_, rfl⟩
  obtain ⟨o2, ho2⟩ : ∃ o2, Obj.cells #[.func (.func K) #[] cap] 78 = o2 := ⟨_, rfl⟩
  obtain ⟨o3, ho3⟩ : ∃ o3, Obj.cells #[.func (.func 59) #[] #[.pointer (some ⟨w.heap.size + 1, 0, none⟩), .pointer (some ⟨w.heap.size + 1 + 1, 0, none⟩)]] 78 = o3 := ⟨_, rfl⟩
  have hba := bel3 w o1 o2 o3
  have b2 : Bk (((w.alloc o1).alloc o2).alloc o3) (w.heap.size + 1) 78 [.func (.func K) #[] cap] := by
    have := (Bk.new (w.alloc o1) 78 [.func (.func K) #[] cap]).alloc o3
    rw [World.size_alloc] at this
    rw [← ho2]; exact this
  have b3 : Bk (((w.alloc o1).alloc o2).alloc o3) (w.heap.size + 1 + 1) 78 [.func (.func 59) #[] #[.pointer (some ⟨w.heap.size + 1, 0, none⟩), .pointer (some ⟨w.heap.size + 1 + 1, 0, none⟩)]] := by
    have := Bk.new ((w.alloc o1).alloc o2) 78 [.func (.func 59) #[] #[.pointer (some ⟨w.heap.size + 1, 0, none⟩), .pointer (some ⟨w.heap.size + 1 + 1, 0, none⟩)]]
    rw [World.size_alloc, World.size_alloc] at this
    rw [← ho3]; exact this
  have hTn : ∀ i, w.heap.size ≤ i → ¬ T i := fun i h ht => absurd (hT _ _ hi _ ht) (by omega)
  have HW := Lib.hid (walk_any step I Pre PreS K cap hK hI hT hsee p1 p2 p3 (w.heap.size + 1) (w.heap.size + 1 + 1) (hTn _ (by omega)) (hTn _ (by omega)) hST (.mk c n k bs ss) s 1 _ _ hpre hd (hI _ _ _ hi hba) (hE2.stay hba) b2 b3)
  have HBA := Lib.hid hba
  have c3 := b3.cell 0
  have c2 := b2.cell 0
  simp only [List.getElem?_cons_zero] at c2 c3
  clear hE2 hi hpre hba b2 b3 hsee p1 p2 p3 hI hT hTn
  subst ho1 ho2 ho3
  go_enter Try.func36, Try.ntmps36
  go_wp2_with fail
  refine HW.out.mono ?_
  cases hst : visE step (.mk c n k bs ss) s 1 with
  | error f =>
    rintro e' w1 ⟨hf, rfl, hj, hk1⟩
    go_wp2_with fail
    exact ⟨rfl, hf, rfl, hj, (kp_below HBA.out T).trans hk1⟩
  | ok s1 =>
    rintro e' w1 ⟨rfl, hi1, hk1⟩
    have HI := Lib.hid hi1
    have HK1 := Lib.hid hk1
    clear hi1 hk1
    go_wp2_with fail
    go_end0
    rw [hst]
    exact ⟨rfl, HI.out, (kp_below HBA.out T).trans HK1.out⟩
end Go.Proofs.Ytfbdeefeagednaa
namespace Go.Proofs.Ytfbdeefeagednaa
open Go.RowKit
mutual
/-- The first error in preorder, or 0; and how many elements there are so far. -/
def chkE : El → Nat → Nat → Nat × Nat
  | .mk c n k bs ss, d, b => if oneE (.mk c n k bs ss) d b ≠ 0 then (oneE (.mk c n k bs ss) d b, 0) else chkS ss (d + 1) (b + 1)
def chkS : List El → Nat → Nat → Nat × Nat
  | [], _, b => (0, b)
  | e :: ss, d, b => if (chkE e d b).1 ≠ 0 then ((chkE e d b).1, 0) else chkS ss d (chkE e d b).2
end
/-- What measure does at an element. -/
def meaStep (s : Nat × Nat) (e : El) (d : Nat) : Except Nat (Nat × Nat) := if oneE e d s.1 ≠ 0 then .error (oneE e d s.1) else .ok (s.1 + 1, max s.2 d)
mutual
theorem meaE : ∀ (e : El) (b q d : Nat), visE meaStep e (b, q) d = if (chkE e d b).1 ≠ 0 then .error (chkE e d b).1 else .ok ((chkE e d b).2, max q (d + depE e - 1))
  | .mk c n k bs ss, b, q, d => by
    rw [visE, chkE, depE]
    by_cases h : oneE (.mk c n k bs ss) d b ≠ 0
    · have e1 : meaStep (b, q) (.mk c n k bs ss) d = .error (oneE (.mk c n k bs ss) d b) := by unfold meaStep; rw [if_pos h]
      rw [e1, if_pos h]
      dsimp only
      rw [if_pos h]
    · have e1 : meaStep (b, q) (.mk c n k bs ss) d = .ok (b + 1, max q d) := by unfold meaStep; rw [if_neg h]
      rw [e1, if_neg h]
      dsimp only
      rw [meaS ss (b + 1) (max q d) (d + 1)]
      split
      · rfl
      · congr 2
        cases ss with
        | nil => simp [depS]
        | cons x ss =>
          have := depS_pos x ss
          rw [if_neg (by simp)]
          omega
theorem meaS : ∀ (ss : List El) (b q d : Nat), visS meaStep ss (b, q) d = if (chkS ss d b).1 ≠ 0 then .error (chkS ss d b).1 else .ok ((chkS ss d b).2, if ss = [] then q else max q (d + depS ss - 1))
  | [], b, q, d => by rw [visS, chkS]; rfl
  | e :: ss, b, q, d => by
    rw [visS, chkS, meaE e b q d, depS]
    by_cases h : (chkE e d b).1 ≠ 0
    · rw [if_pos h, if_pos h]
      dsimp only
      rw [if_pos h]
    · rw [if_neg h, if_neg h]
      dsimp only
      rw [meaS ss _ _ d]
      split
      · rfl
      · congr 2
        rw [if_neg (List.cons_ne_nil e ss)]
        have h1 := depE_pos e
        cases ss with
        | nil => rw [if_pos rfl, depS]; omega
        | cons x ss =>
          have := depS_pos x ss
          rw [if_neg (List.cons_ne_nil x ss)]
          omega
theorem depE_pos : ∀ (e : El), 0 < depE e
  | .mk c n k bs ss => by rw [depE]; omega
theorem depS_pos : ∀ (x : El) (ss : List El), 0 < depS (x :: ss)
  | x, ss => by have := depE_pos x; rw [depS]; omega
end
/-- What measure's two counters hold. -/
def MeaI (gc gd : Nat) (s : Nat × Nat) (w : World) : Prop := s.1 ≤ 8192 ∧ s.2 ≤ 30000 ∧ Bk w gc 3 [.int .i64 (s.1 : Int)] ∧ Bk w gd 3 [.int .i64 (s.2 : Int)]
def MeaT (gc gd : Nat) (i : Nat) : Prop := i = gc ∨ i = gd
theorem oneE_full {e : El} {d b : Nat} (h : ¬ oneE e d b ≠ 0) : b < 8192 ∧ d ≤ 16 := by
  obtain ⟨c, n, k, bs, ss⟩ := e
  rw [oneE_mk] at h
  split at h
  · rename_i h1; exact absurd h1 h
  split at h
  · exact absurd (by decide) h
  unfold plcE at h
  split at h
  · exact absurd (by decide) h
  split at h
  · exact absurd (by decide) h
  · omega
set_option maxHeartbeats 1000000 in
set_option maxRecDepth 100000 in
theorem see_any {x : Bool} {S : Nat → Prop} (gc gd : Nat) (hne : gc ≠ gd) (s : Nat × Nat) (e : El) (d : Nat) (v : Value) (w : World) (hd : d ≤ 30000) (hi : MeaI gc gd s w) (hE : RdE x S w e v) :
    Calls Try.prog 52 (#[v, .int .i64 (d : Int)] ++ #[.pointer (some ⟨gc, 0, none⟩), .pointer (some ⟨gd, 0, none⟩)]) w (Outs (MeaI gc gd) (MeaT gc gd) w (meaStep s e d)) := by
  obtain ⟨b, q⟩ := s
  obtain ⟨hb, hq, hc, hg⟩ := hi
  obtain ⟨c, n, k, bs, ss⟩ := e
  have hE2 := hE
  obtain ⟨h1, h2, h3, A, ca, B, cb, rfl, h5, h6, h7, h8, h9, h10, h11⟩ := hE
  clear h1 h2 h3 h5 h6 h7 h8 h9 h10 h11
  dsimp only at hb hq hc hg
  have hba := bel1 w (.cells #[.int .u8 (c : Int), .bool k, .int .u32 (n : Int), .slice A bs.length ca, .slice B ss.length cb] 29)
  have HO := Lib.hid (one_any _ _ d b _ (hE2.stay hba))
  have HBA := Lib.hid hba
  have HC := Lib.hid (hc.below hba hc.lt)
  have HG := Lib.hid (hg.below hba hg.lt)
  have c1 := HC.out.cell 0
  have c2 := HG.out.cell 0
  simp only [List.getElem?_cons_zero] at c1 c2
  obtain ⟨f, hf⟩ : ∃ f, oneE (.mk c n k bs ss) d b = f := ⟨_, rfl⟩
  have HF := Lib.hid hf
  clear hba hE2 hc hg
  simp only [List.append_toArray, List.cons_append, List.nil_append]
  by_cases hf0 : f ≠ 0
  · have HM : Hid (meaStep (b, q) (.mk c n k bs ss) d = .error f) := Lib.hid (by unfold meaStep; rw [hf, if_pos hf0])
    clear hf
    go_enter Try.func52, Try.ntmps52
    go_wp2_with fail
    refine HO.out.mono ?_
    rintro e' w1 ⟨rfl, hb1⟩
    have HB := Lib.hid (HBA.out.trans (hb1.mono HBA.out.size))
    have HC1 := Lib.hid (HC.out.below hb1 HC.out.lt)
    have HG1 := Lib.hid (HG.out.below hb1 HG.out.lt)
    clear hb1
    rw [HF.out]
    go_wp2_with fail
    refine (raise_yes f 0 w1 hf0).mono ?_
    rintro e' w2 ⟨rfl, rfl⟩
    go_wp2_with fail
    rw [HM.out]
    exact ⟨rfl, hf0, rfl, ⟨(b, q), hb, hq, HC1.out, HG1.out⟩, kp_below HB.out _⟩
  · have hfull := oneE_full (e := .mk c n k bs ss) (d := d) (b := b) (by rw [hf]; exact hf0)
    obtain rfl : f = 0 := by omega
    have HM : Hid (meaStep (b, q) (.mk c n k bs ss) d = .ok (b + 1, max q d)) := Lib.hid (by unfold meaStep; rw [hf, if_neg (by decide)])
    clear hf
    go_enter Try.func52, Try.ntmps52
    go_wp2_with fail
    refine HO.out.mono ?_
    rintro e' w1 ⟨rfl, hb1⟩
    have HC1 := Lib.hid (HC.out.below hb1 HC.out.lt)
    have HG1 := Lib.hid (HG.out.below hb1 HG.out.lt)
    have HB := Lib.hid (HBA.out.trans (hb1.mono HBA.out.size))
    have r1 := HC1.out.cell 0
    have r2 := HG1.out.cell 0
    have f1 := HC1.out.free 0
    have f2 := HG1.out.free 0
    simp only [List.getElem?_cons_zero] at r1 r2
    clear hb1 c1 c2
    rw [HF.out]
    go_wp2_with fail
    refine (raise_no 0 w1).mono ?_
    rintro e' w2 ⟨rfl, rfl⟩
    go_wp2_with fail
    go_end0
    rw [HM.out]
    refine ⟨rfl, ⟨by show b + 1 ≤ 8192; omega, by show max q d ≤ 30000; omega, (HC1.out.store 0 _).far (p := ⟨gd, 0, none⟩) hne _, ?_⟩, ((kp_below HB.out _).setCell (p := ⟨gc, 0, none⟩) (.inl (.inl rfl)) _).setCell (p := ⟨gd, 0, none⟩) (.inl (.inr rfl)) _⟩
    have := (HG1.out.far (p := ⟨gc, 0, none⟩) (Ne.symm hne) (.int .i64 ((b : Int) + 1))).store 0 (.int .i64 (max (q : Int) (d : Int)))
    rw [show ((max q d : Nat) : Int) = max (q : Int) (d : Int) by omega]
    exact this
/-- What measure asks of a tree on its way: it is not too deep for the machine's numbers. -/
def MeaPre (_ : Nat × Nat) (e : El) (d : Nat) : Prop := d + depE e ≤ 20001
def MeaPreS (_ : Nat × Nat) (ss : List El) (d : Nat) : Prop := d + depS ss ≤ 20001
set_option maxHeartbeats 1000000 in
set_option maxRecDepth 100000 in
theorem mea1_any {x : Bool} {S : Nat → Prop} (ge gc gd : Nat) (hne : gc ≠ gd) (e : El) (v : Value) (w : World) (hd : depE e ≤ 10000) (_hg : ge < w.heap.size) (he : ∀ j u, v.cells.toList[j]? = some u → w.cell? ⟨ge, j, none⟩ = some u) (hi : MeaI gc gd (0, 0) w) (hE : RdE x S w e v) (hS : ∀ i, S i → i ≠ gc ∧ i ≠ gd) :
    Calls Try.prog 51 #[.pointer (some ⟨ge, 0, none⟩), .pointer (some ⟨gc, 0, none⟩), .pointer (some ⟨gd, 0, none⟩)] w (Outs (MeaI gc gd) (MeaT gc gd) w (visE meaStep e (0, 0) 1)) := by
  have hmf : ∀ (fn : Fn) (first cap : Array Value) (w : World), (Instr.makeFunc fn first cap).run Try.prog w = .ok (.func fn first cap) w := fun _ _ _ _ => rfl
  have HV := Lib.hid (visit_any meaStep (MeaI gc gd) MeaPre MeaPreS 52 #[.pointer (some ⟨gc, 0, none⟩), .pointer (some ⟨gd, 0, none⟩)] (fun _ _ => by simp [go_sem])
    (fun s w w' ⟨h1, h2, h3, h4⟩ hb => ⟨h1, h2, h3.below hb h3.lt, h4.below hb h4.lt⟩) (fun s w ⟨_, _, h3, h4⟩ i hi => by rcases hi with rfl | rfl; exact h3.lt; exact h4.lt)
    (fun s e d v w hp hi hE => see_any gc gd hne s e d v w (by unfold MeaPre at hp; omega) hi hE)
    (fun s c n k bs ss d s' hp _ => by unfold MeaPre at hp; unfold MeaPreS; rw [depE] at hp; omega)
    (fun s e ss d hp => by unfold MeaPreS at hp; unfold MeaPre; rw [depS] at hp; omega)
    (fun s e ss d s' hp _ => by unfold MeaPreS at *; rw [depS] at hp; omega)
    (fun i hi ht => by have := hS i hi; rcases ht with rfl | rfl; exact this.1 rfl; exact this.2 rfl) e (0, 0) v w (by unfold MeaPre; omega) (by omega) hi hE)
  obtain ⟨c, n, k, bs, ss⟩ := e
  obtain ⟨h1, h2, h3, A, ca, B, cb, rfl, h5, h6, h7, h8, h9, h10, h11⟩ := hE
  have e0 := he 0 _ rfl
  have e1 := he 1 _ rfl
  have e2 := he 2 _ rfl
  have e3 := he 3 _ rfl
  have e4 := he 4 _ rfl
  clear h1 h2 h3 h5 h6 h7 h8 h9 h10 h11 he hi
  go_enter Try.func51, Try.ntmps51
  go_wp2_with fail
  refine HV.out.mono ?_
  cases hst : visE meaStep (.mk c n k bs ss) (0, 0) 1 with
  | error f =>
    rintro e' w1 ⟨hf, rfl, hj, hk1⟩
    go_wp2_with fail
    exact ⟨rfl, hf, rfl, hj, hk1⟩
  | ok s1 =>
    rintro e' w1 ⟨rfl, hi1, hk1⟩
    have HI := Lib.hid hi1
    have HK1 := Lib.hid hk1
    clear hi1 hk1
    go_wp2_with fail
    go_end0
    try rw [hst]
    exact ⟨rfl, HI.out, HK1.out⟩
/-- What measure returns: how many elements there are, how many levels; or the first error. -/
def meaR (e : El) : Nat × Nat × Nat := if (chkE e 1 0).1 ≠ 0 then (0, 0, (chkE e 1 0).1) else ((chkE e 1 0).2, depE e, 0)
set_option maxHeartbeats 1000000 in
set_option maxRecDepth 100000 in
theorem measure_any {x : Bool} {S : Nat → Prop} (e : El) (v : Value) (w : World) (hd : depE e ≤ 10000) (hE : RdE x S w e v) :
    Calls Try.prog 31 #[v] w fun e' w' => e' = .returned (.tuple #[.int .i64 ((meaR e).1 : Int), .int .i64 ((meaR e).2.1 : Int), .int .i64 ((meaR e).2.2 : Int)]) ∧ Below w.heap.size w w' := by
  have hmf : ∀ (fn : Fn) (first cap : Array Value) (w : World), (Instr.makeFunc fn first cap).run Try.prog w = .ok (.func fn first cap) w := fun _ _ _ _ => rfl
  obtain ⟨c, n, k, bs, ss⟩ := e
  have hE2 : RdE x (· < w.heap.size) w (.mk c n k bs ss) v := RdE.keep (Nat.le_refl _) (fun _ _ _ => rfl) (fun _ _ h => h) _ _ hE
  obtain ⟨h1, h2, h3, A, ca, B, cb, rfl, h5, h6, h7, h8, h9, h10, h11⟩ := hE
  clear h1 h2 h3 h5 h6 h7 h8 h9 h10 h11
  obtain ⟨w3, hw3⟩ : ∃ w3, ((w.alloc (.cells #[.int .u8 (c : Int), .bool k, .int .u32 (n : Int), .slice A bs.length ca, .slice B ss.length cb] 29)).alloc (.cells #[.int .i64 0] 3)).alloc (.cells #[.int .i64 0] 3) = w3 := ⟨_, rfl⟩
  have hb3 : Below w.heap.size w w3 := by rw [← hw3]; exact bel3 w _ _ _
  have z3 : w3.heap.size = w.heap.size + 3 := by rw [← hw3]; simp
  have k0 : Bk w3 w.heap.size 29 [.int .u8 (c : Int), .bool k, .int .u32 (n : Int), .slice A bs.length ca, .slice B ss.length cb] := by
    rw [← hw3]; exact ((Bk.new w _ [_, _, _, _, _]).alloc _).alloc _
  have k1 : Bk w3 (w.heap.size + 1) 3 [.int .i64 0] := by
    have := (Bk.new (w.alloc (.cells #[.int .u8 (c : Int), .bool k, .int .u32 (n : Int), .slice A bs.length ca, .slice B ss.length cb] 29)) 3 [.int .i64 0]).alloc (.cells #[.int .i64 0] 3)
    rw [World.size_alloc] at this
    rw [← hw3]; exact this
  have k2 : Bk w3 (w.heap.size + 1 + 1) 3 [.int .i64 0] := by
    have := Bk.new ((w.alloc (.cells #[.int .u8 (c : Int), .bool k, .int .u32 (n : Int), .slice A bs.length ca, .slice B ss.length cb] 29)).alloc (.cells #[.int .i64 0] 3)) 3 [.int .i64 0]
    rw [World.size_alloc, World.size_alloc] at this
    rw [← hw3]; exact this
  obtain ⟨w4, hw4⟩ : ∃ w4, w3.alloc (.cells #[.int .i64 0, .int .i64 0] 87) = w4 := ⟨_, rfl⟩
  have hb4 : Below w3.heap.size w3 w4 := by rw [← hw4]; exact bel1 _ _
  have k3 : Bk w4 w3.heap.size 87 [.int .i64 0, .int .i64 0] := by rw [← hw4]; exact Bk.new _ _ [_, _]
  have hc := mea1_any w.heap.size (w.heap.size + 1) (w.heap.size + 1 + 1) (by omega) (.mk c n k bs ss) _ w4 hd (by have := (k0.below hb4 k0.lt).lt; exact this) (fun j u hu => by rw [(k0.below hb4 k0.lt).cell]; exact hu)
    ⟨by omega, by omega, k1.below hb4 k1.lt, k2.below hb4 k2.lt⟩ (hE2.below (B := w.heap.size) (fun _ h _ => h) (hb3.trans (hb4.mono hb3.size))) (fun i hi => ⟨by omega, by omega⟩)
  have HC := Lib.hid (catch_any 51 _ (fun f a w' => a = 0 ∧ Kp (MeaT (w.heap.size + 1) (w.heap.size + 1 + 1)) w4 w' ∧ ((f = 0 ∧ ∃ s, visE meaStep (.mk c n k bs ss) (0, 0) 1 = .ok s ∧ MeaI (w.heap.size + 1) (w.heap.size + 1 + 1) s w') ∨ (f ≠ 0 ∧ visE meaStep (.mk c n k bs ss) (0, 0) 1 = .error f ∧ ∃ s, MeaI (w.heap.size + 1) (w.heap.size + 1 + 1) s w'))) w3 (fun _ _ => by simp [go_sem])
    (by
      rw [hw4]
      refine hc.mono ?_
      cases hst : visE meaStep (.mk c n k bs ss) (0, 0) 1 with
      | error f =>
        rintro e' w1 ⟨hf, rfl, hj, hk1⟩
        exact ⟨f, 0, ⟨rfl, hk1, .inr ⟨hf, rfl, hj⟩⟩, k3.kp hk1 (by unfold MeaT; omega), .inr ⟨hf, rfl⟩⟩
      | ok s1 =>
        rintro e' w1 ⟨rfl, hi1, hk1⟩
        exact ⟨0, 0, ⟨rfl, hk1, .inl ⟨rfl, s1, rfl, hi1⟩⟩, k3.kp hk1 (by unfold MeaT; omega), .inl ⟨rfl, rfl, rfl⟩⟩))
  have HB := Lib.hid (hb3.trans (hb4.mono hb3.size))
  have hm := meaE (.mk c n k bs ss) 0 0 1
  obtain ⟨r, hr⟩ : ∃ r, chkE (.mk c n k bs ss) 1 0 = r := ⟨_, rfl⟩
  obtain ⟨f0, n0⟩ := r
  have hR : meaR (.mk c n k bs ss) = if f0 ≠ 0 then (0, 0, f0) else (n0, depE (.mk c n k bs ss), 0) := by unfold meaR; rw [hr]
  rw [hr] at hm
  dsimp only at hm
  have HM := Lib.hid hm
  have HR := Lib.hid hR
  have HZ := Lib.hid z3
  have HZ4 : Hid (w4.heap.size = w.heap.size + 4) := Lib.hid (by rw [← hw4, World.size_alloc, z3])
  clear hm hR hr hc k0 k1 k2 k3 hb3 hb4 hE2 z3 hw4
  subst hw3
  go_enter Try.func31, Try.ntmps31
  go_wp2_with fail
  refine HC.out.mono ?_
  rintro e' w5 ⟨f, a, w1, ⟨rfl, hk1, hcase⟩, hg, rfl⟩
  have hb5 : Below w.heap.size w w5 := (HB.out.trans (hk1.below (B := w.heap.size) (by rw [HZ4.out]; omega) (by intro k hk; rcases hk with rfl | rfl <;> omega))).trans (only_below hg (by rw [HZ.out]; omega) (by have := hk1.size; rw [HZ4.out] at this; omega))
  have hs1 : w.heap.size + 1 + 1 < w5.heap.size := by have := hk1.size; have := hg.size; rw [HZ4.out] at *; omega
  have HB5 := Lib.hid hb5
  obtain ⟨b, q, hc, hd2⟩ : ∃ b q : Nat, Bk w1 (w.heap.size + 1) 3 [.int .i64 (b : Int)] ∧ Bk w1 (w.heap.size + 1 + 1) 3 [.int .i64 (q : Int)] ∧ (f0 = 0 → (b, q) = (n0, depE (.mk c n k bs ss))) ∧ f = f0 := by
    have e1 := HM.out
    rcases hcase with ⟨rfl, ⟨b, q⟩, hst, -, -, h1, h2⟩ | ⟨hf, hst, ⟨b, q⟩, -, -, h1, h2⟩
    · rw [hst] at e1
      by_cases hf0 : f0 ≠ 0
      · rw [if_pos hf0] at e1; cases e1
      rw [if_neg hf0] at e1
      simp only [Except.ok.injEq, Prod.mk.injEq] at e1
      exact ⟨b, q, h1, h2, fun _ => by rw [e1.1, e1.2]; congr 1; omega, by omega⟩
    · rw [hst] at e1
      by_cases hf0 : f0 ≠ 0
      · rw [if_pos hf0] at e1
        exact ⟨b, q, h1, h2, fun h => absurd h hf0, by simpa using e1⟩
      · rw [if_neg hf0] at e1; cases e1
  obtain ⟨hd2, hbq, rfl⟩ := hd2
  have HC5 := Lib.hid ((hc.only hg (by rw [HZ.out]; simp)).alloc (.cells #[.int .i64 (f : Int), .int .i64 0] 87))
  have HD5 := Lib.hid ((hd2.only hg (by rw [HZ.out]; simp)).alloc (.cells #[.int .i64 (f : Int), .int .i64 0] 87))
  have r1 := HC5.out.cell 0
  have r2 := HD5.out.cell 0
  have g1 := HC5.out.free 0
  have g2 := HD5.out.free 0
  simp only [List.getElem?_cons_zero] at r1 r2
  have hne : ¬ w.heap.size + 1 = w.heap.size + 1 + 1 := by omega
  have HB6 := Lib.hid (HB5.out.alloc (by omega : w.heap.size ≤ w5.heap.size) (.cells #[.int .i64 (f : Int), .int .i64 0] 87))
  by_cases hf0 : f = 0
  · subst hf0
    obtain ⟨rfl, hq⟩ := Prod.mk.inj (hbq rfl)
    have HRR : Hid (meaR (.mk c n k bs ss) = (b, q, 0)) := Lib.hid (by rw [HR.out, if_neg (by omega), hq])
    clear hcase hc hd2 HC HM HR hg hk1 hb5 HZ hd hbq hq
    rw [show ((0 : Nat) : Int) = 0 from rfl] at r1 r2 g1 g2 HB6 HC5 HD5
    go_wp2_with fail
    go_region
    go_wp2_with fail
    have s1 := ((HC5.out.store 0 (.int .i64 (b : Int))).far (p := ⟨w.heap.size + 1 + 1, 0, none⟩) hne (.int .i64 (q : Int))).cell 0
    have s2 := ((HD5.out.far (p := ⟨w.heap.size + 1, 0, none⟩) (fun e => hne e.symm) (.int .i64 (b : Int))).store 0 (.int .i64 (q : Int))).cell 0
    simp only [List.set_cons_zero, List.getElem?_cons_zero] at s1 s2
    refine bodyPost_ret (v := .tuple #[.int .i64 (b : Int), .int .i64 (q : Int), .int .i64 0]) (by simp [results, Try.results31, go_sem, s1, s2]) rfl ⟨by rw [HRR.out]; rfl, ?_⟩
    exact (((HB6.out.setCell (p := ⟨w.heap.size + 1, 0, none⟩) (by show w.heap.size ≤ w.heap.size + 1; omega) _).setCell (p := ⟨w.heap.size + 1 + 1, 0, none⟩) (by show w.heap.size ≤ w.heap.size + 1 + 1; omega) _)).drew
  · have hfb : ((f : Int) != 0) = true := by simp; omega
    have HRR : Hid (meaR (.mk c n k bs ss) = (0, 0, f)) := Lib.hid (by rw [HR.out, if_pos hf0])
    clear hcase hc hd2 HC HM HR hg hk1 hb5 HZ hd hbq
    go_wp2_with fail
    go_region
    go_wp2_with fail
    have s1 := ((HC5.out.store 0 (.int .i64 0)).far (p := ⟨w.heap.size + 1 + 1, 0, none⟩) hne (.int .i64 0)).cell 0
    have s2 := ((HD5.out.far (p := ⟨w.heap.size + 1, 0, none⟩) (fun e => hne e.symm) (.int .i64 0)).store 0 (.int .i64 0)).cell 0
    simp only [List.set_cons_zero, List.getElem?_cons_zero] at s1 s2
    refine bodyPost_ret (v := .tuple #[.int .i64 0, .int .i64 0, .int .i64 (f : Int)]) (by simp [results, Try.results31, go_sem, s1, s2]) rfl ⟨by rw [HRR.out]; rfl, ?_⟩
    exact (((HB6.out.setCell (p := ⟨w.heap.size + 1, 0, none⟩) (by show w.heap.size ≤ w.heap.size + 1; omega) _).setCell (p := ⟨w.heap.size + 1 + 1, 0, none⟩) (by show w.heap.size ≤ w.heap.size + 1 + 1; omega) _)).drew
end Go.Proofs.Ytfbdeefeagednaa
namespace Go.Proofs.Ytfbdeefeagednaa
open Go.RowKit
set_option maxHeartbeats 1000000 in
set_option maxRecDepth 100000 in
theorem echeck_any {x : Bool} {S : Nat → Prop} (e : El) (v : Value) (w : World) (hd : depE e ≤ 10000) (hE : RdE x S w e v) :
    Calls Try.prog 8 #[v] w fun e' w' => e' = .returned (.int .i64 ((meaR e).2.2 : Int)) ∧ Below w.heap.size w w' := by
  obtain ⟨c, n, k, bs, ss⟩ := e
  have hE2 := hE
  obtain ⟨h1, h2, h3, A, ca, B, cb, rfl, h5, h6, h7, h8, h9, h10, h11⟩ := hE
  clear h1 h2 h3 h5 h6 h7 h8 h9 h10 h11
  have hba := bel1 w (.cells #[.int .u8 (c : Int), .bool k, .int .u32 (n : Int), .slice A bs.length ca, .slice B ss.length cb] 29)
  have HM := Lib.hid (measure_any _ _ _ hd (hE2.stay hba))
  have HBA := Lib.hid hba
  clear hE2 hd hba
  go_enter Try.func8, Try.ntmps8
  go_wp2_with fail
  refine HM.out.mono ?_
  rintro e' w1 ⟨rfl, hb1⟩
  have HB := Lib.hid (HBA.out.trans (hb1.mono HBA.out.size))
  clear hb1
  go_wp2_with fail
  go_ret
  exact ⟨rfl, HB.out⟩
mutual
theorem chkE_cnt : ∀ (e : El) (d b : Nat), (chkE e d b).1 = 0 → (chkE e d b).2 = b + cntE e
  | .mk c n k bs ss, d, b, h => by
    rw [chkE] at h ⊢
    by_cases h1 : oneE (.mk c n k bs ss) d b ≠ 0
    · rw [if_pos h1] at h; exact absurd h h1
    · rw [if_neg h1] at h ⊢
      rw [chkS_cnt ss (d + 1) (b + 1) h, cntE]
      omega
theorem chkS_cnt : ∀ (ss : List El) (d b : Nat), (chkS ss d b).1 = 0 → (chkS ss d b).2 = b + cntS ss
  | [], d, b, h => by rw [chkS, cntS]; rfl
  | e :: ss, d, b, h => by
    rw [chkS] at h ⊢
    by_cases h1 : (chkE e d b).1 ≠ 0
    · rw [if_pos h1] at h; exact absurd h h1
    · rw [if_neg h1] at h ⊢
      rw [chkS_cnt ss d _ h, chkE_cnt e d b (by omega), cntS]
      omega
end
theorem meaR_err (e : El) : (meaR e).2.2 = (chkE e 1 0).1 := by unfold meaR; split <;> dsimp only <;> omega
end Go.Proofs.Ytfbdeefeagednaa
namespace Go.Proofs.Ytfbdeefeagednaa
open Go.RowKit
mutual
/-- The encoding of an element. -/
def encE : El → List Nat
  | .mk c n k bs ss => putL c n k ++ (Len.putL (bs.length + (encS ss).length) ++ (bs ++ encS ss))
def encS : List El → List Nat
  | [] => []
  | e :: ss => encE e ++ encS ss
end
/-- The number of octets of an element's content. -/
def conL : El → Nat
  | .mk _ _ _ bs ss => bs.length + (encS ss).length
mutual
/-- Each element is one by itself. -/
def valE : El → Prop
  | .mk c n k bs ss => chk c n k = 0 ∧ (k = true → bs = []) ∧ (k = false → ss = []) ∧ valS ss
def valS : List El → Prop
  | [] => True
  | e :: ss => valE e ∧ valS ss
end
theorem valS_mem {ss : List El} (h : valS ss) {e : El} (he : e ∈ ss) : valE e := by
  induction ss with
  | nil => simp at he
  | cons x ss ih =>
    rcases List.mem_cons.1 he with rfl | he
    · exact h.1
    · exact ih h.2 he
theorem oneE_zero {c n : Nat} {k : Bool} {bs : List Nat} {ss : List El} {d b : Nat} : oneE (.mk c n k bs ss) d b = 0 ↔ chk c n k = 0 ∧ (k = true → bs = []) ∧ (k = false → ss = []) ∧ d ≤ 16 ∧ b < 8192 := by
  rw [oneE_mk]
  constructor
  · intro h
    split at h
    · rename_i h1; exact absurd h h1
    rename_i h1
    split at h
    · exact absurd h (by decide)
    rename_i h2
    unfold plcE at h
    split at h
    · exact absurd h (by decide)
    split at h
    · exact absurd h (by decide)
    refine ⟨by omega, fun hk => ?_, fun hk => ?_, by omega, by omega⟩
    · rcases bs with _ | ⟨x, bs⟩
      · rfl
      · exact absurd (.inl ⟨hk, by simp⟩) h2
    · rcases ss with _ | ⟨x, ss⟩
      · rfl
      · exact absurd (.inr ⟨hk, by simp⟩) h2
  · rintro ⟨h1, h2, h3, h4, h5⟩
    rw [if_neg (by omega), if_neg ?_]
    · unfold plcE; rw [if_neg (by omega), if_neg (by omega)]
    · rintro (⟨hk, hl⟩ | ⟨hk, hl⟩)
      · rw [h2 hk] at hl; simp at hl
      · rw [h3 hk] at hl; simp at hl
mutual
theorem chkE_zero : ∀ (e : El) (d b : Nat), (chkE e d b).1 = 0 ↔ valE e ∧ d + depE e ≤ 17 ∧ b + cntE e ≤ 8192
  | .mk c n k bs ss, d, b => by
    rw [chkE, valE, depE, cntE]
    have h0 := @oneE_zero c n k bs ss d b
    by_cases h : oneE (.mk c n k bs ss) d b ≠ 0
    · rw [if_pos h]
      refine ⟨fun h1 => absurd h1 h, fun ⟨⟨h1, h2, h3, h4⟩, h5, h6⟩ => absurd (h0.2 ⟨h1, h2, h3, by omega, by omega⟩) h⟩
    · rw [if_neg h]
      obtain ⟨g1, g2, g3, g4, g5⟩ := h0.1 (by omega)
      rw [chkS_zero ss (d + 1) (b + 1) (by omega) (by omega)]
      exact ⟨fun ⟨h1, h2, h3⟩ => ⟨⟨g1, g2, g3, h1⟩, by omega, by omega⟩, fun ⟨⟨_, _, _, h1⟩, h2, h3⟩ => ⟨h1, by omega, by omega⟩⟩
theorem chkS_zero : ∀ (ss : List El) (d b : Nat), d ≤ 17 → b ≤ 8192 → ((chkS ss d b).1 = 0 ↔ valS ss ∧ d + depS ss ≤ 17 ∧ b + cntS ss ≤ 8192)
  | [], d, b, hd, hb => by
    rw [chkS, valS, depS, cntS]
    exact ⟨fun _ => ⟨trivial, hd, hb⟩, fun _ => rfl⟩
  | e :: ss, d, b, hd, hb => by
    rw [chkS, valS, depS, cntS]
    have h0 := chkE_zero e d b
    by_cases h : (chkE e d b).1 ≠ 0
    · rw [if_pos h]
      refine ⟨fun h1 => absurd h1 h, fun ⟨⟨h1, h2⟩, h5, h6⟩ => absurd (h0.2 ⟨h1, by omega, by omega⟩) h⟩
    · rw [if_neg h]
      obtain ⟨g1, g2, g3⟩ := h0.1 (by omega)
      rw [chkE_cnt e d b (by omega), chkS_zero ss d (b + cntE e) hd (by omega)]
      exact ⟨fun ⟨h1, h2, h3⟩ => ⟨⟨g1, h1⟩, by omega, by omega⟩, fun ⟨⟨_, h1⟩, h2, h3⟩ => ⟨h1, by omega, by omega⟩⟩
end
theorem tput_pos (c n : Nat) (k : Bool) : 0 < (putL c n k).length := by unfold putL; split <;> simp
theorem tput_le {c n : Nat} {k : Bool} (h : n < 268435456) : (putL c n k).length ≤ 5 := by
  unfold putL
  split
  · simp
  · rw [List.length_cons, gl_length (by omega) (by omega)]
    have := gk_le h
    omega
theorem tput_size {c n : Nat} {k : Bool} (h : chk c n k = 0) : sizeN c n k = (putL c n k).length := by
  have h28 := (chk_zero h).2
  unfold sizeN putL
  rw [if_neg (by omega)]
  split
  · rfl
  · rw [List.length_cons, gl_length (by omega) (by omega)]
theorem lput_size {m : Nat} (h : m ≤ 16777215) : (Len.putL m).length = Len.szI (m : Int) := by
  rw [Len.szI_of h]
  unfold Len.putL
  split
  · rfl
  split
  · rfl
  split <;> rfl
theorem lput_le {m : Nat} (_h : m ≤ 16777215) : 0 < (Len.putL m).length ∧ (Len.putL m).length ≤ 4 := by
  unfold Len.putL
  split
  · simp
  split
  · simp
  split <;> simp
theorem encE_len {c n : Nat} {k : Bool} {bs : List Nat} {ss : List El} : (encE (.mk c n k bs ss)).length = (putL c n k).length + ((Len.putL (conL (.mk c n k bs ss))).length + conL (.mk c n k bs ss)) := by
  rw [encE, conL, List.length_append, List.length_append, List.length_append]
theorem tot_enc {c n : Nat} {k : Bool} {bs : List Nat} {ss : List El} (h : chk c n k = 0) (hc : conL (.mk c n k bs ss) ≤ 1048576) :
    Len.totI ((sizeN c n k : Nat) : Int) ((conL (.mk c n k bs ss) : Nat) : Int) = ((encE (.mk c n k bs ss)).length : Int) := by
  have h1 := tput_pos c n k
  have h2 := tput_le (c := c) (k := k) (chk_zero h).2
  have h3 := lput_le (m := conL (.mk c n k bs ss)) (by omega)
  rw [encE_len, tput_size h]
  unfold Len.totI
  rw [if_neg (by omega), if_neg (by omega), ← lput_size (by omega), if_neg (by omega)]
  omega
theorem conL_le {e : El} : conL e ≤ (encE e).length := by
  obtain ⟨c, n, k, bs, ss⟩ := e
  rw [encE_len]; omega
theorem encS_take {ss : List El} {i : Nat} (hi : i < ss.length) : (encS (ss.take (i + 1))).length = (encS (ss.take i)).length + (encE ss[i]).length := by
  have happ : ∀ a b : List El, encS (a ++ b) = encS a ++ encS b := by
    intro a b
    induction a with
    | nil => rfl
    | cons x a ih => rw [List.cons_append, encS, ih, encS, List.append_assoc]
  rw [List.take_succ_eq_append_getElem hi, happ, List.length_append, encS, encS, List.append_nil]
theorem encS_app (a b : List El) : encS (a ++ b) = encS a ++ encS b := by
  induction a with
  | nil => rfl
  | cons x a ih => rw [List.cons_append, encS, ih, encS, List.append_assoc]
theorem encS_part {ss : List El} {i : Nat} (hi : i < ss.length) : (encS (ss.take i)).length + (encE ss[i]).length ≤ (encS ss).length := by
  have h := encS_app (ss.take (i + 1)) (ss.drop (i + 1))
  rw [List.take_append_drop] at h
  rw [← encS_take hi, h, List.length_append]
  omega
end Go.Proofs.Ytfbdeefeagednaa
namespace Go.Proofs.Ytfbdeefeagednaa
open Go.RowKit
set_option maxHeartbeats 2000000 in
set_option maxRecDepth 100000 in
/-- fullSize, where contentSize is as it should be. -/
theorem full_of {x : Bool} {S : Nat → Prop} (e : El) (v : Value) (w : World) (hE : RdE x S w e v) (hv : valE e) (hN1 : (encE e).length ≤ 1048576)
    (hc : ∀ w', RdE x S w' e v → Calls Try.prog 40 #[v] w' fun e' w'' => e' = .returned (.int .i64 (conL e : Int)) ∧ Below w'.heap.size w' w'') :
    Calls Try.prog 58 #[v] w fun e' w' => e' = .returned (.int .i64 ((encE e).length : Int)) ∧ Below w.heap.size w w' := by
  obtain ⟨c, n, k, bs, ss⟩ := e
  have hE2 := hE
  obtain ⟨h1, h2, h3, A, ca, B, cb, rfl, h5, h6, h7, h8, h9, h10, h11⟩ := hE
  rw [valE] at hv
  have HT := Lib.hid fun w => size_any c n k w h1 h2
  have htot := fun h => tot_enc (bs := bs) (ss := ss) (k := k) hv.1 h
  have hle := conL_le (e := .mk c n k bs ss)
  have HTot := Lib.hid htot
  have hba := bel1 w (.cells #[.int .u8 (c : Int), .bool k, .int .u32 (n : Int), .slice A bs.length ca, .slice B ss.length cb] 29)
  have hka := Bk.new w 29 [.int .u8 (c : Int), .bool k, .int .u32 (n : Int), .slice A bs.length ca, .slice B ss.length cb]
  obtain ⟨w1, hw1⟩ : ∃ w1, w.alloc (.cells #[.int .u8 (c : Int), .bool k, .int .u32 (n : Int), .slice A bs.length ca, .slice B ss.length cb] 29) = w1 := ⟨_, rfl⟩
  obtain ⟨m, hm⟩ : ∃ m, conL (.mk c n k bs ss) = m := ⟨_, rfl⟩
  obtain ⟨N, hN⟩ : ∃ N, (encE (.mk c n k bs ss)).length = N := ⟨_, rfl⟩
  obtain ⟨t, ht⟩ : ∃ t, sizeN c n k = t := ⟨_, rfl⟩
  rw [hw1] at hba hka
  rw [hm, hN] at hle
  rw [hN] at hN1
  have HE2 := Lib.hid (hE2.stay hba)
  have Hm := Lib.hid hm
  have HN := Lib.hid hN
  have Ht := Lib.hid ht
  have hcell : ∀ W : World, Below w1.heap.size w1 W → W.cell? ⟨w.heap.size, 0, none⟩ = some (.int .u8 (c : Int)) ∧ W.cell? ⟨w.heap.size, 1, none⟩ = some (.bool k) ∧ W.cell? ⟨w.heap.size, 2, none⟩ = some (.int .u32 (n : Int)) ∧ W.cell? ⟨w.heap.size, 3, none⟩ = some (.slice A bs.length ca) ∧ W.cell? ⟨w.heap.size, 4, none⟩ = some (.slice B ss.length cb) := fun W hb =>
    let ⟨e0, e1, e2, e3, e4, _⟩ := (hka.below hb hka.lt).five
    ⟨e0, e1, e2, e3, e4⟩
  have HCell := Lib.hid hcell
  have HBA := Lib.hid hba
  clear hE2 h1 h2 h3 h5 h6 h7 h8 h9 h10 h11 htot hba hka hm hN hcell ht
  have b1 := Below.refl w1.heap.size w1
  have hm1 : m ≤ 1048576 := by omega
  have hto : Len.totI ((t : Nat) : Int) ((m : Nat) : Int) = ((N : Nat) : Int) := by
    have := HTot.out (by rw [Hm.out]; exact hm1)
    rwa [Hm.out, HN.out, Ht.out] at this
  have HTo := Lib.hid hto
  have hc2 : ∀ w', RdE x S w' (.mk c n k bs ss) (elV c n k (.slice A bs.length ca) (.slice B ss.length cb)) → Calls Try.prog 40 #[elV c n k (.slice A bs.length ca) (.slice B ss.length cb)] w' fun e w'' => e = .returned (.int .i64 (m : Int)) ∧ Below w'.heap.size w' w'' := fun w' h => by
    have := hc w' h; rw [Hm.out] at this; exact this
  have HC2 := Lib.hid hc2
  clear hc hc2 hto
  go_enter Try.func58, Try.ntmps58
  go_wp2_with fail
  go_region_held3 (fun w' => w'.cell? ⟨w.heap.size, 0, none⟩ = some (.int .u8 (c : Int)) ∧ w'.cell? ⟨w.heap.size, 1, none⟩ = some (.bool k) ∧ w'.cell? ⟨w.heap.size, 2, none⟩ = some (.int .u32 (n : Int)) ∧ w'.cell? ⟨w.heap.size, 3, none⟩ = some (.slice A bs.length ca) ∧ w'.cell? ⟨w.heap.size, 4, none⟩ = some (.slice B ss.length cb))
    (first | exact HCell.out _ b1.drew | exact HCell.out _ d2 | exact HCell.out _ d3)
    (first | (go_at_call 61; refine (HT.out _).mono ?_; rintro e w2 ⟨rfl, hb2⟩; rw [Ht.out]; have d2 := b1.drew.trans (hb2.mono b1.drew.size)) | (go_at_call 40; refine (HC2.out _ (HE2.out.stay d2)).mono ?_; rintro e w3 ⟨rfl, hb3⟩; have d3 := d2.trans (hb3.mono d2.size)) | (go_at_call 71; refine (Len.total_any (t : Int) (m : Int) _).mono ?_; rw [HTo.out]; rintro e w4 ⟨rfl, rfl⟩) | (go_at_call 64; refine (bnd_no N _ hN1).mono ?_; rintro e w5 ⟨rfl, rfl⟩))
  have HD := Lib.hid (HBA.out.trans (d3.mono HBA.out.size))
  go_wp2_with fail
  go_ret
  exact ⟨by rw [HN.out]; rfl, HD.out⟩
set_option maxHeartbeats 2000000 in
set_option maxRecDepth 100000 in
theorem con_any {x : Bool} {S : Nat → Prop} (e : El) : ∀ (v : Value) (w : World), RdE x S w e v → valE e → conL e ≤ 1048576 →
    Calls Try.prog 40 #[v] w fun e' w' => e' = .returned (.int .i64 (conL e : Int)) ∧ Below w.heap.size w w' := by
  refine El.ind (P := fun e => ∀ (v : Value) (w : World), RdE x S w e v → valE e → conL e ≤ 1048576 →
    Calls Try.prog 40 #[v] w fun e' w' => e' = .returned (.int .i64 (conL e : Int)) ∧ Below w.heap.size w w') ?_ e
  clear e
  intro c n k bs ss ih v w h hv hm
  obtain ⟨h1, h2, h3, A, ca, B, cb, rfl, h5, h6, h7, h8, h9, h10, h11⟩ := h
  have hlen : ss.length ≤ 9223372036854775807 := by unfold maxLen at h9; omega
  rw [valE] at hv
  rw [conL] at hm ⊢
  have hvs := hv.2.2.2
  clear hv h1 h2 h3 h5 h6 h7 h8 h9 h10
  have HBA := Lib.hid (bel1 w (.cells #[.int .u8 (c : Int), .bool k, .int .u32 (n : Int), .slice A bs.length ca, .slice B ss.length cb] 29))
  have HKA := Lib.hid (Bk.new w 29 [.int .u8 (c : Int), .bool k, .int .u32 (n : Int), .slice A bs.length ca, .slice B ss.length cb])
  go_enter Try.func40, Try.ntmps40
  go_wp2_with fail
  refine (bnd_no bs.length _ (by omega)).mono ?_
  rintro e' w' ⟨rfl, rfl⟩
  go_wp2_with fail
  go_loopw [3, 13, 5] (fun a i _ wr => ∃ (p q : Nat), p ≤ ss.length ∧ a = .int .i64 (q : Int) ∧ i = .int .i64 (p : Int) ∧ q = bs.length + (encS (ss.take p)).length ∧ Below w.heap.size w wr) (fun _ i _ _ => ss.length - (intOf i).toNat)
  case atStart =>
    exact ⟨0, bs.length, Nat.zero_le _, rfl, rfl, by simp [encS], HBA.out⟩
  case round =>
    obtain ⟨p, q, hp, rfl, rfl, hM, hbel⟩ := hrel
    have H11 := Lib.hid (h11.stay hbel)
    have HIH := Lib.hid ih
    have HM := Lib.hid hM
    have HB := Lib.hid hbel
    have HV := Lib.hid hvs
    clear ih hM hbel h11 hvs
    by_cases hlt : p < ss.length
    · obtain ⟨b, off, c', n', k', A1, l1, q1, A2, l2, q2, rfl, hb, hS, f0, f1, f2, f3, f4, hE⟩ := H11.out.fives hlt
      have hpart := encS_part hlt
      have HN := Lib.hid (encS_take hlt)
      have hve := valS_mem HV.out (List.getElem_mem hlt)
      have hba2 := bel1 wr (.cells #[.int .u8 (c' : Int), .bool k', .int .u32 (n' : Int), .slice A1 l1 q1, .slice A2 l2 q2] 29)
      have hM2 := HM.out
      obtain ⟨r, hr⟩ : ∃ r, (encE ss[p]).length = r := ⟨_, rfl⟩
      have hcr := conL_le (e := ss[p])
      have hf := full_of _ _ _ (hE.stay hba2) hve (by omega) (fun w' hE' => HIH.out _ (List.getElem_mem hlt) _ w' hE' hve (by omega))
      rw [hr] at hpart hf hcr
      have HF := Lib.hid hf
      have HR := Lib.hid hr
      have HB2 := Lib.hid (HB.out.trans (hba2.mono HB.out.size))
      have hqr : q + r ≤ 1048576 := by omega
      clear hE hS hf hr hba2 hve hcr hM2 hpart
      go_wp2_with fail
      refine HF.out.mono ?_
      rintro e' w1 ⟨rfl, hb1⟩
      have HB1 := Lib.hid (HB2.out.trans (hb1.mono HB2.out.size))
      clear hb1
      go_wp2_with fail
      refine (bnd_no (q + r) _ hqr).mono ?_
      rintro e' w2 ⟨rfl, rfl⟩
      go_wp2_with fail
      exact ⟨⟨p + 1, q + r, by omega, rfl, by go_num, by rw [HN.out, HM.out, HR.out]; omega, HB1.out⟩, by simp [intOf]; omega⟩
    · have HQ := Lib.hid (show q = bs.length + (encS ss).length from by have := HM.out; rwa [List.take_of_length_le (by omega)] at this)
      go_wp2_with fail
      go_ret
      exact ⟨by rw [← HQ.out]; rfl, HB.out⟩
theorem full_any {x : Bool} {S : Nat → Prop} (e : El) (v : Value) (w : World) (hE : RdE x S w e v) (hv : valE e) (hN : (encE e).length ≤ 1048576) :
    Calls Try.prog 58 #[v] w fun e' w' => e' = .returned (.int .i64 ((encE e).length : Int)) ∧ Below w.heap.size w w' :=
  full_of e v w hE hv hN fun w' hE' => con_any e v w' hE' hv (Nat.le_trans conL_le hN)
set_option maxHeartbeats 2000000 in
set_option maxRecDepth 100000 in
/-- fullSize, where the octets of the whole alone are too many. -/
theorem full_over {x : Bool} {S : Nat → Prop} (e : El) (v : Value) (w : World) (hE : RdE x S w e v) (hv : valE e) (hm1 : conL e ≤ 1048576) (hN1 : 1048576 < (encE e).length) :
    Calls Try.prog 58 #[v] w fun e' w' => e' = .panicked [fltP 3 0] ∧ Below w.heap.size w w' := by
  have hc := fun w' hE' => con_any e v w' (hE' : RdE x S w' e v) hv hm1
  obtain ⟨c, n, k, bs, ss⟩ := e
  have hE2 := hE
  obtain ⟨h1, h2, h3, A, ca, B, cb, rfl, h5, h6, h7, h8, h9, h10, h11⟩ := hE
  rw [valE] at hv
  have HT := Lib.hid fun w => size_any c n k w h1 h2
  have htot := fun h => tot_enc (bs := bs) (ss := ss) (k := k) hv.1 h
  have hle := conL_le (e := .mk c n k bs ss)
  have HTot := Lib.hid htot
  have hba := bel1 w (.cells #[.int .u8 (c : Int), .bool k, .int .u32 (n : Int), .slice A bs.length ca, .slice B ss.length cb] 29)
  have hka := Bk.new w 29 [.int .u8 (c : Int), .bool k, .int .u32 (n : Int), .slice A bs.length ca, .slice B ss.length cb]
  obtain ⟨w1, hw1⟩ : ∃ w1, w.alloc (.cells #[.int .u8 (c : Int), .bool k, .int .u32 (n : Int), .slice A bs.length ca, .slice B ss.length cb] 29) = w1 := ⟨_, rfl⟩
  obtain ⟨m, hm⟩ : ∃ m, conL (.mk c n k bs ss) = m := ⟨_, rfl⟩
  obtain ⟨N, hN⟩ : ∃ N, (encE (.mk c n k bs ss)).length = N := ⟨_, rfl⟩
  obtain ⟨t, ht⟩ : ∃ t, sizeN c n k = t := ⟨_, rfl⟩
  rw [hw1] at hba hka
  rw [hm, hN] at hle
  rw [hN] at hN1
  rw [hm] at hm1
  have HE2 := Lib.hid (hE2.stay hba)
  have Hm := Lib.hid hm
  have HN := Lib.hid hN
  have Ht := Lib.hid ht
  have hcell : ∀ W : World, Below w1.heap.size w1 W → W.cell? ⟨w.heap.size, 0, none⟩ = some (.int .u8 (c : Int)) ∧ W.cell? ⟨w.heap.size, 1, none⟩ = some (.bool k) ∧ W.cell? ⟨w.heap.size, 2, none⟩ = some (.int .u32 (n : Int)) ∧ W.cell? ⟨w.heap.size, 3, none⟩ = some (.slice A bs.length ca) ∧ W.cell? ⟨w.heap.size, 4, none⟩ = some (.slice B ss.length cb) := fun W hb =>
    let ⟨e0, e1, e2, e3, e4, _⟩ := (hka.below hb hka.lt).five
    ⟨e0, e1, e2, e3, e4⟩
  have HCell := Lib.hid hcell
  have HBA := Lib.hid hba
  clear hE2 h1 h2 h3 h5 h6 h7 h8 h9 h10 h11 htot hba hka hm hN hcell ht
  have b1 := Below.refl w1.heap.size w1
  have hto : Len.totI ((t : Nat) : Int) ((m : Nat) : Int) = ((N : Nat) : Int) := by
    have := HTot.out (by rw [Hm.out]; exact hm1)
    rwa [Hm.out, HN.out, Ht.out] at this
  have HTo := Lib.hid hto
  have hc2 : ∀ w', RdE x S w' (.mk c n k bs ss) (elV c n k (.slice A bs.length ca) (.slice B ss.length cb)) → Calls Try.prog 40 #[elV c n k (.slice A bs.length ca) (.slice B ss.length cb)] w' fun e w'' => e = .returned (.int .i64 (m : Int)) ∧ Below w'.heap.size w' w'' := fun w' h => by
    have := hc w' h; rw [Hm.out] at this; exact this
  have HC2 := Lib.hid hc2
  clear hc hc2 hto
  go_enter Try.func58, Try.ntmps58
  go_wp2_with fail
  refine wp_region_held_drew (S := fun w' => w'.cell? ⟨w.heap.size, 0, none⟩ = some (.int .u8 (c : Int)) ∧ w'.cell? ⟨w.heap.size, 1, none⟩ = some (.bool k) ∧ w'.cell? ⟨w.heap.size, 2, none⟩ = some (.int .u32 (n : Int)) ∧ w'.cell? ⟨w.heap.size, 3, none⟩ = some (.slice A bs.length ca) ∧ w'.cell? ⟨w.heap.size, 4, none⟩ = some (.slice B ss.length cb)) (by kernel_rfl) (HCell.out _ b1.drew) (fun hS => ?_)
  refine wpAnyH_take (i := 0) (v := ?_) rfl (by kernel_rfl) (by kernel_rfl) (by kernel_rfl) (fun _ _ _ h => h) (Or.inl ⟨by rfl, ?_⟩) hS ?_
  rotate_left
  · intro w hSw
    (try dsimp only at hSw)
    go_simp
    try with_reducible rfl
  try simp only [Act.put, List.setIfInBounds_toArray]
  refine wpAnyH_take (i := 1) (v := ?_) rfl (by kernel_rfl) (by kernel_rfl) (by kernel_rfl) (fun _ _ _ h => h) (Or.inl ⟨by rfl, ?_⟩) hS ?_
  rotate_left
  · intro w hSw
    (try dsimp only at hSw)
    go_simp
    try with_reducible rfl
  try simp only [Act.put]
  refine wpAnyH_take (i := 3) (v := ?_) rfl (by kernel_rfl) (by kernel_rfl) (by kernel_rfl) (fun _ _ _ h => h) (Or.inl ⟨by rfl, ?_⟩) hS ?_
  rotate_left
  · intro w hSw
    (try dsimp only at hSw)
    go_simp
    try with_reducible rfl
  try simp only [Act.put]
  refine wpAnyH_ready (rs := [2]) (by kernel_rfl) (by simp) ?_
  refine AllReadyH.cons (o := _) rfl (fun K hK => ?_) (AllReadyH.nil)
  go_simp
  refine (HT.out _).mono ?_
  rintro e w2 ⟨rfl, hb2⟩
  rw [Ht.out]
  have d2 := b1.drew.trans (hb2.mono b1.drew.size)
  refine hK.out _ _ (HCell.out _ d2) (fun hS => ?_)
  clear hK K
  try simp only [Act.put, List.setIfInBounds_toArray, List.set_cons_zero, List.set_cons_succ]
  refine wpAnyH_ready (rs := [4]) (by kernel_rfl) (by simp) ?_
  refine AllReadyH.cons (o := _) rfl (fun K hK => ?_) (AllReadyH.nil)
  go_simp
  refine (HC2.out _ (HE2.out.stay d2)).mono ?_
  rintro e w3 ⟨rfl, hb3⟩
  have d3 := d2.trans (hb3.mono d2.size)
  refine hK.out _ _ (HCell.out _ d3) (fun hS => ?_)
  clear hK K
  try simp only [Act.put, List.setIfInBounds_toArray, List.set_cons_zero, List.set_cons_succ]
  refine wpAnyH_ready (rs := [5]) (by kernel_rfl) (by simp) ?_
  refine AllReadyH.cons (o := _) rfl (fun K hK => ?_) (AllReadyH.nil)
  go_simp
  refine (Len.total_any (t : Int) (m : Int) _).mono ?_
  rw [HTo.out]
  rintro e w4 ⟨rfl, rfl⟩
  refine hK.out _ _ (HCell.out _ d3) (fun hS => ?_)
  clear hK K
  try simp only [Act.put, List.setIfInBounds_toArray, List.set_cons_zero, List.set_cons_succ]
  refine wpAnyH_ready (rs := [6]) (by kernel_rfl) (by simp) ?_
  refine AllReadyH.cons (o := _) rfl (fun K hK => ?_) (AllReadyH.nil)
  go_simp
  refine (bnd_yes N _ hN1).mono ?_
  rintro e w5 ⟨rfl, rfl⟩
  exact ⟨rfl, rfl, HBA.out.trans (d3.mono HBA.out.size)⟩
end Go.Proofs.Ytfbdeefeagednaa
namespace Go.Proofs.Ytfbdeefeagednaa
open Go.RowKit
/-- What sizeOf returns: the number of octets; the error. -/
def sizR (e : El) : Nat × Nat := if (chkE e 1 0).1 ≠ 0 then (0, (chkE e 1 0).1) else if (encE e).length ≤ 1048576 then ((encE e).length, 0) else (0, 3)
/-- The content is not too large for what is shown here. -/
def conOk (e : El) : Prop := (chkE e 1 0).1 = 0 → conL e ≤ 1048576
set_option maxHeartbeats 1000000 in
set_option maxRecDepth 100000 in
theorem siz1_any {x : Bool} {S : Nat → Prop} (ge gz : Nat) (e : El) (v : Value) (w : World) (he : ∀ j u, v.cells.toList[j]? = some u → w.cell? ⟨ge, j, none⟩ = some u) (hz : Bk w gz 3 [.int .i64 0]) (hE : RdE x S w e v) (hv : valE e) (hc : conL e ≤ 1048576) :
    Calls Try.prog 57 #[.pointer (some ⟨ge, 0, none⟩), .pointer (some ⟨gz, 0, none⟩)] w fun e' w' =>
      Kp (· = gz) w w' ∧ (((encE e).length ≤ 1048576 ∧ e' = .returned (.tuple #[]) ∧ Bk w' gz 3 [.int .i64 ((encE e).length : Int)]) ∨ (1048576 < (encE e).length ∧ e' = .panicked [fltP 3 0] ∧ Bk w' gz 3 [.int .i64 0])) := by
  have hEE := hE
  obtain ⟨c, n, k, bs, ss⟩ := e
  obtain ⟨h1, h2, h3, A, ca, B, cb, rfl, h5, h6, h7, h8, h9, h10, h11⟩ := hE
  have e0 := he 0 _ rfl
  have e1 := he 1 _ rfl
  have e2 := he 2 _ rfl
  have e3 := he 3 _ rfl
  have e4 := he 4 _ rfl
  clear h1 h2 h3 h5 h6 h7 h8 h9 h10 h11 he
  have HZ := Lib.hid hz
  by_cases hN : (encE (.mk c n k bs ss)).length ≤ 1048576
  · have HF := Lib.hid (full_any _ _ w hEE hv hN)
    have HN := Lib.hid hN
    clear hEE hv hz hN
    go_enter Try.func57, Try.ntmps57
    go_wp2_with fail
    refine HF.out.mono ?_
    rintro e' w1 ⟨rfl, hb⟩
    have hk := HZ.out.below hb HZ.out.lt
    have c1 := hk.cell 0
    have f1 := hk.free 0
    simp only [List.getElem?_cons_zero] at c1
    have HB := Lib.hid hb
    have HK := Lib.hid hk
    clear hb hk
    go_wp2_with fail
    go_end0
    exact ⟨(kp_below HB.out (· = gz)).setCell (p := ⟨gz, 0, none⟩) (.inl rfl) _, .inl ⟨HN.out, rfl, HK.out.store 0 _⟩⟩
  · have HF := Lib.hid (full_over _ _ w hEE hv hc (by omega))
    have HN := Lib.hid (show 1048576 < (encE (.mk c n k bs ss)).length by omega)
    clear hEE hv hz hN
    go_enter Try.func57, Try.ntmps57
    go_wp2_with fail
    refine HF.out.mono ?_
    rintro e' w1 ⟨rfl, hb⟩
    exact ⟨rfl, kp_below hb _, .inr ⟨HN.out, rfl, HZ.out.below hb HZ.out.lt⟩⟩
set_option maxHeartbeats 1000000 in
set_option maxRecDepth 100000 in
theorem sizeOf_any {x : Bool} {S : Nat → Prop} (e : El) (v : Value) (w : World) (hd : depE e ≤ 10000) (hE : RdE x S w e v) (hco : conOk e) :
    Calls Try.prog 35 #[v] w fun e' w' => e' = .returned (.tuple #[.int .i64 ((sizR e).1 : Int), .int .i64 ((sizR e).2 : Int)]) ∧ Below w.heap.size w w' := by
  have hmf : ∀ (fn : Fn) (first cap : Array Value) (w : World), (Instr.makeFunc fn first cap).run Try.prog w = .ok (.func fn first cap) w := fun _ _ _ _ => rfl
  obtain ⟨c, n, k, bs, ss⟩ := e
  have hE2 : RdE x (· < w.heap.size) w (.mk c n k bs ss) v := RdE.keep (Nat.le_refl _) (fun _ _ _ => rfl) (fun _ _ h => h) _ _ hE
  obtain ⟨h1, h2, h3, A, ca, B, cb, rfl, h5, h6, h7, h8, h9, h10, h11⟩ := hE
  clear h1 h2 h3 h5 h6 h7 h8 h9 h10 h11
  obtain ⟨w2, hw2⟩ : ∃ w2, (w.alloc (.cells #[.int .u8 (c : Int), .bool k, .int .u32 (n : Int), .slice A bs.length ca, .slice B ss.length cb] 29)).alloc (.cells #[.int .i64 0] 3) = w2 := ⟨_, rfl⟩
  have hb2 : Below w.heap.size w w2 := by rw [← hw2]; exact bel2 w _ _
  have z2 : w2.heap.size = w.heap.size + 2 := by rw [← hw2]; simp
  have k0 : Bk w2 w.heap.size 29 [.int .u8 (c : Int), .bool k, .int .u32 (n : Int), .slice A bs.length ca, .slice B ss.length cb] := by
    rw [← hw2]; exact (Bk.new w _ [_, _, _, _, _]).alloc _
  have k1 : Bk w2 (w.heap.size + 1) 3 [.int .i64 0] := by
    have := Bk.new (w.alloc (.cells #[.int .u8 (c : Int), .bool k, .int .u32 (n : Int), .slice A bs.length ca, .slice B ss.length cb] 29)) 3 [.int .i64 0]
    rw [World.size_alloc] at this
    rw [← hw2]; exact this
  have HC := Lib.hid (echeck_any _ _ _ hd (hE2.stay hb2))
  obtain ⟨r, hr⟩ : ∃ r, (chkE (.mk c n k bs ss) 1 0).1 = r := ⟨_, rfl⟩
  have hmr : (meaR (.mk c n k bs ss)).2.2 = r := by rw [meaR_err, hr]
  have HMR := Lib.hid hmr
  by_cases hr0 : r ≠ 0
  · have HS : Hid (sizR (.mk c n k bs ss) = (0, r)) := Lib.hid (by unfold sizR; rw [hr, if_pos hr0])
    have hrb : ((r : Int) != 0) = true := by simp; omega
    have HB2 := Lib.hid hb2
    have HK1 := Lib.hid k1
    clear hmr hr hE2 hb2 z2 k0 k1 hd
    subst hw2
    go_enter Try.func35, Try.ntmps35
    go_wp2_with fail
    refine HC.out.mono ?_
    rintro e' w3 ⟨rfl, hb3⟩
    have HB3 := Lib.hid (HB2.out.trans (hb3.mono HB2.out.size))
    have hk := HK1.out.below hb3 HK1.out.lt
    have c1 := hk.cell 0
    have f1 := hk.free 0
    have HK := Lib.hid hk
    simp only [List.getElem?_cons_zero] at c1
    clear hb3 hk
    rw [HMR.out]
    go_wp2_with fail
    have s1 := (HK.out.store 0 (.int .i64 0)).cell 0
    simp only [List.set_cons_zero, List.getElem?_cons_zero] at s1
    refine bodyPost_ret (v := .tuple #[.int .i64 0, .int .i64 (r : Int)]) (by simp [results, Try.results35, go_sem, s1]) rfl ⟨by rw [HS.out]; rfl, ?_⟩
    exact HB3.out.setCell (p := ⟨w.heap.size + 1, 0, none⟩) (by show w.heap.size ≤ w.heap.size + 1; omega) _
  obtain rfl : r = 0 := by omega
  have hv := ((chkE_zero _ 1 0).1 hr).1
  have hcn := hco hr
  have hS : sizR (.mk c n k bs ss) = if (encE (.mk c n k bs ss)).length ≤ 1048576 then ((encE (.mk c n k bs ss)).length, 0) else (0, 3) := by unfold sizR; rw [hr, if_neg (by decide)]
  obtain ⟨N, hN⟩ : ∃ N, (encE (.mk c n k bs ss)).length = N := ⟨_, rfl⟩
  rw [hN] at hS
  have HS := Lib.hid hS
  have HK0 := Lib.hid k0
  have HK1 := Lib.hid k1
  have HZ2 := Lib.hid z2
  have HE2 := Lib.hid hE2
  have HB2 := Lib.hid hb2
  have HV := Lib.hid (And.intro hv hcn)
  have HN := Lib.hid hN
  clear hS hmr hr hE2 hb2 z2 k0 k1 hd hv hcn hN hco
  subst hw2
  go_enter Try.func35, Try.ntmps35
  go_wp2_with fail
  refine HC.out.mono ?_
  rintro e' w3 ⟨rfl, hb3⟩
  rw [HMR.out]
  obtain ⟨w4, hw4⟩ : ∃ w4, w3.alloc (.cells #[.int .i64 0, .int .i64 0] 87) = w4 := ⟨_, rfl⟩
  have hb4 : Below w3.heap.size w3 w4 := by rw [← hw4]; exact bel1 _ _
  have k3 : Bk w4 w3.heap.size 87 [.int .i64 0, .int .i64 0] := by rw [← hw4]; exact Bk.new _ _ [_, _]
  have k03 := (HK0.out.below hb3 HK0.out.lt).below hb4 (HK0.out.below hb3 HK0.out.lt).lt
  have k13 := (HK1.out.below hb3 HK1.out.lt).below hb4 (HK1.out.below hb3 HK1.out.lt).lt
  have hbw3 := HB2.out.trans (hb3.mono HB2.out.size)
  have hbw4 := hbw3.trans (hb4.mono hbw3.size)
  have hz3 : w.heap.size + 2 ≤ w3.heap.size := by have := hb3.size; rw [HZ2.out] at this; exact this
  have hc1 := siz1_any w.heap.size (w.heap.size + 1) (.mk c n k bs ss) _ w4 (fun j u hu => by rw [k03.cell]; exact hu) k13 (HE2.out.below (B := w.heap.size) (fun _ h _ => h) hbw4) HV.out.1 HV.out.2
  rw [HN.out] at hc1
  have HCA := Lib.hid (catch_any 57 _ (fun f a w' => a = 0 ∧ Kp (· = w.heap.size + 1) w4 w' ∧ ((N ≤ 1048576 ∧ f = 0 ∧ Bk w' (w.heap.size + 1) 3 [.int .i64 (N : Int)]) ∨ (1048576 < N ∧ f = 3 ∧ Bk w' (w.heap.size + 1) 3 [.int .i64 0]))) w3 (fun _ _ => by simp [go_sem])
    (by
      rw [hw4]
      refine hc1.mono ?_
      rintro e' w5 ⟨hk, ⟨h1, rfl, h2⟩ | ⟨h1, rfl, h2⟩⟩
      · exact ⟨0, 0, ⟨rfl, hk, .inl ⟨h1, rfl, h2⟩⟩, k3.kp hk (by omega), .inl ⟨rfl, rfl, rfl⟩⟩
      · exact ⟨3, 0, ⟨rfl, hk, .inr ⟨h1, rfl, h2⟩⟩, k3.kp hk (by omega), .inr ⟨by decide, rfl⟩⟩))
  have HB3 := Lib.hid hbw3
  have HB4 := Lib.hid hbw4
  have HZ3 := Lib.hid hz3
  have HZ4 : Hid (w4.heap.size = w3.heap.size + 1) := Lib.hid (by rw [← hw4, World.size_alloc])
  clear hb3 hb4 k3 k03 k13 hbw3 hbw4 hz3 hc1 HK0 HK1 HZ2 HE2 HB2 HV HC hw4
  go_wp2_with fail
  refine HCA.out.mono ?_
  rintro e' w5 ⟨f, a, w1, ⟨rfl, hk1, hcase⟩, hg, rfl⟩
  have hb5 : Below w.heap.size w w5 := (HB4.out.trans (hk1.below (B := w.heap.size) (by have := HZ4.out; have := HZ3.out; omega) (by rintro k rfl; omega))).trans (only_below hg (by have := HZ3.out; omega) (by have := hk1.size; have := HZ4.out; have := HZ3.out; omega))
  have HB5 := Lib.hid hb5
  obtain ⟨z, hbk, hcs⟩ : ∃ z : Nat, Bk w1 (w.heap.size + 1) 3 [.int .i64 (z : Int)] ∧ sizR (.mk c n k bs ss) = (z, f) := by
    rcases hcase with ⟨h1, rfl, h2⟩ | ⟨h1, rfl, h2⟩
    · exact ⟨N, h2, by rw [HS.out, if_pos h1]⟩
    · exact ⟨0, h2, by rw [HS.out, if_neg (by omega)]⟩
  have hk5 := hbk.only hg (by intro e; injection e with e; have := HZ3.out; omega)
  have HK5 := Lib.hid (hk5.alloc (.cells #[.int .i64 (f : Int), .int .i64 0] 87))
  have HK50 := Lib.hid hk5
  have HCS := Lib.hid hcs
  have c1 := HK5.out.cell 0
  have f1 := HK5.out.free 0
  simp only [List.getElem?_cons_zero] at c1
  have hs5 : w.heap.size + 1 < w5.heap.size := hk5.lt
  clear hb5 hbk hcs hk5 hcase hg hk1 HCA HS HN
  go_wp2_with fail
  go_region
  go_wp2_with fail
  have s1 := ((HK50.out.store 0 (.int .i64 (z : Int))).alloc (.cells #[.int .i64 (f : Int), .int .i64 0] 87)).cell 0
  simp only [List.set_cons_zero, List.getElem?_cons_zero] at s1
  have HBS := HB5.out.setCell (p := ⟨w.heap.size + 1, 0, none⟩) (by show w.heap.size ≤ w.heap.size + 1; omega) (.int .i64 (z : Int))
  refine bodyPost_ret (v := .tuple #[.int .i64 (z : Int), .int .i64 (f : Int)]) (by simp [results, Try.results35, go_sem, s1]) rfl ⟨by rw [HCS.out], ?_⟩
  exact (HBS.alloc HBS.size _).drew
set_option maxHeartbeats 1000000 in
set_option maxRecDepth 100000 in
theorem esize_any {x : Bool} {S : Nat → Prop} (e : El) (v : Value) (w : World) (hd : depE e ≤ 10000) (hE : RdE x S w e v) (hco : conOk e) :
    Calls Try.prog 65 #[v] w fun e' w' => e' = .returned (.int .i64 ((sizR e).1 : Int)) ∧ Below w.heap.size w w' := by
  obtain ⟨c, n, k, bs, ss⟩ := e
  have hE2 := hE
  obtain ⟨h1, h2, h3, A, ca, B, cb, rfl, h5, h6, h7, h8, h9, h10, h11⟩ := hE
  clear h1 h2 h3 h5 h6 h7 h8 h9 h10 h11
  have hba := bel1 w (.cells #[.int .u8 (c : Int), .bool k, .int .u32 (n : Int), .slice A bs.length ca, .slice B ss.length cb] 29)
  have HM := Lib.hid (sizeOf_any _ _ _ hd (hE2.stay hba) hco)
  have HBA := Lib.hid hba
  clear hE2 hd hba hco
  go_enter Try.func65, Try.ntmps65
  go_wp2_with fail
  refine HM.out.mono ?_
  rintro e' w1 ⟨rfl, hb1⟩
  have HB := Lib.hid (HBA.out.trans (hb1.mono HBA.out.size))
  clear hb1
  go_wp2_with fail
  go_ret
  exact ⟨rfl, HB.out⟩
end Go.Proofs.Ytfbdeefeagednaa
namespace Go.Proofs.Ytfbdeefeagednaa
open Go.RowKit
/-- Cells that are stored one behind the other. -/
theorem Bk.puts {w : World} {g : Nat} {t : TypeId} (news : List Value) : ∀ {A R : List Value}, Bk w g t (A ++ R) → news.length ≤ R.length → Bk (w.setCells g A.length news) g t (A ++ news ++ R.drop news.length) := by
  induction news generalizing w with
  | nil => intro A R h _; simpa [World.setCells] using h
  | cons v news ih =>
    intro A R h hl
    cases R with
    | nil => simp at hl
    | cons r R =>
      have h1 := h.store A.length v
      rw [show (A ++ r :: R).set A.length v = (A ++ [v]) ++ R by rw [List.set_append_right _ _ (Nat.le_refl _)]; simp] at h1
      have h2 := ih h1 (by simpa using hl)
      rw [List.length_append, List.length_singleton] at h2
      rw [World.setCells]
      simpa using h2
theorem only_puts {a : World} {g : Nat} (news : List Value) : ∀ {w : World} (o : Nat), a.grownBy w (some g) → a.grownBy (w.setCells g o news) (some g) := by
  induction news with
  | nil => intro w o h; exact h
  | cons v news ih => intro w o h; exact ih (o + 1) (only_store h o v)
/-- 'make([]byte, 0, L)'. -/
theorem make_cap2 (L : Nat) (hL : L ≤ 2000000) (W : World) : (Instr.makeSlice 26 (.int .i64 0) (.int .i64 (L : Int))).run Try.prog W = .ok (.slice (some ⟨W.heap.size, 0, none⟩) 0 L) (W.alloc (.cells (List.replicate L (by8 0)).toArray 5)) := by
  obtain ⟨i, hi, hz0, hz1, hz2⟩ := info_parts Len.info5
  have h := run_make (P := Try.prog) W 26 5 i (.int .u8 0) Try.underlying26 hi hz0 .i64 .i64 0 (L : Int) (by omega) (by omega) (by rw [hz2]; omega) (by omega)
  rw [h, hz1, Int.toNat_natCast, Nat.mul_one, show (Value.int IntKind.u8 0).cells = #[Value.int IntKind.u8 0] from rfl, Len.made_one, Int.toNat_zero]
  rfl
theorem cs8_len (l : List Nat) : (cs8 l).length = l.length := by unfold cs8; rw [List.length_map]
theorem cs8_cat (l m : List Nat) : cs8 l ++ cs8 m = cs8 (l ++ m) := by unfold cs8; rw [List.map_append]
theorem cs8_ones (l : List Nat) : ∀ u ∈ cs8 l, u.oneCell' = true := by intro u hu; obtain ⟨n, _, rfl⟩ := List.mem_map.1 hu; rfl
/-- 'append(octets, b...)' where there is room. -/
theorem room_app {w : World} {g L : Nat} {l m : List Nat} {A : Option Addr} (hr : Len.Room w g L l) (hA : Rb w A m) (k k1 q c : Nat) (hk : l.length = k) (hq : m.length = q) (hk1 : k + q = k1) (hl : k1 ≤ L) :
    ∃ w', (Builtin.append_ #[26, 26] 26 #[.slice (some ⟨g, 0, none⟩) k L, .slice A q c]).run Try.prog w = .ok (.slice (some ⟨g, 0, none⟩) k1 L) w' ∧ Len.Room w' g L (l ++ m) ∧ w.grownBy w' (some g) := by
  subst hk hq hk1
  obtain ⟨hb, hle, h8⟩ := hr
  obtain ⟨i, hi, hz0, hz1, hz2⟩ := info_parts Len.info5
  rcases Nat.eq_zero_or_pos m.length with h0 | h0
  · obtain rfl := List.eq_nil_of_length_eq_zero h0
    refine ⟨w, ?_, by rw [List.append_nil]; exact ⟨hb, hle, h8⟩, only_refl _ _⟩
    have hs : Src Try.prog i.size 26 (.slice A 0 c) 0 [] w := by
      cases A with
      | none => exact Src.ofNil (e' := 5) w Try.underlying26 c
      | some a => exact Src.ofSlice (e' := 5) w Try.underlying26 a 0 c [] (by simp) (fun j u hu => by simp at hu) (fun u hu => by simp at hu)
    exact run_append_nothing (P := Try.prog) w 26 26 26 5 i Try.underlying26 hi (some ⟨g, 0, none⟩) l.length L hle (.slice A 0 c) hs
  · obtain ⟨b, off, rfl, hbz, hc⟩ := hA.1.all_ (by rw [cs8_len]; exact h0)
    have hsz : (cs8 l ++ List.replicate (L - l.length) (by8 0)).length = L := by simp [cs8_len]; omega
    have h := run_append_room_cells (P := Try.prog) (w := w) 26 26 5 i Try.underlying26 hi g 0 l.length L ⟨b, off, none⟩ m.length c (cs8 m) (by rw [hz1, cs8_len, Nat.mul_one])
        (fun j u hj => by
          obtain ⟨hj1, rfl⟩ := List.getElem?_eq_some_iff.1 hj
          rw [addr_add]; exact hc j hj1) (cs8_ones m) (by omega)
        (fun j hj => by
          rw [cs8_len] at hj
          rw [hb.cell, List.getElem?_eq_getElem (by rw [hsz, hz1]; omega)]; rfl)
        (fun j _ => hb.free _)
    rw [hz1, Nat.zero_add, Nat.mul_one] at h
    refine ⟨_, h, ⟨?_, by rw [List.length_append]; omega, h8.append hA.2⟩, only_puts _ _ (only_refl _ _)⟩
    have hp := hb.puts (cs8 m) (by rw [cs8_len, List.length_replicate]; omega)
    rw [cs8_len, cs8_cat, cs8_len, List.drop_replicate] at hp
    rw [List.length_append, ← Nat.sub_sub]
    exact hp
theorem rd_kp {T : Nat → Prop} {w w' : World} {A : Option Addr} {xs : List Value} (h : Rd w A xs) (hk : Kp T w w') (hA : ∀ p, A = some p → xs ≠ [] → ¬ T p.block) : Rd w' A xs := fun hn => by
  obtain ⟨b, off, e, hb, hc⟩ := h hn
  exact ⟨b, off, e, Nat.lt_of_lt_of_le hb hk.size, fun j u hu => (World.cell?_of_block (w := w) (hk.block b hb (hA _ e hn))).trans (hc j u hu)⟩
/-- What Put does at an element. -/
def putStep (l : List Nat) (e : El) (_ : Nat) : Except Nat (List Nat) :=
  match e with
  | .mk c n k bs ss => .ok (l ++ (putL c n k ++ (Len.putL (conL (.mk c n k bs ss)) ++ bs)))
mutual
theorem putE_vis : ∀ (e : El) (l : List Nat) (d : Nat), visE putStep e l d = .ok (l ++ encE e)
  | .mk c n k bs ss, l, d => by
    rw [visE, putStep]
    dsimp only
    rw [putS_vis ss _ (d + 1), encE, conL]
    simp only [List.append_assoc]
theorem putS_vis : ∀ (ss : List El) (l : List Nat) (d : Nat), visS putStep ss l d = .ok (l ++ encS ss)
  | [], l, d => by rw [visS, encS, List.append_nil]
  | e :: ss, l, d => by
    rw [visS, putE_vis e l d]
    dsimp only
    rw [putS_vis ss _ d, encS, List.append_assoc]
end
theorem putStep_mk {l : List Nat} {c n : Nat} {k : Bool} {bs : List Nat} {ss : List El} {d : Nat} : putStep l (.mk c n k bs ss) d = .ok (l ++ (putL c n k ++ (Len.putL (conL (.mk c n k bs ss)) ++ bs))) := rfl
/-- What Put's variable holds. -/
def PutI (L go g : Nat) (l : List Nat) (w : World) : Prop := Bk w go 26 [.slice (some ⟨g, 0, none⟩) l.length L] ∧ Len.Room w g L l
def PutT (go g : Nat) (i : Nat) : Prop := i = go ∨ i = g
def PutPre (L : Nat) (l : List Nat) (e : El) (_ : Nat) : Prop := l.length + (encE e).length ≤ L ∧ valE e
def PutPreS (L : Nat) (l : List Nat) (ss : List El) (_ : Nat) : Prop := l.length + (encS ss).length ≤ L ∧ valS ss
set_option maxHeartbeats 2000000 in
set_option maxRecDepth 100000 in
theorem put1_any {x : Bool} {S : Nat → Prop} (L go g : Nat) (hL : L ≤ 1048576) (hne : go ≠ g) (l : List Nat) (e : El) (d : Nat) (v : Value) (w : World) (hp : PutPre L l e d) (hi : PutI L go g l w) (hE : RdE x S w e v) (hS : ∀ i, S i → i ≠ go ∧ i ≠ g) :
    Calls Try.prog 37 (#[v, .int .i64 (d : Int)] ++ #[.pointer (some ⟨go, 0, none⟩)]) w (Outs (PutI L go g) (PutT go g) w (putStep l e d)) := by
  obtain ⟨c, n, k, bs, ss⟩ := e
  obtain ⟨hlen, hv⟩ := hp
  obtain ⟨hc, hr⟩ := hi
  have hE2 := hE
  obtain ⟨h1, h2, h3, A, ca, B, cb, rfl, h5, h6, h7, h8, h9, h10, h11⟩ := hE
  have hvt := hv
  rw [valE] at hv
  have hba := bel1 w (.cells #[.int .u8 (c : Int), .bool k, .int .u32 (n : Int), .slice A bs.length ca, .slice B ss.length cb] 29)
  have hkp := kp_below hba (PutT go g)
  have HKA := Lib.hid (Bk.new w 29 [.int .u8 (c : Int), .bool k, .int .u32 (n : Int), .slice A bs.length ca, .slice B ss.length cb])
  obtain ⟨w1, hw1⟩ : ∃ w1, w.alloc (.cells #[.int .u8 (c : Int), .bool k, .int .u32 (n : Int), .slice A bs.length ca, .slice B ss.length cb] 29) = w1 := ⟨_, rfl⟩
  rw [hw1] at HKA hba hkp
  have hcon : conL (.mk c n k bs ss) ≤ 1048576 := by have := conL_le (e := .mk c n k bs ss); omega
  rw [encE_len] at hlen
  obtain ⟨m, hm⟩ : ∃ m, conL (.mk c n k bs ss) = m := ⟨_, rfl⟩
  have hbm : bs.length ≤ m := by rw [← hm, conL]; omega
  have HCon := Lib.hid fun w' (h : RdE x S w' (.mk c n k bs ss) (elV c n k (.slice A bs.length ca) (.slice B ss.length cb))) => by
    have := con_any _ _ w' h hvt hcon
    rw [hm] at this
    exact this
  rw [hm] at hlen hcon
  have HP1 := Lib.hid fun w => putn_any c n k w h1 h2 hv.1
  have HP2 := Lib.hid fun w => Len.putn_any m w (by omega)
  obtain ⟨q, hq⟩ : ∃ q, l.length = q := ⟨_, rfl⟩
  obtain ⟨q1, hq1⟩ : ∃ q1, (putL c n k).length = q1 := ⟨_, rfl⟩
  obtain ⟨q2, hq2⟩ : ∃ q2, (Len.putL m).length = q2 := ⟨_, rfl⟩
  rw [hq, hq1, hq2] at hlen
  have HQ := Lib.hid hq
  have HQ1 := Lib.hid hq1
  have HQ2 := Lib.hid hq2
  have HC := Lib.hid (hc.below hba hc.lt)
  have HR : Hid (Len.Room w1 g L l) := Lib.hid ⟨hr.1.below hba hr.1.lt, hr.2⟩
  have HE := Lib.hid (hE2.stay hba)
  have HKP := Lib.hid hkp
  have HST := Lib.hid (show putStep l (.mk c n k bs ss) d = .ok (l ++ (putL c n k ++ (Len.putL m ++ bs))) by rw [putStep_mk, hm])
  have hg0 : g < w1.heap.size := HR.out.1.lt
  have hgo0 : go < w1.heap.size := HC.out.lt
  have hTn : ¬ PutT go g w.heap.size := by have := hc.lt; have := hr.1.lt; unfold PutT; omega
  have HSA : Hid (∀ i, S i → ¬ PutT go g i) := Lib.hid fun i h ht => by have := hS i h; unfold PutT at ht; omega
  have HBS : Hid (RdX S w1 A (cs8 bs) ∧ All8 bs) := Lib.hid ⟨h5.keep hba.size (fun i _ hi => hba.block i hi) (fun _ h _ => h), h3⟩
  simp only [List.append_toArray, List.cons_append, List.nil_append]
  clear hE2 h5 h6 h7 h8 h9 h10 h11 hba hkp hc hr hv hvt hm hq hq1 hq2 h1 h2 h3 hS
  go_enter Try.func37, Try.ntmps37
  have HG := Lib.hid (And.intro hg0 hgo0)
  clear hg0 hgo0
  obtain ⟨e0, e1, e2, e3, e4, hsz⟩ := HKA.out.five
  go_wp2_with fail
  refine (HP1.out _).mono ?_
  rintro e' w2 ⟨b1, rfl, hn1, hr1, hb1⟩
  rw [HQ1.out]
  have hka := HKA.out.below hb1 HKA.out.lt
  clear e0 e1 e2 e3 e4 hsz
  obtain ⟨e0, e1, e2, e3, e4, hsz⟩ := hka.five
  have HKA2 := Lib.hid hka
  have HR1 := Lib.hid hr1
  have HB1 := Lib.hid hb1
  have HN1 := Lib.hid hn1
  clear hka hr1 hb1 hn1 HP1 HKA
  go_wp2_with fail
  refine (HCon.out _ (HE.out.stay HB1.out)).mono ?_
  rintro e' w3 ⟨rfl, hb2⟩
  have HB2 := Lib.hid (HB1.out.trans (hb2.mono HB1.out.size))
  have HR2 := Lib.hid (HR1.out.below hb2)
  have HKA3 := Lib.hid (HKA2.out.below hb2 HKA2.out.lt)
  clear hb2 HKA2 e0 e1 e2 e3 e4 hsz HR1 HB1
  go_wp2_with fail
  refine (HP2.out _).mono ?_
  rintro e' w4 ⟨b2, rfl, hn2, hr2, hb3⟩
  rw [HQ2.out]
  have hb4 := HB2.out.trans (hb3.mono HB2.out.size)
  have hr1 := HR2.out.below hb3
  have hka := HKA3.out.below hb3 HKA3.out.lt
  have hc := HC.out.below hb4 HC.out.lt
  rw [HQ.out] at hc
  have hroom : Len.Room w4 g L l := ⟨HR.out.1.below hb4 HR.out.1.lt, HR.out.2⟩
  have hkp4 := HKP.out.trans (kp_below hb4 (PutT go g))
  have hbg1 : b1 ≠ g ∧ b1 ≠ go := by have := HN1.out; have := HG.out; omega
  have hbg2 : b2 ≠ g ∧ b2 ≠ go := by have := HB2.out.size; have := HG.out; omega
  have hwg : w.heap.size ≠ g ∧ w.heap.size ≠ go := by unfold PutT at hTn; omega
  -- the tag's octets
  obtain ⟨w5, hp1, hroom1, hg1⟩ := room_app hroom hr1 q (q + q1) q1 q1 HQ.out HQ1.out rfl (by omega)
  obtain ⟨w5', hw5⟩ : ∃ w5', w5.setCell ⟨go, 0, none⟩ (.slice (some ⟨g, 0, none⟩) (q + q1) L) = w5' := ⟨_, rfl⟩
  have hcg1 := hc.only hg1 (by intro e; injection e with e; exact hne e)
  have hc1 : Bk w5' go 26 [.slice (some ⟨g, 0, none⟩) (q + q1) L] := by rw [← hw5]; exact hcg1.store 0 _
  have hm1 : Len.Room w5' g L (l ++ putL c n k) := by rw [← hw5]; exact ⟨hroom1.1.far (p := ⟨go, 0, none⟩) (fun e => hne e.symm) _, hroom1.2⟩
  have hk1 : Kp (PutT go g) w4 w5' := by rw [← hw5]; exact (kp_grown hg1 (.inr rfl)).setCell (p := ⟨go, 0, none⟩) (.inl (.inl rfl)) _
  have hr2' : Rb w5' (some ⟨b2, 0, none⟩) (Len.putL m) := ⟨rd_kp hr2.1 hk1 (by intro p hp _; injection hp with hp; rw [← hp]; unfold PutT; dsimp only; omega), hr2.2⟩
  -- the length's octets
  obtain ⟨w6, hp2, hroom2, hg2⟩ := room_app hm1 hr2' (q + q1) (q + q1 + q2) q2 q2 (by rw [List.length_append, HQ.out, HQ1.out]) HQ2.out rfl (by omega)
  obtain ⟨w6', hw6⟩ : ∃ w6', w6.setCell ⟨go, 0, none⟩ (.slice (some ⟨g, 0, none⟩) (q + q1 + q2) L) = w6' := ⟨_, rfl⟩
  have hcg2 := hc1.only hg2 (by intro e; injection e with e; exact hne e)
  have hc2 : Bk w6' go 26 [.slice (some ⟨g, 0, none⟩) (q + q1 + q2) L] := by rw [← hw6]; exact hcg2.store 0 _
  have hm2 : Len.Room w6' g L (l ++ putL c n k ++ Len.putL m) := by rw [← hw6]; exact ⟨hroom2.1.far (p := ⟨go, 0, none⟩) (fun e => hne e.symm) _, hroom2.2⟩
  have hk2 : Kp (PutT go g) w4 w6' := by rw [← hw6]; exact hk1.trans ((kp_grown hg2 (.inr rfl)).setCell (p := ⟨go, 0, none⟩) (.inl (.inl rfl)) _)
  have hka2 := hka.kp hk2 hTn
  have hbs : Rb w6' A bs := ⟨(HBS.out.1.keep (hkp4.size |> fun _ => Nat.le_trans hb4.size hk2.size) (fun i hi hl => (hk2.block i (Nat.lt_of_lt_of_le hl hb4.size) (HSA.out i hi)).trans (hb4.block i hl)) (fun _ h _ => h)).rd, HBS.out.2⟩
  -- the content's octets
  obtain ⟨w7, hp3, hroom3, hg3⟩ := room_app hm2 hbs (q + q1 + q2) (q + q1 + q2 + bs.length) bs.length ca (by rw [List.length_append, List.length_append, HQ.out, HQ1.out, HQ2.out]) rfl rfl (by omega)
  have hcg3 := hc2.only hg3 (by intro e; injection e with e; exact hne e)
  have HC7 := Lib.hid hcg3
  have HM7 := Lib.hid hroom3
  have HK7 := Lib.hid (hkp4.trans (hk2.trans (kp_grown hg3 (.inr rfl))))
  obtain ⟨e0, e1, e2, e3, e4, hsz⟩ := hka2.five
  have a1 := hc.cell 0
  have a2 := hc1.cell 0
  have a3 := hc2.cell 0
  have g1 := hcg1.cell 0
  have g2 := hcg2.cell 0
  have g3 := hcg3.cell 0
  have i1 := hcg1.free 0
  have i2 := hcg2.free 0
  have i3 := hcg3.free 0
  simp only [List.getElem?_cons_zero] at a1 a2 a3 g1 g2 g3
  have HP1 := Lib.hid hp1
  have HP2' := Lib.hid hp2
  have HP3 := Lib.hid hp3
  clear hb4 hr1 hr2 hb3 hn2 hka hc hroom hkp4 hbg1 hbg2 hwg hp1 hroom1 hg1 hcg1 hc1 hm1 hk1 hr2' hp2 hroom2 hg2 hcg2 hc2 hm2 hk2 hka2 hbs hp3 hroom3 hg3 hcg3 HP2 HCon e0 e1 e2 e4
  go_wp2_with (at_builtin; first | refine Len.wpList_app (o := ⟨some 23, _, _, _, _, _⟩) rfl _ _ _ _ rfl _ _ rfl rfl HP1.out ?_ | refine Len.wpList_app (o := ⟨some 26, _, _, _, _, _⟩) rfl _ _ _ _ rfl _ _ rfl rfl HP2'.out ?_ | refine Len.wpList_app (o := ⟨some 30, _, _, _, _, _⟩) rfl _ _ _ _ rfl _ _ rfl rfl HP3.out ?_)
  go_end0
  rw [HST.out]
  refine ⟨rfl, ⟨?_, ?_⟩, HK7.out.setCell (p := ⟨go, 0, none⟩) (.inl (.inl rfl)) _⟩
  · have := HC7.out.store 0 (.slice (some ⟨g, 0, none⟩) (q + q1 + q2 + bs.length) L)
    rw [show (l ++ (putL c n k ++ (Len.putL m ++ bs))).length = q + q1 + q2 + bs.length by rw [List.length_append, List.length_append, List.length_append, HQ.out, HQ1.out, HQ2.out]; omega]
    exact this
  · have := HM7.out
    simp only [List.append_assoc] at this
    exact ⟨this.1.far (p := ⟨go, 0, none⟩) (fun e => hne e.symm) _, this.2⟩
end Go.Proofs.Ytfbdeefeagednaa
namespace Go.Proofs.Ytfbdeefeagednaa
open Go.RowKit
/-- What Put returns: the octets; the error. -/
def encR (e : El) : List Nat × Nat := if (sizR e).2 = 0 then (encE e, 0) else ([], (sizR e).2)
/-- Octets without spare capacity, in a block that was not there, and an error. -/
def GiveE (w : World) (l : List Nat) (f : Nat) (e : Ending) (w' : World) : Prop :=
  ∃ A, e = .returned (.tuple #[.slice A l.length l.length, .int .i64 (f : Int)]) ∧ RdX (fun i => w.heap.size ≤ i) w' A (cs8 l) ∧ All8 l ∧ Below w.heap.size w w'
set_option maxHeartbeats 2000000 in
set_option maxRecDepth 100000 in
theorem eput_any {x : Bool} {S : Nat → Prop} (e : El) (v : Value) (w : World) (hd : depE e ≤ 10000) (hE : RdE x S w e v) (hco : conOk e) :
    Calls Try.prog 13 #[v] w (GiveE w (encR e).1 (encR e).2) := by
  have hmf : ∀ (fn : Fn) (first cap : Array Value) (w : World), (Instr.makeFunc fn first cap).run Try.prog w = .ok (.func fn first cap) w := fun _ _ _ _ => rfl
  obtain ⟨c, n, k, bs, ss⟩ := e
  have hE2 : RdE x (· < w.heap.size) w (.mk c n k bs ss) v := RdE.keep (Nat.le_refl _) (fun _ _ _ => rfl) (fun _ _ h => h) _ _ hE
  obtain ⟨h1, h2, h3, A, ca, B, cb, rfl, h5, h6, h7, h8, h9, h10, h11⟩ := hE
  clear h1 h2 h3 h5 h6 h7 h8 h9 h10 h11
  have hba := bel1 w (.cells #[.int .u8 (c : Int), .bool k, .int .u32 (n : Int), .slice A bs.length ca, .slice B ss.length cb] 29)
  have hka := Bk.new w 29 [.int .u8 (c : Int), .bool k, .int .u32 (n : Int), .slice A bs.length ca, .slice B ss.length cb]
  have HS := Lib.hid (sizeOf_any _ _ _ hd (hE2.stay hba) hco)
  have HBA := Lib.hid hba
  have HKA := Lib.hid hka
  have HE := Lib.hid hE2
  obtain ⟨N, hN⟩ : ∃ N, (sizR (.mk c n k bs ss)).1 = N := ⟨_, rfl⟩
  obtain ⟨f, hf⟩ : ∃ f, (sizR (.mk c n k bs ss)).2 = f := ⟨_, rfl⟩
  have HN := Lib.hid hN
  have HF := Lib.hid hf
  by_cases hf0 : f ≠ 0
  · have HR : Hid (encR (.mk c n k bs ss) = ([], f)) := Lib.hid (by unfold encR; rw [hf, if_neg hf0])
    have hfb : ((f : Int) != 0) = true := by simp; omega
    clear hba hka hE2 hd hco hN hf
    rw [HR.out]
    go_enter Try.func13, Try.ntmps13
    go_wp2_with fail
    refine HS.out.mono ?_
    rintro e' w1 ⟨rfl, hb1⟩
    have HB := Lib.hid (HBA.out.trans (hb1.mono HBA.out.size))
    clear hb1
    rw [HN.out, HF.out]
    go_wp2_with fail
    go_ret2
    exact ⟨none, rfl, RdX.nil, All8.nil, HB.out⟩
  obtain rfl : f = 0 := by omega
  have hR : encR (.mk c n k bs ss) = (encE (.mk c n k bs ss), 0) := by unfold encR; rw [hf, if_pos rfl]
  obtain ⟨hz, hNe, hN2⟩ : (chkE (.mk c n k bs ss) 1 0).1 = 0 ∧ (encE (.mk c n k bs ss)).length = N ∧ N ≤ 1048576 := by
    unfold sizR at hf hN
    split at hf
    · rename_i h; exact absurd hf h
    · rename_i h
      rw [if_neg h] at hN
      split at hf
      · rename_i h2
        rw [if_pos h2] at hN
        dsimp only at hN
        exact ⟨by omega, hN, by omega⟩
      · cases hf
  have hv := ((chkE_zero _ 1 0).1 hz).1
  have HV := Lib.hid hv
  have HR := Lib.hid hR
  have HNE := Lib.hid hNe
  have HD := Lib.hid hd
  have HMK := Lib.hid (make_cap2 N (by omega))
  clear hba hka hE2 hd hco hN hf hR hv hz hNe
  rw [HR.out]
  go_enter Try.func13, Try.ntmps13
  go_wp2_with fail
  refine HS.out.mono ?_
  rintro e' w1 ⟨rfl, hb1⟩
  rw [HN.out, HF.out]
  have hk1 := HKA.out.below hb1 HKA.out.lt
  have hbw := HBA.out.trans (hb1.mono HBA.out.size)
  obtain ⟨w2, hw2⟩ : ∃ w2, (w1.alloc (.cells (List.replicate N (by8 0)).toArray 5)).alloc (.cells #[.slice (some ⟨w1.heap.size, 0, none⟩) 0 N] 26) = w2 := ⟨_, rfl⟩
  have hb2 : Below w1.heap.size w1 w2 := by rw [← hw2]; exact bel2 _ _ _
  have hg : Len.Room w2 w1.heap.size N [] := by
    rw [← hw2]
    exact ⟨by simpa [cs8] using (Bk.new w1 5 (List.replicate N (by8 0))).alloc (.cells #[.slice (some ⟨w1.heap.size, 0, none⟩) 0 N] 26), Nat.zero_le _, All8.nil⟩
  have hgo : Bk w2 (w1.heap.size + 1) 26 [.slice (some ⟨w1.heap.size, 0, none⟩) 0 N] := by
    have := Bk.new (w1.alloc (.cells (List.replicate N (by8 0)).toArray 5)) 26 [.slice (some ⟨w1.heap.size, 0, none⟩) 0 N]
    rw [World.size_alloc] at this
    rw [← hw2]; exact this
  have hbw2 := hbw.trans (hb2.mono hbw.size)
  have hwl : w.heap.size < w1.heap.size := hk1.lt
  have hvis := visit_any putStep (PutI N (w1.heap.size + 1) w1.heap.size) (PutPre N) (PutPreS N) 37 #[.pointer (some ⟨w1.heap.size + 1, 0, none⟩)] (T := PutT (w1.heap.size + 1) w1.heap.size) (S := (· < w.heap.size)) (x := x) (fun _ _ => by simp [go_sem])
    (fun s w w' ⟨h1, h2⟩ hb => ⟨h1.below hb h1.lt, h2.1.below hb h2.1.lt, h2.2⟩) (fun s w ⟨h1, h2⟩ i hi => by rcases hi with rfl | rfl; exact h1.lt; exact h2.1.lt)
    (fun s e d v w hp hi hE => put1_any N _ _ hN2 (by omega) s e d v w hp hi hE (fun i hi => ⟨by omega, by omega⟩))
    (fun s c n k bs ss d s' hp he => by
      rw [putStep_mk] at he
      obtain rfl := Except.ok.inj he
      obtain ⟨p1, p2⟩ := hp
      rw [encE] at p1
      rw [valE] at p2
      refine ⟨?_, p2.2.2.2⟩
      rw [conL]
      simp only [List.length_append] at p1 ⊢
      omega)
    (fun s e ss d hp => by
      obtain ⟨p1, p2⟩ := hp
      rw [encS, List.length_append] at p1
      exact ⟨by omega, p2.1⟩)
    (fun s e ss d s' hp he => by
      rw [putE_vis] at he
      obtain rfl := Except.ok.inj he
      obtain ⟨p1, p2⟩ := hp
      rw [encS, List.length_append] at p1
      exact ⟨by rw [List.length_append]; omega, p2.2⟩)
    (fun i hi ht => by unfold PutT at ht; omega) (.mk c n k bs ss) [] (elV c n k (.slice A bs.length ca) (.slice B ss.length cb)) w2 ⟨by rw [HNE.out]; simp, HV.out⟩ (by have := HD.out; omega) ⟨hgo, hg⟩ (HE.out.below (fun _ h _ => h) hbw2)
  rw [putE_vis, List.nil_append] at hvis
  have HVis := Lib.hid hvis
  have hw2' := hw2
  rw [List.toArray_replicate] at hw2'
  have HB2 := Lib.hid hbw2
  have HW2 : Hid (w2.heap.size = w1.heap.size + 2) := Lib.hid (by rw [← hw2]; simp)
  obtain ⟨e0, e1, e2, e3, e4, hsz⟩ := (hk1.below hb2 hk1.lt).five
  have hmk := HMK.out
  simp only [List.toArray_replicate] at hmk
  clear hb1 hk1 hbw hb2 hg hgo hbw2 hvis HS HKA hw2
  go_wp2_with fail
  refine HVis.out.mono ?_
  rintro e' w3 ⟨rfl, ⟨hc3, hr3⟩, hk3⟩
  rw [HNE.out] at hc3
  have c3 := hc3.cell 0
  simp only [List.getElem?_cons_zero] at c3
  have hrb := hr3.rb HNE.out
  have HRB : Hid (RdX (fun i => w.heap.size ≤ i) w3 (some ⟨w1.heap.size, 0, none⟩) (cs8 (encE (.mk c n k bs ss)))) := Lib.hid fun hn => by
    obtain ⟨b, off, e, hb, hc⟩ := hrb.1 hn
    simp only [Option.some.injEq, Addr.mk.injEq, and_true] at e
    obtain ⟨rfl, rfl⟩ := e
    exact ⟨_, _, rfl, hb, by omega, hc⟩
  have H8 := Lib.hid hrb.2
  have HB3 := Lib.hid (HB2.out.trans (hk3.below (B := w.heap.size) (by rw [HW2.out]; omega) (by intro k hk; unfold PutT at hk; omega)))
  clear hc3 hr3 hrb hk3 HVis e0 e1 e2 e3 e4 hw2' hmk
  go_wp2_with fail
  go_ret2
  exact ⟨some ⟨w1.heap.size, 0, none⟩, by rw [HNE.out]; rfl, HRB.out, H8.out, HB3.out⟩
end Go.Proofs.Ytfbdeefeagednaa
namespace Go.Proofs.Ytfbdeefeagednaa
open Go.RowKit
/-- The order of octets: -1, 0 or 1. -/
def cmpB : List Nat → List Nat → Int
  | [], [] => 0
  | [], _ :: _ => -1
  | _ :: _, [] => 1
  | a :: l, b :: m => if a < b then -1 else if b < a then 1 else cmpB l m
/-- The same, by the first place where they part. -/
def cmpN (l m : List UInt8) : Int :=
  match (List.range (min l.length m.length)).find? fun i => l[i]! != m[i]! with
  | some i => if l[i]! < m[i]! then -1 else 1
  | none => if l.length < m.length then -1 else if l.length > m.length then 1 else 0
theorem cmpN_eq : ∀ (l m : List Nat), All8 l → All8 m → cmpN (l.map UInt8.ofNat) (m.map UInt8.ofNat) = cmpB l m
  | [], [], _, _ => rfl
  | [], y :: m, _, _ => by simp [cmpN, cmpB]
  | x :: l, [], _, _ => by simp [cmpN, cmpB]
  | x :: l, y :: m, hl, hm => by
    have hx := hl x (by simp)
    have hy := hm y (by simp)
    have ih := cmpN_eq l m (fun z hz => hl z (by simp [hz])) (fun z hz => hm z (by simp [hz]))
    rw [cmpB]
    unfold cmpN at ih ⊢
    simp only [List.map_cons, List.length_cons, Nat.succ_min_succ, List.range_succ_eq_map, List.find?_cons, List.getElem!_cons_zero, List.find?_map, Function.comp_def, List.getElem!_cons_succ]
    have h1 : (UInt8.ofNat x != UInt8.ofNat y) = decide (x ≠ y) := by
      rw [Bool.eq_iff_iff, bne_iff_ne, decide_eq_true_iff]
      constructor
      · intro h e; exact h (by rw [e])
      · intro h e
        have := congrArg UInt8.toNat e
        rw [UInt8.toNat_ofNat_of_lt' hx, UInt8.toNat_ofNat_of_lt' hy] at this
        exact h this
    have h2 : (UInt8.ofNat x < UInt8.ofNat y) ↔ x < y := by
      rw [UInt8.lt_iff_toNat_lt, UInt8.toNat_ofNat_of_lt' hx, UInt8.toNat_ofNat_of_lt' hy]
    rw [h1]
    by_cases hxy : x = y
    · subst hxy
      rw [decide_eq_false (by simp), if_neg (Nat.lt_irrefl _), if_neg (Nat.lt_irrefl _), ← ih]
      dsimp only
      cases List.find? (fun i => (List.map UInt8.ofNat l)[i]! != (List.map UInt8.ofNat m)[i]!) (List.range (min (List.map UInt8.ofNat l).length (List.map UInt8.ofNat m).length)) with
      | none =>
        dsimp only [Option.map_none]
        simp only [Nat.add_lt_add_iff_right, gt_iff_lt]
      | some i =>
        dsimp only [Option.map_some]
        simp only [List.getElem!_cons_succ, Nat.succ_eq_add_one]
    · rw [decide_eq_true hxy]
      dsimp only
      simp only [List.getElem!_cons_zero]
      by_cases hlt : x < y
      · rw [if_pos (h2.2 hlt), if_pos hlt]
      · rw [if_neg (fun h => hlt (h2.1 h)), if_neg hlt, if_pos (by omega)]
theorem cmp_bstr {l m : List Nat} (hl : All8 l) (hm : All8 m) : Extern.BytealgCompare.cmp (bstr l) (bstr m) = cmpB l m := by
  rw [← cmpN_eq l m hl hm]
  have e1 : ∀ (l : List Nat), (bstr l).size = (l.map UInt8.ofNat).length := by intro l; rw [bstr_size, List.length_map]
  have e2 : ∀ (l : List Nat) (i : Nat), (bstr l)[i]! = (l.map UInt8.ofNat)[i]! := by
    intro l i
    by_cases h : i < (bstr l).size
    · rw [getElem!_pos (bstr l) i h, getElem!_pos (l.map UInt8.ofNat) i (by rw [← e1]; exact h)]
      exact List.getElem_toArray (show i < (l.map UInt8.ofNat).toArray.size from h)
    · rw [getElem!_neg (bstr l) i h, getElem!_neg (l.map UInt8.ofNat) i (by rw [← e1]; exact h)]
  unfold Extern.BytealgCompare.cmp cmpN
  simp only [e1, e2]
  rfl
theorem cmpB_zero : ∀ {l m : List Nat}, cmpB l m = 0 ↔ l = m
  | [], [] => by simp [cmpB]
  | [], y :: m => by simp [cmpB]
  | x :: l, [] => by simp [cmpB]
  | x :: l, y :: m => by
    rw [cmpB]
    by_cases h1 : x < y
    · rw [if_pos h1]
      exact ⟨fun h => absurd h (by decide), fun h => by injection h; omega⟩
    · rw [if_neg h1]
      by_cases h2 : y < x
      · rw [if_pos h2]
        exact ⟨fun h => absurd h (by decide), fun h => by injection h; omega⟩
      · rw [if_neg h2, cmpB_zero]
        obtain rfl : x = y := by omega
        simp
theorem cmpB_swap : ∀ (l m : List Nat), cmpB m l = - cmpB l m
  | [], [] => rfl
  | [], y :: m => rfl
  | x :: l, [] => rfl
  | x :: l, y :: m => by
    rw [cmpB, cmpB]
    by_cases h1 : x < y
    · rw [if_neg (by omega), if_pos h1, if_pos h1]; rfl
    · rw [if_neg h1, if_neg h1]
      by_cases h2 : y < x
      · rw [if_pos h2, if_pos h2]
      · rw [if_neg h2, if_neg h2, cmpB_swap l m]
theorem less_bstr : ∀ {l m : List Nat}, All8 l → All8 m → Op.bytesLess (l.map UInt8.ofNat) (m.map UInt8.ofNat) = decide (cmpB l m = -1)
  | [], [], _, _ => rfl
  | [], y :: m, _, _ => rfl
  | x :: l, [], _, _ => rfl
  | x :: l, y :: m, hl, hm => by
    have hx := hl x (by simp)
    have hy := hm y (by simp)
    have ih := less_bstr (l := l) (m := m) (fun z hz => hl z (by simp [hz])) (fun z hz => hm z (by simp [hz]))
    have h2 : (UInt8.ofNat x < UInt8.ofNat y) ↔ x < y := by
      rw [UInt8.lt_iff_toNat_lt, UInt8.toNat_ofNat_of_lt' hx, UInt8.toNat_ofNat_of_lt' hy]
    have h3 : (UInt8.ofNat x == UInt8.ofNat y) = decide (x = y) := by
      rw [Bool.eq_iff_iff, beq_iff_eq, decide_eq_true_iff]
      constructor
      · intro e
        have := congrArg UInt8.toNat e
        rwa [UInt8.toNat_ofNat_of_lt' hx, UInt8.toNat_ofNat_of_lt' hy] at this
      · intro e; rw [e]
    rw [List.map_cons, List.map_cons, Op.bytesLess, cmpB, h3, ih]
    by_cases h4 : x < y
    · rw [if_pos h4, decide_eq_true (h2.2 h4)]; rfl
    · rw [if_neg h4, decide_eq_false (fun h => h4 (h2.1 h)), Bool.false_or]
      by_cases h5 : y < x
      · rw [if_pos h5, decide_eq_false (by omega), Bool.false_and]; rfl
      · rw [if_neg h5, decide_eq_true (by omega), Bool.true_and]
set_option maxHeartbeats 1000000 in
set_option maxRecDepth 100000 in
theorem bcmp_any (A B : Option Addr) (l m : List Nat) (c d : Nat) (w : World) (hA : Rb w A l) (hB : Rb w B m) :
    Calls Try.prog 56 #[.slice A l.length c, .slice B m.length d] w fun e w' => e = .returned (.int .i64 (cmpB l m)) ∧ w = w' := by
  have hx := run_callFunc_extern (P := Try.prog) (e := Extern.BytealgCompare.compare) Try.func70 (by kernel_rfl) (by kernel_rfl) (by kernel_rfl) (by kernel_rfl) #[.slice A l.length c, .slice B m.length d] w
  have h1 := run_bytesOfX (P := Try.prog) hA (c := c)
  have h2 := run_bytesOfX (P := Try.prog) hB (c := d)
  have hr : (Extern.BytealgCompare.compare #[.slice A l.length c, .slice B m.length d]).run Try.prog w = .ok (.int .i64 (cmpB l m)) w := by
    change (Sem.run Try.prog (do pure (goInt (Extern.BytealgCompare.cmp (← Extern.Bytes.bytesOf (.slice A l.length c)) (← Extern.Bytes.bytesOf (.slice B m.length d))))) w) = _
    simp only [Sem.run_bind, h1, h2, Result.andThen_ok, Sem.run_pure, cmp_bstr hA.2 hB.2]
    rfl
  rw [hr] at hx
  clear h1 h2 hr hA hB
  go_enter Try.func56, Try.ntmps56
  go_wp2_with fail
  go_ret
  exact ⟨rfl, rfl⟩
set_option maxHeartbeats 1000000 in
set_option maxRecDepth 100000 in
theorem ecmp_any {x y : Bool} {S T : Nat → Prop} (a b : El) (v v' : Value) (w : World) (hd : depE a ≤ 10000) (hd' : depE b ≤ 10000) (hco : conOk a) (hco' : conOk b) (h : RdE x S w a v) (h' : RdE y T w b v') :
    Calls Try.prog 34 #[v, v'] w fun r w' => r = .returned (.int .i64 (cmpB (encR a).1 (encR b).1)) ∧ Below w.heap.size w w' := by
  obtain ⟨c, n, k, bs, ss⟩ := a
  obtain ⟨c', n', k', bs', ss'⟩ := b
  have hE := h
  have hE' := h'
  obtain ⟨h1, h2, h3, A, ca, B, cb, rfl, h5, h6, h7, h8, h9, h10, h11⟩ := h
  obtain ⟨g1, g2, g3, A', ca', B', cb', rfl, g5, g6, g7, g8, g9, g10, g11⟩ := h'
  clear h1 h2 h3 h5 h6 h7 h8 h9 h10 h11 g1 g2 g3 g5 g6 g7 g8 g9 g10 g11
  have hba := bel2 w (.cells #[.int .u8 (c : Int), .bool k, .int .u32 (n : Int), .slice A bs.length ca, .slice B ss.length cb] 29) (.cells #[.int .u8 (c' : Int), .bool k', .int .u32 (n' : Int), .slice A' bs'.length ca', .slice B' ss'.length cb'] 29)
  have HP := Lib.hid (eput_any _ _ _ hd (hE.stay hba) hco)
  have HE' := Lib.hid (hE'.stay hba)
  have HBA := Lib.hid hba
  have HD := Lib.hid (And.intro hd' hco')
  have HK' := Lib.hid (Bk.new (w.alloc (.cells #[.int .u8 (c : Int), .bool k, .int .u32 (n : Int), .slice A bs.length ca, .slice B ss.length cb] 29)) 29 [.int .u8 (c' : Int), .bool k', .int .u32 (n' : Int), .slice A' bs'.length ca', .slice B' ss'.length cb'])
  obtain ⟨q, hq⟩ : ∃ q, encR (.mk c n k bs ss) = q := ⟨_, rfl⟩
  obtain ⟨l, f⟩ := q
  obtain ⟨q', hq'⟩ : ∃ q', encR (.mk c' n' k' bs' ss') = q' := ⟨_, rfl⟩
  obtain ⟨m, g⟩ := q'
  rw [hq] at HP
  have HQ' := Lib.hid hq'
  rw [hq, hq']
  clear hE hE' hba hd hd' hco hco' hq hq'
  go_enter Try.func34, Try.ntmps34
  go_wp2_with fail
  refine HP.out.mono ?_
  rintro r w1 ⟨A1, rfl, r1, l1, hb1⟩
  have hk' := HK'.out
  rw [World.size_alloc] at hk'
  obtain ⟨f0, f1, f2, f3, f4, hsz'⟩ := (hk'.below hb1 hk'.lt).five
  have HB := Lib.hid (HBA.out.trans (hb1.mono HBA.out.size))
  have HP2 := Lib.hid (eput_any _ _ _ HD.out.1 (HE'.out.stay hb1) HD.out.2)
  rw [HQ'.out] at HP2
  have HR1 : Hid (Rb w1 A1 l) := Lib.hid ⟨r1.rd, l1⟩
  clear hb1 hk' HP HK' r1 l1
  dsimp only
  go_wp2_with fail
  refine HP2.out.mono ?_
  rintro r w2 ⟨A2, rfl, r2, l2, hb2⟩
  have HB2 := Lib.hid (HB.out.trans (hb2.mono HB.out.size))
  have HC := Lib.hid (bcmp_any A1 A2 l m l.length m.length w2 (HR1.out.below hb2) ⟨r2.rd, l2⟩)
  clear hb2 r2 l2 f0 f1 f2 f3 f4 hsz' HP2
  dsimp only
  go_wp2_with fail
  refine HC.out.mono ?_
  rintro r w3 ⟨rfl, rfl⟩
  go_wp2_with fail
  go_ret
  exact ⟨rfl, HB2.out⟩
end Go.Proofs.Ytfbdeefeagednaa
namespace Go.Proofs.Ytfbdeefeagednaa
open Go.RowKit
/-- Cells that read as elements, five each. -/
def RowE (x : Bool) (S : Nat → Prop) (w : World) : List El → List Value → Prop
  | [], cs => cs = []
  | e :: es, cs => ∃ v rest, cs = v.cells.toList ++ rest ∧ RdE x S w e v ∧ RowE x S w es rest
section
variable {x : Bool} {S T : Nat → Prop} {w w' : World}
theorem RdE.form {e : El} {v : Value} (h : RdE x S w e v) : ∃ c n k A l q A2 l2 q2, v = elV c n k (.slice A l q) (.slice A2 l2 q2) := by
  obtain ⟨c, n, k, bs, ss⟩ := e
  obtain ⟨_, _, _, A, ca, B, cb, rfl, _⟩ := h
  exact ⟨_, _, _, _, _, _, _, _, _, rfl⟩
theorem RdE.five_ {e : El} {v : Value} (h : RdE x S w e v) : v.cells.toList.length = 5 := by
  obtain ⟨c, n, k, A, l, q, A2, l2, q2, rfl⟩ := h.form; rfl
theorem RdE.ones {e : El} {v : Value} (h : RdE x S w e v) : ∀ u ∈ v.cells.toList, u.oneCell' = true := by
  obtain ⟨c, n, k, A, l, q, A2, l2, q2, rfl⟩ := h.form
  intro u hu
  have : u = .int .u8 (c : Int) ∨ u = .bool k ∨ u = .int .u32 (n : Int) ∨ u = .slice A l q ∨ u = .slice A2 l2 q2 := by simpa [Value.cells] using hu
  rcases this with rfl | rfl | rfl | rfl | rfl <;> rfl
theorem RowE.keep (hz : w.heap.size ≤ w'.heap.size) (hk : ∀ k, S k → k < w.heap.size → w'.heap[k]? = w.heap[k]?) (hT : ∀ k, S k → k < w.heap.size → T k) : ∀ {es : List El} {cs : List Value}, RowE x S w es cs → RowE x T w' es cs
  | [], _, h => h
  | _ :: _, _, ⟨v, rest, h1, h2, h3⟩ => ⟨v, rest, h1, RdE.keep hz hk hT _ v h2, RowE.keep hz hk hT h3⟩
theorem RowE.snoc {e : El} {v : Value} (hv : RdE x S w e v) : ∀ {es : List El} {cs : List Value}, RowE x S w es cs → RowE x S w (es ++ [e]) (cs ++ v.cells.toList)
  | [], cs, h => by
    obtain rfl : cs = [] := h
    exact ⟨v, [], by simp, hv, rfl⟩
  | _ :: _, _, ⟨u, rest, h1, h2, h3⟩ => ⟨u, rest ++ v.cells.toList, by rw [h1, List.append_assoc], h2, RowE.snoc hv h3⟩
theorem RowE.len : ∀ {es : List El} {cs : List Value}, RowE x S w es cs → cs.length = es.length * 5
  | [], cs, h => by
    obtain rfl : cs = [] := h
    rfl
  | _ :: _, _, ⟨u, rest, h1, h2, h3⟩ => by rw [h1, List.length_append, h2.five_, RowE.len h3, List.length_cons]; omega
theorem RowE.rds {b : Nat} (hb : b < w.heap.size) (hTb : T b) (hST : ∀ i, S i → T i) : ∀ {es : List El} {cs : List Value} {off : Nat}, RowE x S w es cs → (∀ j u, cs[j]? = some u → w.cell? ⟨b, off + j, none⟩ = some u) → RdS x T w (some ⟨b, off, none⟩) es
  | [], _, _, _, _ => trivial
  | e :: es, cs, off, ⟨v, rest, h1, h2, h3⟩, hc => by
    subst h1
    refine ⟨b, off, v, rfl, hb, hTb, fun j u hu => hc j u ?_, RdE.keep (Nat.le_refl _) (fun _ _ _ => rfl) (fun i hi _ => hST i hi) _ _ h2, RowE.rds hb hTb hST h3 fun j u hu => ?_⟩
    · rw [List.getElem?_append_left]
      · exact hu
      · exact (List.getElem?_eq_some_iff.1 hu).1
    · rw [show off + 5 + j = off + (5 + j) by omega]
      refine hc (5 + j) u ?_
      rw [List.getElem?_append_right (by rw [h2.five_]; omega), h2.five_, show 5 + j - 5 = j by omega]
      exact hu
end
theorem infoE : (Try.prog.info? 29).map (fun i => (i.zero, i.size, i.bytes)) = some (some (elV 0 0 false (.slice none 0 0) (.slice none 0 0)), 5, 56) := by kernel_rfl
/-- 'append(v, e)' of one element, to what the call has built. -/
theorem row_app {x : Bool} {S : Nat → Prop} {w : World} {B : Nat} {v : Value} {es : List El} {cs : List Value} (hown : w.ownsRow B 29 5 v es.length cs) (hrow : RowE x S w es cs) (hS : ∀ i, S i → v.ownBlock ≠ some i)
    {e : El} {u : Value} (hu : RdE x S w e u) (hn : es.length + 1 ≤ 1000000) (hB : B ≤ w.heap.size) (n : Nat) (hln : es.length = n) :
    ∃ g cap w2, (Builtin.append_ #[27, 27] 27 #[v, .slice (some ⟨w.heap.size, 0, none⟩) 1 1]).run Try.prog (w.alloc (.cells u.cells 29)) = .ok (.slice (some ⟨g, 0, none⟩) (n + 1) cap) w2 ∧
      w2.ownsRow B 29 5 (.slice (some ⟨g, 0, none⟩) (n + 1) cap) (es ++ [e]).length (cs ++ u.cells.toList) ∧ RowE x (fun i => S i ∧ i ≠ g) w2 (es ++ [e]) (cs ++ u.cells.toList) ∧ w.grownBy w2 v.ownBlock ∧ B ≤ g ∧ g < w2.heap.size ∧ (v.ownBlock = some g ∨ g = w.heap.size + 1) ∧ n + 1 ≤ cap ∧ cap ≤ maxLen := by
  subst hln
  obtain ⟨i, hi, hz0, hz1, hz2⟩ := info_parts infoE
  have hb := bel1 w (.cells u.cells 29)
  have hown1 := hown.alloc (.cells u.cells 29)
  have hcell : ∀ j y, u.cells.toList[j]? = some y → (w.alloc (.cells u.cells 29)).cell? ((⟨w.heap.size, 0, none⟩ : Addr).add j) = some y := by
    intro j y hy
    have := (Bk.new w 29 u.cells.toList).cell j
    rw [addr_add, Nat.zero_add]
    simp only [Array.toArray_toList] at this
    rw [this]; exact hy
  obtain ⟨g, cap, w2, hrun, h2, h3, h4, h5⟩ := run_append_lies (P := Try.prog) (w := w.alloc (.cells u.cells 29)) 27 27 B 29 i _ 5 56 Try.underlying27 hi hz0 hz1 hz2 rfl (by decide) v es.length cs hown1 ⟨w.heap.size, 0, none⟩ 1 1 u.cells.toList (by rw [hu.five_]) hcell hu.ones (by decide) (by unfold maxLen; omega) (by omega) (by simp; omega) (w.heap.size + 1) (by simp)
  have hgw : w.grownBy w2 v.ownBlock := ⟨h3.os, h3.tape, h3.output, Nat.le_trans hb.size h3.size, fun k hk hne => (h3.block k (Nat.lt_of_lt_of_le hk hb.size) hne).trans (hb.block k hk)⟩
  have hSg : ∀ i, S i → i < w.heap.size → S i ∧ i ≠ g := by
    intro i hs hl
    refine ⟨hs, ?_⟩
    rintro rfl
    rcases h4 with h4 | h4
    · exact hS _ hs h4
    · omega
  refine ⟨g, cap, w2, hrun, by rw [List.length_append]; exact h2, RowE.snoc (RdE.keep hgw.size (fun k hs hl => hgw.block k hl (fun e => hS k hs e.symm)) hSg _ _ hu) (RowE.keep hgw.size (fun k hs hl => hgw.block k hl (fun e => hS k hs e.symm)) hSg hrow), hgw, ?_, h5, h4, ?_, ?_⟩
  · exact (h2.lt g rfl).1
  · rcases h2.2 with ⟨h, _⟩ | ⟨g', cap', cur, h, _, _, hle, _⟩
    · cases h
    · injection h with h1 h2 h3; subst h3; exact hle
  · rcases h2.2 with ⟨h, _⟩ | ⟨g', cap', cur, h, _, _, _, hm, _⟩
    · cases h
    · injection h with h1 h2 h3; subst h3; exact hm
set_option maxRecDepth 100000 in
theorem clipB (b n c : Nat) (w : World) (h : n ≤ c) (_hc : c ≤ maxLen) : Calls Try.prog 66 #[.slice (some ⟨b, 0, none⟩) n c] w fun e w' => e = .returned (.slice (some ⟨b, 0, none⟩) n n) ∧ w = w' := by
  unfold maxLen at _hc
  have h1 : (n : Int) ≤ (c : Int) := by omega
  go_enter Try.func66, Try.ntmps66
  go_wp2_with fail
  go_ret
  exact ⟨rfl, rfl⟩
set_option maxRecDepth 100000 in
theorem clipB_nil (w : World) : Calls Try.prog 66 #[.slice none 0 0] w fun e w' => e = .returned (.slice none 0 0) ∧ w = w' := by
  go_enter Try.func66, Try.ntmps66
  go_wp2_with fail
  go_ret
  exact ⟨rfl, rfl⟩
/-- 'append([]byte(nil), b...)'. -/
theorem app_nil {w : World} {A : Option Addr} {l : List Nat} (h : Rb w A l) (hl : l.length ≤ 1000000000) (c N : Nat) (hN : l.length = N) :
    (l = [] ∧ (Builtin.append_ #[26, 26] 26 #[.slice none 0 0, .slice A N c]).run Try.prog w = .ok (.slice none 0 0) w) ∨
    ∃ g cap w', (Builtin.append_ #[26, 26] 26 #[.slice none 0 0, .slice A N c]).run Try.prog w = .ok (.slice (some ⟨g, 0, none⟩) N cap) w' ∧ N ≤ cap ∧ cap ≤ maxLen ∧ RdX (fun i => w.heap.size ≤ i) w' (some ⟨g, 0, none⟩) (cs8 l) ∧ Below w.heap.size w w' := by
  subst hN
  obtain ⟨i, hi, hz0, hz1, hz2⟩ := info_parts Len.info5
  rcases Nat.eq_zero_or_pos l.length with h0 | h0
  · obtain rfl := List.eq_nil_of_length_eq_zero h0
    left
    have hs : Src Try.prog i.size 26 (.slice A 0 c) 0 [] w := by
      cases A with
      | none => exact Src.ofNil (e' := 5) w Try.underlying26 c
      | some a => exact Src.ofSlice (e' := 5) w Try.underlying26 a 0 c [] (by simp) (fun j u hu => by simp at hu) (fun u hu => by simp at hu)
    exact ⟨rfl, run_append_nothing (P := Try.prog) w 26 26 26 5 i Try.underlying26 hi none 0 0 (Nat.le_refl _) (.slice A 0 c) hs⟩
  · right
    obtain ⟨b, off, rfl, hbz, hc⟩ := h.1.all_ (by rw [cs8_len]; exact h0)
    obtain ⟨g, cap, w', hrun, h2, h3, h4, h5⟩ := run_append_lies (P := Try.prog) (w := w) 26 26 w.heap.size 5 i _ 1 1 Try.underlying26 hi hz0 hz1 hz2 rfl (by decide) (.slice none 0 0) 0 [] (World.ownsRow_nil w w.heap.size 5 1) ⟨b, off, none⟩ l.length c (cs8 l) (by rw [cs8_len, Nat.mul_one])
      (fun j u hj => by
        obtain ⟨hj1, rfl⟩ := List.getElem?_eq_some_iff.1 hj
        rw [addr_add]; exact hc j hj1) (cs8_ones l) h0 (by unfold maxLen; omega) (by omega) (Nat.le_refl _) w.heap.size rfl
    have hgs : g = w.heap.size := by
      rcases h4 with h4 | h4
      · cases h4
      · exact h4
    simp only [Nat.zero_add, List.nil_append] at hrun h2
    refine ⟨g, cap, w', hrun, ?_, ?_, fun _ => ⟨g, 0, rfl, h5, by omega, fun j u hu => ?_⟩, ⟨h3.os, h3.tape, h3.output, h3.size, fun k hk => h3.block k hk (by intro e; cases e)⟩⟩
    · rcases h2.2 with ⟨h, _⟩ | ⟨g', cap', cur, h, _, _, hle, _⟩
      · cases h
      · injection h with h1 h2 h3; subst h3; exact hle
    · rcases h2.2 with ⟨h, _⟩ | ⟨g', cap', cur, h, _, _, _, hm, _⟩
      · cases h
      · injection h with h1 h2 h3; subst h3; exact hm
    · have := h2.cells (g := g) rfl j u hu
      rwa [addr_add] at this
end Go.Proofs.Ytfbdeefeagednaa
namespace Go.Proofs.Ytfbdeefeagednaa
open Go.RowKit
mutual
/-- Not too great. -/
def smlE : El → Prop
  | .mk _ _ _ bs ss => bs.length ≤ 1048576 ∧ ss.length ≤ 100000 ∧ smlS ss
def smlS : List El → Prop
  | [] => True
  | e :: ss => smlE e ∧ smlS ss
end
theorem Bk.drew {w : World} {g : Nat} {t : TypeId} {cs : List Value} (h : Bk w g t cs) : Bk w.drew g t cs := h
theorem Bk.free5 {w : World} {g : Nat} {t : TypeId} {cs : List Value} (h : Bk w g t cs) : w.frozen? ⟨g, 0, none⟩ = false ∧ w.frozen? ⟨g, 1, none⟩ = false ∧ w.frozen? ⟨g, 2, none⟩ = false ∧ w.frozen? ⟨g, 3, none⟩ = false ∧ w.frozen? ⟨g, 4, none⟩ = false :=
  ⟨h.free 0, h.free 1, h.free 2, h.free 3, h.free 4⟩
/-- What a row owns, as long as its block is as it was. -/
theorem own_kept {w w' : World} {base : Nat} {e : TypeId} {size : Nat} {v : Value} {n : Nat} {xs : List Value} (h : w.ownsRow base e size v n xs) (hk : ∀ g, v.ownBlock = some g → w'.heap[g]? = w.heap[g]?) : w'.ownsRow base e size v n xs := by
  refine ⟨h.1, ?_⟩
  rcases h.2 with h1 | ⟨g, cap, cur, rfl, hg, hh, r⟩
  · exact .inl h1
  · exact .inr ⟨g, cap, cur, rfl, hg, (hk g rfl).trans hh, r⟩
/-- Where the cells of a copy lie. -/
@[reducible] def ClS (b0 D : Nat) (v : Value) (i : Nat) : Prop := b0 ≤ i ∧ i ≠ D ∧ v.ownBlock ≠ some i
/-- How far the copy of an element has come: p sub-elements of ss are in the copy, whose cells lie in block D. -/
def ClR (b0 D : Nat) (c n : Nat) (k : Bool) (bs : List Nat) (A3 : Option Addr) (N : Nat) (ss : List El) (p : Nat) (v : Value) (cs : List Value) (w : World) : Prop :=
  Bk w D 29 [.int .u8 (c : Int), .bool k, .int .u32 (n : Int), .slice A3 N N, v] ∧ w.ownsRow b0 29 5 v p cs ∧ RowE true (ClS b0 D v) w (ss.take p) cs ∧
    RdX (ClS b0 D v) w A3 (cs8 bs) ∧ b0 ≤ D ∧ v.ownBlock ≠ some D
section
variable {b0 D c n : Nat} {k : Bool} {bs : List Nat} {A3 : Option Addr} {N : Nat} {ss : List El} {p : Nat} {v : Value} {cs : List Value} {w w' : World}
theorem ClR.stay (h : ClR b0 D c n k bs A3 N ss p v cs w) (hb : Below w.heap.size w w') : ClR b0 D c n k bs A3 N ss p v cs w' := by
  obtain ⟨h1, h2, h3, h4, h5, h6⟩ := h
  refine ⟨h1.below hb h1.lt, own_kept h2 fun g hg => hb.block g ?_, RowE.keep hb.size (fun i _ hi => hb.block i hi) (fun _ hs _ => hs) h3, h4.keep hb.size (fun i _ hi => hb.block i hi) (fun _ hs _ => hs), h5, h6⟩
  exact (h2.lt g hg).2
theorem only_any {Q : Exit → Act → World → Prop} {id : Nat} {ops : Array Oper} {a : Act} (hm : Try.prog.follows .mixedOrders = true) (h : wpAny Try.prog .any ops Q ops.size (Array.replicate ops.size false) a w.drew) : (Code.region id ops true).wp Try.prog Q a w := wp_region_any hm h
/-- A region's step at the builtin append, by what it runs to. -/
theorem step_app {P : Program} {w : World} {ops : Array Oper} {o : Oper} {a : Act} {K : Act → World → Prop} {Q : Exit → Act → World → Prop} {E : Prop} (hgd : o.guard = none) (s x : Operand) (t1 t2 : TypeId)
    (ho : o.op = .call { callee := .builtin .append, args := #[s, x], argTypes := #[t1, t2] }) (u v : Value) (hs : a.eval s = u) (hx : a.eval x = v) {r : Value} {w1 : World}
    (hrun : (Builtin.append_ #[t1, t2] o.type #[u, v]).run P w = .ok r w1) (h : K (a.put o.dst r) w1) : if Region.wanted o (yielded ops a.tmps) = true then Oper.wp P o a w K Q else E := by
  have hw : Region.wanted o (yielded ops a.tmps) = true := by simp [Region.wanted, hgd]
  rw [if_pos hw]
  unfold Oper.wp execOp
  simp only [ho, resolve, invoke, builtin, Sem.run_bind, Sem.run_pure, Result.andThen_ok, List.map_toArray, List.map_cons, List.map_nil, hs, hx, hrun]
  exact h
end
end Go.Proofs.Ytfbdeefeagednaa
namespace Go.Proofs.Ytfbdeefeagednaa
open Go.RowKit
/-- What the decoder finds: a fault (error, offset), or an element, its size and how many were begun. -/
inductive Nx where
  | err (f a : Nat)
  | ok (e : El) (z b : Nat)
inductive Nxs where
  | err (f a : Nat)
  | ok (ss : List El) (b : Nat)
/-- Elements one behind the other, to the octets' end; the first number is fuel. -/
def nxS (step : List Nat → Nat → Nx) : Nat → List Nat → Nat → Nxs
  | 0, _, b => .ok [] b
  | g + 1, l, b => if l = [] then .ok [] b else
    match step l b with
    | .err f a => .err f a
    | .ok e z b' =>
      match nxS step g (l.drop z) b' with
      | .err f a => .err f (z + a)
      | .ok ss b'' => .ok (e :: ss) b''
/-- What follows a header: l's octets from h on; the content's size is m. -/
def nxB (sub : List Nat → Nat → Nxs) (c n : Nat) (k : Bool) (l : List Nat) (h m b : Nat) : Nx :=
  if (l.drop h).length < m then .err 7 l.length else
  if k = false then .ok (.mk c n k ((l.drop h).take m) []) (h + m) b else
    match sub ((l.drop h).take m) b with
    | .err f a => .err f (h + a)
    | .ok ss b' => .ok (.mk c n k [] ss) (h + m) b'
def nxH (sub : List Nat → Nat → Nxs) (l : List Nat) (d b : Nat) (t : Nat × Nat × Bool × Nat × Nat) (q : Nat × Nat × Nat) : Nx :=
  if t.2.2.2.2 ≠ 0 then .err t.2.2.2.2 (if t.2.2.2.2 = 7 then l.length else 0) else
  if plcE d b ≠ 0 then .err (plcE d b) 0 else
  if q.2.2 ≠ 0 then .err q.2.2 (if q.2.2 = 7 then l.length else t.2.2.2.1) else
  nxB sub t.1 t.2.1 t.2.2.1 l (t.2.2.2.1 + q.2.1) q.1 (b + 1)
/-- An element at the octets' beginning, at the depth d, with b elements begun before it; the first number is fuel. -/
def nxE : Nat → List Nat → Nat → Nat → Nx
  | 0, _, _, _ => .err 0 0
  | f + 1, l, d, b => nxH (fun l b => nxS (fun l b => nxE f l (d + 1) b) l.length l b) l d b (rdL l) (Len.getL (l.drop (rdL l).2.2.2.1))
end Go.Proofs.Ytfbdeefeagednaa
namespace Go.Proofs.Ytfbdeefeagednaa
open Go.RowKit
end Go.Proofs.Ytfbdeefeagednaa
namespace Go.Proofs.Ytfbdeefeagednaa
open Go.RowKit
end Go.Proofs.Ytfbdeefeagednaa
namespace Go.Proofs.Ytfbdeefeagednaa
open Go.RowKit
/-- Integers as cells. -/
def csZ (l : List Int) : List Value := l.map (Value.int .i64)
/-- The element at a path. -/
def atE : El → List Int → Option El
  | e, [] => some e
  | .mk _ _ _ _ ss, i :: t => if h : 0 ≤ i ∧ i.toNat < ss.length then atE ss[i.toNat] t else none
termination_by _ t => t.length
theorem atE_nil (e : El) : atE e [] = some e := by rw [atE]
end Go.Proofs.Ytfbdeefeagednaa
namespace Go.Proofs.Ytfbdeefeagednaa
open Go.RowKit
/-- The empty element. -/
def zE : El := .mk 0 0 false [] []
theorem rd_zero (x : Bool) (S : Nat → Prop) (w : World) : RdE x S w zE (elV 0 0 false (.slice none 0 0) (.slice none 0 0)) :=
  ⟨by decide, by decide, All8.nil, none, 0, none, 0, rfl, RdX.nil, Nat.le_refl _, Nat.zero_le _, Nat.le_refl _, Nat.zero_le _, fun _ => ⟨rfl, rfl⟩, trivial⟩
end Go.Proofs.Ytfbdeefeagednaa
namespace Go.Proofs.Ytfbdeefeagednaa
open Go.RowKit
/-- The element E of the chapter. -/
def exE : El := .mk 0 16 true [] [.mk 0 2 false [7] [], .mk 0 5 false [] []]
end Go.Proofs.Ytfbdeefeagednaa
namespace Go.Proofs.Ytfbdeefeagednaa
open Go.RowKit
theorem lit8 (w : World) (l : List Nat) (h : l.all (fun x => decide (x < 256)) = true) : Rb (w.alloc (.cells (cs8 l).toArray 5)) (some ⟨w.heap.size, 0, none⟩) l :=
  ⟨by have := (Bk.new w 5 (cs8 l)).rd 0; simpa using this, fun x hx => by simpa using List.all_eq_true.1 h x hx⟩
theorem path_rd (w : World) (z : Int) : Rd (w.alloc (.cells #[.int .i64 z] 3)) (some ⟨w.heap.size, 0, none⟩) (csZ [z]) := by
  have := (Bk.new w 3 (csZ [z])).rd 0
  rw [List.drop_zero] at this
  exact this
@[reducible] def exV (b : Nat) : Value := elV 0 16 true (.slice none 0 0) (.slice (some ⟨b, 0, none⟩) 2 2)
end Go.Proofs.Ytfbdeefeagednaa
namespace Go.Proofs.Ytfbdeefeagednaa
open Go.RowKit
/-- What lives keeps: its three elements. -/
def LvR (w : World) (D1 D2 D3 b : Nat) (W : World) : Prop :=
  Bk W D1 29 [.int .u8 0, .bool true, .int .u32 16, .slice none 0 0, .slice (some ⟨b, 0, none⟩) 2 2] ∧ Bk W D2 29 [.int .u8 0, .bool false, .int .u32 0, .slice none 0 0, .slice none 0 0] ∧ Bk W D3 29 [.int .u8 0, .bool false, .int .u32 5, .slice none 0 0, .slice none 0 0] ∧ RdE true (fun _ => True) W exE (exV b) ∧ Below w.heap.size w W
theorem LvR.stay {w W W' : World} {D1 D2 D3 b : Nat} (h : LvR w D1 D2 D3 b W) (hb : Below W.heap.size W W') : LvR w D1 D2 D3 b W' :=
  ⟨h.1.below hb h.1.lt, h.2.1.below hb h.2.1.lt, h.2.2.1.below hb h.2.2.1.lt, h.2.2.2.1.stay hb, h.2.2.2.2.trans (hb.mono h.2.2.2.2.size)⟩
end Go.Proofs.Ytfbdeefeagednaa
