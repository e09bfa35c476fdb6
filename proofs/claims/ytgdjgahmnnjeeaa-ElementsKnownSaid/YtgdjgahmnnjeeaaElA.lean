/-
  Trees of elements as data; how a value reads as one in memory.
  Conditions: none (no program is named here).
-/
import Derived.Test.YtgdjgahmnnjeeaaMem
namespace Go.Proofs.Ytgdjgahmnnjeeaa
open Go.RowKit

/-- An element: class, number, constructed, content, sub-elements. -/
inductive El where
  | mk (c n : Nat) (k : Bool) (bs : List Nat) (ss : List El)

theorem El.ind {P : El → Prop} (h : ∀ c n k bs ss, (∀ e, e ∈ ss → P e) → P (.mk c n k bs ss)) : ∀ e, P e :=
  fun e => El.rec (motive_1 := P) (motive_2 := fun ss => ∀ e, e ∈ ss → P e) (fun c n k bs ss ih => h c n k bs ss ih) (fun _ he => absurd he (by simp))
    (fun _ _ h1 h2 e he => by
      rcases List.mem_cons.1 he with rfl | he
      · exact h1
      · exact h2 e he) e

/-- An element's value. -/
@[reducible] def elV (c n : Nat) (k : Bool) (u v : Value) : Value := .agg #[.int .u8 (c : Int), .bool k, .int .u32 (n : Int), u, v]
/-- The header's address reads as the cells xs, which lie in a block of S. -/
def RdX (S : Nat → Prop) (w : World) (A : Option Addr) (xs : List Value) : Prop :=
  xs ≠ [] → ∃ b off, A = some ⟨b, off, none⟩ ∧ b < w.heap.size ∧ S b ∧ ∀ j u, xs[j]? = some u → w.cell? ⟨b, off + j, none⟩ = some u
theorem RdX.rd {S : Nat → Prop} {w : World} {A : Option Addr} {xs : List Value} (h : RdX S w A xs) : Rd w A xs := fun hn =>
  let ⟨b, off, e, hb, _, hc⟩ := h hn
  ⟨b, off, e, hb, hc⟩
theorem RdX.nil {S : Nat → Prop} {w : World} {A : Option Addr} : RdX S w A [] := fun h => absurd rfl h
theorem Rd.rdx {w : World} {A : Option Addr} {xs : List Value} (h : Rd w A xs) : RdX (· < w.heap.size) w A xs := fun hn =>
  let ⟨b, off, e, hb, hc⟩ := h hn
  ⟨b, off, e, hb, hb, hc⟩
theorem RdX.keep {S T : Nat → Prop} {w w' : World} {A : Option Addr} {xs : List Value} (h : RdX S w A xs) (hz : w.heap.size ≤ w'.heap.size) (hk : ∀ k, S k → k < w.heap.size → w'.heap[k]? = w.heap[k]?) (hT : ∀ k, S k → k < w.heap.size → T k) : RdX T w' A xs := fun hn =>
  let ⟨b, off, e, hb, hS, hc⟩ := h hn
  ⟨b, off, e, Nat.lt_of_lt_of_le hb hz, hT b hS hb, fun j u hu => (World.cell?_of_block (w := w) (hk b hS hb)).trans (hc j u hu)⟩

mutual
/-- The value reads as the element; x: without spare capacity; what lies in memory lies in blocks of S. -/
def RdE (x : Bool) (S : Nat → Prop) (w : World) : El → Value → Prop
  | .mk c n k bs ss, v => c < 256 ∧ n < 4294967296 ∧ All8 bs ∧ ∃ A ca B cb, v = elV c n k (.slice A bs.length ca) (.slice B ss.length cb) ∧ RdX S w A (cs8 bs) ∧
      bs.length ≤ ca ∧ ca ≤ maxLen ∧ ss.length ≤ cb ∧ cb ≤ maxLen ∧ (x = true → ca = bs.length ∧ cb = ss.length) ∧ RdS x S w B ss
/-- The header's address reads as the elements, one behind the other. -/
def RdS (x : Bool) (S : Nat → Prop) (w : World) : Option Addr → List El → Prop
  | _, [] => True
  | A, e :: ss => ∃ b off v, A = some ⟨b, off, none⟩ ∧ b < w.heap.size ∧ S b ∧ (∀ j u, v.cells.toList[j]? = some u → w.cell? ⟨b, off + j, none⟩ = some u) ∧ RdE x S w e v ∧
      RdS x S w (some ⟨b, off + 5, none⟩) ss
end

section
variable {x : Bool} {S T : Nat → Prop} {w w' : World}
mutual
theorem RdE.keep (hz : w.heap.size ≤ w'.heap.size) (hk : ∀ k, S k → k < w.heap.size → w'.heap[k]? = w.heap[k]?) (hT : ∀ k, S k → k < w.heap.size → T k) : ∀ (e : El) (v : Value), RdE x S w e v → RdE x T w' e v
  | .mk c n k bs ss, v, h => by
    obtain ⟨h1, h2, h3, A, ca, B, cb, h4, h5, h6, h7, h8, h9, h10, h11⟩ := h
    exact ⟨h1, h2, h3, A, ca, B, cb, h4, h5.keep hz hk hT, h6, h7, h8, h9, h10, RdS.keep hz hk hT ss B h11⟩
theorem RdS.keep (hz : w.heap.size ≤ w'.heap.size) (hk : ∀ k, S k → k < w.heap.size → w'.heap[k]? = w.heap[k]?) (hT : ∀ k, S k → k < w.heap.size → T k) : ∀ (ss : List El) (A : Option Addr), RdS x S w A ss → RdS x T w' A ss
  | [], _, _ => trivial
  | e :: ss, A, h => by
    obtain ⟨b, off, v, h1, h2, h3, h4, h5, h6⟩ := h
    exact ⟨b, off, v, h1, Nat.lt_of_lt_of_le h2 hz, hT b h3 h2, fun j u hu => (World.cell?_of_block (w := w) (hk b h3 h2)).trans (h4 j u hu), RdE.keep hz hk hT e v h5, RdS.keep hz hk hT ss _ h6⟩
end
mutual
theorem RdE.loose : ∀ (e : El) (v : Value), RdE x S w e v → RdE false S w e v
  | .mk c n k bs ss, v, h => by
    obtain ⟨h1, h2, h3, A, ca, B, cb, h4, h5, h6, h7, h8, h9, h10, h11⟩ := h
    exact ⟨h1, h2, h3, A, ca, B, cb, h4, h5, h6, h7, h8, h9, fun h => (by cases h), RdS.loose ss B h11⟩
theorem RdS.loose : ∀ (ss : List El) (A : Option Addr), RdS x S w A ss → RdS false S w A ss
  | [], _, _ => trivial
  | e :: ss, A, h => by
    obtain ⟨b, off, v, h1, h2, h3, h4, h5, h6⟩ := h
    exact ⟨b, off, v, h1, h2, h3, h4, RdE.loose e v h5, RdS.loose ss _ h6⟩
end
theorem RdE.below {B : Nat} {e : El} {v : Value} (h : RdE x S w e v) (hS : ∀ k, S k → k < w.heap.size → k < B) (hb : Below B w w') : RdE x S w' e v :=
  RdE.keep hb.size (fun k hs hk => hb.block k (hS k hs hk)) (fun _ hs _ => hs) e v h
theorem RdE.stay {e : El} {v : Value} (h : RdE x S w e v) (hb : Below w.heap.size w w') : RdE x S w' e v := h.below (fun _ _ hk => hk) hb
theorem RdS.stay {ss : List El} {A : Option Addr} (h : RdS x S w A ss) (hb : Below w.heap.size w w') : RdS x S w' A ss :=
  RdS.keep hb.size (fun k _ hk => hb.block k hk) (fun _ hs _ => hs) ss A h
/-- An element among those that lie one behind the other. -/
theorem RdS.at_ {A : Option Addr} {ss : List El} (h : RdS x S w A ss) {i : Nat} (hi : i < ss.length) :
    ∃ b off v, A = some ⟨b, off, none⟩ ∧ b < w.heap.size ∧ S b ∧ (∀ j u, v.cells.toList[j]? = some u → w.cell? ⟨b, off + i * 5 + j, none⟩ = some u) ∧ RdE x S w ss[i] v := by
  induction ss generalizing A i with
  | nil => simp at hi
  | cons e ss ih =>
    obtain ⟨b, off, v, h1, h2, h3, h4, h5, h6⟩ := h
    cases i with
    | zero => exact ⟨b, off, v, h1, h2, h3, fun j u hu => by rw [Nat.zero_mul, Nat.add_zero]; exact h4 j u hu, h5⟩
    | succ i =>
      obtain ⟨b', off', v', g1, g2, g3, g4, g5⟩ := ih h6 (by simpa using hi)
      simp only [Option.some.injEq, Addr.mk.injEq, and_true] at g1
      obtain ⟨rfl, rfl⟩ := g1
      exact ⟨b, off, v', h1, h2, h3, fun j u hu => by rw [show off + (i + 1) * 5 + j = off + 5 + i * 5 + j by omega]; exact g4 j u hu, g5⟩
/-- They lie one behind the other, said by their index. -/
theorem RdS.mk {b off : Nat} {ss : List El} (hb : b < w.heap.size) (hS : S b) (h : ∀ i, (hi : i < ss.length) → ∃ v, (∀ j u, v.cells.toList[j]? = some u → w.cell? ⟨b, off + i * 5 + j, none⟩ = some u) ∧ RdE x S w ss[i] v) : RdS x S w (some ⟨b, off, none⟩) ss := by
  induction ss generalizing off with
  | nil => trivial
  | cons e ss ih =>
    obtain ⟨v, h1, h2⟩ := h 0 (by simp)
    refine ⟨b, off, v, rfl, hb, hS, fun j u hu => by have := h1 j u hu; rwa [Nat.zero_mul, Nat.add_zero] at this, h2, ih fun i hi => ?_⟩
    obtain ⟨v', g1, g2⟩ := h (i + 1) (by simpa using hi)
    exact ⟨v', fun j u hu => by rw [show off + 5 + i * 5 + j = off + (i + 1) * 5 + j by omega]; exact g1 j u hu, g2⟩
end
end Go.Proofs.Ytgdjgahmnnjeeaa
