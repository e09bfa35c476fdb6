/-
  Plain words on memory: a slice of one-cell elements that reads as a list; what has not turned.
  Conditions: none (no program is named here).
-/
import Derived.WalkKit
import Derived.Lib.Hide
import Derived.Deep.Draws
namespace Go.Proofs.YtecmgkmonehmfaaDoor
open Go.RowKit

/-- The slice header's address A reads as the cells xs. -/
def Rd (w : World) (A : Option Addr) (xs : List Value) : Prop :=
  xs ≠ [] → ∃ b off, A = some ⟨b, off, none⟩ ∧ b < w.heap.size ∧ ∀ j u, xs[j]? = some u → w.cell? ⟨b, off + j, none⟩ = some u

/-- A byte. -/
def by8 (x : Nat) : Value := .int .u8 (x : Int)
/-- A list of bytes as cells. -/
def cs8 (l : List Nat) : List Value := l.map by8
/-- All are bytes. -/
def All8 (l : List Nat) : Prop := ∀ x ∈ l, x < 256

/-- The bytes l at A. -/
def Rb (w : World) (A : Option Addr) (l : List Nat) : Prop := Rd w A (cs8 l) ∧ All8 l

theorem All8.nil : All8 [] := fun _ h => absurd h (by simp)
theorem All8.cons {x : Nat} {l : List Nat} (hx : x < 256) (h : All8 l) : All8 (x :: l) := by
  intro y hy
  rcases List.mem_cons.1 hy with rfl | hy
  · exact hx
  · exact h y hy
theorem All8.append {l m : List Nat} (h : All8 l) (k : All8 m) : All8 (l ++ m) := by
  intro y hy
  rcases List.mem_append.1 hy with hy | hy
  · exact h y hy
  · exact k y hy
theorem All8.drop {l : List Nat} (h : All8 l) (k : Nat) : All8 (l.drop k) := fun y hy => h y (List.mem_of_mem_drop hy)
theorem All8.take {l : List Nat} (h : All8 l) (k : Nat) : All8 (l.take k) := fun y hy => h y (List.mem_of_mem_take hy)
theorem All8.get {l : List Nat} (h : All8 l) {k : Nat} (hk : k < l.length) : l[k] < 256 := h _ (List.getElem_mem hk)

section
variable {w w' : World} {A : Option Addr} {xs : List Value} {l : List Nat}
theorem Rd.nil : Rd w A [] := fun h => absurd rfl h
theorem Rd.keep (h : Rd w A xs) (hz : w.heap.size ≤ w'.heap.size) (hk : ∀ p : Addr, p.block < w.heap.size → w'.cell? p = w.cell? p) : Rd w' A xs := fun hn => by
  obtain ⟨b, off, e, hb, hc⟩ := h hn
  exact ⟨b, off, e, by omega, fun j u hu => (hk ⟨b, off + j, none⟩ hb).trans (hc j u hu)⟩
theorem Rd.below (h : Rd w A xs) (hb : Below w.heap.size w w') : Rd w' A xs := h.keep hb.size fun _ hp => hb.cell hp
theorem Rd.at_ {k : Nat} (h : Rd w A xs) (hk : k < xs.length) : ∃ b off, A = some ⟨b, off, none⟩ ∧ b < w.heap.size ∧ w.cell? ⟨b, off + k, none⟩ = some xs[k] := by
  obtain ⟨b, off, e, hb, hc⟩ := h (by intro e; subst e; simp at hk)
  exact ⟨b, off, e, hb, hc k _ (List.getElem?_eq_getElem hk)⟩
theorem Rd.all_ (h : Rd w A xs) (hk : 0 < xs.length) : ∃ b off, A = some ⟨b, off, none⟩ ∧ b < w.heap.size ∧ ∀ j, (hj : j < xs.length) → w.cell? ⟨b, off + j, none⟩ = some xs[j] := by
  obtain ⟨b, off, e, hb, hc⟩ := h (by intro e; subst e; simp at hk)
  exact ⟨b, off, e, hb, fun j hj => hc j _ (List.getElem?_eq_getElem hj)⟩
theorem Rd.drop_ {b off : Nat} (h : Rd w (some ⟨b, off, none⟩) xs) (k : Nat) : Rd w (some ⟨b, off + k, none⟩) (xs.drop k) := fun hn => by
  obtain ⟨b', off', e, hb, hc⟩ := h (by intro e; subst e; simp at hn)
  simp only [Option.some.injEq, Addr.mk.injEq, and_true] at e
  obtain ⟨rfl, rfl⟩ := e
  exact ⟨_, _, rfl, hb, fun j u hu => by rw [Nat.add_assoc]; exact hc _ u (by rw [← hu, List.getElem?_drop])⟩
theorem Rd.take_ (h : Rd w A xs) (k : Nat) : Rd w A (xs.take k) := fun hn => by
  obtain ⟨b, off, e, hb, hc⟩ := h (by intro e; subst e; simp at hn)
  refine ⟨b, off, e, hb, fun j u hu => hc j u ?_⟩
  rw [List.getElem?_take] at hu
  split at hu
  · exact hu
  · cases hu
theorem Rb.drop_ {b off : Nat} (h : Rb w (some ⟨b, off, none⟩) l) (k : Nat) : Rb w (some ⟨b, off + k, none⟩) (l.drop k) :=
  ⟨by have := h.1.drop_ k; simpa [cs8] using this, h.2.drop k⟩
theorem Rb.take_ (h : Rb w A l) (k : Nat) : Rb w A (l.take k) :=
  ⟨by have := h.1.take_ k; simpa [cs8] using this, h.2.take k⟩
theorem Rb.below (h : Rb w A l) (hb : Below w.heap.size w w') : Rb w' A l := ⟨h.1.below hb, h.2⟩
theorem Rd.far {B o : Nat} (h : Rd w A xs) (hA : ∀ q, A = some q → q.block ≠ B) (u : Value) : Rd (w.setCell ⟨B, o, none⟩ u) A xs := fun hn => by
  obtain ⟨b, off, e, hb, hc⟩ := h hn
  have hne := hA _ e
  exact ⟨b, off, e, by simpa [World.setCell] using hb, fun j v hv => (World.cell?_setCell_other w ⟨B, o, none⟩ ⟨b, off + j, none⟩ u (fun e => hne (by injection e with e; exact e.symm))).trans (hc j v hv)⟩
theorem Rb.far {B o : Nat} (h : Rb w A l) (hA : ∀ q, A = some q → q.block ≠ B) (u : Value) : Rb (w.setCell ⟨B, o, none⟩ u) A l := ⟨h.1.far hA u, h.2⟩
theorem Rb.nil : Rb w A [] := ⟨Rd.nil, All8.nil⟩
theorem Rb.at_ {k : Nat} (h : Rb w A l) (hk : k < l.length) : ∃ b off, A = some ⟨b, off, none⟩ ∧ b < w.heap.size ∧ l[k] < 256 ∧ w.cell? ⟨b, off + k, none⟩ = some (.int .u8 (l[k] : Int)) := by
  obtain ⟨b, off, e, hb, hc⟩ := h.1.at_ (k := k) (by simpa [cs8] using hk)
  exact ⟨b, off, e, hb, h.2.get hk, by simpa [cs8, by8] using hc⟩
end

/-- Block g is just the cells cs of type t; none is frozen. -/
def Bk (w : World) (g : Nat) (t : TypeId) (cs : List Value) : Prop := w.heap[g]? = some (.cells cs.toArray t (0, 0))
section
variable {w w' : World} {g : Nat} {t : TypeId} {cs : List Value}
theorem Bk.lt (h : Bk w g t cs) : g < w.heap.size := by
  rcases Nat.lt_or_ge g w.heap.size with hlt | hge
  · exact hlt
  · unfold Bk at h; rw [Array.getElem?_eq_none hge] at h; cases h
theorem Bk.cell (h : Bk w g t cs) (i : Nat) : w.cell? ⟨g, i, none⟩ = cs[i]? := by
  have := cell_of_row w g i cs.toArray t (0, 0) h
  simpa using this
theorem Bk.free (h : Bk w g t cs) (i : Nat) : w.frozen? ⟨g, i, none⟩ = false := by
  unfold Bk at h; simp [World.frozen?, h]
theorem Bk.new (w : World) (t : TypeId) (cs : List Value) : Bk (w.alloc (.cells cs.toArray t)) w.heap.size t cs := heap_alloc_new w _
theorem Bk.alloc (h : Bk w g t cs) (o : Obj) : Bk (w.alloc o) g t cs := (Below.heap_alloc w o g h.lt).trans h
theorem Bk.store (h : Bk w g t cs) (i : Nat) (u : Value) : Bk (w.setCell ⟨g, i, none⟩ u) g t (cs.set i u) := by
  unfold Bk at h ⊢
  simp [World.setCell, Array.getElem?_modify, h]
theorem Bk.far (h : Bk w g t cs) {p : Addr} (hp : g ≠ p.block) (u : Value) : Bk (w.setCell p u) g t cs := (Below.heap_setCell w p u g hp).trans h
theorem Bk.below {B : Nat} (h : Bk w g t cs) (hb : Below B w w') (hg : g < B) : Bk w' g t cs := (hb.block g hg).trans h
theorem Bk.only {row : Option Nat} (h : Bk w g t cs) (hb : w.grownBy w' row) (hg : some g ≠ row) : Bk w' g t cs := (hb.block g h.lt hg).trans h
theorem Bk.rd (h : Bk w g t cs) (k : Nat) : Rd w (some ⟨g, k, none⟩) (cs.drop k) := fun _ => ⟨g, k, rfl, h.lt, fun j u hu => by rw [h.cell, ← hu, List.getElem?_drop]⟩
end

/-! Only block g, and what is new, has turned. -/
section
variable {a w w' : World} {g : Nat}
theorem only_refl (w : World) (row : Option Nat) : w.grownBy w row := World.grownBy.refl w row
theorem only_store (h : a.grownBy w (some g)) (i : Nat) (u : Value) : a.grownBy (w.setCell ⟨g, i, none⟩ u) (some g) :=
  ⟨h.os, h.tape, h.output, by simpa [World.setCell] using h.size, fun k hk hne => (Below.heap_setCell w ⟨g, i, none⟩ u k (by rintro rfl; exact hne rfl)).trans (h.block k hk hne)⟩
theorem only_drewN (h : a.grownBy w (some g)) (n : Nat) : a.grownBy (w.drewN n) (some g) := ⟨h.os, h.tape, h.output, h.size, h.block⟩
theorem only_trans (h : a.grownBy w (some g)) (k : w.grownBy w' (some g)) : a.grownBy w' (some g) :=
  ⟨k.os.trans h.os, k.tape.trans h.tape, k.output.trans h.output, Nat.le_trans h.size k.size, fun i hi hne => (k.block i (Nat.lt_of_lt_of_le hi h.size) hne).trans (h.block i hi hne)⟩
theorem only_below {B : Nat} (h : a.grownBy w (some g)) (hg : B ≤ g) (hB : B ≤ a.heap.size) : Below B a w :=
  (Below.refl B a).grown h hB (fun k e => by injection e with e; omega)
theorem Rd.only {A : Option Addr} {xs : List Value} {B : Nat} (h : Rd a A xs) (hA : ∀ q, A = some q → xs ≠ [] → q.block < B) (k : a.grownBy w (some g)) (hg : B ≤ g) : Rd w A xs := fun hn => by
  obtain ⟨b, off, e, hb, hc⟩ := h hn
  have hbB := hA _ e hn
  exact ⟨b, off, e, Nat.lt_of_lt_of_le hb k.size, fun j u hu => (World.cell?_of_block (w := a) (k.block b hb (fun e => by injection e with e; simp at hbB; omega))).trans (hc j u hu)⟩
end

/-! Slices of ints. -/
def int64 (x : Nat) : Value := .int .i64 (x : Int)
def csI (l : List Nat) : List Value := l.map int64
theorem csI_length (l : List Nat) : (csI l).length = l.length := by unfold csI; rw [List.length_map]
theorem csI_get {l : List Nat} {n : Nat} (h : n < l.length) : (csI l)[n]? = some (.int .i64 (l[n] : Int)) := by
  unfold csI; rw [List.getElem?_map, List.getElem?_eq_getElem h]; rfl
theorem csI_snoc (l : List Nat) (x : Nat) : csI l ++ [.int .i64 (x : Int)] = csI (l ++ [x]) := by unfold csI; rw [List.map_append]; rfl
def Ri (w : World) (A : Option Addr) (l : List Nat) : Prop := Rd w A (csI l)
section
variable {w w' : World} {A : Option Addr} {l : List Nat}
theorem Ri.below (h : Ri w A l) (hb : Below w.heap.size w w') : Ri w' A l := Rd.below h hb
theorem Ri.nil : Ri w A [] := Rd.nil
theorem Ri.at_ {k : Nat} (h : Ri w A l) (hk : k < l.length) : ∃ b off, A = some ⟨b, off, none⟩ ∧ b < w.heap.size ∧ w.cell? ⟨b, off + k, none⟩ = some (.int .i64 (l[k] : Int)) := by
  obtain ⟨b, off, e, hb, hc⟩ := Rd.at_ h (k := k) (by rw [csI_length]; exact hk)
  exact ⟨b, off, e, hb, by simpa [csI, int64] using hc⟩
theorem Ri.take_ (h : Ri w A l) (k : Nat) : Ri w A (l.take k) := by have := Rd.take_ h k; unfold Ri csI at *; rwa [List.map_take]
/-- A slice of ints is returned; what was there has not turned. -/
def GiveI (w : World) (l : List Nat) (e : Ending) (w' : World) : Prop :=
  ∃ A c, e = .returned (.slice A l.length c) ∧ Ri w' A l ∧ l.length ≤ c ∧ c ≤ maxLen ∧ Below w.heap.size w w'
end

/-- What a call has built by append, opened. -/
theorem own_open {w : World} {base : Nat} {e : TypeId} {v : Value} {xs : List Value} (h : w.ownsRow base e 1 v xs.length xs) : ∃ A c, v = .slice A xs.length c ∧ Rd w A xs ∧ xs.length ≤ c ∧ c ≤ maxLen := by
  have hc := fun (g : Nat) (hg : v.ownBlock = some g) => h.cells hg
  rcases h.2 with ⟨rfl, h0⟩ | ⟨g, cap, cur, rfl, hb, hg, hn, hm, hs, ht⟩
  · exact ⟨none, 0, by rw [h0], by rw [List.eq_nil_of_length_eq_zero h0]; exact Rd.nil, by omega, by unfold maxLen; omega⟩
  · refine ⟨_, cap, rfl, fun _ => ⟨g, 0, rfl, ?_, fun j u hu => ?_⟩, hn, hm⟩
    · rcases Nat.lt_or_ge g w.heap.size with hlt | hge
      · exact hlt
      · rw [Array.getElem?_eq_none hge] at hg; cases hg
    · have := hc g rfl j u hu
      rw [Nat.zero_add]
      have e : (⟨g, 0, none⟩ : Addr).add j = ⟨g, j, none⟩ := by unfold Addr.add; split <;> simp_all
      rwa [e] at this

/-- 'append(v, x)' of one element, to what the call has built. -/
theorem app_one {P : Program} {t ty e : TypeId} {z : Value} {bytes : Nat} (ht : P.underlying t = some (.slice e)) (hinfo : (P.info? e).map (fun i => (i.zero, i.size, i.bytes)) = some (some z, 1, bytes)) (hz : z.cells.size = 1)
    {w : World} {base : Nat} {v : Value} {xs : List Value} (hown : w.ownsRow base e 1 v xs.length xs) (x : Value) (h1 : x.oneCell' = true) (hb : base ≤ w.heap.size) (hl : (xs.length + 1) * bytes ≤ 140737488355328) (hm : xs.length + 1 ≤ maxLen) :
    ∃ v' w', (Builtin.append_ #[t, t] ty #[v, .slice (some ⟨w.heap.size, 0, none⟩) 1 1]).run P (w.alloc (.cells #[x] e)) = .ok v' w' ∧ w'.ownsRow base e 1 v' (xs ++ [x]).length (xs ++ [x]) ∧ Below base w w' := by
  obtain ⟨i, hi, hz0, hz1, hz2⟩ := info_parts hinfo
  obtain ⟨v', w', hrun, h2, h3, _⟩ := run_append_own (P := P) (w.alloc (.cells #[x] e)) base t ty e i z 1 bytes ht hi hz0 hz1 hz2 hz (by omega) v xs.length xs (hown.alloc _) ⟨w.heap.size, 0, none⟩ 1 1 [x] rfl
    (fun j u hu => by
      obtain ⟨hj, rfl⟩ := List.getElem?_eq_some_iff.1 hu
      have : j = 0 := by simpa using hj
      subst this
      simp [Addr.add, go_sem]) (by simpa using h1) hm hl (by simp; omega)
  refine ⟨v', w', hrun, by simpa using h2, ((Below.refl base w).alloc hb _).grown h3 (by simp; omega) (fun k hk => (hown.lt k hk).1)⟩
end Go.Proofs.YtecmgkmonehmfaaDoor
