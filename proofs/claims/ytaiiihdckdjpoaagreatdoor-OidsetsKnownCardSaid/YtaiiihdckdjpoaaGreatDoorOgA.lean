/-
  Plain words on memory: a slice of one-cell elements that reads as a list; what has not turned.
  Conditions: none (no program is named here).
-/
import Derived.WalkKit
import Derived.Lib.Hide
import Derived.Deep.Draws
import Derived.Lib.BytesEntry
import Derived.Laws.BytesString
import Derived.Lib.ItoaNum
import Derived.Laws.Strings
namespace Go.Proofs.YtaiiihdckdjpoaaGreatDoor
open Go.RowKit

/-- The slice header's address A reads as the cells xs. -/
def Rd (w : World) (A : Option Addr) (xs : List Value) : Prop :=
  xs ≠ [] → ∃ b off, A = some ⟨b, off, none⟩ ∧ b < w.heap.size ∧ ∀ j u, xs[j]? = some u → w.cell? ⟨b, off + j, none⟩ = some u

/-- A byte. -/
def by8 (x : Nat) : Value := .int .u8 (x : Int)
/-- A list of bytes as cells. -/
def cs8 (l : List Nat) : List Value := l.map by8
/-- All are bytes. -/
def All8 (l : List Nat) : Prop := ∀ x ∈ l, x < 256

/-- The bytes l at A. -/
def Rb (w : World) (A : Option Addr) (l : List Nat) : Prop := Rd w A (cs8 l) ∧ All8 l

theorem All8.nil : All8 [] := fun _ h => absurd h (by simp)
theorem All8.cons {x : Nat} {l : List Nat} (hx : x < 256) (h : All8 l) : All8 (x :: l) := by
  intro y hy
  rcases List.mem_cons.1 hy with rfl | hy
  · exact hx
  · exact h y hy
theorem All8.append {l m : List Nat} (h : All8 l) (k : All8 m) : All8 (l ++ m) := by
  intro y hy
  rcases List.mem_append.1 hy with hy | hy
  · exact h y hy
  · exact k y hy
theorem All8.drop {l : List Nat} (h : All8 l) (k : Nat) : All8 (l.drop k) := fun y hy => h y (List.mem_of_mem_drop hy)
theorem All8.take {l : List Nat} (h : All8 l) (k : Nat) : All8 (l.take k) := fun y hy => h y (List.mem_of_mem_take hy)
theorem All8.get {l : List Nat} (h : All8 l) {k : Nat} (hk : k < l.length) : l[k] < 256 := h _ (List.getElem_mem hk)

section
variable {w w' : World} {A : Option Addr} {xs : List Value} {l : List Nat}
theorem Rd.nil : Rd w A [] := fun h => absurd rfl h
theorem Rd.keep (h : Rd w A xs) (hz : w.heap.size ≤ w'.heap.size) (hk : ∀ p : Addr, p.block < w.heap.size → w'.cell? p = w.cell? p) : Rd w' A xs := fun hn => by
  obtain ⟨b, off, e, hb, hc⟩ := h hn
  exact ⟨b, off, e, by omega, fun j u hu => (hk ⟨b, off + j, none⟩ hb).trans (hc j u hu)⟩
theorem Rd.below (h : Rd w A xs) (hb : Below w.heap.size w w') : Rd w' A xs := h.keep hb.size fun _ hp => hb.cell hp
theorem Rd.at_ {k : Nat} (h : Rd w A xs) (hk : k < xs.length) : ∃ b off, A = some ⟨b, off, none⟩ ∧ b < w.heap.size ∧ w.cell? ⟨b, off + k, none⟩ = some xs[k] := by
  obtain ⟨b, off, e, hb, hc⟩ := h (by intro e; subst e; simp at hk)
  exact ⟨b, off, e, hb, hc k _ (List.getElem?_eq_getElem hk)⟩
theorem Rd.all_ (h : Rd w A xs) (hk : 0 < xs.length) : ∃ b off, A = some ⟨b, off, none⟩ ∧ b < w.heap.size ∧ ∀ j, (hj : j < xs.length) → w.cell? ⟨b, off + j, none⟩ = some xs[j] := by
  obtain ⟨b, off, e, hb, hc⟩ := h (by intro e; subst e; simp at hk)
  exact ⟨b, off, e, hb, fun j hj => hc j _ (List.getElem?_eq_getElem hj)⟩
theorem Rd.drop_ {b off : Nat} (h : Rd w (some ⟨b, off, none⟩) xs) (k : Nat) : Rd w (some ⟨b, off + k, none⟩) (xs.drop k) := fun hn => by
  obtain ⟨b', off', e, hb, hc⟩ := h (by intro e; subst e; simp at hn)
  simp only [Option.some.injEq, Addr.mk.injEq, and_true] at e
  obtain ⟨rfl, rfl⟩ := e
  exact ⟨_, _, rfl, hb, fun j u hu => by rw [Nat.add_assoc]; exact hc _ u (by rw [← hu, List.getElem?_drop])⟩
theorem Rd.take_ (h : Rd w A xs) (k : Nat) : Rd w A (xs.take k) := fun hn => by
  obtain ⟨b, off, e, hb, hc⟩ := h (by intro e; subst e; simp at hn)
  refine ⟨b, off, e, hb, fun j u hu => hc j u ?_⟩
  rw [List.getElem?_take] at hu
  split at hu
  · exact hu
  · cases hu
theorem Rb.drop_ {b off : Nat} (h : Rb w (some ⟨b, off, none⟩) l) (k : Nat) : Rb w (some ⟨b, off + k, none⟩) (l.drop k) :=
  ⟨by have := h.1.drop_ k; simpa [cs8] using this, h.2.drop k⟩
theorem Rb.take_ (h : Rb w A l) (k : Nat) : Rb w A (l.take k) :=
  ⟨by have := h.1.take_ k; simpa [cs8] using this, h.2.take k⟩
theorem Rb.below (h : Rb w A l) (hb : Below w.heap.size w w') : Rb w' A l := ⟨h.1.below hb, h.2⟩
theorem Rd.far {B o : Nat} (h : Rd w A xs) (hA : ∀ q, A = some q → q.block ≠ B) (u : Value) : Rd (w.setCell ⟨B, o, none⟩ u) A xs := fun hn => by
  obtain ⟨b, off, e, hb, hc⟩ := h hn
  have hne := hA _ e
  exact ⟨b, off, e, by simpa [World.setCell] using hb, fun j v hv => (World.cell?_setCell_other w ⟨B, o, none⟩ ⟨b, off + j, none⟩ u (fun e => hne (by injection e with e; exact e.symm))).trans (hc j v hv)⟩
theorem Rb.far {B o : Nat} (h : Rb w A l) (hA : ∀ q, A = some q → q.block ≠ B) (u : Value) : Rb (w.setCell ⟨B, o, none⟩ u) A l := ⟨h.1.far hA u, h.2⟩
theorem Rb.nil : Rb w A [] := ⟨Rd.nil, All8.nil⟩
theorem Rb.at_ {k : Nat} (h : Rb w A l) (hk : k < l.length) : ∃ b off, A = some ⟨b, off, none⟩ ∧ b < w.heap.size ∧ l[k] < 256 ∧ w.cell? ⟨b, off + k, none⟩ = some (.int .u8 (l[k] : Int)) := by
  obtain ⟨b, off, e, hb, hc⟩ := h.1.at_ (k := k) (by simpa [cs8] using hk)
  exact ⟨b, off, e, hb, h.2.get hk, by simpa [cs8, by8] using hc⟩
end

/-- Block g is just the cells cs of type t; none is frozen. -/
def Bk (w : World) (g : Nat) (t : TypeId) (cs : List Value) : Prop := w.heap[g]? = some (.cells cs.toArray t (0, 0))
section
variable {w w' : World} {g : Nat} {t : TypeId} {cs : List Value}
theorem Bk.lt (h : Bk w g t cs) : g < w.heap.size := by
  rcases Nat.lt_or_ge g w.heap.size with hlt | hge
  · exact hlt
  · unfold Bk at h; rw [Array.getElem?_eq_none hge] at h; cases h
theorem Bk.cell (h : Bk w g t cs) (i : Nat) : w.cell? ⟨g, i, none⟩ = cs[i]? := by
  have := cell_of_row w g i cs.toArray t (0, 0) h
  simpa using this
theorem Bk.free (h : Bk w g t cs) (i : Nat) : w.frozen? ⟨g, i, none⟩ = false := by
  unfold Bk at h; simp [World.frozen?, h]
theorem Bk.new (w : World) (t : TypeId) (cs : List Value) : Bk (w.alloc (.cells cs.toArray t)) w.heap.size t cs := heap_alloc_new w _
theorem Bk.alloc (h : Bk w g t cs) (o : Obj) : Bk (w.alloc o) g t cs := (Below.heap_alloc w o g h.lt).trans h
theorem Bk.store (h : Bk w g t cs) (i : Nat) (u : Value) : Bk (w.setCell ⟨g, i, none⟩ u) g t (cs.set i u) := by
  unfold Bk at h ⊢
  simp [World.setCell, Array.getElem?_modify, h]
theorem Bk.far (h : Bk w g t cs) {p : Addr} (hp : g ≠ p.block) (u : Value) : Bk (w.setCell p u) g t cs := (Below.heap_setCell w p u g hp).trans h
theorem Bk.below {B : Nat} (h : Bk w g t cs) (hb : Below B w w') (hg : g < B) : Bk w' g t cs := (hb.block g hg).trans h
theorem Bk.only {row : Option Nat} (h : Bk w g t cs) (hb : w.grownBy w' row) (hg : some g ≠ row) : Bk w' g t cs := (hb.block g h.lt hg).trans h
theorem Bk.rd (h : Bk w g t cs) (k : Nat) : Rd w (some ⟨g, k, none⟩) (cs.drop k) := fun _ => ⟨g, k, rfl, h.lt, fun j u hu => by rw [h.cell, ← hu, List.getElem?_drop]⟩
end

/-! Only block g, and what is new, has turned. -/
section
variable {a w w' : World} {g : Nat}
theorem only_refl (w : World) (row : Option Nat) : w.grownBy w row := World.grownBy.refl w row
theorem only_store (h : a.grownBy w (some g)) (i : Nat) (u : Value) : a.grownBy (w.setCell ⟨g, i, none⟩ u) (some g) :=
  ⟨h.os, h.tape, h.output, by simpa [World.setCell] using h.size, fun k hk hne => (Below.heap_setCell w ⟨g, i, none⟩ u k (by rintro rfl; exact hne rfl)).trans (h.block k hk hne)⟩
theorem only_drewN (h : a.grownBy w (some g)) (n : Nat) : a.grownBy (w.drewN n) (some g) := ⟨h.os, h.tape, h.output, h.size, h.block⟩
theorem only_trans (h : a.grownBy w (some g)) (k : w.grownBy w' (some g)) : a.grownBy w' (some g) :=
  ⟨k.os.trans h.os, k.tape.trans h.tape, k.output.trans h.output, Nat.le_trans h.size k.size, fun i hi hne => (k.block i (Nat.lt_of_lt_of_le hi h.size) hne).trans (h.block i hi hne)⟩
theorem only_below {B : Nat} (h : a.grownBy w (some g)) (hg : B ≤ g) (hB : B ≤ a.heap.size) : Below B a w :=
  (Below.refl B a).grown h hB (fun k e => by injection e with e; omega)
theorem Rd.only {A : Option Addr} {xs : List Value} {B : Nat} (h : Rd a A xs) (hA : ∀ q, A = some q → xs ≠ [] → q.block < B) (k : a.grownBy w (some g)) (hg : B ≤ g) : Rd w A xs := fun hn => by
  obtain ⟨b, off, e, hb, hc⟩ := h hn
  have hbB := hA _ e hn
  exact ⟨b, off, e, Nat.lt_of_lt_of_le hb k.size, fun j u hu => (World.cell?_of_block (w := a) (k.block b hb (fun e => by injection e with e; simp at hbB; omega))).trans (hc j u hu)⟩
end

/-! Slices of ints. -/
def int64 (x : Nat) : Value := .int .i64 (x : Int)
def csI (l : List Nat) : List Value := l.map int64
theorem csI_length (l : List Nat) : (csI l).length = l.length := by unfold csI; rw [List.length_map]
theorem csI_get {l : List Nat} {n : Nat} (h : n < l.length) : (csI l)[n]? = some (.int .i64 (l[n] : Int)) := by
  unfold csI; rw [List.getElem?_map, List.getElem?_eq_getElem h]; rfl
theorem csI_snoc (l : List Nat) (x : Nat) : csI l ++ [.int .i64 (x : Int)] = csI (l ++ [x]) := by unfold csI; rw [List.map_append]; rfl
def Ri (w : World) (A : Option Addr) (l : List Nat) : Prop := Rd w A (csI l)
section
variable {w w' : World} {A : Option Addr} {l : List Nat}
theorem Ri.below (h : Ri w A l) (hb : Below w.heap.size w w') : Ri w' A l := Rd.below h hb
theorem Ri.nil : Ri w A [] := Rd.nil
theorem Ri.at_ {k : Nat} (h : Ri w A l) (hk : k < l.length) : ∃ b off, A = some ⟨b, off, none⟩ ∧ b < w.heap.size ∧ w.cell? ⟨b, off + k, none⟩ = some (.int .i64 (l[k] : Int)) := by
  obtain ⟨b, off, e, hb, hc⟩ := Rd.at_ h (k := k) (by rw [csI_length]; exact hk)
  exact ⟨b, off, e, hb, by simpa [csI, int64] using hc⟩
theorem Ri.take_ (h : Ri w A l) (k : Nat) : Ri w A (l.take k) := by have := Rd.take_ h k; unfold Ri csI at *; rwa [List.map_take]
/-- A slice of ints is returned; what was there has not turned. -/
def GiveI (w : World) (l : List Nat) (e : Ending) (w' : World) : Prop :=
  ∃ A c, e = .returned (.slice A l.length c) ∧ Ri w' A l ∧ l.length ≤ c ∧ c ≤ maxLen ∧ Below w.heap.size w w'
end

/-- What a call has built by append, opened. -/
theorem own_open {w : World} {base : Nat} {e : TypeId} {v : Value} {xs : List Value} (h : w.ownsRow base e 1 v xs.length xs) : ∃ A c, v = .slice A xs.length c ∧ Rd w A xs ∧ xs.length ≤ c ∧ c ≤ maxLen := by
  have hc := fun (g : Nat) (hg : v.ownBlock = some g) => h.cells hg
  rcases h.2 with ⟨rfl, h0⟩ | ⟨g, cap, cur, rfl, hb, hg, hn, hm, hs, ht⟩
  · exact ⟨none, 0, by rw [h0], by rw [List.eq_nil_of_length_eq_zero h0]; exact Rd.nil, by omega, by unfold maxLen; omega⟩
  · refine ⟨_, cap, rfl, fun _ => ⟨g, 0, rfl, ?_, fun j u hu => ?_⟩, hn, hm⟩
    · rcases Nat.lt_or_ge g w.heap.size with hlt | hge
      · exact hlt
      · rw [Array.getElem?_eq_none hge] at hg; cases hg
    · have := hc g rfl j u hu
      rw [Nat.zero_add]
      have e : (⟨g, 0, none⟩ : Addr).add j = ⟨g, j, none⟩ := by unfold Addr.add; split <;> simp_all
      rwa [e] at this

/-- 'append(v, x)' of one element, to what the call has built. -/
theorem app_one {P : Program} {t ty e : TypeId} {z : Value} {bytes : Nat} (ht : P.underlying t = some (.slice e)) (hinfo : (P.info? e).map (fun i => (i.zero, i.size, i.bytes)) = some (some z, 1, bytes)) (hz : z.cells.size = 1)
    {w : World} {base : Nat} {v : Value} {xs : List Value} (hown : w.ownsRow base e 1 v xs.length xs) (x : Value) (h1 : x.oneCell' = true) (hb : base ≤ w.heap.size) (hl : (xs.length + 1) * bytes ≤ 140737488355328) (hm : xs.length + 1 ≤ maxLen) :
    ∃ v' w', (Builtin.append_ #[t, t] ty #[v, .slice (some ⟨w.heap.size, 0, none⟩) 1 1]).run P (w.alloc (.cells #[x] e)) = .ok v' w' ∧ w'.ownsRow base e 1 v' (xs ++ [x]).length (xs ++ [x]) ∧ Below base w w' := by
  obtain ⟨i, hi, hz0, hz1, hz2⟩ := info_parts hinfo
  obtain ⟨v', w', hrun, h2, h3, _⟩ := run_append_own (P := P) (w.alloc (.cells #[x] e)) base t ty e i z 1 bytes ht hi hz0 hz1 hz2 hz (by omega) v xs.length xs (hown.alloc _) ⟨w.heap.size, 0, none⟩ 1 1 [x] rfl
    (fun j u hu => by
      obtain ⟨hj, rfl⟩ := List.getElem?_eq_some_iff.1 hu
      have : j = 0 := by simpa using hj
      subst this
      simp [Addr.add, go_sem]) (by simpa using h1) hm hl (by simp; omega)
  refine ⟨v', w', hrun, by simpa using h2, ((Below.refl base w).alloc hb _).grown h3 (by simp; omega) (fun k hk => (hown.lt k hk).1)⟩
end Go.Proofs.YtaiiihdckdjpoaaGreatDoor

/-!
  Plain arithmetic: the digits of a number to a base, the least significant one first, and their value.
  Conditions: none (no program is named here).
-/
namespace Go.Proofs.YtaiiihdckdjpoaaGreatDoor

/-- The value of digits, the least significant one first. -/
def vl (b : Nat) : List Nat → Nat
  | [] => 0
  | x :: l => x + b * vl b l
/-- Without zeros at the end. -/
def trimL : List Nat → List Nat
  | [] => []
  | x :: l => match trimL l with
    | [] => if x = 0 then [] else [x]
    | y :: m => x :: y :: m
/-- The digits of a number, with fuel. -/
def dgsF (b : Nat) : Nat → Nat → List Nat
  | 0, _ => []
  | f + 1, v => if v = 0 then [] else (v % b) :: dgsF b f (v / b)
/-- The digits of a number, the least significant one first. -/
def dgs (b v : Nat) : List Nat := dgsF b v v
def Lt (b : Nat) (l : List Nat) : Prop := ∀ x ∈ l, x < b

theorem Lt.nil {b : Nat} : Lt b [] := fun _ h => absurd h (by simp)
theorem Lt.cons {b x : Nat} {l : List Nat} (hx : x < b) (h : Lt b l) : Lt b (x :: l) := by
  intro y hy
  rcases List.mem_cons.1 hy with rfl | hy
  · exact hx
  · exact h y hy
theorem Lt.head {b x : Nat} {l : List Nat} (h : Lt b (x :: l)) : x < b := h x (by simp)
theorem Lt.tail {b x : Nat} {l : List Nat} (h : Lt b (x :: l)) : Lt b l := fun y hy => h y (by simp [hy])
theorem Lt.app {b : Nat} {l m : List Nat} (h : Lt b l) (k : Lt b m) : Lt b (l ++ m) := by
  intro y hy
  rcases List.mem_append.1 hy with hy | hy
  · exact h y hy
  · exact k y hy
theorem Lt.rev {b : Nat} {l : List Nat} (h : Lt b l) : Lt b l.reverse := fun y hy => h y (by simpa using hy)
theorem Lt.set {b : Nat} {l : List Nat} (h : Lt b l) {i x : Nat} (hx : x < b) : Lt b (l.set i x) := by
  intro y hy
  rcases List.mem_or_eq_of_mem_set hy with hy | rfl
  · exact h y hy
  · exact hx
theorem Lt.left {b : Nat} {l m : List Nat} (h : Lt b (l ++ m)) : Lt b l := fun y hy => h y (by simp [hy])
theorem Lt.right {b : Nat} {l m : List Nat} (h : Lt b (l ++ m)) : Lt b m := fun y hy => h y (by simp [hy])

theorem dgsF_stop {b : Nat} (hb : 2 ≤ b) : ∀ (f g v : Nat), v ≤ f → v ≤ g → dgsF b f v = dgsF b g v := by
  intro f
  induction f with
  | zero =>
    intro g v hf hg
    have : v = 0 := by omega
    subst this
    cases g <;> simp [dgsF]
  | succ f ih =>
    intro g v hf hg
    cases g with
    | zero =>
      have : v = 0 := by omega
      subst this
      simp [dgsF]
    | succ g =>
      unfold dgsF
      by_cases hv : v = 0
      · simp [hv]
      · have hd : v / b < v := Nat.div_lt_self (by omega) (by omega)
        simp [hv, ih g (v / b) (by omega) (by omega)]
theorem dgs_zero (b : Nat) : dgs b 0 = [] := rfl
theorem dgs_pos {b v : Nat} (hb : 2 ≤ b) (hv : v ≠ 0) : dgs b v = (v % b) :: dgs b (v / b) := by
  have hd : v / b < v := Nat.div_lt_self (by omega) (by omega)
  unfold dgs
  obtain ⟨u, rfl⟩ : ∃ u, v = u + 1 := ⟨v - 1, by omega⟩
  rw [dgsF, if_neg hv, dgsF_stop hb u ((u + 1) / b) _ (by omega) (Nat.le_refl _)]
theorem dgs_lt {b : Nat} (hb : 2 ≤ b) (v : Nat) : Lt b (dgs b v) := by
  induction v using Nat.strongRecOn with
  | ind v ih =>
    by_cases hv : v = 0
    · subst hv; exact Lt.nil
    · rw [dgs_pos hb hv]
      exact Lt.cons (Nat.mod_lt _ (by omega)) (ih _ (Nat.div_lt_self (by omega) (by omega)))
theorem vl_dgs {b : Nat} (hb : 2 ≤ b) (v : Nat) : vl b (dgs b v) = v := by
  induction v using Nat.strongRecOn with
  | ind v ih =>
    by_cases hv : v = 0
    · subst hv; rfl
    · rw [dgs_pos hb hv, vl, ih _ (Nat.div_lt_self (by omega) (by omega))]
      exact Nat.mod_add_div v b
theorem vl_zero_iff {b : Nat} (hb : 2 ≤ b) {l : List Nat} (hl : Lt b l) : vl b l = 0 ↔ trimL l = [] := by
  induction l with
  | nil => simp [vl, trimL]
  | cons x l ih =>
    have ih := ih hl.tail
    rw [vl, trimL]
    cases ht : trimL l with
    | nil =>
      have h0 := ih.2 ht
      simp only [h0]
      by_cases hx : x = 0 <;> simp [hx]
    | cons y m =>
      have h0 : vl b l ≠ 0 := fun e => by rw [ih.1 e] at ht; cases ht
      have hm : 0 < b * vl b l := Nat.mul_pos (by omega) (by omega)
      simp
      omega
theorem dgs_vl {b : Nat} (hb : 2 ≤ b) {l : List Nat} (hl : Lt b l) : dgs b (vl b l) = trimL l := by
  induction l with
  | nil => rfl
  | cons x l ih =>
    have ih := ih hl.tail
    have hx := hl.head
    have hmod : (x + b * vl b l) % b = x := by rw [Nat.add_mul_mod_self_left]; exact Nat.mod_eq_of_lt hx
    have hdiv : (x + b * vl b l) / b = vl b l := by rw [Nat.add_mul_div_left _ _ (by omega), Nat.div_eq_of_lt hx, Nat.zero_add]
    rw [vl, trimL]
    cases ht : trimL l with
    | nil =>
      have h0 := (vl_zero_iff hb hl.tail).2 ht
      by_cases hx0 : x = 0
      · simp [h0, hx0, dgs_zero]
      · rw [dgs_pos hb (by omega), hmod, hdiv, h0, dgs_zero]
        simp [hx0]
    | cons y m =>
      have h0 : vl b l ≠ 0 := fun e => by rw [(vl_zero_iff hb hl.tail).1 e] at ht; cases ht
      have hm : 0 < b * vl b l := Nat.mul_pos (by omega) (by omega)
      rw [dgs_pos hb (by omega), hmod, hdiv, ih, ht]
theorem vl_append (b : Nat) (l m : List Nat) : vl b (l ++ m) = vl b l + b ^ l.length * vl b m := by
  induction l with
  | nil => simp [vl]
  | cons x l ih =>
    simp only [List.cons_append, vl, ih, List.length_cons, Nat.pow_succ, Nat.mul_add]
    rw [Nat.mul_comm (b ^ l.length) b, ← Nat.mul_assoc, Nat.add_assoc]
theorem vl_lt {b : Nat} {l : List Nat} (hl : Lt b l) : vl b l < b ^ l.length := by
  induction l with
  | nil => simp [vl]
  | cons x l ih =>
    have ih := ih hl.tail
    have hx := hl.head
    rw [vl, List.length_cons, Nat.pow_succ, Nat.mul_comm (b ^ l.length) b]
    have h1 : b * (vl b l + 1) ≤ b * b ^ l.length := Nat.mul_le_mul_left b ih
    rw [Nat.mul_add, Nat.mul_one] at h1
    omega
theorem trimL_length (l : List Nat) : (trimL l).length ≤ l.length := by
  induction l with
  | nil => simp [trimL]
  | cons x l ih =>
    rw [trimL]
    cases ht : trimL l with
    | nil => dsimp only; split <;> simp
    | cons y m => rw [ht] at ih; simp at ih ⊢; omega
theorem dgs_length {b : Nat} (hb : 2 ≤ b) (v k : Nat) : (dgs b v).length ≤ k ↔ v < b ^ k := by
  induction k generalizing v with
  | zero =>
    by_cases hv : v = 0
    · subst hv; simp [dgs_zero]
    · rw [dgs_pos hb hv]; simp; omega
  | succ k ih =>
    by_cases hv : v = 0
    · subst hv; simp [dgs_zero]; exact Nat.pow_pos (by omega)
    · rw [dgs_pos hb hv, List.length_cons, Nat.add_le_add_iff_right, ih, Nat.pow_succ]
      exact Nat.div_lt_iff_lt_mul (by omega)
theorem vl_replicate (b n : Nat) : vl b (List.replicate n 0) = 0 := by
  induction n with
  | zero => rfl
  | succ n ih => simp [List.replicate_succ, vl, ih]
theorem vl_set {b : Nat} {l : List Nat} {p : Nat} (hp : p < l.length) (y : Nat) : vl b (l.set p y) + b ^ p * l[p] = vl b l + b ^ p * y := by
  induction l generalizing p with
  | nil => simp at hp
  | cons x l ih =>
    cases p with
    | zero => simp [vl]; omega
    | succ p =>
      have h := ih (p := p) (by simpa using hp)
      have h2 := congrArg (b * ·) h
      simp only [Nat.mul_add] at h2
      simp only [List.set_cons_succ, vl, List.getElem_cons_succ, Nat.pow_succ, Nat.mul_comm (b ^ p) b, Nat.mul_assoc]
      omega
theorem set_rev (l : List Nat) (n x : Nat) (hn : n < l.length) : l.reverse.set n x = (l.set (l.length - 1 - n) x).reverse := by
  apply List.ext_getElem
  · simp
  · intro i h1 h2
    simp only [List.length_set, List.length_reverse] at h1 h2
    rw [List.getElem_set, List.getElem_reverse, List.getElem_reverse, List.getElem_set]
    simp only [List.length_set]
    by_cases hi : n = i
    · subst hi; simp
    · rw [if_neg hi, if_neg (by omega)]
theorem trimL_eq_of {b : Nat} (hb : 2 ≤ b) {l : List Nat} (hl : Lt b l) {v : Nat} (hv : vl b l = v) : trimL l = dgs b v := by rw [← hv, dgs_vl hb hl]
theorem trimL_trimL (l : List Nat) : trimL (trimL l) = trimL l := by
  induction l with
  | nil => rfl
  | cons x l ih =>
    rw [trimL]
    cases ht : trimL l with
    | nil => dsimp only; split <;> simp_all [trimL]
    | cons y m =>
      rw [ht] at ih
      dsimp only
      rw [trimL, ih]
theorem trimL_last (l : List Nat) (x : Nat) (hx : x ≠ 0) : trimL (l ++ [x]) = l ++ [x] := by
  induction l with
  | nil => simp [trimL, hx]
  | cons y l ih => rw [List.cons_append, trimL, ih]; cases l <;> rfl
theorem trimL_zero (l : List Nat) : trimL (l ++ [0]) = trimL l := by
  induction l with
  | nil => simp [trimL]
  | cons y l ih => rw [List.cons_append, trimL, ih, trimL]

/-! Digits to the base 256, the most significant one first. -/
def dig (v : Nat) : List Nat := (dgs 256 v).reverse
def val (l : List Nat) : Nat := vl 256 l.reverse
def cutL (l : List Nat) : List Nat := l.dropWhile (· == 0)

theorem cutL_rev (l : List Nat) : (cutL l.reverse).reverse = trimL l := by
  induction l with
  | nil => rfl
  | cons x l ih =>
    rw [List.reverse_cons, trimL, ← ih]
    unfold cutL
    rw [List.dropWhile_append]
    by_cases h : (List.dropWhile (fun x => x == 0) l.reverse).isEmpty = true
    · rw [if_pos h]
      rw [List.isEmpty_iff.1 h]
      by_cases hx : x = 0
      · simp [List.dropWhile, hx]
      · have hb : (x == 0) = false := by simp [hx]
        simp [List.dropWhile, hx, hb]
    · rw [if_neg h]
      rw [List.reverse_append]
      simp only [List.reverse_cons, List.reverse_nil, List.nil_append, List.singleton_append]
      cases hr : (List.dropWhile (fun x => x == 0) l.reverse).reverse with
      | nil => simp at hr; simp [hr] at h
      | cons y m => rfl
theorem cutL_eq {l : List Nat} (hl : Lt 256 l) : cutL l = dig (val l) := by
  have h := cutL_rev l.reverse
  rw [List.reverse_reverse] at h
  unfold dig val
  rw [dgs_vl (by omega) hl.rev, ← h, List.reverse_reverse]
theorem val_dig (v : Nat) : val (dig v) = v := by unfold val dig; rw [List.reverse_reverse, vl_dgs (by omega)]
theorem dig_lt (v : Nat) : Lt 256 (dig v) := (dgs_lt (by omega) v).rev
theorem dig_length (v k : Nat) : (dig v).length ≤ k ↔ v < 256 ^ k := by unfold dig; rw [List.length_reverse]; exact dgs_length (by omega) v k
theorem dig_zero : dig 0 = [] := rfl
theorem val_lt {l : List Nat} (hl : Lt 256 l) : val l < 256 ^ l.length := by have := vl_lt (b := 256) hl.rev; simpa [val] using this
theorem val_snoc (l : List Nat) (x : Nat) : val (l ++ [x]) = 256 * val l + x := by simp [val, vl]; omega
theorem val_cons (x : Nat) (l : List Nat) : val (x :: l) = x * 256 ^ l.length + val l := by
  simp only [val, List.reverse_cons, vl_append, List.length_reverse, vl]
  rw [Nat.mul_comm x, Nat.mul_zero, Nat.add_zero]; omega
theorem val_zero (n : Nat) : val (List.replicate n 0) = 0 := by simp [val, vl_replicate]
/-- The digit at a place, counted from the least significant one. -/
def digAt (l : List Nat) (i : Nat) : Nat := l.reverse.getD i 0
/-- The value of the k least significant digits. -/
def low (l : List Nat) (k : Nat) : Nat := vl 256 (l.reverse.take k)
theorem digAt_lt {l : List Nat} (h : Lt 256 l) (i : Nat) : digAt l i < 256 := by
  unfold digAt
  rw [List.getD_eq_getElem?_getD]
  cases hx : l.reverse[i]? with
  | none => simp
  | some y =>
    have := List.mem_of_getElem? hx
    exact h y (by simpa using this)
theorem low_zero (l : List Nat) : low l 0 = 0 := rfl
theorem low_succ' (l : List Nat) (k : Nat) : low l (k + 1) = low l k + 256 ^ k * digAt l k := by
  unfold low digAt
  by_cases hk : k < l.reverse.length
  · rw [List.take_succ_eq_append_getElem hk, vl_append, List.length_take, Nat.min_eq_left (by omega), List.getD_eq_getElem?_getD, List.getElem?_eq_getElem hk]
    simp [vl]
  · rw [List.take_of_length_le (by omega), List.take_of_length_le (by omega), List.getD_eq_getElem?_getD, List.getElem?_eq_none (by omega)]
    simp
theorem low_all' {l : List Nat} {k : Nat} (h : l.length ≤ k) : low l k = val l := by unfold low val; rw [List.take_of_length_le (by simpa using h)]
theorem vl_take {b : Nat} {l : List Nat} {k : Nat} (h : ∀ j, k ≤ j → j < l.length → l[j]? = some 0) : vl b (l.take k) = vl b l := by
  have h1 := vl_append b (l.take k) (l.drop k)
  rw [List.take_append_drop] at h1
  have h2 : l.drop k = List.replicate (l.length - k) 0 := by
    apply List.ext_getElem?
    intro i
    rw [List.getElem?_drop, List.getElem?_replicate]
    by_cases hi : i < l.length - k
    · rw [if_pos hi, h (k + i) (by omega) (by omega)]
    · rw [if_neg hi, List.getElem?_eq_none (by omega)]
  rw [h2, vl_replicate] at h1
  omega
theorem vl_lt_take {b : Nat} (hb : 1 ≤ b) {l : List Nat} (hl : Lt b l) {k : Nat} (h : ∀ j, k ≤ j → j < l.length → l[j]? = some 0) : vl b l < b ^ k := by
  rw [← vl_take h]
  have h1 := vl_lt (b := b) (l := l.take k) (fun y hy => hl y (List.mem_of_mem_take hy))
  have h2 : b ^ (l.take k).length ≤ b ^ k := Nat.pow_le_pow_right (by omega) (by simp; omega)
  omega
theorem low_succ {l : List Nat} {k : Nat} (hk : k < l.length) : low l (k + 1) = low l k + 256 ^ k * digAt l k := by
  unfold low digAt
  have hk' : k < l.reverse.length := by simpa using hk
  rw [List.take_succ_eq_append_getElem hk', vl_append, List.length_take, Nat.min_eq_left (by omega), List.getD_eq_getElem?_getD, List.getElem?_eq_getElem hk']
  simp [vl]
theorem low_all (l : List Nat) : low l l.length = val l := by unfold low val; rw [List.take_of_length_le (by simp)]
theorem low_le {l : List Nat} (h : Lt 256 l) (k : Nat) : low l k < 256 ^ k := by
  have h1 : Lt 256 (l.reverse.take k) := fun y hy => h.rev y (List.mem_of_mem_take hy)
  have h2 := vl_lt h1
  have h3 : 256 ^ (l.reverse.take k).length ≤ 256 ^ k := Nat.pow_le_pow_right (by omega) (by simp; omega)
  unfold low; omega
theorem low_mono (l : List Nat) (k : Nat) : low l k ≤ val l := by
  unfold low val
  have h := vl_append 256 (l.reverse.take k) (l.reverse.drop k)
  rw [List.take_append_drop] at h
  omega
/-- A valid number: canonical digits, at most 64. -/
def Nat64 (l : List Nat) : Prop := Lt 256 l ∧ cutL l = l ∧ l.length ≤ 64
theorem Nat64.dig {l : List Nat} (h : Nat64 l) : dig (val l) = l := by rw [← cutL_eq h.1]; exact h.2.1
theorem cutL_dig (v : Nat) : cutL (dig v) = dig v := by rw [cutL_eq (dig_lt v), val_dig]
theorem Nat64.of (v : Nat) (h : v < 256 ^ 64) : Nat64 (Proofs.YtaiiihdckdjpoaaGreatDoor.dig v) := ⟨dig_lt v, cutL_dig v, (dig_length v 64).2 h⟩
theorem Nat64.lt {l : List Nat} (h : Nat64 l) : val l < 256 ^ 64 := by
  have h1 := val_lt h.1
  have h2 : 256 ^ l.length ≤ 256 ^ 64 := Nat.pow_le_pow_right (by omega) h.2.2
  omega
theorem dig_inj {u v : Nat} (h : dig u = dig v) : u = v := by rw [← val_dig u, h, val_dig]
theorem dig_nil {v : Nat} : dig v = [] ↔ v = 0 := ⟨fun h => by rw [← val_dig v, h]; rfl, fun h => by rw [h]; rfl⟩
end Go.Proofs.YtaiiihdckdjpoaaGreatDoor

/-!
  A slice of bytes as the library's entries and a conversion to a string read it.
  Conditions: the slice reads as bytes.
-/
namespace Go.Proofs.YtaiiihdckdjpoaaGreatDoor
open Go.RowKit

/-- Bytes as a string. -/
def bstr (l : List Nat) : ByteArray := ⟨(l.map UInt8.ofNat).toArray⟩
theorem bytesOf_cast (l : List Nat) : Lib.bytesOf (l.map Int.ofNat) = l.map UInt8.ofNat := by
  simp [Lib.bytesOf]
section
variable {P : Program} {w : World} {A : Option Addr} {l : List Nat}
theorem run_bytesOfX (h : Rb w A l) {c : Nat} : (Extern.Bytes.bytesOf (.slice A l.length c)).run P w = .ok (bstr l) w := by
  cases l with
  | nil =>
    cases A with
    | none => rfl
    | some a => rfl
  | cons x l =>
    obtain ⟨b, off, rfl, hb, hc⟩ := h.1.all_ (by simp [cs8])
    have := Lib.run_loadBytesX (P := P) w ((x :: l).map Int.ofNat) ⟨b, off, none⟩ .empty (fun j y hj => by
      obtain ⟨hj1, hj2⟩ := List.getElem?_eq_some_iff.1 hj
      have e : (⟨b, off, none⟩ : Addr).add j = ⟨b, off + j, none⟩ := by unfold Addr.add; split <;> simp_all
      rw [e, hc j (by simpa [cs8] using hj1), ← hj2]
      simp only [cs8, List.getElem_map, by8]
      rfl)
    rw [List.length_map] at this
    show (Extern.Bytes.loadBytes _ _ _).run P w = _
    rw [this, bytesOf_cast]
    unfold bstr
    congr 2
    simp
theorem foldl_push (l : List Nat) (s : ByteArray) : (l.map Int.ofNat).foldl (fun r n => r.push (UInt8.ofNat n.toNat)) s = ⟨s.data ++ (l.map UInt8.ofNat).toArray⟩ := by
  induction l generalizing s with
  | nil => simp
  | cons x l ih =>
    simp only [List.map_cons, List.foldl_cons, ih]
    apply ByteArray.ext
    simp [ByteArray.push]
theorem addr_add (b off j : Nat) : (⟨b, off, none⟩ : Addr).add j = ⟨b, off + j, none⟩ := by unfold Addr.add; split <;> simp_all
/-- 'string(b)'. -/
theorem run_str {src dst e : TypeId} (hs : P.underlying src = some (.slice e)) (he : P.underlying e = some (.int .u8)) (hd : P.underlying dst = some .string) (h : Rb w A l) (c : Nat) :
    (convert src dst (.slice A l.length c)).run P w = .ok (.string (bstr l)) w := by
  rw [run_convert_bytes_string w src dst e A l.length c hs he hd]
  cases l with
  | nil =>
    cases A with
    | none => rfl
    | some a => rfl
  | cons x l =>
    obtain ⟨b, off, rfl, hb, hc⟩ := h.1.all_ (by simp [cs8])
    have h1 := run_loadCells_list (P := P) (w := w) ⟨b, off, none⟩ (((x :: l).map Int.ofNat).map (Value.int .u8)) (fun j v hv => by
      obtain ⟨hj1, hj2⟩ := List.getElem?_eq_some_iff.1 hv
      rw [addr_add, hc j (by simpa [cs8] using hj1), ← hj2]
      simp only [cs8, List.getElem_map, by8]
      rfl)
    rw [List.length_map, List.length_map] at h1
    rw [run_bytesToString w _ _ _ _ h1, foldl_push]
    congr 3
    simp
end
end Go.Proofs.YtaiiihdckdjpoaaGreatDoor

/-!
  Plain arithmetic: the groups of seven bits of a number.
  Conditions: none (no program is named here).
-/
namespace Go.Proofs.YtaiiihdckdjpoaaGreatDoor

/-- The groups of a number above 0, as octets. -/
def gl (n : Nat) : List Nat := ((dgs 128 (n / 128)).map (128 + ·)).reverse ++ [n % 128]
/-- What the iterator yields at the place i, counted from the last one. -/
def item (n i : Nat) : Nat × Bool := (n / 128 ^ i % 128, decide (0 < i))
/-- What it yields in all. -/
def items (n L : Nat) : List (Nat × Bool) := (List.range L).map fun j => item n (L - 1 - j)
/-- The octet of a group. -/
def oct (x : Nat × Bool) : Nat := if x.2 then 128 + x.1 else x.1
theorem items_length (n L : Nat) : (items n L).length = L := by simp [items]
theorem oct_lt {n i : Nat} : oct (item n i) < 256 := by
  have : n / 128 ^ i % 128 < 128 := Nat.mod_lt _ (by omega)
  unfold oct item; split <;> simp <;> omega
theorem items_lt {n L : Nat} {x : Nat × Bool} (h : x ∈ items n L) : x.1 < 128 := by
  simp only [items, List.mem_map, List.mem_range] at h
  obtain ⟨j, _, rfl⟩ := h
  exact Nat.mod_lt _ (by omega)
theorem items_take {n L j : Nat} (h : j < L) : (items n L).take (j + 1) = (items n L).take j ++ [item n (L - 1 - j)] := by
  rw [List.take_succ_eq_append_getElem (by rw [items_length]; exact h)]
  congr 1
  simp [items]
theorem am_eq (L : Nat) : ∀ m : Nat, m < 128 ^ L → (L ≠ 0 → 128 ^ (L - 1) ≤ m) → (List.range L).map (fun j => 128 + m / 128 ^ (L - 1 - j) % 128) = ((dgs 128 m).map (128 + ·)).reverse := by
  induction L with
  | zero => intro m h _; obtain rfl : m = 0 := by simpa using h
            rfl
  | succ L ih =>
    intro m h h1
    have h1 : 128 ^ L ≤ m := by simpa using h1
    have hp : 0 < 128 ^ L := Nat.pow_pos (by omega)
    rw [dgs_pos (by omega) (by omega), List.map_cons, List.reverse_cons, ← ih (m / 128) (by rw [Nat.pow_succ] at h; omega) (fun hL => by
      obtain ⟨K, rfl⟩ : ∃ K, L = K + 1 := ⟨L - 1, by omega⟩
      rw [Nat.pow_succ] at h1
      simp only [Nat.add_sub_cancel]
      omega), List.range_succ, List.map_append]
    simp only [List.map_cons, List.map_nil, Nat.add_sub_cancel, Nat.sub_self, Nat.pow_zero, Nat.div_one]
    congr 1
    apply List.map_congr_left
    intro j hj
    have hj := List.mem_range.1 hj
    rw [show L - j = (L - 1 - j) + 1 by omega, Nat.pow_succ, Nat.mul_comm, ← Nat.div_div_eq_div_mul]
theorem octs_eq {n L : Nat} (h : n < 128 ^ (L + 1)) (h1 : 128 ^ L ≤ n) : (items n (L + 1)).map oct = gl n := by
  unfold gl
  rw [← am_eq L (n / 128) (by rw [Nat.pow_succ] at h; omega) (fun hL => by
      obtain ⟨K, rfl⟩ : ∃ K, L = K + 1 := ⟨L - 1, by omega⟩
      rw [Nat.pow_succ] at h1
      simp only [Nat.add_sub_cancel]
      omega)]
  unfold items
  rw [List.map_map, List.range_succ, List.map_append]
  congr 1
  · apply List.map_congr_left
    intro j hj
    have hj := List.mem_range.1 hj
    simp only [Function.comp, oct, item, Nat.add_sub_cancel]
    rw [if_pos (by simp; omega), show L - j = (L - 1 - j) + 1 by omega, Nat.pow_succ, Nat.mul_comm, ← Nat.div_div_eq_div_mul]
  · simp [oct, item]
/-- How many groups there are behind the first one. -/
def gk (n : Nat) : Nat := (Lib.bitLen n - 1) / 7
theorem gk_spec {n : Nat} (h : 0 < n) (h64 : n < 2 ^ 64) : n < 128 ^ (gk n + 1) ∧ 128 ^ gk n ≤ n := by
  obtain ⟨h1, h2, h3⟩ := Lib.bitLenAux_bounds 64 n h64 (by omega)
  change 1 ≤ Lib.bitLen n at h1
  change 2 ^ (Lib.bitLen n - 1) ≤ n at h2
  change n < 2 ^ Lib.bitLen n at h3
  unfold gk
  rw [show 128 = 2 ^ 7 from rfl, ← Nat.pow_mul, ← Nat.pow_mul]
  exact ⟨Nat.lt_of_lt_of_le h3 (Nat.pow_le_pow_right (by omega) (by omega)), Nat.le_trans (Nat.pow_le_pow_right (by omega) (by omega)) h2⟩
theorem gk_le {n : Nat} (h : n < 268435456) : gk n ≤ 3 := by
  have := Lib.bitLen_le n 28 (by omega) h
  unfold gk; omega
theorem gl_of {n : Nat} (h : 0 < n) (h64 : n < 2 ^ 64) : (items n (gk n + 1)).map oct = gl n := octs_eq (gk_spec h h64).1 (gk_spec h h64).2
theorem gl_length {n : Nat} (h : 0 < n) (h64 : n < 2 ^ 64) : (gl n).length = gk n + 1 := by rw [← gl_of h h64, List.length_map, items_length]
end Go.Proofs.YtaiiihdckdjpoaaGreatDoor

/-!
  Strings and lists of bytes.
  Conditions: none (no program is named here).
-/
namespace Go.Proofs.YtaiiihdckdjpoaaGreatDoor
open Go.RowKit

/-- The letters of a string. -/
def sl (s : ByteArray) : List Nat := s.data.toList.map UInt8.toNat
theorem bstr_sl (s : ByteArray) : bstr (sl s) = s := by
  apply ByteArray.ext
  unfold bstr sl
  rw [List.map_map]
  have : (UInt8.ofNat ∘ UInt8.toNat) = id := by funext x; simp
  rw [this, List.map_id]
theorem sl_all (s : ByteArray) : All8 (sl s) := by
  intro x hx
  simp only [sl, List.mem_map] at hx
  obtain ⟨y, _, rfl⟩ := hx
  exact y.toNat_lt
theorem bstr_list (l : List Nat) : (bstr l).data.toList = l.map UInt8.ofNat := by unfold bstr; simp
theorem sl_bstr {l : List Nat} (h : All8 l) : sl (bstr l) = l := by
  unfold sl
  rw [bstr_list, List.map_map]
  conv => rhs; rw [← List.map_id l]
  apply List.map_congr_left
  intro x hx
  simp only [Function.comp, id]
  exact UInt8.toNat_ofNat_of_lt' (h x hx)
theorem bstr_inj {l m : List Nat} (hl : All8 l) (hm : All8 m) (h : bstr l = bstr m) : l = m := by rw [← sl_bstr hl, h, sl_bstr hm]
theorem bstr_ne {l m : List Nat} (hl : All8 l) (hm : All8 m) (h : l ≠ m) : ((bstr l).toList == (bstr m).toList) = false := by
  rw [beq_eq_false_iff_ne, ByteArray.toList_eq, ByteArray.toList_eq]
  intro e
  refine h (bstr_inj hl hm (ByteArray.ext ?_))
  exact Array.toList_inj.1 e
theorem bstr_ne' {l m : List Nat} (hl : All8 l) (hm : All8 m) (h : l ≠ m) : ((bstr l).toList != (bstr m).toList) = true := by
  rw [bne, bstr_ne hl hm h]; rfl
theorem bstr_self (s : ByteArray) : (s.toList == s.toList) = true := by rw [beq_iff_eq]
theorem bstr_size (l : List Nat) : (bstr l).size = l.length := by unfold bstr; simp [ByteArray.size]
theorem bstr_app (l m : List Nat) : bstr l ++ bstr m = bstr (l ++ m) := by
  apply ByteArray.ext
  rw [ByteArray.data_append]
  unfold bstr
  rw [List.map_append]
  simp
theorem bstr_dec {l m : List Nat} (hl : All8 l) (hm : All8 m) : ((bstr l).toList == (bstr m).toList) = decide (l = m) := by
  by_cases h : l = m
  · subst h; rw [bstr_self, decide_eq_true rfl]
  · rw [bstr_ne hl hm h, decide_eq_false h]
end Go.Proofs.YtaiiihdckdjpoaaGreatDoor
