/-
  Contracts and facts of layers 1 to 10 that later statements rest on: part C (Mem Num Str Str2).
  Conditions: as each says.
-/
import Derived.WalkKit
import Derived.Lib.Hide
import Derived.Deep.Draws
import Derived.Lib.BytesEntry
import Derived.Laws.BytesString
import Derived.Laws.Strings
set_option maxRecDepth 100000
namespace Go.Proofs.Ytfbdeefeagednaa
open Go.RowKit
/-- The slice header's address A reads as the cells xs. -/
def Rd (w : World) (A : Option Addr) (xs : List Value) : Prop :=
  xs ≠ [] → ∃ b off, A = some ⟨b, off, none⟩ ∧ b < w.heap.size ∧ ∀ j u, xs[j]? = some u → w.cell? ⟨b, off + j, none⟩ = some u
/-- A byte. -/
def by8 (x : Nat) : Value := .int .u8 (x : Int)
/-- A list of bytes as cells. -/
def cs8 (l : List Nat) : List Value := l.map by8
/-- All are bytes. -/
def All8 (l : List Nat) : Prop := ∀ x ∈ l, x < 256
/-- The bytes l at A. -/
def Rb (w : World) (A : Option Addr) (l : List Nat) : Prop := Rd w A (cs8 l) ∧ All8 l
theorem All8.nil : All8 [] := fun _ h => absurd h (by simp)
theorem All8.cons {x : Nat} {l : List Nat} (hx : x < 256) (h : All8 l) : All8 (x :: l) := by
  intro y hy
  rcases List.mem_cons.1 hy with rfl | hy
  · exact hx
  · exact h y hy
theorem All8.append {l m : List Nat} (h : All8 l) (k : All8 m) : All8 (l ++ m) := by
  intro y hy
  rcases List.mem_append.1 hy with hy | hy
  · exact h y hy
  · exact k y hy
theorem All8.drop {l : List Nat} (h : All8 l) (k : Nat) : All8 (l.drop k) := fun y hy => h y (List.mem_of_mem_drop hy)
theorem All8.take {l : List Nat} (h : All8 l) (k : Nat) : All8 (l.take k) := fun y hy => h y (List.mem_of_mem_take hy)
theorem All8.get {l : List Nat} (h : All8 l) {k : Nat} (hk : k < l.length) : l[k] < 256 := h _ (List.getElem_mem hk)
section
variable {w w' : World} {A : Option Addr} {xs : List Value} {l : List Nat}
theorem Rd.nil : Rd w A [] := fun h => absurd rfl h
theorem Rd.keep (h : Rd w A xs) (hz : w.heap.size ≤ w'.heap.size) (hk : ∀ p : Addr, p.block < w.heap.size → w'.cell? p = w.cell? p) : Rd w' A xs := fun hn => by
  obtain ⟨b, off, e, hb, hc⟩ := h hn
  exact ⟨b, off, e, by omega, fun j u hu => (hk ⟨b, off + j, none⟩ hb).trans (hc j u hu)⟩
theorem Rd.below (h : Rd w A xs) (hb : Below w.heap.size w w') : Rd w' A xs := h.keep hb.size fun _ hp => hb.cell hp
theorem Rd.at_ {k : Nat} (h : Rd w A xs) (hk : k < xs.length) : ∃ b off, A = some ⟨b, off, none⟩ ∧ b < w.heap.size ∧ w.cell? ⟨b, off + k, none⟩ = some xs[k] := by
  obtain ⟨b, off, e, hb, hc⟩ := h (by intro e; subst e; simp at hk)
  exact ⟨b, off, e, hb, hc k _ (List.getElem?_eq_getElem hk)⟩
theorem Rd.all_ (h : Rd w A xs) (hk : 0 < xs.length) : ∃ b off, A = some ⟨b, off, none⟩ ∧ b < w.heap.size ∧ ∀ j, (hj : j < xs.length) → w.cell? ⟨b, off + j, none⟩ = some xs[j] := by
  obtain ⟨b, off, e, hb, hc⟩ := h (by intro e; subst e; simp at hk)
  exact ⟨b, off, e, hb, fun j hj => hc j _ (List.getElem?_eq_getElem hj)⟩
theorem Rb.below (h : Rb w A l) (hb : Below w.heap.size w w') : Rb w' A l := ⟨h.1.below hb, h.2⟩
theorem Rd.far {B o : Nat} (h : Rd w A xs) (hA : ∀ q, A = some q → q.block ≠ B) (u : Value) : Rd (w.setCell ⟨B, o, none⟩ u) A xs := fun hn => by
  obtain ⟨b, off, e, hb, hc⟩ := h hn
  have hne := hA _ e
  exact ⟨b, off, e, by simpa [World.setCell] using hb, fun j v hv => (World.cell?_setCell_other w ⟨B, o, none⟩ ⟨b, off + j, none⟩ u (fun e => hne (by injection e with e; exact e.symm))).trans (hc j v hv)⟩
theorem Rb.far {B o : Nat} (h : Rb w A l) (hA : ∀ q, A = some q → q.block ≠ B) (u : Value) : Rb (w.setCell ⟨B, o, none⟩ u) A l := ⟨h.1.far hA u, h.2⟩
theorem Rb.nil : Rb w A [] := ⟨Rd.nil, All8.nil⟩
theorem Rb.at_ {k : Nat} (h : Rb w A l) (hk : k < l.length) : ∃ b off, A = some ⟨b, off, none⟩ ∧ b < w.heap.size ∧ l[k] < 256 ∧ w.cell? ⟨b, off + k, none⟩ = some (.int .u8 (l[k] : Int)) := by
  obtain ⟨b, off, e, hb, hc⟩ := h.1.at_ (k := k) (by simpa [cs8] using hk)
  exact ⟨b, off, e, hb, h.2.get hk, by simpa [cs8, by8] using hc⟩
end
/-- Block g is just the cells cs of type t; none is frozen. -/
def Bk (w : World) (g : Nat) (t : TypeId) (cs : List Value) : Prop := w.heap[g]? = some (.cells cs.toArray t (0, 0))
section
variable {w w' : World} {g : Nat} {t : TypeId} {cs : List Value}
theorem Bk.lt (h : Bk w g t cs) : g < w.heap.size := by
  rcases Nat.lt_or_ge g w.heap.size with hlt | hge
  · exact hlt
  · unfold Bk at h; rw [Array.getElem?_eq_none hge] at h; cases h
theorem Bk.cell (h : Bk w g t cs) (i : Nat) : w.cell? ⟨g, i, none⟩ = cs[i]? := by
  have := cell_of_row w g i cs.toArray t (0, 0) h
  simpa using this
theorem Bk.free (h : Bk w g t cs) (i : Nat) : w.frozen? ⟨g, i, none⟩ = false := by
  unfold Bk at h; simp [World.frozen?, h]
theorem Bk.new (w : World) (t : TypeId) (cs : List Value) : Bk (w.alloc (.cells cs.toArray t)) w.heap.size t cs := heap_alloc_new w _
theorem Bk.alloc (h : Bk w g t cs) (o : Obj) : Bk (w.alloc o) g t cs := (Below.heap_alloc w o g h.lt).trans h
theorem Bk.store (h : Bk w g t cs) (i : Nat) (u : Value) : Bk (w.setCell ⟨g, i, none⟩ u) g t (cs.set i u) := by
  unfold Bk at h ⊢
  simp [World.setCell, Array.getElem?_modify, h]
theorem Bk.far (h : Bk w g t cs) {p : Addr} (hp : g ≠ p.block) (u : Value) : Bk (w.setCell p u) g t cs := (Below.heap_setCell w p u g hp).trans h
theorem Bk.below {B : Nat} (h : Bk w g t cs) (hb : Below B w w') (hg : g < B) : Bk w' g t cs := (hb.block g hg).trans h
theorem Bk.only {row : Option Nat} (h : Bk w g t cs) (hb : w.grownBy w' row) (hg : some g ≠ row) : Bk w' g t cs := (hb.block g h.lt hg).trans h
theorem Bk.rd (h : Bk w g t cs) (k : Nat) : Rd w (some ⟨g, k, none⟩) (cs.drop k) := fun _ => ⟨g, k, rfl, h.lt, fun j u hu => by rw [h.cell, ← hu, List.getElem?_drop]⟩
end
section
variable {a w w' : World} {g : Nat}
theorem only_refl (w : World) (row : Option Nat) : w.grownBy w row := World.grownBy.refl w row
theorem only_store (h : a.grownBy w (some g)) (i : Nat) (u : Value) : a.grownBy (w.setCell ⟨g, i, none⟩ u) (some g) :=
  ⟨h.os, h.tape, h.output, by simpa [World.setCell] using h.size, fun k hk hne => (Below.heap_setCell w ⟨g, i, none⟩ u k (by rintro rfl; exact hne rfl)).trans (h.block k hk hne)⟩
theorem only_below {B : Nat} (h : a.grownBy w (some g)) (hg : B ≤ g) (hB : B ≤ a.heap.size) : Below B a w :=
  (Below.refl B a).grown h hB (fun k e => by injection e with e; omega)
theorem Rd.only {A : Option Addr} {xs : List Value} {B : Nat} (h : Rd a A xs) (hA : ∀ q, A = some q → xs ≠ [] → q.block < B) (k : a.grownBy w (some g)) (hg : B ≤ g) : Rd w A xs := fun hn => by
  obtain ⟨b, off, e, hb, hc⟩ := h hn
  have hbB := hA _ e hn
  exact ⟨b, off, e, Nat.lt_of_lt_of_le hb k.size, fun j u hu => (World.cell?_of_block (w := a) (k.block b hb (fun e => by injection e with e; simp at hbB; omega))).trans (hc j u hu)⟩
end
def int64 (x : Nat) : Value := .int .i64 (x : Int)
def csI (l : List Nat) : List Value := l.map int64
theorem csI_length (l : List Nat) : (csI l).length = l.length := by unfold csI; rw [List.length_map]
def Ri (w : World) (A : Option Addr) (l : List Nat) : Prop := Rd w A (csI l)
section
variable {w w' : World} {A : Option Addr} {l : List Nat}
theorem Ri.below (h : Ri w A l) (hb : Below w.heap.size w w') : Ri w' A l := Rd.below h hb
theorem Ri.nil : Ri w A [] := Rd.nil
theorem Ri.at_ {k : Nat} (h : Ri w A l) (hk : k < l.length) : ∃ b off, A = some ⟨b, off, none⟩ ∧ b < w.heap.size ∧ w.cell? ⟨b, off + k, none⟩ = some (.int .i64 (l[k] : Int)) := by
  obtain ⟨b, off, e, hb, hc⟩ := Rd.at_ h (k := k) (by rw [csI_length]; exact hk)
  exact ⟨b, off, e, hb, by simpa [csI, int64] using hc⟩
end
end Go.Proofs.Ytfbdeefeagednaa
namespace Go.Proofs.Ytfbdeefeagednaa
/-- The value of digits, the least significant one first. -/
def vl (b : Nat) : List Nat → Nat
  | [] => 0
  | x :: l => x + b * vl b l
/-- Without zeros at the end. -/
def trimL : List Nat → List Nat
  | [] => []
  | x :: l => match trimL l with
    | [] => if x = 0 then [] else [x]
    | y :: m => x :: y :: m
/-- The digits of a number, with fuel. -/
def dgsF (b : Nat) : Nat → Nat → List Nat
  | 0, _ => []
  | f + 1, v => if v = 0 then [] else (v % b) :: dgsF b f (v / b)
/-- The digits of a number, the least significant one first. -/
def dgs (b v : Nat) : List Nat := dgsF b v v
def Lt (b : Nat) (l : List Nat) : Prop := ∀ x ∈ l, x < b
theorem Lt.nil {b : Nat} : Lt b [] := fun _ h => absurd h (by simp)
theorem Lt.cons {b x : Nat} {l : List Nat} (hx : x < b) (h : Lt b l) : Lt b (x :: l) := by
  intro y hy
  rcases List.mem_cons.1 hy with rfl | hy
  · exact hx
  · exact h y hy
theorem Lt.head {b x : Nat} {l : List Nat} (h : Lt b (x :: l)) : x < b := h x (by simp)
theorem Lt.tail {b x : Nat} {l : List Nat} (h : Lt b (x :: l)) : Lt b l := fun y hy => h y (by simp [hy])
theorem Lt.rev {b : Nat} {l : List Nat} (h : Lt b l) : Lt b l.reverse := fun y hy => h y (by simpa using hy)
theorem Lt.set {b : Nat} {l : List Nat} (h : Lt b l) {i x : Nat} (hx : x < b) : Lt b (l.set i x) := by
  intro y hy
  rcases List.mem_or_eq_of_mem_set hy with hy | rfl
  · exact h y hy
  · exact hx
theorem Lt.left {b : Nat} {l m : List Nat} (h : Lt b (l ++ m)) : Lt b l := fun y hy => h y (by simp [hy])
theorem Lt.right {b : Nat} {l m : List Nat} (h : Lt b (l ++ m)) : Lt b m := fun y hy => h y (by simp [hy])
theorem dgsF_stop {b : Nat} (hb : 2 ≤ b) : ∀ (f g v : Nat), v ≤ f → v ≤ g → dgsF b f v = dgsF b g v := by
  intro f
  induction f with
  | zero =>
    intro g v hf hg
    have : v = 0 := by omega
    subst this
    cases g <;> simp [dgsF]
  | succ f ih =>
    intro g v hf hg
    cases g with
    | zero =>
      have : v = 0 := by omega
      subst this
      simp [dgsF]
    | succ g =>
      unfold dgsF
      by_cases hv : v = 0
      · simp [hv]
      · have hd : v / b < v := Nat.div_lt_self (by omega) (by omega)
        simp [hv, ih g (v / b) (by omega) (by omega)]
theorem dgs_zero (b : Nat) : dgs b 0 = [] := rfl
theorem dgs_pos {b v : Nat} (hb : 2 ≤ b) (hv : v ≠ 0) : dgs b v = (v % b) :: dgs b (v / b) := by
  have hd : v / b < v := Nat.div_lt_self (by omega) (by omega)
  unfold dgs
  obtain ⟨u, rfl⟩ : ∃ u, v = u + 1 := ⟨v - 1, by omega⟩
  rw [dgsF, if_neg hv, dgsF_stop hb u ((u + 1) / b) _ (by omega) (Nat.le_refl _)]
theorem dgs_lt {b : Nat} (hb : 2 ≤ b) (v : Nat) : Lt b (dgs b v) := by
  induction v using Nat.strongRecOn with
  | ind v ih =>
    by_cases hv : v = 0
    · subst hv; exact Lt.nil
    · rw [dgs_pos hb hv]
      exact Lt.cons (Nat.mod_lt _ (by omega)) (ih _ (Nat.div_lt_self (by omega) (by omega)))
theorem vl_dgs {b : Nat} (hb : 2 ≤ b) (v : Nat) : vl b (dgs b v) = v := by
  induction v using Nat.strongRecOn with
  | ind v ih =>
    by_cases hv : v = 0
    · subst hv; rfl
    · rw [dgs_pos hb hv, vl, ih _ (Nat.div_lt_self (by omega) (by omega))]
      exact Nat.mod_add_div v b
theorem vl_zero_iff {b : Nat} (hb : 2 ≤ b) {l : List Nat} (hl : Lt b l) : vl b l = 0 ↔ trimL l = [] := by
  induction l with
  | nil => simp [vl, trimL]
  | cons x l ih =>
    have ih := ih hl.tail
    rw [vl, trimL]
    cases ht : trimL l with
    | nil =>
      have h0 := ih.2 ht
      simp only [h0]
      by_cases hx : x = 0 <;> simp [hx]
    | cons y m =>
      have h0 : vl b l ≠ 0 := fun e => by rw [ih.1 e] at ht; cases ht
      have hm : 0 < b * vl b l := Nat.mul_pos (by omega) (by omega)
      simp
      omega
theorem dgs_vl {b : Nat} (hb : 2 ≤ b) {l : List Nat} (hl : Lt b l) : dgs b (vl b l) = trimL l := by
  induction l with
  | nil => rfl
  | cons x l ih =>
    have ih := ih hl.tail
    have hx := hl.head
    have hmod : (x + b * vl b l) % b = x := by rw [Nat.add_mul_mod_self_left]; exact Nat.mod_eq_of_lt hx
    have hdiv : (x + b * vl b l) / b = vl b l := by rw [Nat.add_mul_div_left _ _ (by omega), Nat.div_eq_of_lt hx, Nat.zero_add]
    rw [vl, trimL]
    cases ht : trimL l with
    | nil =>
      have h0 := (vl_zero_iff hb hl.tail).2 ht
      by_cases hx0 : x = 0
      · simp [h0, hx0, dgs_zero]
      · rw [dgs_pos hb (by omega), hmod, hdiv, h0, dgs_zero]
        simp [hx0]
    | cons y m =>
      have h0 : vl b l ≠ 0 := fun e => by rw [(vl_zero_iff hb hl.tail).1 e] at ht; cases ht
      have hm : 0 < b * vl b l := Nat.mul_pos (by omega) (by omega)
      rw [dgs_pos hb (by omega), hmod, hdiv, ih, ht]
theorem vl_lt {b : Nat} {l : List Nat} (hl : Lt b l) : vl b l < b ^ l.length := by
  induction l with
  | nil => simp [vl]
  | cons x l ih =>
    have ih := ih hl.tail
    have hx := hl.head
    rw [vl, List.length_cons, Nat.pow_succ, Nat.mul_comm (b ^ l.length) b]
    have h1 : b * (vl b l + 1) ≤ b * b ^ l.length := Nat.mul_le_mul_left b ih
    rw [Nat.mul_add, Nat.mul_one] at h1
    omega
theorem dgs_length {b : Nat} (hb : 2 ≤ b) (v k : Nat) : (dgs b v).length ≤ k ↔ v < b ^ k := by
  induction k generalizing v with
  | zero =>
    by_cases hv : v = 0
    · subst hv; simp [dgs_zero]
    · rw [dgs_pos hb hv]; simp; omega
  | succ k ih =>
    by_cases hv : v = 0
    · subst hv; simp [dgs_zero]; exact Nat.pow_pos (by omega)
    · rw [dgs_pos hb hv, List.length_cons, Nat.add_le_add_iff_right, ih, Nat.pow_succ]
      exact Nat.div_lt_iff_lt_mul (by omega)
def dig (v : Nat) : List Nat := (dgs 256 v).reverse
def val (l : List Nat) : Nat := vl 256 l.reverse
def cutL (l : List Nat) : List Nat := l.dropWhile (· == 0)
theorem cutL_rev (l : List Nat) : (cutL l.reverse).reverse = trimL l := by
  induction l with
  | nil => rfl
  | cons x l ih =>
    rw [List.reverse_cons, trimL, ← ih]
    unfold cutL
    rw [List.dropWhile_append]
    by_cases h : (List.dropWhile (fun x => x == 0) l.reverse).isEmpty = true
    · rw [if_pos h]
      rw [List.isEmpty_iff.1 h]
      by_cases hx : x = 0
      · simp [List.dropWhile, hx]
      · have hb : (x == 0) = false := by simp [hx]
        simp [List.dropWhile, hx, hb]
    · rw [if_neg h]
      rw [List.reverse_append]
      simp only [List.reverse_cons, List.reverse_nil, List.nil_append, List.singleton_append]
      cases hr : (List.dropWhile (fun x => x == 0) l.reverse).reverse with
      | nil => simp at hr; simp [hr] at h
      | cons y m => rfl
theorem cutL_eq {l : List Nat} (hl : Lt 256 l) : cutL l = dig (val l) := by
  have h := cutL_rev l.reverse
  rw [List.reverse_reverse] at h
  unfold dig val
  rw [dgs_vl (by omega) hl.rev, ← h, List.reverse_reverse]
theorem val_dig (v : Nat) : val (dig v) = v := by unfold val dig; rw [List.reverse_reverse, vl_dgs (by omega)]
theorem dig_lt (v : Nat) : Lt 256 (dig v) := (dgs_lt (by omega) v).rev
theorem dig_length (v k : Nat) : (dig v).length ≤ k ↔ v < 256 ^ k := by unfold dig; rw [List.length_reverse]; exact dgs_length (by omega) v k
theorem dig_zero : dig 0 = [] := rfl
theorem val_lt {l : List Nat} (hl : Lt 256 l) : val l < 256 ^ l.length := by have := vl_lt (b := 256) hl.rev; simpa [val] using this
/-- A valid number: canonical digits, at most 64. -/
def Nat64 (l : List Nat) : Prop := Lt 256 l ∧ cutL l = l ∧ l.length ≤ 64
theorem Nat64.dig {l : List Nat} (h : Nat64 l) : dig (val l) = l := by rw [← cutL_eq h.1]; exact h.2.1
theorem cutL_dig (v : Nat) : cutL (dig v) = dig v := by rw [cutL_eq (dig_lt v), val_dig]
theorem Nat64.of (v : Nat) (h : v < 256 ^ 64) : Nat64 (Proofs.Ytfbdeefeagednaa.dig v) := ⟨dig_lt v, cutL_dig v, (dig_length v 64).2 h⟩
theorem Nat64.lt {l : List Nat} (h : Nat64 l) : val l < 256 ^ 64 := by
  have h1 := val_lt h.1
  have h2 : 256 ^ l.length ≤ 256 ^ 64 := Nat.pow_le_pow_right (by omega) h.2.2
  omega
end Go.Proofs.Ytfbdeefeagednaa
namespace Go.Proofs.Ytfbdeefeagednaa
open Go.RowKit
/-- Bytes as a string. -/
def bstr (l : List Nat) : ByteArray := ⟨(l.map UInt8.ofNat).toArray⟩
theorem bytesOf_cast (l : List Nat) : Lib.bytesOf (l.map Int.ofNat) = l.map UInt8.ofNat := by
  simp [Lib.bytesOf]
section
variable {P : Program} {w : World} {A : Option Addr} {l : List Nat}
theorem run_bytesOfX (h : Rb w A l) {c : Nat} : (Extern.Bytes.bytesOf (.slice A l.length c)).run P w = .ok (bstr l) w := by
  cases l with
  | nil =>
    cases A with
    | none => rfl
    | some a => rfl
  | cons x l =>
    obtain ⟨b, off, rfl, hb, hc⟩ := h.1.all_ (by simp [cs8])
    have := Lib.run_loadBytesX (P := P) w ((x :: l).map Int.ofNat) ⟨b, off, none⟩ .empty (fun j y hj => by
      obtain ⟨hj1, hj2⟩ := List.getElem?_eq_some_iff.1 hj
      have e : (⟨b, off, none⟩ : Addr).add j = ⟨b, off + j, none⟩ := by unfold Addr.add; split <;> simp_all
      rw [e, hc j (by simpa [cs8] using hj1), ← hj2]
      simp only [cs8, List.getElem_map, by8]
      rfl)
    rw [List.length_map] at this
    show (Extern.Bytes.loadBytes _ _ _).run P w = _
    rw [this, bytesOf_cast]
    unfold bstr
    congr 2
    simp
theorem addr_add (b off j : Nat) : (⟨b, off, none⟩ : Addr).add j = ⟨b, off + j, none⟩ := by unfold Addr.add; split <;> simp_all
end
end Go.Proofs.Ytfbdeefeagednaa
namespace Go.Proofs.Ytfbdeefeagednaa
open Go.RowKit
/-- The letters of a string. -/
def sl (s : ByteArray) : List Nat := s.data.toList.map UInt8.toNat
theorem bstr_size (l : List Nat) : (bstr l).size = l.length := by unfold bstr; simp [ByteArray.size]
end Go.Proofs.Ytfbdeefeagednaa
