/-
  A range over a function that writes a box of its own between two rounds: the law for its caller.
  Conditions: the box lies below the loop's own blocks, and the caller's invariant does not speak of it.
-/
import Derived.Test.YtndamidmgglneaaDoorOidI
namespace Go.Proofs.YtndamidmgglneaaDoor
open Go.RowKit Go.Shelf

/-- These blocks are as they were. -/
def KeepH (bs : List Nat) (A B : World) : Prop := ∀ i ∈ bs, B.heap[i]? = A.heap[i]?
theorem KeepH.trans {bs : List Nat} {A B C : World} (h : KeepH bs A B) (k : KeepH bs B C) : KeepH bs A C := fun i hi => (k i hi).trans (h i hi)
theorem KeepH.put {bs : List Nat} {W : World} {l : Nat} {o : Obj} (h : ∀ i ∈ bs, i ≠ l) : KeepH bs W (W.putObj l o) := fun i hi => World.putObj_heap_other (h i hi)
/-- What an iterator promises that writes into block b between two rounds. -/
def SeqB {α : Type} (n : Nat) (P : Program) (gf : Nat) (lb : Array Value) (encs : α → Array Value) (bs : List Nat) (b : Nat) (Ok : List α → α → Prop) (S Sp : List α → Prop) (N : Nat) (w : World) : Prop :=
  ∀ (l : Nat) (J Jx : List α → World → Prop) (W : World), KeepH bs w W → (∀ s W v, J s W → J s (W.setCell ⟨b, 0, none⟩ v)) →
    (∀ pre x W1, Ok pre x → J pre W1 → pre.length < N → YieldAt Fence.wide (n - 1) P l (encs x) W1 fun e W' => (e = .returned (.bool true) ∧ J (pre ++ [x]) W' ∧ KeepH bs W1 W') ∨ (e = .returned (.bool false) ∧ Jx (pre ++ [x]) W')) →
    J [] W → CallsIn Fence.wide n P gf (#[.func (.yield l) #[] #[]] ++ lb) W fun e W' => (∃ v, e = .returned v) ∧ ((∃ xs, S xs ∧ J xs W') ∨ (∃ pre, Sp pre ∧ Jx pre W'))
theorem setCell_heap {W : World} {b k : Nat} (h : k ≠ b) (v : Value) : (W.setCell ⟨b, 0, none⟩ v).heap[k]? = W.heap[k]? := Below.heap_setCell W ⟨b, 0, none⟩ v k h

/-- The law. -/
theorem range_b {α : Type} {n : Nat} {P : Program} {g : Operand} {ps : Array Tmp} {assign body : Code} {Q : Exit → Act → World → Prop} {a : Act} {w : World} (h1 : 1 ≤ n) {gf : Nat} {lb : Array Value}
    (hg : a.eval g = .func (.func gf) #[] lb) (eg : ∀ args w, (callFunc gf args).run P w = .ok (.enter gf args) w) {encs : α → Array Value} {bs : List Nat} {b : Nat} (hbs : ∀ i ∈ bs, i < w.heap.size) (hb : b ∈ bs) {Ok : List α → α → Prop} {S Sp : List α → Prop} {N : Nat}
    (hseq : SeqB (n - 1) P gf lb encs bs b Ok S Sp N w) (hps : ∀ x, (encs x).size = ps.size) (I : List α → World → Prop) (Ix : Code → List α → World → Prop)
    (hI : OwnFrom w.heap.size I) (hIb : ∀ s W v, I s W → I s (W.setCell ⟨b, 0, none⟩ v)) (hIx : ∀ c, OwnFrom w.heap.size (Ix c)) (h0 : I [] w) (a₁ : α → Act)
    (hassign : ∀ (l : Nat) (x : α) (W : World) (K : Act → World → Prop), K (a₁ x) W → assign.wpIn (Fence.wide.inRound l) (n - 1 - 1) P (Exit.then K (fun _ _ _ => False)) { tmps := (ps.zip (encs x)).foldl (fun t (p, v) => t.setIfInBounds p v) a.tmps, defers := [] } W)
    (hbody : ∀ (l : Nat) (pre : List α) (x : α) (W : World), Ok pre x → I pre W → pre.length < N → body.wpIn (Fence.wide.inRound l) (n - 1 - 1) P (ownPostK (KeepH bs) I Ix (pre ++ [x]) W) (a₁ x) W)
    (hdone : ∀ (D : Nat) (xs : List α) (W : World), w.heap.size ≤ D → S xs → I xs W → W.heap[D]? = some (.deferred (some [])) → Q .normal { a with defers := mkD D :: a.defers } W)
    (hstop : ∀ (D : Nat) (c : Code) (pre : List α) (W : World), w.heap.size ≤ D → Sp pre → Ix c pre W → W.heap[D]? = some (.deferred (some [])) → c.wpIn Fence.wide n P Q { a with defers := mkD D :: a.defers } W) :
    (Code.rangeFunc g ps assign body).wpIn Fence.wide n P Q a w := by
  have hbw := hbs b hb
  refine wpIn_rangeFunc fun fn hfn => ?_
  -- the two blocks that the loop lays
  generalize hD : w.heap.size = D at *
  let rec_ (st : LoopState) (pe : Option Code) : Obj := .loop { state := st, pending := pe, fn, tmps := a.tmps, params := ps, assign, body, defers := D }
  have hent := run_enterLoop_outer (P := P) (w := w) fn a.tmps ps assign body
  rw [hD] at hent
  generalize hW1 : (w.alloc (.deferred (some []))).alloc (rec_ .ready none) = W1
  have hent : (Instr.enterLoop fn a.tmps ps assign body none).run P w = .ok (D + 1, [mkD D]) W1 := hW1 ▸ hent
  have kD : W1.heap[D]? = some (.deferred (some [])) := by
    rw [← hW1, ← hD]; exact (Below.heap_alloc _ _ _ (by simp)).trans (World.alloc_heap_new w _)
  have kL : W1.heap[D + 1]? = some (rec_ .ready none) := by
    have := World.alloc_heap_new (w.alloc (.deferred (some []))) (rec_ .ready none)
    rw [World.size_alloc, hD] at this
    rw [← hW1]; exact this
  have kI : I [] W1 := by rw [← hW1]; exact hI.alloc _ (hI.alloc _ h0)
  have kB : KeepH bs w W1 := fun i hi => by
    have := hbs i hi
    rw [← hW1]; exact (Below.heap_alloc _ _ i (by simp; omega)).trans (Below.heap_alloc _ _ i (by omega))
  have far : ∀ i ∈ bs, i ≠ D + 1 := fun i hi => by have := hbs i hi; omega
  -- the record is turned
  have turn : ∀ {pre : List α} {W : World} {o o' : Obj}, I pre W → W.heap[D + 1]? = some o → o.isCells = false → W.heap[D]? = some (.deferred (some [])) →
      I pre (W.putObj (D + 1) o') ∧ (W.putObj (D + 1) o').heap[D + 1]? = some o' ∧ (W.putObj (D + 1) o').heap[D]? = some (.deferred (some [])) := fun hi hl hc hk =>
    ⟨hI.putObj _ hi (by omega) hl hc, World.putObj_heap_same (Array.getElem?_eq_some_iff.1 hl).1, (World.putObj_heap_other (by omega)).trans hk⟩
  have turnX : ∀ {c : Code} {pre : List α} {W : World} {o o' : Obj}, Ix c pre W → W.heap[D + 1]? = some o → o.isCells = false → W.heap[D]? = some (.deferred (some [])) →
      Ix c pre (W.putObj (D + 1) o') ∧ (W.putObj (D + 1) o').heap[D + 1]? = some o' ∧ (W.putObj (D + 1) o').heap[D]? = some (.deferred (some [])) := fun hi hl hc hk =>
    ⟨(hIx _).putObj _ hi (by omega) hl hc, World.putObj_heap_same (Array.getElem?_eq_some_iff.1 hl).1, (World.putObj_heap_other (by omega)).trans hk⟩
  refine ⟨D + 1, [mkD D], W1, { target := .fn (.func gf) lb, args := #[.func (.yield (D + 1)) #[] #[]] }, W1, gf, #[.func (.yield (D + 1)) #[] #[]] ++ lb, W1, hent, ?_, ?_, ?_, fun _ => h1, ?_⟩
  · simp only [resolve, hg]; simp [go_sem]
  · intro f' hf'; exact trivial
  · simp [invoke, go_sem, eg]
  refine (hseq (D + 1) (fun pre W => I pre W ∧ W.heap[D + 1]? = some (rec_ .ready none) ∧ W.heap[D]? = some (.deferred (some [])))
    (fun pre W => ∃ c, Ix c pre W ∧ W.heap[D + 1]? = some (rec_ .done (some c)) ∧ W.heap[D]? = some (.deferred (some []))) W1 kB ?_ ?_ ⟨kI, kL, kD⟩).mono ?_
  · rintro s W v ⟨x1, x2, x3⟩
    exact ⟨hIb s W v x1, (setCell_heap (by omega) v).trans x2, (setCell_heap (by omega) v).trans x3⟩
  · rintro pre x W hok ⟨x1, x2, x3⟩ hlen
    refine ⟨fn, _, assign, body, run_yield x2 (hps x), roundIn_of_wpIn hfn (hassign _ x W _ ⟨_, run_beginRound x2 rfl, ?_⟩)⟩
    obtain ⟨y1, y2, y3⟩ := turn (o' := rec_ .busy none) x1 x2 rfl x3
    refine wpIn_mono (hbody _ pre x _ hok y1 hlen) ?_
    have over : ∀ (jump : Option Code) (W3 : World), KeepsOthers (W.putObj (D + 1) (rec_ .busy none)) W3 →
        (Instr.endRound (D + 1) jump).run P W3 = .ok (.bool jump.isNone) (W3.putObj (D + 1) (rec_ (if jump.isNone then .ready else .done) jump)) ∧ W3.heap[D + 1]? = some (rec_ .busy none) ∧ W3.heap[D]? = some (.deferred (some [])) := fun jump W3 hk =>
      ⟨run_endRound jump (hk.same _ _ y2 rfl), hk.same _ _ y2 rfl, hk.same _ _ y3 rfl⟩
    intro e a3 W3 hp
    cases e with
    | normal =>
      obtain ⟨z1, z2, z3⟩ := hp
      obtain ⟨r1, r2, r3⟩ := over none W3 z1
      obtain ⟨t1, t2, t3⟩ := turn (o' := rec_ .ready none) z3 r2 rfl r3
      exact ⟨_, _, r1, .inl ⟨rfl, ⟨t1, t2, t3⟩, ((KeepH.put far).trans z2).trans (KeepH.put far)⟩⟩
    | ret =>
      obtain ⟨r1, r2, r3⟩ := over (some .ret) W3 hp.1
      exact ⟨_, _, r1, .inr ⟨rfl, .ret, turnX hp.2 r2 rfl r3⟩⟩
    | exit id =>
      obtain ⟨r1, r2, r3⟩ := over (some (.exit id)) W3 hp.1
      exact ⟨_, _, r1, .inr ⟨rfl, .exit id, turnX hp.2 r2 rfl r3⟩⟩
    | goto t =>
      obtain ⟨r1, r2, r3⟩ := over (some (.goto t)) W3 hp.1
      exact ⟨_, _, r1, .inr ⟨rfl, .goto t, turnX hp.2 r2 rfl r3⟩⟩
    | panic ch => exact hp.elim
    | outgrown => exact hp.elim
  · rintro e W2 ⟨⟨v, rfl⟩, (⟨xs, hS, x1, x2, x3⟩ | ⟨pre, hSp, c, x1, x2, x3⟩)⟩
    · obtain ⟨t1, t2, t3⟩ := turn (o' := rec_ .exhausted none) x1 x2 rfl x3
      exact ⟨none, _, run_endLoop x2 (by simp), hdone D xs _ (Nat.le_refl _) hS t1 t3⟩
    · obtain ⟨t1, t2, t3⟩ := turnX (o' := rec_ .exhausted (some c)) x1 x2 rfl x3
      exact ⟨some c, _, run_endLoop x2 (by simp), hstop D c pre _ (Nat.le_refl _) hSp t1 t3⟩
/-- A function that has marks alone among its deferred calls leaves, its results read at the end. -/
theorem leaves_marks2 {F : Fence} {n : Nat} {P : Program} {fn : Func} {tmps : Array Value} {R : Ending → World → Prop} (I : World → Prop) (B : Nat) (hI : ∀ W D, B ≤ D → I W → W.heap[D]? = some (.deferred (some [])) → I (W.putObj D (.deferred none)))
    (hend : ∀ W, I W → ∃ v, (results fn tmps).run P W = .ok v W ∧ R (.returned v) W) :
    ∀ (ms : List Nat) (W : World), ms.Nodup → (∀ D ∈ ms, B ≤ D ∧ W.heap[D]? = some (.deferred (some []))) → I W → LeavesInM F n P fn tmps R (ms.map mkD) .returning W
  | [], W, _, _, h => hend W h
  | D :: ms, W, hn, hm, h => by
    obtain ⟨hD, hk⟩ := hm D (by simp)
    rw [List.nodup_cons] at hn
    refine ⟨by simp, .inl ⟨D, _, rfl, run_takeDeferred hk, leaves_marks2 I B hI hend ms _ hn.2 (fun D' hD' => ⟨(hm D' (by simp [hD'])).1, ?_⟩) (hI W D hD h hk)⟩⟩
    rw [World.putObj_heap_other (show D' ≠ D from fun e => hn.1 (by rw [← e]; exact hD'))]
    exact (hm D' (by simp [hD'])).2
end Go.Proofs.YtndamidmgglneaaDoor
