/-
  A range over a function that writes a box of its own between two rounds: the law for its caller.
  Conditions: the box lies below the loop's own blocks, and the caller's invariant does not speak of it.
-/
import Derived.Test.YtaiiihdckdjpoaaGreatDoorOgC
import Derived.Test.YtaiiihdckdjpoaaGreatDoorOgA
import Derived.Lib.AtoiErrMem
namespace Go.Proofs.YtaiiihdckdjpoaaGreatDoor
open Go.RowKit Go.Shelf

/-- These blocks are as they were. -/
def KeepH (bs : List Nat) (A B : World) : Prop := ∀ i ∈ bs, B.heap[i]? = A.heap[i]?
theorem KeepH.trans {bs : List Nat} {A B C : World} (h : KeepH bs A B) (k : KeepH bs B C) : KeepH bs A C := fun i hi => (k i hi).trans (h i hi)
theorem KeepH.put {bs : List Nat} {W : World} {l : Nat} {o : Obj} (h : ∀ i ∈ bs, i ≠ l) : KeepH bs W (W.putObj l o) := fun i hi => World.putObj_heap_other (h i hi)
/-- What an iterator promises that writes into block b between two rounds. -/
def SeqB {α : Type} (n : Nat) (P : Program) (gf : Nat) (lb : Array Value) (encs : α → Array Value) (bs : List Nat) (b : Nat) (Ok : List α → α → Prop) (S Sp : List α → Prop) (N : Nat) (w : World) : Prop :=
  ∀ (l : Nat) (J Jx : List α → World → Prop) (W : World), KeepH bs w W → (∀ s W v, J s W → J s (W.setCell ⟨b, 0, none⟩ v)) →
    (∀ pre x W1, Ok pre x → J pre W1 → pre.length < N → YieldAt Fence.wide (n - 1) P l (encs x) W1 fun e W' => (e = .returned (.bool true) ∧ J (pre ++ [x]) W' ∧ KeepH bs W1 W') ∨ (e = .returned (.bool false) ∧ Jx (pre ++ [x]) W')) →
    J [] W → CallsIn Fence.wide n P gf (#[.func (.yield l) #[] #[]] ++ lb) W fun e W' => (∃ v, e = .returned v) ∧ ((∃ xs, S xs ∧ J xs W') ∨ (∃ pre, Sp pre ∧ Jx pre W'))
theorem setCell_heap {W : World} {b k : Nat} (h : k ≠ b) (v : Value) : (W.setCell ⟨b, 0, none⟩ v).heap[k]? = W.heap[k]? := Below.heap_setCell W ⟨b, 0, none⟩ v k h

/-- The law. -/
theorem range_b {α : Type} {n : Nat} {P : Program} {g : Operand} {ps : Array Tmp} {assign body : Code} {Q : Exit → Act → World → Prop} {a : Act} {w : World} (h1 : 1 ≤ n) {gf : Nat} {lb : Array Value}
    (hg : a.eval g = .func (.func gf) #[] lb) (eg : ∀ args w, (callFunc gf args).run P w = .ok (.enter gf args) w) {encs : α → Array Value} {bs : List Nat} {b : Nat} (hbs : ∀ i ∈ bs, i < w.heap.size) (hb : b ∈ bs) {Ok : List α → α → Prop} {S Sp : List α → Prop} {N : Nat}
    (hseq : SeqB (n - 1) P gf lb encs bs b Ok S Sp N w) (hps : ∀ x, (encs x).size = ps.size) (I : List α → World → Prop) (Ix : Code → List α → World → Prop)
    (hI : OwnFrom w.heap.size I) (hIb : ∀ s W v, I s W → I s (W.setCell ⟨b, 0, none⟩ v)) (hIx : ∀ c, OwnFrom w.heap.size (Ix c)) (h0 : I [] w) (a₁ : α → Act)
    (hassign : ∀ (l : Nat) (x : α) (W : World) (K : Act → World → Prop), K (a₁ x) W → assign.wpIn (Fence.wide.inRound l) (n - 1 - 1) P (Exit.then K (fun _ _ _ => False)) { tmps := (ps.zip (encs x)).foldl (fun t (p, v) => t.setIfInBounds p v) a.tmps, defers := [] } W)
    (hbody : ∀ (l : Nat) (pre : List α) (x : α) (W : World), Ok pre x → I pre W → pre.length < N → body.wpIn (Fence.wide.inRound l) (n - 1 - 1) P (ownPostK (KeepH bs) I Ix (pre ++ [x]) W) (a₁ x) W)
    (hdone : ∀ (D : Nat) (xs : List α) (W : World), w.heap.size ≤ D → S xs → I xs W → W.heap[D]? = some (.deferred (some [])) → Q .normal { a with defers := mkD D :: a.defers } W)
    (hstop : ∀ (D : Nat) (c : Code) (pre : List α) (W : World), w.heap.size ≤ D → Sp pre → Ix c pre W → W.heap[D]? = some (.deferred (some [])) → c.wpIn Fence.wide n P Q { a with defers := mkD D :: a.defers } W) :
    (Code.rangeFunc g ps assign body).wpIn Fence.wide n P Q a w := by
  have hbw := hbs b hb
  refine wpIn_rangeFunc fun fn hfn => ?_
  -- the two blocks that the loop lays
  generalize hD : w.heap.size = D at *
  let rec_ (st : LoopState) (pe : Option Code) : Obj := .loop { state := st, pending := pe, fn, tmps := a.tmps, params := ps, assign, body, defers := D }
  have hent := run_enterLoop_outer (P := P) (w := w) fn a.tmps ps assign body
  rw [hD] at hent
  generalize hW1 : (w.alloc (.deferred (some []))).alloc (rec_ .ready none) = W1
  have hent : (Instr.enterLoop fn a.tmps ps assign body none).run P w = .ok (D + 1, [mkD D]) W1 := hW1 ▸ hent
  have kD : W1.heap[D]? = some (.deferred (some [])) := by
    rw [← hW1, ← hD]; exact (Below.heap_alloc _ _ _ (by simp)).trans (World.alloc_heap_new w _)
  have kL : W1.heap[D + 1]? = some (rec_ .ready none) := by
    have := World.alloc_heap_new (w.alloc (.deferred (some []))) (rec_ .ready none)
    rw [World.size_alloc, hD] at this
    rw [← hW1]; exact this
  have kI : I [] W1 := by rw [← hW1]; exact hI.alloc _ (hI.alloc _ h0)
  have kB : KeepH bs w W1 := fun i hi => by
    have := hbs i hi
    rw [← hW1]; exact (Below.heap_alloc _ _ i (by simp; omega)).trans (Below.heap_alloc _ _ i (by omega))
  have far : ∀ i ∈ bs, i ≠ D + 1 := fun i hi => by have := hbs i hi; omega
  -- the record is turned
  have turn : ∀ {pre : List α} {W : World} {o o' : Obj}, I pre W → W.heap[D + 1]? = some o → o.isCells = false → W.heap[D]? = some (.deferred (some [])) →
      I pre (W.putObj (D + 1) o') ∧ (W.putObj (D + 1) o').heap[D + 1]? = some o' ∧ (W.putObj (D + 1) o').heap[D]? = some (.deferred (some [])) := fun hi hl hc hk =>
    ⟨hI.putObj _ hi (by omega) hl hc, World.putObj_heap_same (Array.getElem?_eq_some_iff.1 hl).1, (World.putObj_heap_other (by omega)).trans hk⟩
  have turnX : ∀ {c : Code} {pre : List α} {W : World} {o o' : Obj}, Ix c pre W → W.heap[D + 1]? = some o → o.isCells = false → W.heap[D]? = some (.deferred (some [])) →
      Ix c pre (W.putObj (D + 1) o') ∧ (W.putObj (D + 1) o').heap[D + 1]? = some o' ∧ (W.putObj (D + 1) o').heap[D]? = some (.deferred (some [])) := fun hi hl hc hk =>
    ⟨(hIx _).putObj _ hi (by omega) hl hc, World.putObj_heap_same (Array.getElem?_eq_some_iff.1 hl).1, (World.putObj_heap_other (by omega)).trans hk⟩
  refine ⟨D + 1, [mkD D], W1, { target := .fn (.func gf) lb, args := #[.func (.yield (D + 1)) #[] #[]] }, W1, gf, #[.func (.yield (D + 1)) #[] #[]] ++ lb, W1, hent, ?_, ?_, ?_, fun _ => h1, ?_⟩
  · simp only [resolve, hg]; simp [go_sem]
  · intro f' hf'; exact trivial
  · simp [invoke, go_sem, eg]
  refine (hseq (D + 1) (fun pre W => I pre W ∧ W.heap[D + 1]? = some (rec_ .ready none) ∧ W.heap[D]? = some (.deferred (some [])))
    (fun pre W => ∃ c, Ix c pre W ∧ W.heap[D + 1]? = some (rec_ .done (some c)) ∧ W.heap[D]? = some (.deferred (some []))) W1 kB ?_ ?_ ⟨kI, kL, kD⟩).mono ?_
  · rintro s W v ⟨x1, x2, x3⟩
    exact ⟨hIb s W v x1, (setCell_heap (by omega) v).trans x2, (setCell_heap (by omega) v).trans x3⟩
  · rintro pre x W hok ⟨x1, x2, x3⟩ hlen
    refine ⟨fn, _, assign, body, run_yield x2 (hps x), roundIn_of_wpIn hfn (hassign _ x W _ ⟨_, run_beginRound x2 rfl, ?_⟩)⟩
    obtain ⟨y1, y2, y3⟩ := turn (o' := rec_ .busy none) x1 x2 rfl x3
    refine wpIn_mono (hbody _ pre x _ hok y1 hlen) ?_
    have over : ∀ (jump : Option Code) (W3 : World), KeepsOthers (W.putObj (D + 1) (rec_ .busy none)) W3 →
        (Instr.endRound (D + 1) jump).run P W3 = .ok (.bool jump.isNone) (W3.putObj (D + 1) (rec_ (if jump.isNone then .ready else .done) jump)) ∧ W3.heap[D + 1]? = some (rec_ .busy none) ∧ W3.heap[D]? = some (.deferred (some [])) := fun jump W3 hk =>
      ⟨run_endRound jump (hk.same _ _ y2 rfl), hk.same _ _ y2 rfl, hk.same _ _ y3 rfl⟩
    intro e a3 W3 hp
    cases e with
    | normal =>
      obtain ⟨z1, z2, z3⟩ := hp
      obtain ⟨r1, r2, r3⟩ := over none W3 z1
      obtain ⟨t1, t2, t3⟩ := turn (o' := rec_ .ready none) z3 r2 rfl r3
      exact ⟨_, _, r1, .inl ⟨rfl, ⟨t1, t2, t3⟩, ((KeepH.put far).trans z2).trans (KeepH.put far)⟩⟩
    | ret =>
      obtain ⟨r1, r2, r3⟩ := over (some .ret) W3 hp.1
      exact ⟨_, _, r1, .inr ⟨rfl, .ret, turnX hp.2 r2 rfl r3⟩⟩
    | exit id =>
      obtain ⟨r1, r2, r3⟩ := over (some (.exit id)) W3 hp.1
      exact ⟨_, _, r1, .inr ⟨rfl, .exit id, turnX hp.2 r2 rfl r3⟩⟩
    | goto t =>
      obtain ⟨r1, r2, r3⟩ := over (some (.goto t)) W3 hp.1
      exact ⟨_, _, r1, .inr ⟨rfl, .goto t, turnX hp.2 r2 rfl r3⟩⟩
    | panic ch => exact hp.elim
    | outgrown => exact hp.elim
  · rintro e W2 ⟨⟨v, rfl⟩, (⟨xs, hS, x1, x2, x3⟩ | ⟨pre, hSp, c, x1, x2, x3⟩)⟩
    · obtain ⟨t1, t2, t3⟩ := turn (o' := rec_ .exhausted none) x1 x2 rfl x3
      exact ⟨none, _, run_endLoop x2 (by simp), hdone D xs _ (Nat.le_refl _) hS t1 t3⟩
    · obtain ⟨t1, t2, t3⟩ := turnX (o' := rec_ .exhausted (some c)) x1 x2 rfl x3
      exact ⟨some c, _, run_endLoop x2 (by simp), hstop D c pre _ (Nat.le_refl _) hSp t1 t3⟩
/-- A function that has marks alone among its deferred calls leaves, its results read at the end. -/
theorem leaves_marks2 {F : Fence} {n : Nat} {P : Program} {fn : Func} {tmps : Array Value} {R : Ending → World → Prop} (I : World → Prop) (B : Nat) (hI : ∀ W D, B ≤ D → I W → W.heap[D]? = some (.deferred (some [])) → I (W.putObj D (.deferred none)))
    (hend : ∀ W, I W → ∃ v, (results fn tmps).run P W = .ok v W ∧ R (.returned v) W) :
    ∀ (ms : List Nat) (W : World), ms.Nodup → (∀ D ∈ ms, B ≤ D ∧ W.heap[D]? = some (.deferred (some []))) → I W → LeavesInM F n P fn tmps R (ms.map mkD) .returning W
  | [], W, _, _, h => hend W h
  | D :: ms, W, hn, hm, h => by
    obtain ⟨hD, hk⟩ := hm D (by simp)
    rw [List.nodup_cons] at hn
    refine ⟨by simp, .inl ⟨D, _, rfl, run_takeDeferred hk, leaves_marks2 I B hI hend ms _ hn.2 (fun D' hD' => ⟨(hm D' (by simp [hD'])).1, ?_⟩) (hI W D hD h hk)⟩⟩
    rw [World.putObj_heap_other (show D' ≠ D from fun e => hn.1 (by rw [← e]; exact hD'))]
    exact (hm D' (by simp [hD'])).2
end Go.Proofs.YtaiiihdckdjpoaaGreatDoor

/-!
  The library's iterator over the pieces of a string between dots.
  Conditions: the string has at most 1000000 bytes.
-/
namespace Go.Proofs.YtaiiihdckdjpoaaGreatDoor
open Go.RowKit Go.Shelf
attribute [local go_sem] Oper.semAt_some

theorem bstr_extract (l : List Nat) (a b : Nat) : (bstr l).extract a b = bstr ((l.take b).drop a) := by
  apply ByteArray.ext
  rw [ByteArray.data_extract]
  unfold bstr
  apply Array.toList_inj.1
  simp [List.map_drop, List.map_take, List.drop_take]

/-- The pieces between dots. -/
def splitD : List Nat → List (List Nat)
  | [] => [[]]
  | c :: l => if c = 46 then [] :: splitD l else (c :: (splitD l).headD []) :: (splitD l).tail
theorem split_none : ∀ {l : List Nat}, 46 ∉ l → splitD l = [l]
  | [], _ => rfl
  | c :: l, h => by
    have h1 : ¬ c = 46 := fun e => h (by simp [e])
    rw [splitD, if_neg h1, split_none (l := l) (fun e => h (by simp [e]))]
    rfl
theorem split_at : ∀ {p : List Nat} (q : List Nat), 46 ∉ p → splitD (p ++ 46 :: q) = p :: splitD q
  | [], q, _ => by rw [List.nil_append, splitD, if_pos rfl]
  | c :: p, q, h => by
    have h1 : ¬ c = 46 := fun e => h (by simp [e])
    rw [List.cons_append, splitD, if_neg h1, split_at q (p := p) (fun e => h (by simp [e]))]
    rfl
theorem split_dot {l : List Nat} (h : 46 ∈ l) : ∃ p q, l = p ++ 46 :: q ∧ 46 ∉ p := by
  induction l with
  | nil => cases h
  | cons c l ih =>
    by_cases hc : c = 46
    · exact ⟨[], l, by rw [hc]; rfl, by simp⟩
    · obtain ⟨p, q, e, hp⟩ := ih (by rcases List.mem_cons.1 h with e | e; exact absurd e.symm hc; exact e)
      exact ⟨c :: p, q, by rw [e]; rfl, by simp [hp]; exact fun e => hc e.symm⟩
theorem ofNat46 {c : Nat} (h : c < 256) : (UInt8.ofNat c == 46) = decide (c = 46) := by
  rw [Bool.eq_iff_iff, beq_iff_eq, decide_eq_true_iff]
  constructor
  · intro e
    have := congrArg UInt8.toNat e
    rw [UInt8.toNat_ofNat_of_lt' h] at this
    exact this
  · rintro rfl; rfl
theorem idx_none : ∀ {l : List Nat}, All8 l → 46 ∉ l → Lib.indexByte (l.map UInt8.ofNat) 46 = -1
  | [], _, _ => rfl
  | c :: l, h8, h => by
    have h1 : ¬ c = 46 := fun e => h (by simp [e])
    rw [List.map_cons, Lib.indexByte, ofNat46 (h8 c (by simp)), decide_eq_false h1, idx_none (l := l) (fun x hx => h8 x (by simp [hx])) (fun e => h (by simp [e]))]
    rfl
theorem idx_at : ∀ {p : List Nat} (q : List Nat), All8 p → 46 ∉ p → Lib.indexByte ((p ++ 46 :: q).map UInt8.ofNat) 46 = (p.length : Int)
  | [], q, _, _ => rfl
  | c :: p, q, h8, h => by
    have h1 : ¬ c = 46 := fun e => h (by simp [e])
    rw [List.cons_append, List.map_cons, Lib.indexByte, ofNat46 (h8 c (by simp)), decide_eq_false h1, idx_at (p := p) q (fun x hx => h8 x (by simp [hx])) (fun e => h (by simp [e]))]
    rw [if_neg (by simp), if_neg (by rw [beq_iff_eq]; omega), List.length_cons]
    omega

/-- What is handed to a round. -/
abbrev encS (x : List Nat) : Array Value := #[.string (bstr x)]
theorem KeepH.box {bs : List Nat} {A B : World} {i : Nat} {t : TypeId} {v : Value} (h : KeepH bs A B) (hi : i ∈ bs) (k : Boxed A i t v) : Boxed B i t v := (h i hi).trans k

set_option maxRecDepth 100000 in
set_option maxHeartbeats 2000000 in
theorem split_in (l0 : List Nat) (h8 : All8 l0) (hl0 : l0.length ≤ 1000000) (n : Nat) (hn : 3 ≤ n) (lw be bs bv : Nat) (hne1 : be ≠ bs) (hne2 : bv ≠ bs) (J Jx : List (List Nat) → World → Prop) (hJ : ∀ s W v, J s W → J s (W.setCell ⟨bs, 0, none⟩ v))
    (hY : ∀ pre x W1, pre ++ [x] <+: splitD l0 → J pre W1 → pre.length < l0.length + 1 → YieldAt Fence.wide (n - 1) Tryz.prog lw (encS x) W1 fun e W' => (e = .returned (.bool true) ∧ J (pre ++ [x]) W' ∧ KeepH [be, bs, bv] W1 W') ∨ (e = .returned (.bool false) ∧ Jx (pre ++ [x]) W'))
    (W : World) (c1 : Boxed W be 9 (.string ⟨#[46]⟩)) (c2 : Boxed W bs 9 (.string (bstr l0))) (c3 : Boxed W bv 3 (.int .i64 0)) (h0 : J [] W) :
    CallsIn Fence.wide n Tryz.prog 107 #[.func (.yield lw) #[] #[], .pointer (some ⟨be, 0, none⟩), .pointer (some ⟨bs, 0, none⟩), .pointer (some ⟨bv, 0, none⟩)] W fun e W' => (∃ v, e = .returned v) ∧
      ((∃ ys, ys = splitD l0 ∧ J ys W') ∨ (∃ pre, pre <+: splitD l0 ∧ Jx pre W')) := by
  refine callsIn_of_wp Tryz.func107 rfl trivial ?_ rfl
  simp only [Tryz.ntmps107, List.size_toArray, List.length_cons, List.length_nil, Nat.reduceAdd, Nat.reduceSub, Array.replicate_succ, Array.replicate_zero, List.push_toArray, List.append_toArray, List.nil_append, List.cons_append]
  have h1 : 1 ≤ n := by omega
  have d1 := c1.cell
  have HJ := Lib.hid hJ
  have HY := Lib.hid hY
  have C1 := Lib.hid c1
  have C2 := Lib.hid c2
  have C3 := Lib.hid c3
  have H0 := Lib.hid h0
  clear hJ hY c1 c2 c3 h0
  gi_wp2_with fail
  gi_loopw [7, 8] (fun _ _ wr => ∃ (pre : List (List Nat)) (l' : List Nat), pre ++ splitD l' = splitD l0 ∧ pre.length + l'.length ≤ l0.length ∧ All8 l' ∧ J pre wr ∧ Boxed wr be 9 (.string ⟨#[46]⟩) ∧ Boxed wr bs 9 (.string (bstr l')) ∧ Boxed wr bv 3 (.int .i64 0))
    (fun _ _ wr => match wr.cell? ⟨bs, 0, none⟩ with | some (.string s) => s.size | _ => 0)
  case atStart => exact ⟨[], l0, rfl, by simp, h8, H0.out, C1.out, C2.out, C3.out⟩
  case round =>
    obtain ⟨pre, l', hs, hlen, h8', hJ', b1, b2, b3⟩ := hrel
    have e1 := b1.cell
    have e2 := b2.cell
    have e3 := b3.cell
    have B1 := Lib.hid b1
    have B2 := Lib.hid b2
    have B3 := Lib.hid b3
    have HS := Lib.hid hs
    have HJ' := Lib.hid hJ'
    have H8 := Lib.hid h8'
    clear d1 C1 C2 C3 H0 hs hJ' h8'
    by_cases hd : 46 ∈ l'
    · obtain ⟨p, q, rfl, hp⟩ := split_dot hd
      have hq := split_at q hp
      have hix := idx_at q (fun x hx => H8.out x (by simp [hx])) hp
      have hpl : p.length ≤ 1000000 := by simp at hlen; omega
      have hbl : (bstr (p ++ 46 :: q)).size = p.length + (q.length + 1) := by rw [bstr_size]; simp
      have hx1 : (bstr (p ++ 46 :: q)).extract 0 p.length = bstr p := by rw [bstr_extract, List.drop_zero, List.take_left' rfl]
      have hx2 : (bstr (p ++ 46 :: q)).extract (p.length + 1) (p.length + (q.length + 1)) = bstr q := by rw [bstr_extract, List.take_of_length_le (by simp), show p ++ 46 :: q = (p ++ [46]) ++ q by simp, List.drop_left' (by simp)]
      obtain ⟨fn, tmps, assign, body, hy, hR⟩ := HY.out pre p wr (by rw [← HS.out, hq]; exact ⟨splitD q, by simp⟩) HJ'.out (by omega)
      simp only [encS] at hy
      obtain ⟨S, hS⟩ : ∃ S, bstr (p ++ 46 :: q) = S := ⟨_, rfl⟩
      have hcall0 := Tryz.strings_Index_one S 46 wr
      rw [← hS, bstr_list, hix, hS] at hcall0
      have hcall := Lib.hid hcall0
      clear hcall0
      rw [hS] at e2 hbl hx1 hx2
      obtain ⟨N, hN⟩ : ∃ N, p.length = N := ⟨_, rfl⟩
      rw [hN] at hcall hpl hbl hx1 hx2
      have q1 : ∀ W : World, (Instr.sliceAt 9 (.string S) none (some (.int .i64 (N : Int))) none).run Tryz.prog W = .ok (.string (bstr p)) W := fun W => by
        rw [run_sliceAt_string (P := Tryz.prog) W 9 _ _ _ _ Tryz.underlying9, run_slice_string_h (P := Tryz.prog) W 9 S Tryz.underlying9 .i64 (N : Int) (by omega) (by rw [hbl]; omega), Int.toNat_natCast, hx1]
      have q2 : ∀ W : World, (Instr.sliceAt 9 (.string S) (some (.int .i64 ((N : Int) + 1))) none none).run Tryz.prog W = .ok (.string (bstr q)) W := fun W => by
        rw [run_sliceAt_string (P := Tryz.prog) W 9 _ _ _ _ Tryz.underlying9, run_slice_string_l (P := Tryz.prog) W 9 S Tryz.underlying9 .i64 ((N : Int) + 1) (by omega) (by rw [hbl]; omega), hbl, show ((N : Int) + 1).toNat = N + 1 by omega, hx2]
      have HBL := Lib.hid hbl
      have HN := Lib.hid hN
      have HSS := Lib.hid hS
      have HQ := Lib.hid hq
      clear hix hbl hx1 hx2 hN hS hd hq
      gi_wp2_with (refine ⟨trivial, ?_⟩; gi_at_call 109; refine (callsIn_wide.2 hcall.out).mono ?_; rintro e w1 ⟨rfl, rfl⟩)
      refine hR.mono ?_
      have hpre : splitD l0 = (pre ++ [p]) ++ splitD q := by rw [← HS.out, HQ.out, List.append_assoc]; rfl
      have HPRE := Lib.hid hpre
      clear e1 e2 e3 hpre q1
      rintro e W3 (⟨rfl, hJ3, hk3⟩ | ⟨rfl, hJx3⟩)
      · have k1 := hk3.box (by simp) B1.out
        have k2 := hk3.box (by simp) B2.out
        have k3 := hk3.box (by simp) B3.out
        rw [HSS.out] at k2
        have e1 := k1.cell
        have e2 := k2.cell
        have f2 := k2.frozen
        have K1 := Lib.hid k1
        have K2 := Lib.hid k2
        have K3 := Lib.hid k3
        have HJ3 := Lib.hid hJ3
        clear k1 k2 k3 hJ3 hk3
        gi_wp2_with fail
        have K4 := K2.out.set (.string (bstr q))
        refine ⟨⟨pre ++ [p], q, HPRE.out.symm, by simp at hlen ⊢; omega, fun x hx => H8.out x (by simp [hx]), HJ.out _ _ _ HJ3.out, K1.out.other hne1 _, K4, K3.out.other hne2 _⟩, ?_⟩
        rw [K4.cell, B2.out.cell, HSS.out]
        simp only
        rw [HBL.out, bstr_size]
        omega
      · gi_wp2_with fail
        refine bodyPost_ret (results_none rfl _ _ _) rfl ?_
        exact ⟨⟨_, rfl⟩, .inr ⟨_, by rw [HPRE.out]; exact List.prefix_append _ _, hJx3⟩⟩
    · have hix := idx_none H8.out hd
      have hsp := split_none hd
      obtain ⟨fn, tmps, assign, body, hy, hR⟩ := HY.out pre l' wr (by rw [← HS.out, hsp]; exact List.prefix_refl _) HJ'.out (by omega)
      simp only [encS] at hy
      obtain ⟨S, hS⟩ : ∃ S, bstr l' = S := ⟨_, rfl⟩
      have hcall0 := Tryz.strings_Index_one S 46 wr
      rw [← hS, bstr_list, hix, hS] at hcall0
      have hcall := Lib.hid hcall0
      rw [hS] at e2 hy
      have HPRE := Lib.hid (show splitD l0 = pre ++ [l'] by rw [← HS.out, hsp])
      clear hcall0 hix hsp hS hd
      gi_wp2_with (refine ⟨trivial, ?_⟩; gi_at_call 109; refine (callsIn_wide.2 hcall.out).mono ?_; rintro e w1 ⟨rfl, rfl⟩)
      refine hR.mono ?_
      clear e1 e2 e3
      rintro e W3 (⟨rfl, hJ3, -⟩ | ⟨rfl, hJx3⟩)
      · gi_wp2_with fail
        go_end0
        exact ⟨⟨_, rfl⟩, .inl ⟨_, HPRE.out.symm, hJ3⟩⟩
      · gi_wp2_with fail
        go_end0
        exact ⟨⟨_, rfl⟩, .inr ⟨_, by rw [HPRE.out]; exact List.prefix_refl _, hJx3⟩⟩
theorem split_mem : ∀ {l x : List Nat}, x ∈ splitD l → (∀ c ∈ x, c ∈ l) ∧ x.length ≤ l.length := fun {l} => by
  induction l with
  | nil => intro x h; rw [splitD, List.mem_singleton] at h; subst h; simp
  | cons c l ih =>
    intro x h
    rw [splitD] at h
    split at h
    · rcases List.mem_cons.1 h with rfl | h
      · simp
      · have := ih h
        exact ⟨fun y hy => List.mem_cons_of_mem _ (this.1 y hy), by rw [List.length_cons]; omega⟩
    · rcases List.mem_cons.1 h with rfl | h
      · have hne : splitD l ≠ [] := by
          cases l with
          | nil => simp [splitD]
          | cons a m => rw [splitD]; split <;> simp
        obtain ⟨a, t, ha⟩ : ∃ a t, splitD l = a :: t := by
          cases hq : splitD l with
          | nil => exact absurd hq hne
          | cons a t => exact ⟨a, t, rfl⟩
        have := ih (x := a) (by rw [ha]; simp)
        rw [ha, List.headD_cons]
        exact ⟨fun y hy => by
          rcases List.mem_cons.1 hy with rfl | hy
          · simp
          · exact List.mem_cons_of_mem _ (this.1 y hy), by simp; exact this.2⟩
      · have := ih (List.mem_of_mem_tail h)
        exact ⟨fun y hy => List.mem_cons_of_mem _ (this.1 y hy), by rw [List.length_cons]; omega⟩
theorem pre_mem {l x : List Nat} {pre : List (List Nat)} (h : pre ++ [x] <+: splitD l) : x ∈ splitD l := by
  obtain ⟨t, e⟩ := h
  rw [← e]; simp
/-- The iterator as a contract. -/
theorem split_seq (l0 : List Nat) (h8 : All8 l0) (hl0 : l0.length ≤ 1000000) (n : Nat) (hn : 3 ≤ n) (be bs bv : Nat) (hne1 : be ≠ bs) (hne2 : bv ≠ bs) (w : World) (c1 : Boxed w be 9 (.string ⟨#[46]⟩)) (c2 : Boxed w bs 9 (.string (bstr l0))) (c3 : Boxed w bv 3 (.int .i64 0)) :
    SeqB n Tryz.prog 107 #[.pointer (some ⟨be, 0, none⟩), .pointer (some ⟨bs, 0, none⟩), .pointer (some ⟨bv, 0, none⟩)] encS [be, bs, bv] bs (fun pre x => pre ++ [x] <+: splitD l0) (fun ys => ys = splitD l0) (fun pre => pre <+: splitD l0) (l0.length + 1) w := fun l J Jx W hk hJ hY h0 =>
  split_in l0 h8 hl0 n hn l be bs bv hne1 hne2 J Jx hJ hY W (hk.box (by simp) c1) (hk.box (by simp) c2) (hk.box (by simp) c3) h0
theorem splitseq_any (s : ByteArray) (w : World) : Calls Tryz.prog 74 #[.string s, .string ⟨#[46]⟩] w fun e w' => e = .returned (.func (.func 107) #[] #[.pointer (some ⟨w.heap.size + 1, 0, none⟩), .pointer (some ⟨w.heap.size, 0, none⟩), .pointer (some ⟨w.heap.size + 1 + 1, 0, none⟩)]) ∧
    w' = ((w.alloc (.cells #[.string s] 9)).alloc (.cells #[.string ⟨#[46]⟩] 9)).alloc (.cells #[.int .i64 0] 3) := by
  have hin : ∀ w, Calls Tryz.prog 85 #[.string s, .string ⟨#[46]⟩, .int .i64 0] w fun e w' => e = .returned (.func (.func 107) #[] #[.pointer (some ⟨w.heap.size + 1, 0, none⟩), .pointer (some ⟨w.heap.size, 0, none⟩), .pointer (some ⟨w.heap.size + 1 + 1, 0, none⟩)]) ∧
      w' = ((w.alloc (.cells #[.string s] 9)).alloc (.cells #[.string ⟨#[46]⟩] 9)).alloc (.cells #[.int .i64 0] 3) := fun w => by
    go_enter Tryz.func85, Tryz.ntmps85
    go_wp2
    go_ret
    exact ⟨rfl, rfl⟩
  have HIN := Lib.hid hin
  clear hin
  go_enter Tryz.func74, Tryz.ntmps74
  go_wp2_with (go_at_call 85; refine (HIN.out _).mono ?_; rintro e w' ⟨rfl, rfl⟩)
  go_ret
  exact ⟨rfl, rfl⟩
end Go.Proofs.YtaiiihdckdjpoaaGreatDoor

/-!
  Package oids: contracts of isDecimal and isDotted.
  Conditions: the string has at most 1000000 bytes.
-/
namespace Go.Proofs.YtaiiihdckdjpoaaGreatDoor
open Go.RowKit Go.Shelf
attribute [local go_sem] Oper.semAt_some

/-- Is it a digit? -/
def dg (c : Nat) : Bool := decide (48 ≤ c) && decide (c ≤ 57)
/-- Is it a decimal number without leading zeros? -/
def isDec (l : List Nat) : Bool := l.all dg && (l == [48] || (l.headD 48 != 48))
theorem idx_str (l : List Nat) (h8 : All8 l) (j : Nat) (hj : j < l.length) (W : World) : (Instr.index 9 (.string (bstr l)) (.int .i64 (j : Int))).run Tryz.prog W = .ok (.int .u8 (l[j] : Int)) W := by
  rw [run_index_string (P := Tryz.prog) W 9 (bstr l) .i64 (j : Int) Tryz.underlying9]
  have hi : j < (bstr l).size := by rw [bstr_size]; exact hj
  rw [dif_pos ⟨by omega, by omega⟩]
  have e : ((bstr l)[((j : Int)).toNat]'(by rw [Int.toNat_natCast]; exact hi)).toNat = l[j] := by
    have h2 := h8.get hj
    have : (bstr l)[((j : Int)).toNat]'(by rw [Int.toNat_natCast]; exact hi) = UInt8.ofNat l[j] := by
      show (bstr l).data[((j : Int)).toNat]'(by rw [Int.toNat_natCast]; exact hi) = _
      simp [bstr]
    rw [this, UInt8.toNat_ofNat_of_lt' h2]
  rw [e]
theorem head_get {l : List Nat} (h : 0 < l.length) : l.headD 48 = l[0] := by cases l with
  | nil => simp at h
  | cons a m => rfl
theorem toList_bstr (l : List Nat) : (bstr l).toList = l.map UInt8.ofNat := by rw [ByteArray.toList_eq, bstr_list]
theorem isdec_any (l : List Nat) (h8 : All8 l) (hl : l.length ≤ 1000000) (w : World) : Calls Tryz.prog 110 #[.string (bstr l)] w fun e w' => e = .returned (.bool (isDec l)) ∧ w = w' := by
  have hix := fun j hj W => idx_str l h8 j hj W
  have hsz := bstr_size l
  obtain ⟨S, hS⟩ : ∃ S, bstr l = S := ⟨_, rfl⟩
  rw [hS] at hix hsz ⊢
  have HIX := Lib.hid hix
  have HS := Lib.hid hS
  have H8 := Lib.hid h8
  obtain ⟨r, hr⟩ : ∃ r, isDec l = r := ⟨_, rfl⟩
  rw [hr]
  have HR := Lib.hid hr
  clear hix hS h8 hr
  go_enter Tryz.func110, Tryz.ntmps110
  go_wp2
  go_loop [3, 6] (fun _ i => ∃ j : Nat, j ≤ l.length ∧ i = .int .i64 (j : Int) ∧ (l.take j).all dg = true) (fun _ i => l.length - (intOf i).toNat)
  case atStart => exact ⟨0, Nat.zero_le _, rfl, by simp⟩
  case round =>
    obtain ⟨j, hj, rfl, ha⟩ := hrel
    have HA := Lib.hid ha
    clear ha
    rcases Nat.lt_or_ge j l.length with hjl | hjl
    · have hix := HIX.out j hjl
      have hc := H8.out.get hjl
      have HT := Lib.hid (List.take_succ_eq_append_getElem hjl)
      have HBAD := Lib.hid (fun (h : dg l[j] = false) => show isDec l = false from by
        have : l.all dg = false := by
          rw [Bool.eq_false_iff]
          intro e
          have := List.all_eq_true.1 e _ (List.getElem_mem hjl)
          rw [h] at this; cases this
        unfold isDec; rw [this]; rfl)
      generalize l[j] = c at *
      by_cases h1 : c < 48
      · have HF : Hid (r = false) := Lib.hid (by rw [← HR.out]; exact HBAD.out (by unfold dg; simp; omega))
        go_wp2
        go_ret
        rw [HF.out]
        exact ⟨rfl, rfl⟩
      · by_cases h2 : 57 < c
        · have HF : Hid (r = false) := Lib.hid (by rw [← HR.out]; exact HBAD.out (by unfold dg; simp; omega))
          go_wp2
          go_ret
          rw [HF.out]
          exact ⟨rfl, rfl⟩
        · have HT2 : Hid ((l.take (j + 1)).all dg = true) := Lib.hid (by rw [HT.out, List.all_append, HA.out]; unfold dg; simp; omega)
          go_wp2
          go_round
          case rel => exact ⟨j + 1, by omega, by go_num, HT2.out⟩
          case measure => simp [intOf]; omega
    · obtain rfl : j = l.length := by omega
      have hall : l.all dg = true := by have := HA.out; rwa [List.take_length] at this
      have HALL := Lib.hid hall
      clear hall
      by_cases h48 : l = [48]
      · have hb : (S.toList == ([48] : List UInt8)) = true := by rw [← HS.out, h48, toList_bstr]; rfl
        have HF : Hid (r = true) := Lib.hid (by rw [← HR.out, h48]; decide)
        clear h48
        go_wp2
        go_ret
        rw [HF.out]
        exact ⟨rfl, rfl⟩
      · have hb : (S.toList == ([48] : List UInt8)) = false := by
          rw [← HS.out]
          have := bstr_ne (l := l) (m := [48]) H8.out (by intro x hx; simp at hx; omega) h48
          rw [toList_bstr [48]] at this
          exact this
        by_cases hl0 : l = []
        · have hb2 : S.toList.isEmpty = true := by rw [← HS.out, hl0, toList_bstr]; rfl
          have hb3 : S.toList = [] := by rw [← HS.out, hl0, toList_bstr]; rfl
          have HF : Hid (r = false) := Lib.hid (by rw [← HR.out, hl0]; decide)
          rw [hl0] at hsz ⊢
          clear h48 hl0
          go_wp2
          go_ret
          rw [HF.out]
          exact ⟨rfl, rfl⟩
        · have hpos : 0 < l.length := by
            rcases Nat.eq_zero_or_pos l.length with h | h
            · exact absurd (List.eq_nil_of_length_eq_zero h) hl0
            · exact h
          have hb2 : S.toList.isEmpty = false := by
            rw [← HS.out, toList_bstr]
            cases hq : l with
            | nil => exact absurd hq hl0
            | cons a m => rfl
          have hb3 : ¬ S.toList = [] := by
            rw [← HS.out, toList_bstr]
            intro e
            exact hl0 (List.map_eq_nil_iff.1 e)
          have hix0 : ∀ W, (Instr.index 9 (.string S) (.int .i64 0)).run Tryz.prog W = .ok (.int .u8 (l[0] : Int)) W := HIX.out 0 hpos
          have hhd : l.headD 48 = l[0] := head_get hpos
          have hr1 : r = (l[0] != 48) := by
            rw [← HR.out, isDec, HALL.out, hhd]
            have : (l == [48]) = false := by rw [beq_eq_false_iff_ne]; exact h48
            rw [this]; rfl
          have hc := H8.out.get hpos
          generalize l[0] = c at *
          clear h48 hl0 hhd
          by_cases hc48 : c = 48
          · subst hc48
            have HF : Hid (r = false) := Lib.hid (by rw [hr1]; rfl)
            clear hr1
            go_wp2
            go_ret
            rw [HF.out]
            exact ⟨rfl, rfl⟩
          · have hcb : ((c : Int) != 48) = true := by rw [bne_iff_ne]; omega
            have HF : Hid (r = true) := Lib.hid (by rw [hr1, bne_iff_ne]; exact hc48)
            clear hr1 hc48
            go_wp2
            go_ret
            rw [HF.out]
            exact ⟨rfl, rfl⟩
theorem res_bool {fn : Func} {p : Tmp} (h : fn.results = #[.cell p 4]) (tmps : Array Value) (W : World) (g : Nat) (v : Bool) (hp : tmps.getD p undef = .pointer (some ⟨g, 0, none⟩)) (hb : Boxed W g 4 (.bool v)) : (results fn tmps).run Tryz.prog W = .ok (.bool v) W := by
  have hc := hb.cell
  have hp' : tmps[p]?.getD undef = .pointer (some ⟨g, 0, none⟩) := by simpa using hp
  simp [results, h, hp', asAddr, go_sem, hc]
theorem marks_one {B D : Nat} {W : World} (h1 : B ≤ D) (h2 : W.heap[D]? = some (.deferred (some []))) : ∀ D' ∈ [D], B ≤ D' ∧ W.heap[D']? = some (.deferred (some [])) := fun D' h => by
  obtain rfl : D' = D := by simpa using h
  exact ⟨h1, h2⟩
theorem boxed_put {W : World} {g D : Nat} {t : TypeId} {v : Value} (h : Boxed W g t v) (hD : W.heap[D]? = some (.deferred (some []))) (o : Obj) : Boxed (W.putObj D o) g t v :=
  h.kept (grownBy_putObj' W D o) (fun e => by injection e with e; subst e; rw [show W.heap[g]? = _ from h] at hD; cases hD)

set_option maxRecDepth 100000 in
set_option maxHeartbeats 2000000 in
theorem isdotted_in (l : List Nat) (h8 : All8 l) (hl : l.length ≤ 1000000) (m : Nat) (hm : 6 ≤ m) (w : World) :
    CallsIn Fence.wide m Tryz.prog 86 #[.string (bstr l)] w fun e w' => e = .returned (.bool ((splitD l).all isDec)) ∧ Below w.heap.size w w' := by
  have h1 : 1 ≤ m := by omega
  have S0 := Lib.hid (Boxed.new w 4 (.bool false))
  have B0 := Lib.hid (bel1 w (.cells #[.bool false] 4))
  have H8 := Lib.hid h8
  clear h8
  refine callsIn_of_wp_marks Tryz.func86 rfl trivial ?_ rfl
  simp only [Tryz.ntmps86, List.size_toArray, List.length_cons, List.length_nil, Nat.reduceAdd, Nat.reduceSub, Array.replicate_succ, Array.replicate_zero, List.push_toArray, List.append_toArray, List.nil_append, List.cons_append]
  rw [wpIn_wide]
  go_upto_region 1 with fail
  generalize w.alloc (.cells #[.bool false] 4) = w1 at *
  go_wp2_with (go_at_call 74; refine (splitseq_any _ _).mono ?_; rintro e w' ⟨rfl, rfl⟩)
  have hsz := S0.out.lt
  have BS := Lib.hid (((Boxed.new w1 9 (.string (bstr l))).alloc (.cells #[.string ⟨#[46]⟩] 9)).alloc (.cells #[.int .i64 0] 3))
  have BE := Lib.hid (show Boxed (((w1.alloc (.cells #[.string (bstr l)] 9)).alloc (.cells #[.string ⟨#[46]⟩] 9)).alloc (.cells #[.int .i64 0] 3)) (w1.heap.size + 1) 9 (.string ⟨#[46]⟩) from by
    have := (Boxed.new (w1.alloc (.cells #[.string (bstr l)] 9)) 9 (.string ⟨#[46]⟩)).alloc (.cells #[.int .i64 0] 3)
    rwa [World.size_alloc] at this)
  have BV := Lib.hid (show Boxed (((w1.alloc (.cells #[.string (bstr l)] 9)).alloc (.cells #[.string ⟨#[46]⟩] 9)).alloc (.cells #[.int .i64 0] 3)) (w1.heap.size + 1 + 1) 3 (.int .i64 0) from by
    have := Boxed.new ((w1.alloc (.cells #[.string (bstr l)] 9)).alloc (.cells #[.string ⟨#[46]⟩] 9)) 3 (.int .i64 0)
    rwa [World.size_alloc, World.size_alloc] at this)
  have SG := Lib.hid (((S0.out.alloc (.cells #[.string (bstr l)] 9)).alloc (.cells #[.string ⟨#[46]⟩] 9)).alloc (.cells #[.int .i64 0] 3))
  have BB := Lib.hid (((B0.out.alloc B0.out.size (.cells #[.string (bstr l)] 9)).alloc (by have := B0.out.size; simp; omega) (.cells #[.string ⟨#[46]⟩] 9)).alloc (by have := B0.out.size; simp; omega) (.cells #[.int .i64 0] 3))
  have hwz : (((w1.alloc (.cells #[.string (bstr l)] 9)).alloc (.cells #[.string ⟨#[46]⟩] 9)).alloc (.cells #[.int .i64 0] 3)).heap.size = w1.heap.size + 3 := by simp
  generalize ((w1.alloc (.cells #[.string (bstr l)] 9)).alloc (.cells #[.string ⟨#[46]⟩] 9)).alloc (.cells #[.int .i64 0] 3) = w2 at *
  generalize w1.heap.size = b at *
  have HWZ := Lib.hid hwz
  clear hwz S0 B0
  rw [← wpIn_wide (n := m)]
  refine range_b h1 (gf := 107) (lb := #[.pointer (some ⟨b + 1, 0, none⟩), .pointer (some ⟨b, 0, none⟩), .pointer (some ⟨b + 1 + 1, 0, none⟩)]) rfl (enters_of Tryz.func107 (by kernel_rfl) rfl) (bs := [b + 1, b, b + 1 + 1]) (b := b)
    (fun i hi => by have := HWZ.out; simp at hi; omega) (by simp) (split_seq l H8.out hl (m - 1) (by omega) (b + 1) b (b + 1 + 1) (by omega) (by omega) w2 BE.out BS.out BV.out) (fun _ => rfl)
    (fun pre W => (pre.all isDec = true ∧ Boxed W w.heap.size 4 (.bool false)) ∧ Below w.heap.size w W)
    (fun c pre W => (c = .ret ∧ pre.all isDec = false ∧ Boxed W w.heap.size 4 (.bool false)) ∧ Below w.heap.size w W)
    (OwnFrom.and (Own.from (fun s A B row hs hg hr => ⟨hs.1, own_box w.heap.size 4 (.bool false) (β := List (List Nat)) s A B row hs.2 hg hr⟩) _) (ownFrom_below (Nat.le_refl _) (by have := HWZ.out; omega)))
    (fun s W v hs => ⟨⟨hs.1.1, hs.1.2.other (by omega) v⟩, hs.2.setCell (p := ⟨b, 0, none⟩) (by show w.heap.size ≤ b; omega) v⟩)
    (fun c => OwnFrom.and (Own.from (fun s A B row hs hg hr => ⟨hs.1, hs.2.1, own_box w.heap.size 4 (.bool false) (β := List (List Nat)) s A B row hs.2.2 hg hr⟩) _) (ownFrom_below (Nat.le_refl _) (by have := HWZ.out; omega)))
    ⟨⟨rfl, SG.out⟩, BB.out⟩
    (fun x => { tmps := #[.string (bstr l), undef, .pointer (some ⟨w.heap.size, 0, none⟩), .string (bstr x), .string (bstr l), .func (.func 107) #[] #[.pointer (some ⟨b + 1, 0, none⟩), .pointer (some ⟨b, 0, none⟩), .pointer (some ⟨b + 1 + 1, 0, none⟩)], .string (bstr x), undef, undef, undef], defers := [] }) ?assign ?body ?done ?stop
  case assign =>
    rintro l y W K hK
    gi_wp2_with fail
    simpa [encS] using hK
  case body =>
    rintro lw pre x W hok ⟨⟨hp, hg⟩, hB⟩ hlen
    obtain ⟨hxa, hxl⟩ := split_mem (pre_mem hok)
    have hd := isdec_any x (fun c hc => H8.out c (hxa c hc)) (by omega) W
    have HD := Lib.hid hd
    have HP := Lib.hid hp
    have HG := Lib.hid hg
    have HB := Lib.hid hB
    clear hd hp hB hok hxa
    have cg := hg.cell
    have fg := hg.frozen
    clear hg
    cases hx : isDec x with
    | true =>
      rw [hx] at HD
      gi_wp2_with fail
      refine ⟨trivial, fun _ => by omega, ?_⟩
      refine (show CallsIn (Fence.wide.inRound lw) (m - 1 - 1 - 1) Tryz.prog 110 #[.string (bstr x)] W _ from callsIn_wide.2 HD.out).mono ?_
      rintro e w' ⟨rfl, rfl⟩
      gi_wp2_with fail
      exact ⟨KeepsOthers.refl _, fun i _ => rfl, ⟨by rw [List.all_append, HP.out]; simp [hx], HG.out⟩, HB.out⟩
    | false =>
      rw [hx] at HD
      gi_wp2_with fail
      refine ⟨trivial, fun _ => by omega, ?_⟩
      refine (show CallsIn (Fence.wide.inRound lw) (m - 1 - 1 - 1) Tryz.prog 110 #[.string (bstr x)] W _ from callsIn_wide.2 HD.out).mono ?_
      rintro e w' ⟨rfl, rfl⟩
      gi_wp2_with fail
      exact ⟨KeepsOthers.setCell _ _ _, ⟨rfl, by rw [List.all_append]; simp [hx], HG.out.set _⟩, HB.out.setCell (p := ⟨w.heap.size, 0, none⟩) (Nat.le_refl _) _⟩
  case done =>
    rintro D ys W hD rfl ⟨⟨hp, hg⟩, hB⟩ hK
    have cg := hg.cell
    have fg := hg.frozen
    have HG := Lib.hid hg
    have HB := Lib.hid hB
    have HKK := Lib.hid hK
    clear hg hB hK
    have HP := Lib.hid hp
    clear hp
    go_wp2
    have hK2 : (W.setCell ⟨w.heap.size, 0, none⟩ (.bool true)).heap[D]? = some (.deferred (some [])) := (setCell_heap (by have := HWZ.out; omega) _).trans HKK.out
    refine leaves_marks2 (fun W => Boxed W w.heap.size 4 (.bool true) ∧ Below w.heap.size w W) w.heap.size (fun W D hD h hk => ⟨boxed_put h.1 hk _, h.2.grown (grownBy_putObj' W D _) h.2.size (fun k e => by cases e; exact hD)⟩)
      (fun W h => ⟨_, res_bool rfl _ W w.heap.size true rfl h.1, by rw [HP.out], h.2⟩) [D] _ (by simp) (marks_one (by have := HWZ.out; omega) hK2) ⟨HG.out.set _, HB.out.setCell (p := ⟨w.heap.size, 0, none⟩) (Nat.le_refl _) _⟩
  case stop =>
    rintro D c pre W hD hpre ⟨⟨rfl, hp, hg⟩, hB⟩ hK
    have HP : Hid ((splitD l).all isDec = false) := Lib.hid (by
      obtain ⟨t, e⟩ := hpre
      rw [← e, List.all_append, hp]; rfl)
    have HG := Lib.hid hg
    have HB := Lib.hid hB
    have HKK := Lib.hid hK
    clear hpre hp hg hB hK
    rw [wpIn_wide]
    go_wp2
    refine leaves_marks2 (fun W => Boxed W w.heap.size 4 (.bool false) ∧ Below w.heap.size w W) w.heap.size (fun W D hD h hk => ⟨boxed_put h.1 hk _, h.2.grown (grownBy_putObj' W D _) h.2.size (fun k e => by cases e; exact hD)⟩)
      (fun W h => ⟨_, res_bool rfl _ W w.heap.size false rfl h.1, by rw [HP.out], h.2⟩) [D] _ (by simp) (marks_one (by have := HWZ.out; omega) HKK.out) ⟨HG.out, HB.out⟩
theorem isdotted_any (l : List Nat) (h8 : All8 l) (hl : l.length ≤ 1000000) (w : World) : Calls Tryz.prog 86 #[.string (bstr l)] w fun e w' => e = .returned (.bool ((splitD l).all isDec)) ∧ Below w.heap.size w w' :=
  callsIn_wide.1 (isdotted_in l h8 hl 6 (by omega) w)
end Go.Proofs.YtaiiihdckdjpoaaGreatDoor

/-!
  Package oids: the contract of Parse.
  Conditions: the string has at most 1000000 bytes; the variables hold what the program's text lays.
-/
namespace Go.Proofs.YtaiiihdckdjpoaaGreatDoor
open Go.RowKit Go.Shelf
attribute [local go_sem] Oper.semAt_some

/-- The value of a decimal number. -/
def vdA (a : Nat) (l : List Nat) : Nat := l.foldl (fun a c => 10 * a + (c - 48)) a
def vd (l : List Nat) : Nat := vdA 0 l
theorem vdA_ge : ∀ (l : List Nat) (a : Nat), a ≤ vdA a l
  | [], _ => Nat.le_refl _
  | c :: l, a => Nat.le_trans (by omega) (vdA_ge l (10 * a + (c - 48)))
theorem prsM : ∀ (l : List Nat) (a : Nat), All8 l → l.all dg = true → a ≤ 4294967295 → Lib.parseUintM 4294967295 a (l.map UInt8.ofNat) = if vdA a l ≤ 4294967295 then .ok (vdA a l) else .range
  | [], a, _, _, ha => by rw [List.map_nil, Lib.parseUintM, vdA, List.foldl_nil, if_pos ha]
  | c :: l, a, h8, hd, ha => by
    have hc := h8 c (by simp)
    rw [List.all_cons, Bool.and_eq_true] at hd
    have hc2 : 48 ≤ c ∧ c ≤ 57 := by have := hd.1; unfold dg at this; simpa using this
    rw [List.map_cons, Lib.parseUintM, UInt8.toNat_ofNat_of_lt' hc, if_pos hc2, if_neg (by omega)]
    have e : a * 10 + (c - 48) = 10 * a + (c - 48) := by omega
    rw [e]
    show _ = if vdA (10 * a + (c - 48)) l ≤ 4294967295 then _ else _
    by_cases h : 4294967295 < 10 * a + (c - 48)
    · rw [if_pos h, if_neg (by have := vdA_ge l (10 * a + (c - 48)); omega)]
    · rw [if_neg h, prsM l _ (fun x hx => h8 x (by simp [hx])) hd.2 (by omega)]
      rfl
theorem dec_ne {l : List Nat} (h : isDec l = true) : l ≠ [] ∧ l.all dg = true := by
  unfold isDec at h
  rw [Bool.and_eq_true] at h
  refine ⟨fun e => ?_, h.1⟩
  rw [e] at h
  exact absurd h.2 (by decide)
theorem prsB {l : List Nat} (h8 : All8 l) (h : isDec l = true) : Lib.parseUintB 32 (l.map UInt8.ofNat) = if vd l ≤ 4294967295 then .ok (vd l) else .range := by
  obtain ⟨h1, h2⟩ := dec_ne h
  unfold Lib.parseUintB
  rw [if_neg (by simpa using h1)]
  exact prsM l 0 h8 h2 (by omega)
theorem gER : Tryz.prog.globalNamed "strconv.ErrRange" = some 5 := by kernel_rfl
theorem pu_ok (x : List Nat) (h8 : All8 x) (hl : x.length ≤ 1000000) (h : isDec x = true) (hv : vd x ≤ 4294967295) (w : World) :
    Calls Tryz.prog 87 #[.string (bstr x), .int .i64 10, .int .i64 32] w fun e w' => e = .returned (.tuple #[.int .u64 (vd x : Int), .nilIface]) ∧ Below w.heap.size w w' :=
  (Tryz.strconv_ParseUint_10_at32_ok (bstr x) (by rw [bstr_size]; omega) (vd x) (by rw [bstr_list, prsB h8 h, if_pos hv]) w).mono fun e w' ⟨h1, h2⟩ => ⟨h1, by
    rcases h2 with rfl | rfl
    · exact Below.refl _ _
    · exact Lib.bytesWorld_below _ _ _⟩
theorem pu_range (x : List Nat) (h8 : All8 x) (hl : x.length ≤ 1000000) (h : isDec x = true) (hv : 4294967295 < vd x) (w : World) (hE : Env w) :
    Calls Tryz.prog 87 #[.string (bstr x), .int .i64 10, .int .i64 32] w fun e w' => ∃ t N, e = .returned (.tuple #[.int .u64 4294967295, .iface t (.pointer (some ⟨N, 0, none⟩))]) ∧ Below w.heap.size w w' := by
  obtain ⟨tp, p, hr⟩ := hE.rng
  have hc := World.var?_cell gER hr 0
  exact (Tryz.strconv_ParseUint_10_at32_range (bstr x) (by rw [bstr_size]; omega) (by rw [bstr_list, prsB h8 h, if_neg (by omega)]) _ w hc (.inr ⟨_, _, rfl⟩)).mono fun e w' ⟨N, h1, _, _, h4⟩ => ⟨_, N, h1, h4⟩
/-- Is each number small enough, and are there not too many? -/
def fits (ps : List (List Nat)) : Bool := decide (ps.length ≤ 16) && ps.all fun x => decide (vd x ≤ 4294967295)
/-- What Parse reads. -/
def prsO (l : List Nat) : Nat × List Nat × Nat :=
  if (splitD l).all isDec = false then (0, zeroL, 6) else if fits (splitD l) = false then (0, zeroL, 3)
  else if chkO (splitD l).length (pad ((splitD l).map vd)) = 0 then ((splitD l).length, pad ((splitD l).map vd), 0) else (0, zeroL, 1)
/-- The walk's step at the store of a whole OID inside a fence. -/
theorem wpListIn_store25 {F : Fence} {n : Nat} {ops : Array Oper} {rest : List Oper} {o : Oper} {a : Act} {w : World} {Q : Exit → Act → World → Prop} (hgd : o.guard = none) (x v : Operand) (ho : o.op = .store 26 x v)
    {g m : Nat} {l : List Nat} {cs : List Value} (hx : a.eval x = .pointer (some ⟨g, 0, none⟩)) (hv : a.eval v = oV m l) (hg : Bk w g 26 cs) (hc : cs.length = 17) (hl : l.length = 16)
    (h : ∀ w', Bk w' g 26 (oc m l) → w.grownBy w' (some g) → w'.heap.size = w.heap.size → wpListIn F n Tryz.prog ops Q rest (a.put o.dst undef) w') : wpListIn F n Tryz.prog ops Q (o :: rest) a w := by
  refine wpListIn_plain hgd fun K hK => ?_
  obtain ⟨W', h1, h2, h3, h4⟩ := store25 hg hc hl (n := m)
  have hK' := hK _ _ (h W' h2 h3 h4)
  unfold Oper.wpIn
  refine ⟨?_, ?_⟩
  · simp [Oper.about, ho]
  · rw [Oper.semAt_plain F _ _ (by rw [ho]; intro c hc'; cases hc')]
    unfold execOp
    simp only [ho, hx, hv, Instr.storeAt, Instr.sureAddr, Sem.run_bind, Sem.run_pure, Result.andThen_ok, h1]
    exact hK'
theorem app32 {w : World} {base : Nat} {v : Value} {xs : List Nat} (hown : w.ownsRow base 23 1 v xs.length (cs32 xs)) (y : Nat) (hb : base ≤ w.heap.size) (hl : xs.length ≤ 1000) :
    ∃ v' w', (Builtin.append_ #[70, 70] 70 #[v, .slice (some ⟨w.heap.size, 0, none⟩) 1 1]).run Tryz.prog (w.alloc (.cells #[.int .u32 (y : Int)] 23)) = .ok v' w' ∧ w'.ownsRow base 23 1 v' (xs ++ [y]).length (cs32 (xs ++ [y])) ∧ (w.alloc (.cells #[.int .u32 (y : Int)] 23)).grownBy w' v.ownBlock ∧ ∃ g c, v' = .slice (some ⟨g, 0, none⟩) (xs.length + 1) c := by
  obtain ⟨i, hi, hz0, hz1, hz2⟩ := info_parts (show (Tryz.prog.info? 23).map (fun i => (i.zero, i.size, i.bytes)) = some (some (.int .u32 0), 1, 4) by kernel_rfl)
  obtain ⟨v', w', hrun, h2, h3, _⟩ := run_append_own (P := Tryz.prog) (w.alloc (.cells #[.int .u32 (y : Int)] 23)) base 70 70 23 i (.int .u32 0) 1 4 Tryz.underlying70 hi hz0 hz1 hz2 rfl (by decide) v xs.length (cs32 xs) (hown.alloc _) ⟨w.heap.size, 0, none⟩ 1 1 [.int .u32 (y : Int)] rfl
    (fun j u hu => by
      obtain ⟨hj, rfl⟩ := List.getElem?_eq_some_iff.1 hu
      have : j = 0 := by simpa using hj
      subst this
      simp [Addr.add, go_sem]) (by simp [Value.oneCell']) (by unfold maxLen; omega) (by omega) (by simp; omega)
  obtain ⟨g, c, e⟩ := ownsRow_succ h2
  refine ⟨v', w', hrun, ?_, h3, g, c, e⟩
  have e2 : cs32 xs ++ [.int .u32 (y : Int)] = cs32 (xs ++ [y]) := by unfold cs32; rw [List.map_append]; rfl
  rw [e2] at h2
  rw [List.length_append, List.length_singleton]
  exact h2
end Go.Proofs.YtaiiihdckdjpoaaGreatDoor

/-!
  Package oids: what stands between two rounds of Parse; its results.
-/
namespace Go.Proofs.YtaiiihdckdjpoaaGreatDoor
open Go.RowKit Go.Shelf
attribute [local go_sem] Oper.semAt_some

/-- An OID's cells and an error's cell are returned. -/
theorem res_oe {fn : Func} {p q : Tmp} (h : fn.results = #[.cell p 26, .cell q 29]) (tmps : Array Value) (W : World) {g g' m : Nat} {l : List Nat} {f : Int} (hp : tmps.getD p undef = .pointer (some ⟨g, 0, none⟩)) (hq : tmps.getD q undef = .pointer (some ⟨g', 0, none⟩))
    (hg : Bk W g 26 (oc m l)) (hl : l.length = 16) (hb : Boxed W g' 29 (.int .i64 f)) : (results fn tmps).run Tryz.prog W = .ok (.tuple #[oV m l, .int .i64 f]) W := by
  have hc := hb.cell
  have hload := run_loadVar_mid (P := Tryz.prog) W g 0 _ (oc m l) _ (range25 hg) Tryz.underlying26 rfl (by rw [oc_length, hl]; exact info25)
  have hp' : tmps[p]?.getD undef = .pointer (some ⟨g, 0, none⟩) := by simpa using hp
  have hq' : tmps[q]?.getD undef = .pointer (some ⟨g', 0, none⟩) := by simpa using hq
  have hl2 : (loadVar 29 ⟨g', 0, none⟩).run Tryz.prog W = .ok (.int .i64 f) W := by simp [go_sem, hc]
  simp only [results, h]
  simp [Sem.run_bind, Result.andThen, hp', hq', asAddr, hload, hl2]
theorem own32 {w : World} {base : Nat} {v : Value} {l : List Nat} (h : w.ownsRow base 23 1 v l.length (cs32 l)) : ∃ A c, v = .slice A l.length c ∧ R32 w A l ∧ l.length ≤ c ∧ c ≤ maxLen := by
  have := own_open (e := 23) (base := base) (w := w) (v := v) (xs := cs32 l) (by rw [cs32_length]; exact h)
  rw [cs32_length] at this
  exact this
theorem keeps_below {W W' : World} (h : Below W.heap.size W W') : KeepsOthers W W' := ⟨h.size, fun k _ hk _ => (h.block k (Array.getElem?_eq_some_iff.1 hk).1).trans hk⟩

/-- What stands between two rounds. -/
def ParW (w2 : World) (base g4 : Nat) (zl ys : List Nat) (W : World) : Prop :=
  (∃ v, Boxed W g4 70 v ∧ W.ownsRow w2.heap.size 23 1 v ys.length (cs32 ys) ∧ True) ∧ (Bk W base 26 (oc 0 zl) ∧ Boxed W (base + 1) 29 (.int .i64 0)) ∧ Below base w2 W
theorem ParW.below {w2 : World} {base g4 : Nat} {zl ys : List Nat} {W W' : World} (h : ParW w2 base g4 zl ys W) (hb : Below W.heap.size W W') (hB : base ≤ w2.heap.size) : ParW w2 base g4 zl ys W' := by
  obtain ⟨⟨v, h1, h2, -⟩, ⟨h3, h4⟩, h5⟩ := h
  refine ⟨⟨v, (hb.block g4 h1.lt).trans h1, own_below h2 hb, trivial⟩, ⟨h3.below hb h3.lt, (hb.block _ h4.lt).trans h4⟩, h5.trans (hb.mono (Nat.le_trans hB h5.size))⟩
theorem ParW.cell {w2 : World} {base g4 b : Nat} {zl ys : List Nat} {W : World} (h : ParW w2 base g4 zl ys W) (h1 : g4 < b) (h2 : base + 1 < g4) (h3 : b < w2.heap.size) (u : Value) : ParW w2 base g4 zl ys (W.setCell ⟨b, 0, none⟩ u) := by
  obtain ⟨⟨v, k1, k2, -⟩, ⟨k3, k4⟩, k5⟩ := h
  exact ⟨⟨v, k1.other (by omega) _, ownsRow_setCell_below k2 (a := ⟨b, 0, none⟩) h3 u, trivial⟩, ⟨k3.far (p := ⟨b, 0, none⟩) (by show base ≠ b; omega) _, k4.other (by omega) _⟩, k5.setCell (p := ⟨b, 0, none⟩) (by show base ≤ b; omega) _⟩
theorem parW_own (w2 : World) (base g4 : Nat) (zl : List Nat) (B : Nat) (h1 : base ≤ w2.heap.size) (h2 : base ≤ B) (f : List (List Nat) → List Nat) : OwnFrom B (fun s W => ParW w2 base g4 zl (f s) W) :=
  OwnFrom.and (Own.from (holdsRow_own w2.heap.size g4 70 23 1 (fun s => (f s).length) (fun s => cs32 (f s)) (fun _ _ => True)) B)
    (OwnFrom.and (OwnFrom.and (Own.from (own_bk base 26 _) B) (Own.from (own_box (base + 1) 29 _) B)) (ownFrom_below h1 h2))
/-- A round ends. -/
theorem parW_end {w2 W w3 : World} {base g4 y : Nat} {zl ys : List Nat} {v v' : Value} {tmp : Obj} {bs : List Nat} (hbs : ∀ i ∈ bs, g4 < i ∧ i < w2.heap.size) (h2 : base + 1 < g4) (hg4 : g4 < w2.heap.size) (hP : ParW w2 base g4 zl ys W) (hv : Boxed W g4 70 v) (hrow : W.ownsRow w2.heap.size 23 1 v ys.length (cs32 ys))
    (hown : w3.ownsRow w2.heap.size 23 1 v' (ys ++ [y]).length (cs32 (ys ++ [y]))) (hg : (W.alloc tmp).grownBy w3 v.ownBlock) :
    KeepsOthers W (w3.setCell ⟨g4, 0, none⟩ v') ∧ KeepH bs W (w3.setCell ⟨g4, 0, none⟩ v') ∧ ParW w2 base g4 zl (ys ++ [y]) (w3.setCell ⟨g4, 0, none⟩ v') := by
  obtain ⟨-, ⟨k3, k4⟩, k5⟩ := hP
  have hsz := k5.size
  have hlow : ∀ i, i < w2.heap.size → w3.heap[i]? = W.heap[i]? := fun i hi =>
    (hg.block i (by simp; omega) (fun e => by have := (hrow.lt i e.symm).1; omega)).trans (Below.heap_alloc W tmp i (by omega))
  refine ⟨?_, fun i hi => ?_, ⟨⟨v', ?_, ownsRow_setCell_below hown (a := ⟨g4, 0, none⟩) hg4 v', trivial⟩, ⟨?_, ?_⟩, ?_⟩⟩
  · refine ((KeepsOthers.alloc W tmp).trans (KeepsOthers.of_grownBy hg fun j o ej hj => ?_)).trans (KeepsOthers.setCell _ _ _)
    rcases (hrow.alloc tmp).2 with ⟨rfl, _⟩ | ⟨g, cap, cur, rfl, _, hgb, _⟩
    · simp [Value.ownBlock] at ej
    · obtain rfl : g = j := by simpa [Value.ownBlock] using ej
      rw [hgb] at hj; cases hj; rfl
  · exact (setCell_heap (by have := hbs i hi; omega) _).trans (hlow i (hbs i hi).2)
  · exact (show Boxed w3 g4 70 v from (hlow g4 hg4).trans hv).set v'
  · exact (show Bk w3 base 26 (oc 0 zl) from (hlow base (by omega)).trans k3).far (p := ⟨g4, 0, none⟩) (by show base ≠ g4; omega) _
  · exact (show Boxed w3 (base + 1) 29 _ from (hlow _ (by omega)).trans k4).other (by omega) _
  · exact ((k5.alloc (by omega) tmp).grown hg (by simp; omega) (fun k e => by have := (hrow.lt k e).1; omega)).setCell (p := ⟨g4, 0, none⟩) (by show base ≤ g4; omega) _
theorem fits_false {ps qs : List (List Nat)} (h : ps <+: qs) (hp : fits ps = false) : fits qs = false := by
  obtain ⟨t, rfl⟩ := h
  unfold fits at hp ⊢
  rw [Bool.and_eq_false_iff] at hp ⊢
  rcases hp with hp | hp
  · left; simp at hp ⊢; omega
  · right; rw [List.all_append, hp]; rfl
theorem fits_snoc {ps : List (List Nat)} {x : List Nat} (h : fits ps = true) : fits (ps ++ [x]) = (decide (ps.length ≠ 16) && decide (vd x ≤ 4294967295)) := by
  unfold fits at h ⊢
  rw [Bool.and_eq_true, decide_eq_true_eq] at h
  rw [List.all_append, h.2, List.length_append, List.length_singleton, Bool.true_and, List.all_cons, List.all_nil, Bool.and_true]
  congr 1
  rw [decide_eq_decide]; omega
end Go.Proofs.YtaiiihdckdjpoaaGreatDoor

/-!
  Package oids: the contract of Parse.
  Conditions: the string has at most 1000000 bytes; the variables hold what the program's text lays.
-/
namespace Go.Proofs.YtaiiihdckdjpoaaGreatDoor
open Go.RowKit Go.Shelf
attribute [local go_sem] Oper.semAt_some

theorem bk_put {W : World} {g D : Nat} {t : TypeId} {cs : List Value} (h : Bk W g t cs) (hD : W.heap[D]? = some (.deferred (some []))) (o : Obj) : Bk (W.putObj D o) g t cs :=
  h.only (grownBy_putObj' W D o) (fun e => by injection e with e; subst e; rw [show W.heap[g]? = _ from h] at hD; cases hD)

set_option maxRecDepth 100000 in
set_option maxHeartbeats 4000000 in
theorem parse_in (l : List Nat) (h8 : All8 l) (hl : l.length ≤ 1000000) (m : Nat) (hm : 8 ≤ m) (w : World) (hE : Env w) :
    CallsIn Fence.wide m Tryz.prog 75 #[.string (bstr l)] w (GiveG w (prsO l)) := by
  have h1 : 1 ≤ m := by omega
  have hz := zero25
  have HZP : Hid (zeroL = pad []) := Lib.hid rfl
  have hdot := fun w => isdotted_any l h8 hl w
  obtain ⟨zl, hzl⟩ : ∃ zl, zeroL = zl := ⟨_, rfl⟩
  have HZ := Lib.hid hzl
  have HZL : Hid (zl.length = 16) := Lib.hid (by rw [← hzl]; exact zeroL_length)
  rw [hzl] at hz
  have S0 := Lib.hid ((Bk.new w 26 (oc 0 zl)).alloc (.cells #[.int .i64 0] 29))
  have T0 := Lib.hid (show Boxed ((w.alloc (.cells (oc 0 zl).toArray 26)).alloc (.cells #[.int .i64 0] 29)) (w.heap.size + 1) 29 (.int .i64 0) from by
    have := Boxed.new (w.alloc (.cells (oc 0 zl).toArray 26)) 29 (.int .i64 0)
    rwa [World.size_alloc] at this)
  have B0 := Lib.hid ((bel1 w (.cells (oc 0 zl).toArray 26)).alloc (by simp) (.cells #[.int .i64 0] 29))
  have H8 := Lib.hid h8
  have HE := Lib.hid hE
  have HDOT := Lib.hid hdot
  clear h8 hE hzl hdot
  cases hd : (splitD l).all isDec with
  | false =>
    have HO : Hid (prsO l = (0, zl, 6)) := Lib.hid (by unfold prsO; rw [if_pos hd, HZ.out])
    have HD := Lib.hid hd
    clear hd
    refine callsIn_of_wp_marks Tryz.func75 rfl trivial ?_ rfl
    simp only [Tryz.ntmps75, List.size_toArray, List.length_cons, List.length_nil, Nat.reduceAdd, Nat.reduceSub, Array.replicate_succ, Array.replicate_zero, List.push_toArray, List.append_toArray, List.nil_append, List.cons_append]
    rw [wpIn_wide]
    go_upto_region 1 with fail
    generalize (w.alloc (.cells (oc 0 zl).toArray 26)).alloc (.cells #[.int .i64 0] 29) = w1 at *
    go_upto_region 2 with (go_at_call 86; refine (HDOT.out _).mono ?_; rw [HD.out]; rintro e w2 ⟨rfl, hb⟩; have B2 := bt B0 (Lib.hid hb); have S2 := kt S0 (Lib.hid hb); have T2 := Lib.hid (show Boxed w2 (w.heap.size + 1) 29 (.int .i64 0) from (hb.block _ T0.out.lt).trans T0.out); clear hb)
    go_wp2_with (refine wpList_store25 rfl (.tmp 2) (.tmp 13) rfl rfl rfl S2.out (by rw [oc_length, HZL.out]) HZL.out ?_; intro w5 S5 hg5 hz5; have HS5 := Lib.hid S5; have T5 := Lib.hid (T2.out.kept hg5 (by intro e; injection e with e; omega)); have f5 := T5.out.frozen; have c5 := T5.out.cell; have HB5 := Lib.hid (B2.out.grown hg5 B2.out.size (fun k e => by injection e with e; omega)); clear S5 hg5 hz5)
    have T6 := Lib.hid (T5.out.set (.int .i64 6))
    have S6 := Lib.hid (HS5.out.far (p := ⟨w.heap.size + 1, 0, none⟩) (by simp) (.int .i64 6))
    have B6 := Lib.hid (HB5.out.setCell (p := ⟨w.heap.size + 1, 0, none⟩) (by simp) (.int .i64 6))
    refine leaves_marks2 (fun W => Bk W w.heap.size 26 (oc 0 zl) ∧ Boxed W (w.heap.size + 1) 29 (.int .i64 6) ∧ Below w.heap.size w W) w.heap.size (fun W D hD h hk => ⟨bk_put h.1 hk _, boxed_put h.2.1 hk _, h.2.2.grown (grownBy_putObj' W D _) h.2.2.size (fun k e => by cases e; exact hD)⟩)
      (fun W h => ⟨_, res_oe rfl _ W rfl rfl h.1 HZL.out h.2.1, by rw [HO.out]; rfl, h.2.2⟩) [] _ (by simp) (by simp) ⟨S6.out, T6.out, B6.out⟩
  | true =>
    have HD := Lib.hid hd
    clear hd
    refine callsIn_of_wp_marks Tryz.func75 rfl trivial ?_ rfl
    simp only [Tryz.ntmps75, List.size_toArray, List.length_cons, List.length_nil, Nat.reduceAdd, Nat.reduceSub, Array.replicate_succ, Array.replicate_zero, List.push_toArray, List.append_toArray, List.nil_append, List.cons_append]
    rw [wpIn_wide]
    go_upto_region 1 with fail
    generalize (w.alloc (.cells (oc 0 zl).toArray 26)).alloc (.cells #[.int .i64 0] 29) = w1 at *
    go_upto_region 3 with (go_at_call 86; refine (HDOT.out _).mono ?_; rw [HD.out]; rintro e w2 ⟨rfl, hb⟩; have B2 := bt B0 (Lib.hid hb); have S2 := kt S0 (Lib.hid hb); have E2 := Lib.hid (HE.out.below (B0.out.trans (hb.mono B0.out.size))); have T2 := Lib.hid (show Boxed w2 (w.heap.size + 1) 29 (.int .i64 0) from (hb.block _ T0.out.lt).trans T0.out); clear hb)
    have S3 := Lib.hid (S2.out.alloc (.cells #[.slice none 0 0] 70))
    have T3 := Lib.hid (T2.out.alloc (.cells #[.slice none 0 0] 70))
    have B3 := Lib.hid (B2.out.alloc B2.out.size (.cells #[.slice none 0 0] 70))
    have E3 := Lib.hid (E2.out.below ((Below.refl w2.heap.size w2).alloc (Nat.le_refl _) (.cells #[.slice none 0 0] 70)))
    have V3 := Lib.hid (Boxed.new w2 70 (.slice none 0 0))
    have hg4 : w.heap.size + 1 < w2.heap.size := T2.out.lt
    have HG4 := Lib.hid hg4
    clear S0 T0 B0 S2 T2 B2 E2 hg4
    go_upto_region 4 with fail
    generalize w2.alloc (.cells #[.slice none 0 0] 70) = w3 at *
    generalize w2.heap.size = g4 at *
    have hg43 := V3.out.lt
    have HG43 := Lib.hid hg43
    clear hg43
    go_wp2_with (go_at_call 74; refine (splitseq_any _ _).mono ?_; rintro e w' ⟨rfl, rfl⟩)
    have BS := Lib.hid (((Boxed.new w3 9 (.string (bstr l))).alloc (.cells #[.string ⟨#[46]⟩] 9)).alloc (.cells #[.int .i64 0] 3))
    have BE := Lib.hid (show Boxed (((w3.alloc (.cells #[.string (bstr l)] 9)).alloc (.cells #[.string ⟨#[46]⟩] 9)).alloc (.cells #[.int .i64 0] 3)) (w3.heap.size + 1) 9 (.string ⟨#[46]⟩) from by
      have := (Boxed.new (w3.alloc (.cells #[.string (bstr l)] 9)) 9 (.string ⟨#[46]⟩)).alloc (.cells #[.int .i64 0] 3)
      rwa [World.size_alloc] at this)
    have BV := Lib.hid (show Boxed (((w3.alloc (.cells #[.string (bstr l)] 9)).alloc (.cells #[.string ⟨#[46]⟩] 9)).alloc (.cells #[.int .i64 0] 3)) (w3.heap.size + 1 + 1) 3 (.int .i64 0) from by
      have := Boxed.new ((w3.alloc (.cells #[.string (bstr l)] 9)).alloc (.cells #[.string ⟨#[46]⟩] 9)) 3 (.int .i64 0)
      rwa [World.size_alloc, World.size_alloc] at this)
    have hb3 : Below w3.heap.size w3 (((w3.alloc (.cells #[.string (bstr l)] 9)).alloc (.cells #[.string ⟨#[46]⟩] 9)).alloc (.cells #[.int .i64 0] 3)) :=
      (((Below.refl _ w3).alloc (Nat.le_refl _) (.cells #[.string (bstr l)] 9)).alloc (by simp) (.cells #[.string ⟨#[46]⟩] 9)).alloc (by simp; omega) (.cells #[.int .i64 0] 3)
    have S4 := kt S3 (Lib.hid hb3)
    have T4 := Lib.hid (show Boxed _ (w.heap.size + 1) 29 (.int .i64 0) from (hb3.block _ T3.out.lt).trans T3.out)
    have V4 := Lib.hid (show Boxed _ g4 70 (.slice none 0 0) from (hb3.block _ V3.out.lt).trans V3.out)
    have B4 := bt B3 (Lib.hid hb3)
    have E4 := et E3 (Lib.hid hb3)
    have hwz : (((w3.alloc (.cells #[.string (bstr l)] 9)).alloc (.cells #[.string ⟨#[46]⟩] 9)).alloc (.cells #[.int .i64 0] 3)).heap.size = w3.heap.size + 3 := by simp
    clear hb3 S3 T3 V3 B3 E3
    generalize ((w3.alloc (.cells #[.string (bstr l)] 9)).alloc (.cells #[.string ⟨#[46]⟩] 9)).alloc (.cells #[.int .i64 0] 3) = w4 at *
    generalize w3.heap.size = b at *
    have HWZ := Lib.hid hwz
    clear hwz
    rw [← wpIn_wide (n := m)]
    refine range_b h1 (gf := 107) (lb := #[.pointer (some ⟨b + 1, 0, none⟩), .pointer (some ⟨b, 0, none⟩), .pointer (some ⟨b + 1 + 1, 0, none⟩)]) rfl (enters_of Tryz.func107 (by kernel_rfl) rfl) (bs := [b + 1, b, b + 1 + 1]) (b := b)
      (fun i hi => by have := HWZ.out; simp at hi; omega) (by simp) (split_seq l H8.out hl (m - 1) (by omega) (b + 1) b (b + 1 + 1) (by omega) (by omega) w4 BE.out BS.out BV.out) (fun _ => rfl)
      (fun pre W => fits pre = true ∧ ParW w4 w.heap.size g4 zl (pre.map vd) W)
      (fun c pre W => (c = .ret ∧ fits pre = false ∧ Bk W w.heap.size 26 (oc 0 zl) ∧ Boxed W (w.heap.size + 1) 29 (.int .i64 3)) ∧ Below w.heap.size w W)
      (OwnFrom.and (fun s A B row hs hg hr => hs) (parW_own w4 w.heap.size g4 zl _ (by have := HWZ.out; have := HG4.out; have := HG43.out; omega) (by have := HWZ.out; have := HG4.out; have := HG43.out; omega) (fun s => s.map vd)))
      (fun s W v hs => ⟨hs.1, hs.2.cell (by have := HG43.out; omega) (by have := HG4.out; omega) (by have := HWZ.out; omega) v⟩)
      (fun c => OwnFrom.and (Own.from (fun s A B row hs hg hr => ⟨hs.1, hs.2.1, own_bk w.heap.size 26 (oc 0 zl) (β := List (List Nat)) s A B row hs.2.2.1 hg hr, own_box (w.heap.size + 1) 29 (.int .i64 3) (β := List (List Nat)) s A B row hs.2.2.2 hg hr⟩) _) (ownFrom_below (Nat.le_refl _) (by have := HWZ.out; have := HG4.out; have := HG43.out; omega)))
      ⟨rfl, ⟨⟨_, V4.out, World.ownsRow_nil _ _ _ _, trivial⟩, ⟨S4.out, T4.out⟩, Below.refl _ _⟩⟩
      (fun x => { tmps := #[.string (bstr l), undef, .pointer (some ⟨w.heap.size, 0, none⟩), .pointer (some ⟨w.heap.size + 1, 0, none⟩), .pointer (some ⟨g4, 0, none⟩), .string (bstr x), undef, undef, undef, undef, .string (bstr l), .bool true, .bool false, undef, .string (bstr l), .func (.func 107) #[] #[.pointer (some ⟨b + 1, 0, none⟩), .pointer (some ⟨b, 0, none⟩), .pointer (some ⟨b + 1 + 1, 0, none⟩)], .string (bstr x), undef, undef, undef, undef, undef, undef, undef, undef, undef, undef, undef, undef, undef, undef, undef, undef, undef, undef, undef, undef, undef, undef, undef, undef, undef, undef, undef], defers := [] }) ?assign ?body ?done ?stop
    case assign =>
      rintro l y W K hK
      gi_wp2_with fail
      simpa [encS] using hK
    case body =>
      rintro lw pre x W hok ⟨hf, hP⟩ hlen
      have hxm := pre_mem hok
      obtain ⟨hxa, hxl⟩ := split_mem hxm
      have hx8 : All8 x := fun c hc => H8.out c (hxa c hc)
      have hxd : isDec x = true := List.all_eq_true.1 HD.out x hxm
      have hEW := HE.out.below (B4.out.trans hP.2.2)
      have hfs := fits_snoc (x := x) hf
      have hpl : pre.length ≤ 16 := by unfold fits at hf; rw [Bool.and_eq_true, decide_eq_true_eq] at hf; exact hf.1
      have HP := Lib.hid hP
      have HFS := Lib.hid hfs
      have hx9 : x.length ≤ 1000000 := by omega
      clear hP hfs hf hxa hxm hok
      obtain ⟨y, hy⟩ : ∃ y, vd x = y := ⟨_, rfl⟩
      obtain ⟨ys, hys⟩ : ∃ ys, pre.map vd = ys := ⟨_, rfl⟩
      have HYL : Hid (ys.length = pre.length) := Lib.hid (by rw [← hys, List.length_map])
      have HY := Lib.hid hy
      have HYS := Lib.hid hys
      rw [hys] at HP
      by_cases hv : y ≤ 4294967295
      · have HPU := Lib.hid (pu_ok x hx8 hx9 hxd (by rw [hy]; exact hv) W)
        rw [hy] at HPU
        clear hx8 hxd hEW hys hy
        by_cases hn : ys.length = 16
        · have hnb : ((ys.length : Int) == 16) = true := by rw [beq_iff_eq]; omega
          have HF : Hid (fits (pre ++ [x]) = false) := Lib.hid (by rw [HFS.out, decide_eq_false (by have := HYL.out; omega)]; rfl)
          gi_wp2_with fail
          refine ⟨trivial, fun _ => by omega, ?_⟩
          refine (show CallsIn (Fence.wide.inRound lw) (m - 1 - 1 - 1) Tryz.prog 87 #[.string (bstr x), .int .i64 10, .int .i64 32] W _ from callsIn_wide.2 HPU.out).mono ?_
          rintro e w5 ⟨rfl, hb⟩
          obtain ⟨⟨v, hv5, hrow, -⟩, ⟨hs5, ht5⟩, hb5⟩ := HP.out.below hb (by have := HWZ.out; have := HG4.out; have := HG43.out; omega)
          obtain ⟨A, c, rfl, hrd, hlc, hcm⟩ := own32 hrow
          have c4 := hv5.cell
          have HS := Lib.hid hs5
          have HT := Lib.hid ht5
          have HBB := Lib.hid hb5
          have HK := Lib.hid (keeps_below hb)
          clear hv5 hrow hs5 ht5 hb5 hrd hb
          gi_wp2_with (refine wpListIn_store25 rfl (.tmp 2) (.tmp 29) rfl rfl rfl HS.out (by rw [oc_length, HZL.out]) HZL.out ?_; intro w6 S6 hg6 hz6; have HS6 := Lib.hid S6; have T6 := Lib.hid (HT.out.kept hg6 (by intro e; injection e with e; omega)); have f6 := T6.out.frozen; have c6 := T6.out.cell; have HB6 := Lib.hid (HBB.out.grown hg6 (by have := HBB.out.size; have := HWZ.out; have := HG4.out; have := HG43.out; omega) (fun k e => by injection e with e; omega)); have HK6 := Lib.hid (HK.out.trans (KeepsOthers.of_grownBy hg6 (fun j o ej hj => by injection ej with ej; subst ej; rw [show _ = some _ from HS.out] at hj; cases hj; rfl))); clear S6 hg6 hz6)
          exact ⟨HK6.out.trans (KeepsOthers.setCell _ _ _), ⟨rfl, HF.out, HS6.out.far (p := ⟨w.heap.size + 1, 0, none⟩) (by simp) _, T6.out.set _⟩, B4.out.trans (HB6.out.setCell (p := ⟨w.heap.size + 1, 0, none⟩) (by simp) _)⟩
        · have hnb : ((ys.length : Int) == 16) = false := by rw [beq_eq_false_iff_ne]; omega
          have HF : Hid (fits (pre ++ [x]) = true) := Lib.hid (by rw [HFS.out, decide_eq_true (by have := HYL.out; omega), decide_eq_true (by rw [HY.out]; exact hv)]; rfl)
          gi_wp2_with fail
          refine ⟨trivial, fun _ => by omega, ?_⟩
          refine (show CallsIn (Fence.wide.inRound lw) (m - 1 - 1 - 1) Tryz.prog 87 #[.string (bstr x), .int .i64 10, .int .i64 32] W _ from callsIn_wide.2 HPU.out).mono ?_
          rintro e w5 ⟨rfl, hb⟩
          have HP5 := Lib.hid (HP.out.below hb (by have := HWZ.out; have := HG4.out; have := HG43.out; omega))
          obtain ⟨⟨v, hv5, hrow, -⟩, -, hb5⟩ := HP5.out
          obtain ⟨A, c, rfl, hrd, hlc, hcm⟩ := own32 hrow
          obtain ⟨v', w6, hrun, hown', hg6, g', c', rfl⟩ := app32 hrow y hb5.size (by have := HYL.out; omega)
          have c4 := hv5.cell
          have HV5 := Lib.hid hv5
          have HROW := Lib.hid hrow
          have hv6 := (hv5.alloc (.cells #[.int .u32 (y : Int)] 23)).kept hg6 (hv5.not_row (by decide) hrow)
          have c6 := hv6.cell
          have f6 := hv6.frozen
          have HOWN := Lib.hid hown'
          have HG6 := Lib.hid hg6
          have HK := Lib.hid (keeps_below hb)
          have HKH : Hid (KeepH [b + 1, b, b + 1 + 1] W w5) := Lib.hid (fun i hi => hb.block i (by have := HP.out.2.2.size; have := HWZ.out; simp at hi; omega))
          clear hv5 hrow hb5 hrd hb hown' hg6 hv6
          gi_wp2_with (gi_at_builtin; refine wpListIn_app rfl _ _ _ _ rfl _ _ rfl rfl hrun ?_)
          obtain ⟨k1, k2, k3⟩ := parW_end (bs := [b + 1, b, b + 1 + 1]) (fun i hi => by have := HWZ.out; have := HG43.out; simp at hi; omega) HG4.out (by have := HWZ.out; have := HG43.out; omega) HP5.out HV5.out HROW.out HOWN.out HG6.out
          exact ⟨HK.out.trans k1, HKH.out.trans k2, HF.out, by rw [List.map_append, HYS.out, List.map_cons, List.map_nil, HY.out]; exact k3⟩
      · have HPU := Lib.hid (pu_range x hx8 hx9 hxd (by rw [hy]; omega) W hEW)
        have HF : Hid (fits (pre ++ [x]) = false) := Lib.hid (by rw [HFS.out, decide_eq_false (p := vd x ≤ 4294967295) (by rw [hy]; exact hv), Bool.and_false])
        clear hx8 hxd hEW hys hy
        gi_wp2_with fail
        refine ⟨trivial, fun _ => by omega, ?_⟩
        refine (show CallsIn (Fence.wide.inRound lw) (m - 1 - 1 - 1) Tryz.prog 87 #[.string (bstr x), .int .i64 10, .int .i64 32] W _ from callsIn_wide.2 HPU.out).mono ?_
        rintro e w5 ⟨tt, NN, rfl, hb⟩
        obtain ⟨⟨v, hv5, hrow, -⟩, ⟨hs5, ht5⟩, hb5⟩ := HP.out.below hb (by have := HWZ.out; have := HG4.out; have := HG43.out; omega)
        have HS := Lib.hid hs5
        have HT := Lib.hid ht5
        have HBB := Lib.hid hb5
        have HK := Lib.hid (keeps_below hb)
        clear hv5 hrow hs5 ht5 hb5 hb
        gi_wp2_with (refine wpListIn_store25 rfl (.tmp 2) (.tmp 29) rfl rfl rfl HS.out (by rw [oc_length, HZL.out]) HZL.out ?_; intro w6 S6 hg6 hz6; have HS6 := Lib.hid S6; have T6 := Lib.hid (HT.out.kept hg6 (by intro e; injection e with e; omega)); have f6 := T6.out.frozen; have c6 := T6.out.cell; have HB6 := Lib.hid (HBB.out.grown hg6 (by have := HBB.out.size; have := HWZ.out; have := HG4.out; have := HG43.out; omega) (fun k e => by injection e with e; omega)); have HK6 := Lib.hid (HK.out.trans (KeepsOthers.of_grownBy hg6 (fun j o ej hj => by injection ej with ej; subst ej; rw [show _ = some _ from HS.out] at hj; cases hj; rfl))); clear S6 hg6 hz6)
        exact ⟨HK6.out.trans (KeepsOthers.setCell _ _ _), ⟨rfl, HF.out, HS6.out.far (p := ⟨w.heap.size + 1, 0, none⟩) (by simp) _, T6.out.set _⟩, B4.out.trans (HB6.out.setCell (p := ⟨w.heap.size + 1, 0, none⟩) (by simp) _)⟩
    case done =>
      rintro D ps W hD rfl ⟨hf, hP⟩ hK
      have hlen : (splitD l).length ≤ 16 := by unfold fits at hf; rw [Bool.and_eq_true, decide_eq_true_eq] at hf; exact hf.1
      have hall : ∀ z ∈ (splitD l).map vd, z < 4294967296 := fun z hz => by
        obtain ⟨x, hx, rfl⟩ := List.mem_map.1 hz
        unfold fits at hf
        rw [Bool.and_eq_true] at hf
        have := List.all_eq_true.1 hf.2 x hx
        rw [decide_eq_true_eq] at this
        omega
      have HPO : Hid (prsO l = if chkO (splitD l).length (pad ((splitD l).map vd)) = 0 then ((splitD l).length, pad ((splitD l).map vd), 0) else (0, zl, 1)) := Lib.hid (by
        unfold prsO; rw [if_neg (by rw [HD.out]; decide), if_neg (by rw [hf]; decide), HZ.out])
      have hnl : ((splitD l).map vd).length = (splitD l).length := List.length_map _
      obtain ⟨n, hn⟩ : ∃ n, (splitD l).length = n := ⟨_, rfl⟩
      rw [hn] at HPO hnl hlen
      obtain ⟨ys, hys⟩ : ∃ ys, (splitD l).map vd = ys := ⟨_, rfl⟩
      rw [hys] at HPO hnl hall hP
      obtain ⟨⟨v, hv, hrow, -⟩, ⟨hs, ht⟩, hb⟩ := hP
      obtain ⟨A, c, rfl, hrd, hlc, hcm⟩ := own32 hrow
      have c4 := hv.cell
      have hof := of_any A ys c W (Nat.le_trans hlc hcm) hall hrd
      have hofn : ofN ys = if chkO n (pad ys) = 0 then n else 0 := by unfold ofN; rw [hnl]; simp [hlen]
      have hofl : ofL ys = if chkO n (pad ys) = 0 then pad ys else zl := by unfold ofL; rw [hnl, HZ.out]; simp [hlen]
      rw [hofn, hofl] at hof
      have hplen := pad_length (l := ys) (by omega)
      have hcz : chkO n (pad ys) = 0 ∨ chkO n (pad ys) = 1 := by unfold chkO; split <;> simp
      have hok := okO_pad (l := ys) (by omega) hall
      rw [hnl] at hok
      have hzc : chkO 0 zl = 1 := by rw [← HZ.out]; rfl
      have HOF := Lib.hid hof
      have HS := Lib.hid hs
      have HT := Lib.hid ht
      have HB := Lib.hid (B4.out.trans hb)
      have HKK := Lib.hid hK
      have HHW := Lib.hid (show w4.heap.size ≤ W.heap.size from hb.size)
      have hDlt := (Array.getElem?_eq_some_iff.1 hK).1
      have HDL := Lib.hid hDlt
      clear hof hs ht hb hK hrow hv hrd hlc hcm hf hys hn hofn hofl hall hDlt
      generalize pad ys = pl at *
      have HCZ := Lib.hid hcz
      have HOK := Lib.hid hok
      clear hcz hok
      rw [hnl] at HOF c4
      clear hnl
      go_wp2_with fail
      refine HOF.out.mono ?_
      rintro e W2 ⟨rfl, hb⟩
      have HS2 := kt HS (Lib.hid hb)
      have HT2 := Lib.hid (show Boxed W2 (w.heap.size + 1) 29 (.int .i64 0) from (hb.block _ HT.out.lt).trans HT.out)
      have HB2 := bt HB (Lib.hid hb)
      have HKK2 := Lib.hid ((hb.block D HDL.out).trans HKK.out)
      have hDl2 : Hid (D < W2.heap.size) := Lib.hid (Nat.lt_of_lt_of_le HDL.out hb.size)
      clear hb
      have HMK := Lib.hid (show w.heap.size ≤ D by have := HWZ.out; have := HG4.out; have := HG43.out; omega)
      have HDW : Hid (w.heap.size + 1 < D) := Lib.hid (by have := HWZ.out; have := HG4.out; have := HG43.out; omega)
      have HOZ : Hid (OkO 0 zl) := Lib.hid (by rw [← HZ.out, HZP.out]; exact okO_pad (l := []) (by simp) (by simp))
      rcases HCZ.out with hc | hc
      · have HPO2 : Hid (prsO l = (n, pl, 0)) := Lib.hid (by rw [HPO.out, if_pos (by rw [hc])])
        rw [if_pos (by rw [hc]), if_pos (by rw [hc])]
        have hch := fun W => check_any n pl W HOK.out
        rw [hc] at hch
        have HCH := Lib.hid hch
        clear hch c4 hc
        have V0 := Lib.hid (Bk.new W2 26 (oc 0 zl))
        have S7 := Lib.hid (HS2.out.alloc (.cells (oc 0 zl).toArray 26))
        have T7 := Lib.hid (HT2.out.alloc (.cells (oc 0 zl).toArray 26))
        have B7 := Lib.hid (HB2.out.alloc HB2.out.size (.cells (oc 0 zl).toArray 26))
        have K7 := Lib.hid ((Below.heap_alloc W2 (.cells (oc 0 zl).toArray 26) D hDl2.out).trans HKK2.out)
        have HQ8 := Lib.hid (show w.heap.size + 1 < W2.heap.size from HT2.out.lt)
        go_wp2_with (refine wpList_store25 rfl (.tmp 8) (.tmp 36) rfl (n := n) (l := pl) rfl rfl V0.out (by rw [oc_length, HZL.out]) hplen ?_)
        intro W3 V8 hg8 hz8
        have HV8 := Lib.hid V8
        have S8 := Lib.hid (S7.out.only hg8 (by intro e; injection e with e; have := HQ8.out; omega))
        have T8 := Lib.hid (T7.out.kept hg8 (by intro e; injection e with e; have := HQ8.out; omega))
        have B8 := Lib.hid (B7.out.grown hg8 B7.out.size (fun k e => by injection e with e; have := HQ8.out; omega))
        have K8 := Lib.hid ((hg8.block D (by have := hDl2.out; simp; omega) (by intro e; injection e with e; have := hDl2.out; omega)).trans K7.out)
        clear V8 hg8 hz8 V0 S7 T7 B7 K7
        have hg8 : D < W2.heap.size := hDl2.out
        have HG8 := Lib.hid hg8
        clear hg8
        generalize W2.heap.size = g8 at *
        go_wp2_with (refine wpList_load25 rfl (.tmp 8) rfl rfl HV8.out hplen ?_)
        refine (HCH.out _).mono ?_
        rintro e W4 ⟨rfl, hb⟩
        have HV9 := kt HV8 (Lib.hid hb)
        have S9 := kt S8 (Lib.hid hb)
        have T9 := Lib.hid (show Boxed W4 (w.heap.size + 1) 29 (.int .i64 0) from (hb.block _ T8.out.lt).trans T8.out)
        have B9 := bt B8 (Lib.hid hb)
        have K9 := Lib.hid ((hb.block D (Array.getElem?_eq_some_iff.1 K8.out).1).trans K8.out)
        clear hb HV8 S8 T8 B8 K8
        go_wp2_with (first | (refine wpList_load25 rfl (.tmp 8) rfl rfl HV9.out hplen ?_) | (refine wpList_store25 rfl (.tmp 2) (.tmp 43) rfl (n := n) (l := pl) rfl rfl S9.out (by rw [oc_length, HZL.out]) hplen ?_; intro w5 S5 hg5 hz5; have HS5 := Lib.hid S5; have T5 := Lib.hid (T9.out.kept hg5 (by intro e; injection e with e; omega)); have f5 := T5.out.frozen; have c5 := T5.out.cell; have HB5 := Lib.hid (B9.out.grown hg5 B9.out.size (fun k e => by injection e with e; omega)); have K5 := Lib.hid ((hg5.block D (Array.getElem?_eq_some_iff.1 K9.out).1 (by intro e; injection e with e; have := HMK.out; have := HDW.out; omega)).trans K9.out); clear S5 hg5 hz5))
        have T6 := Lib.hid (T5.out.set (.int .i64 0))
        have S6 := Lib.hid (HS5.out.far (p := ⟨w.heap.size + 1, 0, none⟩) (by simp) (.int .i64 0))
        have B6 := Lib.hid (HB5.out.setCell (p := ⟨w.heap.size + 1, 0, none⟩) (by simp) (.int .i64 0))
        have K6 := Lib.hid ((setCell_heap (b := w.heap.size + 1) (k := D) (by have := HDW.out; omega) (.int .i64 0)).trans K5.out)
        refine leaves_marks2 (fun W => Bk W w.heap.size 26 (oc n pl) ∧ Boxed W (w.heap.size + 1) 29 (.int .i64 0) ∧ Below w.heap.size w W) w.heap.size (fun W D hD h hk => ⟨bk_put h.1 hk _, boxed_put h.2.1 hk _, h.2.2.grown (grownBy_putObj' W D _) h.2.2.size (fun k e => by cases e; exact hD)⟩)
          (fun W h => ⟨_, res_oe rfl _ W rfl rfl h.1 hplen h.2.1, by rw [HPO2.out]; rfl, h.2.2⟩) [D] _ (by simp) (marks_one HMK.out K6.out) ⟨S6.out, T6.out, B6.out⟩
      · have HPO2 : Hid (prsO l = (0, zl, 1)) := Lib.hid (by rw [HPO.out, if_neg (by rw [hc]; decide)])
        rw [if_neg (by rw [hc]; decide), if_neg (by rw [hc]; decide)]
        have hch := fun W => check_any 0 zl W HOZ.out
        rw [hzc] at hch
        have HCH := Lib.hid hch
        clear hch c4 hc
        have V0 := Lib.hid (Bk.new W2 26 (oc 0 zl))
        have S7 := Lib.hid (HS2.out.alloc (.cells (oc 0 zl).toArray 26))
        have T7 := Lib.hid (HT2.out.alloc (.cells (oc 0 zl).toArray 26))
        have B7 := Lib.hid (HB2.out.alloc HB2.out.size (.cells (oc 0 zl).toArray 26))
        have K7 := Lib.hid ((Below.heap_alloc W2 (.cells (oc 0 zl).toArray 26) D hDl2.out).trans HKK2.out)
        have HQ8 := Lib.hid (show w.heap.size + 1 < W2.heap.size from HT2.out.lt)
        go_wp2_with (refine wpList_store25 rfl (.tmp 8) (.tmp 36) rfl (n := 0) (l := zl) rfl rfl V0.out (by rw [oc_length, HZL.out]) HZL.out ?_)
        intro W3 V8 hg8 hz8
        have HV8 := Lib.hid V8
        have S8 := Lib.hid (S7.out.only hg8 (by intro e; injection e with e; have := HQ8.out; omega))
        have T8 := Lib.hid (T7.out.kept hg8 (by intro e; injection e with e; have := HQ8.out; omega))
        have B8 := Lib.hid (B7.out.grown hg8 B7.out.size (fun k e => by injection e with e; have := HQ8.out; omega))
        have K8 := Lib.hid ((hg8.block D (by have := hDl2.out; simp; omega) (by intro e; injection e with e; have := hDl2.out; omega)).trans K7.out)
        clear V8 hg8 hz8 V0 S7 T7 B7 K7
        have hg8 : D < W2.heap.size := hDl2.out
        have HG8 := Lib.hid hg8
        clear hg8
        generalize W2.heap.size = g8 at *
        go_wp2_with (refine wpList_load25 rfl (.tmp 8) rfl rfl HV8.out HZL.out ?_)
        refine (HCH.out _).mono ?_
        rintro e W4 ⟨rfl, hb⟩
        have HV9 := kt HV8 (Lib.hid hb)
        have S9 := kt S8 (Lib.hid hb)
        have T9 := Lib.hid (show Boxed W4 (w.heap.size + 1) 29 (.int .i64 0) from (hb.block _ T8.out.lt).trans T8.out)
        have B9 := bt B8 (Lib.hid hb)
        have K9 := Lib.hid ((hb.block D (Array.getElem?_eq_some_iff.1 K8.out).1).trans K8.out)
        clear hb HV8 S8 T8 B8 K8
        go_wp2_with (first | (refine wpList_load25 rfl (.tmp 8) rfl rfl HV9.out HZL.out ?_) | (refine wpList_store25 rfl (.tmp 2) (.tmp 41) rfl (n := 0) (l := zl) rfl rfl S9.out (by rw [oc_length, HZL.out]) HZL.out ?_; intro w5 S5 hg5 hz5; have HS5 := Lib.hid S5; have T5 := Lib.hid (T9.out.kept hg5 (by intro e; injection e with e; omega)); have f5 := T5.out.frozen; have c5 := T5.out.cell; have HB5 := Lib.hid (B9.out.grown hg5 B9.out.size (fun k e => by injection e with e; omega)); have K5 := Lib.hid ((hg5.block D (Array.getElem?_eq_some_iff.1 K9.out).1 (by intro e; injection e with e; have := HMK.out; have := HDW.out; omega)).trans K9.out); clear S5 hg5 hz5))
        have T6 := Lib.hid (T5.out.set (.int .i64 1))
        have S6 := Lib.hid (HS5.out.far (p := ⟨w.heap.size + 1, 0, none⟩) (by simp) (.int .i64 1))
        have B6 := Lib.hid (HB5.out.setCell (p := ⟨w.heap.size + 1, 0, none⟩) (by simp) (.int .i64 1))
        have K6 := Lib.hid ((setCell_heap (b := w.heap.size + 1) (k := D) (by have := HDW.out; omega) (.int .i64 1)).trans K5.out)
        refine leaves_marks2 (fun W => Bk W w.heap.size 26 (oc 0 zl) ∧ Boxed W (w.heap.size + 1) 29 (.int .i64 1) ∧ Below w.heap.size w W) w.heap.size (fun W D hD h hk => ⟨bk_put h.1 hk _, boxed_put h.2.1 hk _, h.2.2.grown (grownBy_putObj' W D _) h.2.2.size (fun k e => by cases e; exact hD)⟩)
          (fun W h => ⟨_, res_oe rfl _ W rfl rfl h.1 HZL.out h.2.1, by rw [HPO2.out]; rfl, h.2.2⟩) [D] _ (by simp) (marks_one HMK.out K6.out) ⟨S6.out, T6.out, B6.out⟩
    case stop =>
      rintro D c pre W hD hpre ⟨⟨rfl, hp, hg, ht⟩, hB⟩ hK
      have HO : Hid (prsO l = (0, zl, 3)) := Lib.hid (by unfold prsO; rw [if_neg (by rw [HD.out]; decide), if_pos (fits_false hpre hp), HZ.out])
      have HG := Lib.hid hg
      have HT := Lib.hid ht
      have HB := Lib.hid hB
      have HKK := Lib.hid hK
      clear hpre hp hg ht hB hK
      rw [wpIn_wide]
      go_wp2
      refine leaves_marks2 (fun W => Bk W w.heap.size 26 (oc 0 zl) ∧ Boxed W (w.heap.size + 1) 29 (.int .i64 3) ∧ Below w.heap.size w W) w.heap.size (fun W D hD h hk => ⟨bk_put h.1 hk _, boxed_put h.2.1 hk _, h.2.2.grown (grownBy_putObj' W D _) h.2.2.size (fun k e => by cases e; exact hD)⟩)
        (fun W h => ⟨_, res_oe rfl _ W rfl rfl h.1 HZL.out h.2.1, by rw [HO.out]; rfl, h.2.2⟩) [D] _ (by simp) (marks_one (by have := HWZ.out; have := HG4.out; have := HG43.out; omega) HKK.out) ⟨HG.out, HT.out, HB.out⟩
theorem parse_any (l : List Nat) (h8 : All8 l) (hl : l.length ≤ 1000000) (w : World) (hE : Env w) : Calls Tryz.prog 75 #[.string (bstr l)] w (GiveG w (prsO l)) :=
  callsIn_wide.1 (parse_in l h8 hl 8 (by omega) w hE)
end Go.Proofs.YtaiiihdckdjpoaaGreatDoor

/-!
  Layer 6: the statements' own helpers same, read, parsed.
  Conditions: the variables hold what the program's text lays.
-/
namespace Go.Proofs.YtaiiihdckdjpoaaGreatDoor
open Go.RowKit

theorem run_str8 {w : World} {A : Option Addr} {l : List Nat} (h : Rb w A l) (c : Nat) : (convert 80 9 (.slice A l.length c)).run Tryz.prog w = .ok (.string (bstr l)) w :=
  run_str Tryz.underlying80 Tryz.underlying5 Tryz.underlying9 h c
theorem eqO {n : Nat} {k : List Nat} (hk : k.length = 16) (w : World) : (binOp .eql 26 (oV n k) (oV n k)).run Tryz.prog w = .ok (.bool true) w := by
  have := eql25 (n := n) (m := n) hk hk w
  rw [decide_eq_true (p := n = n) rfl, decide_eq_true (p := k = k) rfl] at this
  exact this
end Go.Proofs.YtaiiihdckdjpoaaGreatDoor
