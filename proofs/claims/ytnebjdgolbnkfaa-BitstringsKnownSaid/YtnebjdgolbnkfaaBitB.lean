/-
  Package bitstrings: contracts of size, copied, firstBits.
  Conditions: slices read as bytes, and are not longer than a million.
-/
import Derived.Test.YtnebjdgolbnkfaaBitA
namespace Go.Proofs.Ytnebjdgolbnkfaa.Bit
open Go.RowKit

/-- 'b[1:]'. -/
theorem slice_one (N c : Nat) (A : Option Addr) (l : List Nat) (hN : l.length = N) (h1 : 1 ≤ N) (hc : N ≤ c) :
    ∃ A', (∀ W : World, (Instr.slice 22 (.slice A N c) (some (.int .i64 1)) none none).run Try.prog W = .ok (.slice A' (N - 1) (c - 1)) W) ∧ (∀ W : World, (Instr.sliceAt 22 (.slice A N c) (some (.int .i64 1)) none none).run Try.prog W = .ok (.slice A' (N - 1) (c - 1)) W) ∧ ∀ W, Rb W A l → Rb W A' l.tail := by
  have hsz : ∀ W, (sizeOf (Try.prog.elem 22)).run Try.prog W = .ok 1 W := fun W => by kernel_rfl
  have q : ∀ W : World, (Instr.slice 22 (.slice A N c) (some (.int .i64 1)) none none).run Try.prog W = .ok (.slice (if c = 1 then A else A.map (·.add (1 * 1))) (N - 1) (c - 1)) W := fun W => by
    rw [run_slice_l (P := Try.prog) W 22 A N c (by kernel_rfl) .i64 1 (by omega) (by omega), hsz W]
    simp only [Result.andThen, sliced, show ((1 : Int)).toNat = 1 from rfl]
  refine ⟨_, q, fun W => ?_, fun W hA => ?_⟩
  · rw [← q W]; exact run_sliceAt_slice (P := Try.prog) W 22 _ _ _ _ (by kernel_rfl)
  · obtain ⟨b, off, rfl, _⟩ := hA.at_ (k := 0) (by omega)
    by_cases h : c = 1
    · rw [if_pos h, ← List.drop_one, List.drop_of_length_le (by omega)]; exact Rb.nil
    · rw [if_neg h, ← List.drop_one, Option.map_some, addr_add]; exact hA.drop_ 1
/-- 'b[:n]'. -/
theorem slice_to (A : Option Addr) (L c q : Nat) (hq : q ≤ c) (W : World) : (Instr.slice 22 (.slice A L c) none (some (.int .i64 (q : Int))) none).run Try.prog W = .ok (.slice A q c) W := by
  have hsz : ∀ W, (sizeOf (Try.prog.elem 22)).run Try.prog W = .ok 1 W := fun W => by kernel_rfl
  rw [run_slice_h (P := Try.prog) W 22 A L c (by kernel_rfl) .i64 (q : Int) (by omega) (by omega), hsz W]
  simp only [Result.andThen, sliced, Int.toNat_natCast]
  cases A with
  | none => simp
  | some a => obtain ⟨b, o, r⟩ := a; simp [Addr.add]
theorem slice_to' (A : Option Addr) (L c q : Nat) (hq : q ≤ c) (W : World) : (Instr.sliceAt 22 (.slice A L c) none (some (.int .i64 (q : Int))) none).run Try.prog W = .ok (.slice A q c) W := by
  rw [← slice_to A L c q hq W]; exact run_sliceAt_slice (P := Try.prog) W 22 _ _ _ _ (by kernel_rfl)
theorem info5 : (Try.prog.info? 5).map (fun i => (i.zero, i.size, i.bytes)) = some (some (.int .u8 0), 1, 1) := by kernel_rfl
theorem made_one (v : Value) (n : Nat) : madeCells #[v] n = (List.replicate n v).toArray := by
  unfold madeCells
  apply Array.ext
  · simp
  · intro i h1 h2
    simp [Nat.mod_one]
theorem make_bytes (n : Nat) (hn : n ≤ 2000000) (W : World) : (Instr.makeSlice 22 (.int .i64 (n : Int)) (.int .i64 (n : Int))).run Try.prog W = .ok (.slice (some ⟨W.heap.size, 0, none⟩) n n) (W.alloc (.cells (cs8 (List.replicate n 0)).toArray 5)) := by
  obtain ⟨i, hi, hz0, hz1, hz2⟩ := info_parts info5
  have h := run_make (P := Try.prog) W 22 5 i (.int .u8 0) Try.underlying22 hi hz0 .i64 .i64 (n : Int) (n : Int) (by omega) (Int.le_refl _) (by rw [hz2]; omega) (by omega)
  rw [h, hz1, Int.toNat_natCast, Nat.mul_one]
  congr 3
  rw [show (Value.int IntKind.u8 0).cells = #[Value.int IntKind.u8 0] from rfl, made_one]
  unfold cs8
  rw [List.map_replicate]
  rfl
/-- The walk's step at the builtin copy, by what it runs to. -/
theorem wpList_copy {P : Program} {w : World} {ops : Array Oper} {rest : List Oper} {o : Oper} {a : Act} {Q : Exit → Act → World → Prop} (hgd : o.guard = none) (s x : Operand) (t1 t2 : TypeId)
    (ho : o.op = .call { callee := .builtin .copy, args := #[s, x], argTypes := #[t1, t2] }) (u v : Value) (hs : a.eval s = u) (hx : a.eval x = v) {r : Value} {w1 : World}
    (hrun : (Builtin.copy_ #[t1, t2] o.type #[u, v]).run P w = .ok r w1) (h : wpList P ops Q rest (a.put o.dst r) w1) : wpList P ops Q (o :: rest) a w := by
  refine wpList_plain hgd fun K hK => ?_
  have hK' := hK _ _ h
  unfold Oper.wp execOp
  simp only [ho, resolve, invoke, builtin, Sem.run_bind, Sem.run_pure, Result.andThen_ok, List.map_toArray, List.map_cons, List.map_nil, hs, hx, hrun]
  exact hK'
/-- 'copy' into a block of bytes. -/
theorem copy_into {w : World} {g o K K' c L : Nat} {A : Option Addr} {l m : List Nat} {t : TypeId} (S : Bk w g t (cs8 l)) (hA : Rb w A m) (hL : m.length = L) (hK : L ≤ K) (ho : o + L ≤ l.length) :
    ∃ w', (Builtin.copy_ #[22, 22] 3 #[.slice (some ⟨g, o, none⟩) K K', .slice A L c]).run Try.prog w = .ok (.int .i64 (L : Int)) w' ∧ Bk w' g t (cs8 (l.take o ++ (m ++ l.drop (o + L)))) ∧ w.grownBy w' (some g) := by
  subst hL
  cases m with
  | nil => exact ⟨w, run_copy_none (P := Try.prog) w 22 22 3 5 _ _ _ _ _ _ Try.underlying22 (by kernel_rfl) (by simp), by simpa using S, World.grownBy.refl _ _⟩
  | cons x m =>
    obtain ⟨b, off, rfl, hb, hc⟩ := hA.1.all_ (by simp [cs8])
    have hlen : (cs8 (x :: m)).length = (x :: m).length := cs8_length _
    have hrun := run_copy_row (P := Try.prog) w 22 22 3 5 g o K K' ⟨b, off, none⟩ (x :: m).length c (cs8 l).toArray t (cs8 (x :: m)) Try.underlying22 (by kernel_rfl) S (by rw [hlen]; exact (Nat.min_eq_left hK).symm)
      (fun j v hv => by
        obtain ⟨hj, hj2⟩ := List.getElem?_eq_some_iff.1 hv
        rw [addr_add, hc j hj, hj2])
      (by rw [hlen, List.size_toArray, cs8_length]; exact ho) (cs8_one _)
    rw [hlen] at hrun
    refine ⟨_, hrun, ?_, ⟨rfl, rfl, rfl, by simp [World.setRow], fun k hk hne => setRow_other w g k _ (fun e => hne (by rw [e]))⟩⟩
    have := setRow_heap w g (cs8 l).toArray ((cs8 l).take o ++ cs8 (x :: m) ++ (cs8 l).drop (o + (x :: m).length)).toArray t _ S
    have e : (cs8 l).take o ++ cs8 (x :: m) ++ (cs8 l).drop (o + (x :: m).length) = cs8 (l.take o ++ ((x :: m) ++ l.drop (o + (x :: m).length))) := by
      unfold cs8; rw [List.map_append, List.map_append, List.map_take, List.map_drop, List.append_assoc]
    rw [← e]
    exact this

/-- Octets are returned, without spare capacity, in a new block; what was there has not turned. -/
def GiveN (w : World) (l : List Nat) (N : Nat) (e : Ending) (w' : World) : Prop :=
  ∃ g, e = .returned (.slice (some ⟨g, 0, none⟩) N N) ∧ Rb w' (some ⟨g, 0, none⟩) l ∧ l.length = N ∧ Below w.heap.size w w' ∧ w.heap.size ≤ g
theorem rb_bk {w : World} {g : Nat} {t : TypeId} {l : List Nat} (S : Bk w g t (cs8 l)) (h : All8 l) : Rb w (some ⟨g, 0, none⟩) l := ⟨by have := S.rd 0; simpa using this, h⟩

set_option maxHeartbeats 400000 in
theorem copied_any (A : Option Addr) (l : List Nat) (N c : Nat) (w : World) (h : Rb w A l) (hN : l.length = N) (hm : N ≤ 1000000) :
    Calls Try.prog 37 #[.slice A N c] w (GiveN w l N) := by
  have q := make_bytes N (by omega)
  have S0 := Bk.new w 5 (cs8 (List.replicate N 0))
  have B0 := bel1 w (.cells (cs8 (List.replicate N 0)).toArray 5)
  obtain ⟨w2, hrun, S2, hg2⟩ := copy_into (K := N) (K' := N) (c := c) (o := 0) S0 (h.below B0) hN (Nat.le_refl _) (by simp)
  rw [List.take_zero, List.nil_append, Nat.zero_add, List.drop_of_length_le (by simp), List.append_nil] at S2
  have HRUN := Lib.hid hrun
  have HS := Lib.hid S2
  have HB := Lib.hid (B0.grown hg2 (by simp) (fun k e => by injection e with e; omega))
  have H8 := Lib.hid h.2
  have HN := Lib.hid hN
  obtain ⟨z, hz⟩ : ∃ z, cs8 (List.replicate N 0) = z := ⟨_, rfl⟩
  rw [hz] at q HRUN
  clear h hN S0 B0 hrun S2 hg2 hz
  go_enter Try.func37, Try.ntmps37
  go_wp2_with ((with_reducible show wpList _ _ _ _ _ _); refine wpList_copy (o := ⟨some 9, _, _, _, _, _⟩) rfl _ _ _ _ rfl _ _ rfl rfl HRUN.out ?_)
  go_ret
  exact ⟨_, rfl, rb_bk HS.out H8.out, HN.out, HB.out, Nat.le_refl _⟩
end Go.Proofs.Ytnebjdgolbnkfaa.Bit
