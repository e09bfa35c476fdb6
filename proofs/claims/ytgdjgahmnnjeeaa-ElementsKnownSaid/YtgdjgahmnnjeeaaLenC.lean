/-
  Package lengths: contracts of value and Get.
  Conditions: none beyond that the slice reads as bytes.
-/
import Derived.Test.YtgdjgahmnnjeeaaLenB
import Derived.Laws.CopyOwn
import Derived.OwnWalk
namespace Go.Proofs.Ytgdjgahmnnjeeaa.Len
open Go.RowKit

/-- The walk's step at the builtin copy, by what it runs to. -/
theorem wpList_copy {P : Program} {w : World} {ops : Array Oper} {rest : List Oper} {o : Oper} {a : Act} {Q : Exit → Act → World → Prop} (hgd : o.guard = none) (s x : Operand) (t1 t2 : TypeId)
    (ho : o.op = .call { callee := .builtin .copy, args := #[s, x], argTypes := #[t1, t2] }) (u v : Value) (hs : a.eval s = u) (hx : a.eval x = v) {r : Value} {w1 : World}
    (hrun : (Builtin.copy_ #[t1, t2] o.type #[u, v]).run P w = .ok r w1) (h : wpList P ops Q rest (a.put o.dst r) w1) : wpList P ops Q (o :: rest) a w := by
  refine wpList_plain hgd fun K hK => ?_
  have hK' := hK _ _ h
  unfold Oper.wp execOp
  simp only [ho, resolve, invoke, builtin, Sem.run_bind, Sem.run_pure, Result.andThen_ok, List.map_toArray, List.map_cons, List.map_nil, hs, hx, hrun]
  exact hK'
theorem splice_tail {k : Nat} (l : List Nat) (hl : l.length = k) (hk : k ≤ 3) : splice (cs8 (List.replicate 3 0)) (3 - k) (cs8 l) = cs8 (List.replicate (3 - k) 0 ++ l) := by
  unfold splice cs8
  rw [List.length_map, hl, List.map_append, List.drop_eq_nil_of_le (by simp; omega), List.append_nil]
  congr 1
  rw [← List.map_take, List.take_replicate]
  congr 2
  omega
/-- 'copy(digits[3-k:], octets)' into a new array. -/
theorem copy_digits (w : World) (b off c k o : Nat) (l : List Nat) (hl : l.length = k) (h1 : 0 < k) (h3 : k ≤ 3) (ho : o = 3 - k) (h : Rb w (some ⟨b, off, none⟩) l) :
    ∃ w', (Builtin.copy_ #[26, 26] 3 #[.slice (some ⟨w.heap.size, o, none⟩) k k, .slice (some ⟨b, off, none⟩) k c]).run Try.prog (w.alloc (.cells #[.int .u8 0, .int .u8 0, .int .u8 0] 120)) = .ok (.int .i64 (k : Int)) w' ∧
      Bk w' w.heap.size 120 (cs8 (List.replicate o 0 ++ l)) ∧ Below w.heap.size w w' := by
  subst ho
  have hb0 := (Below.refl w.heap.size w).alloc (Nat.le_refl _) (.cells #[.int .u8 0, .int .u8 0, .int .u8 0] 120)
  have h' := h.below hb0
  have hlen : (cs8 l).length = k := by rw [cs8_length, hl]
  have hg := heap_alloc_new w (.cells #[.int .u8 0, .int .u8 0, .int .u8 0] 120)
  have hrun := run_copy_row (P := Try.prog) (w.alloc (.cells #[.int .u8 0, .int .u8 0, .int .u8 0] 120)) 26 26 3 5 w.heap.size (3 - k) k k ⟨b, off, none⟩ k c _ 120 (cs8 l) Try.underlying26 (by kernel_rfl) hg (by rw [hlen]; exact (Nat.min_self k).symm)
    (fun j v hv => by
      obtain ⟨b', off', e, _, hc⟩ := h'.1 (by intro e; rw [e] at hlen; simp at hlen; omega)
      simp only [Option.some.injEq, Addr.mk.injEq, and_true] at e
      obtain ⟨rfl, rfl⟩ := e
      rw [addr_add]; exact hc j v hv)
    (by rw [hlen]; simp; omega) (fun v hv => by obtain ⟨n, _, rfl⟩ := List.mem_map.1 hv; rfl)
  have hst := splice_tail l hl h3
  have e : (#[Value.int .u8 0, .int .u8 0, .int .u8 0].toList.take (3 - k) ++ cs8 l ++ #[Value.int .u8 0, .int .u8 0, .int .u8 0].toList.drop (3 - k + (cs8 l).length)) = cs8 (List.replicate (3 - k) 0 ++ l) := by
    rw [← hst, List.append_assoc]; rfl
  rw [e] at hrun
  exact ⟨_, by rw [hrun, hlen]; rfl, setRow_heap _ w.heap.size _ _ 120 _ hg, below_setRow hb0 (Nat.le_refl _) _⟩
theorem wraps_i64 (n : Int) (h₀ : 0 ≤ n) (h₁ : n < 2 ^ 63) : IntKind.i64.wrap n = n := by rw [IntKind.wrap_i64]; omega
theorem i64_or (i : Nat) (x y : Int) (hx₀ : 0 ≤ x) (hx : x % 2 ^ i = 0) (hx₁ : x < 2 ^ 63) (hy₀ : 0 ≤ y) (hy : y < 2 ^ i) (hy₁ : y < 2 ^ 63) : bits .or .i64 x y = x + y :=
  bits_join .i64 63 (by decide) wraps_i64 i x y hx₀ hx hx₁ hy₀ hy hy₁
set_option maxRecDepth 100000 in
set_option maxHeartbeats 1000000 in
theorem value_1 (A : Option Addr) (a c : Nat) (w : World) (h : Rb w A [a]) :
    Calls Try.prog 83 #[.slice A 1 c] w fun e w' => e = .returned (.int .i64 (val [a] : Int)) ∧ Below w.heap.size w w' := by
  have h8 := h.2
  have hxa : a < 256 := h8 a (by simp)
  obtain ⟨b, off, rfl, hb, -, -⟩ := h.at_ (k := 0) (by simp)
  obtain ⟨w1, hcp, hbk, hbel⟩ := copy_digits w b off c 1 2 [a] rfl (by decide) (by decide) rfl h
  have c0 := hbk.cell 0
  have c1' := hbk.cell 1
  have c2 := hbk.cell 2
  have hsz := hbk.lt
  simp [cs8, by8, List.replicate_succ] at c0 c1' c2
  have o1 : bits .or .i64 0 0 = 0 := by decide
  have o2 : bits .or .i64 0 (a : Int) = (a : Int) := by have := i64_or 8 0 (a : Int) (by omega) (by omega) (by omega) (by omega) (by omega) (by omega); omega
  have hv : ((val [a] : Nat) : Int) = (a : Int) := by
    simp [val, vl]
  rw [hv]
  have HA := Lib.hid h
  have HC := Lib.hid hcp
  have HB := Lib.hid hbel
  clear h h8 hcp hbk hbel hv
  go_enter Try.func83, Try.ntmps83
  go_wp2_with ((with_reducible show wpList _ _ _ _ _ _); refine wpList_copy (o := ⟨some 9, _, _, _, _, _⟩) rfl _ _ _ _ rfl _ _ rfl rfl HC.out ?_)
  go_ret
  exact ⟨rfl, HB.out⟩
set_option maxRecDepth 100000 in
set_option maxHeartbeats 1000000 in
theorem value_2 (A : Option Addr) (a b1 c : Nat) (w : World) (h : Rb w A [a, b1]) :
    Calls Try.prog 83 #[.slice A 2 c] w fun e w' => e = .returned (.int .i64 (val [a, b1] : Int)) ∧ Below w.heap.size w w' := by
  have h8 := h.2
  have hxa : a < 256 := h8 a (by simp)
  have hxb1 : b1 < 256 := h8 b1 (by simp)
  obtain ⟨b, off, rfl, hb, -, -⟩ := h.at_ (k := 0) (by simp)
  obtain ⟨w1, hcp, hbk, hbel⟩ := copy_digits w b off c 2 1 [a, b1] rfl (by decide) (by decide) rfl h
  have c0 := hbk.cell 0
  have c1' := hbk.cell 1
  have c2 := hbk.cell 2
  have hsz := hbk.lt
  simp [cs8, by8, List.replicate_succ] at c0 c1' c2
  have o1 : bits .or .i64 0 ((a : Int) * 256) = (a : Int) * 256 := by have := i64_or 16 0 ((a : Int) * 256) (by omega) (by omega) (by omega) (by omega) (by omega) (by omega); omega
  have o2 := i64_or 8 ((a : Int) * 256) (b1 : Int) (by omega) (by omega) (by omega) (by omega) (by omega) (by omega)
  have hv : ((val [a, b1] : Nat) : Int) = (a : Int) * 256 + (b1 : Int) := by
    simp [val, vl]; omega
  rw [hv]
  have HA := Lib.hid h
  have HC := Lib.hid hcp
  have HB := Lib.hid hbel
  clear h h8 hcp hbk hbel hv
  go_enter Try.func83, Try.ntmps83
  go_wp2_with ((with_reducible show wpList _ _ _ _ _ _); refine wpList_copy (o := ⟨some 9, _, _, _, _, _⟩) rfl _ _ _ _ rfl _ _ rfl rfl HC.out ?_)
  go_ret
  exact ⟨rfl, HB.out⟩
set_option maxRecDepth 100000 in
set_option maxHeartbeats 1000000 in
theorem value_3 (A : Option Addr) (a b1 c1 c : Nat) (w : World) (h : Rb w A [a, b1, c1]) :
    Calls Try.prog 83 #[.slice A 3 c] w fun e w' => e = .returned (.int .i64 (val [a, b1, c1] : Int)) ∧ Below w.heap.size w w' := by
  have h8 := h.2
  have hxa : a < 256 := h8 a (by simp)
  have hxb1 : b1 < 256 := h8 b1 (by simp)
  have hxc1 : c1 < 256 := h8 c1 (by simp)
  obtain ⟨b, off, rfl, hb, -, -⟩ := h.at_ (k := 0) (by simp)
  obtain ⟨w1, hcp, hbk, hbel⟩ := copy_digits w b off c 3 0 [a, b1, c1] rfl (by decide) (by decide) rfl h
  have c0 := hbk.cell 0
  have c1' := hbk.cell 1
  have c2 := hbk.cell 2
  have hsz := hbk.lt
  simp only [List.replicate_zero, List.nil_append, cs8, by8, List.map_cons, List.map_nil, List.getElem?_cons_zero, List.getElem?_cons_succ] at c0 c1' c2
  have o1 := i64_or 16 ((a : Int) * 65536) ((b1 : Int) * 256) (by omega) (by omega) (by omega) (by omega) (by omega) (by omega)
  have o2 := i64_or 8 ((a : Int) * 65536 + (b1 : Int) * 256) (c1 : Int) (by omega) (by omega) (by omega) (by omega) (by omega) (by omega)
  have hv : ((val [a, b1, c1] : Nat) : Int) = (a : Int) * 65536 + (b1 : Int) * 256 + (c1 : Int) := by
    simp [val, vl]; omega
  rw [hv]
  have HA := Lib.hid h
  have HC := Lib.hid hcp
  have HB := Lib.hid hbel
  clear h h8 hcp hbk hbel hv
  go_enter Try.func83, Try.ntmps83
  go_wp2_with ((with_reducible show wpList _ _ _ _ _ _); refine wpList_copy (o := ⟨some 9, _, _, _, _, _⟩) rfl _ _ _ _ rfl _ _ rfl rfl HC.out ?_)
  go_ret
  exact ⟨rfl, HB.out⟩
end Go.Proofs.Ytgdjgahmnnjeeaa.Len
