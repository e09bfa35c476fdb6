/-
  The reference of layers 2 and 6: contracts of Groups and of layer 6's Put.
  Conditions: the OID is valid; the number is less than 2^32.
-/
import Derived.Test.YtndamidmgglneaaDoorOidI
import Derived.Laws.AppendOwnNone
import Derived.Deep.Onto
import Derived.Test.YtndamidmgglneaaDoorStr
namespace Go.Proofs.YtndamidmgglneaaDoor
open Go.RowKit

/-- The walk's step at the builtin append, by what it runs to. -/
theorem wpList_app {P : Program} {w : World} {ops : Array Oper} {rest : List Oper} {o : Oper} {a : Act} {Q : Exit → Act → World → Prop} (hgd : o.guard = none) (s x : Operand) (t1 t2 : TypeId)
    (ho : o.op = .call { callee := .builtin .append, args := #[s, x], argTypes := #[t1, t2] }) (u v : Value) (hs : a.eval s = u) (hx : a.eval x = v) {r : Value} {w1 : World}
    (hrun : (Builtin.append_ #[t1, t2] o.type #[u, v]).run P w = .ok r w1) (h : wpList P ops Q rest (a.put o.dst r) w1) : wpList P ops Q (o :: rest) a w := by
  refine wpList_plain hgd fun K hK => ?_
  have hK' := hK _ _ h
  unfold Oper.wp execOp
  simp only [ho, resolve, invoke, builtin, Sem.run_bind, Sem.run_pure, Result.andThen_ok, List.map_toArray, List.map_cons, List.map_nil, hs, hx, hrun]
  exact hK'
/-- 'append(v, s...)' to what the call has built, whatever s is. -/
theorem app_src {P : Program} {t ty e : TypeId} {z : Value} {bytes : Nat} (ht : P.underlying t = some (.slice e)) (hinfo : (P.info? e).map (fun i => (i.zero, i.size, i.bytes)) = some (some z, 1, bytes)) (hz : z.cells.size = 1)
    {w : World} {base : Nat} {v : Value} {xs : List Value} (hown : w.ownsRow base e 1 v xs.length xs) {A : Option Addr} {ys : List Value} {c : Nat} (hy : Rd w A ys) (h1 : ∀ u ∈ ys, u.oneCell' = true) (hb : base ≤ w.heap.size)
    (hl : (xs.length + ys.length) * bytes ≤ 140737488355328) (hm : xs.length + ys.length ≤ maxLen) :
    ∃ v' w', (Builtin.append_ #[t, t] ty #[v, .slice A ys.length c]).run P w = .ok v' w' ∧ w'.ownsRow base e 1 v' (xs ++ ys).length (xs ++ ys) ∧ Below base w w' := by
  obtain ⟨i, hi, hz0, hz1, hz2⟩ := info_parts hinfo
  cases A with
  | some a =>
    obtain ⟨v', w', hrun, h2, h3, _⟩ := run_append_own (P := P) w base t ty e i z 1 bytes ht hi hz0 hz1 hz2 hz (by omega) v xs.length xs hown a ys.length c ys (by simp)
      (fun j u hu => by
        obtain ⟨b, off, e, _, hc⟩ := hy (by intro e; subst e; simp at hu)
        injection e with e
        subst e
        rw [addr_add]; exact hc j u hu) h1 hm hl hb
    exact ⟨v', w', hrun, by rw [List.length_append]; exact h2, (Below.refl base w).grown h3 hb (fun k hk => (hown.lt k hk).1)⟩
  | none =>
    have hnil : ys = [] := by
      cases ys with
      | nil => rfl
      | cons u m => obtain ⟨_, _, e, _⟩ := hy (by simp); cases e
    subst hnil
    refine ⟨v, w, ?_, by simpa using hown, Below.refl _ _⟩
    rcases hown.2 with ⟨rfl, h0⟩ | ⟨g, cap, cur, rfl, _, _, hnc, _⟩
    · simp [Builtin.append_, run_underlying ht, sizeOf, typeInfo, hi, Builtin.lenOf, Builtin.firstCells]
    · simp [Builtin.append_, run_underlying ht, sizeOf, typeInfo, hi, Builtin.lenOf, Builtin.firstCells, hnc, storeCells]
/-- A slice literal of one element. -/
theorem own_lit (w : World) (e : TypeId) (x : Value) : (w.alloc (.cells #[x] e)).ownsRow w.heap.size e 1 (.slice (some ⟨w.heap.size, 0, none⟩) 1 1) [x].length [x] :=
  ⟨rfl, .inr ⟨w.heap.size, 1, #[x], rfl, Nat.le_refl _, heap_alloc_new w _, Nat.le_refl _, by unfold maxLen; omega, rfl, rfl⟩⟩
theorem cs8_length (l : List Nat) : (cs8 l).length = l.length := by unfold cs8; rw [List.length_map]

/-- A slice that the call has made is returned. -/
def GiveW (w : World) (l : List Nat) (e : Ending) (w' : World) : Prop :=
  ∃ v, e = .returned v ∧ w'.ownsRow w.heap.size 5 1 v l.length (cs8 l) ∧ Below w.heap.size w w'
theorem own_below {w w' : World} {base : Nat} {e : TypeId} {size : Nat} {v : Value} {n : Nat} {xs : List Value} (h : w.ownsRow base e size v n xs) (hb : Below w.heap.size w w') : w'.ownsRow base e size v n xs := by
  refine ⟨h.1, ?_⟩
  rcases h.2 with h2 | ⟨g, cap, cur, rfl, h3, h4, rest⟩
  · exact .inl h2
  · exact .inr ⟨g, cap, cur, rfl, h3, (hb.block g (Array.getElem?_eq_some_iff.1 h4).1).trans h4, rest⟩
theorem own_rd {w : World} {base : Nat} {v : Value} {l : List Nat} (h : w.ownsRow base 5 1 v l.length (cs8 l)) : ∃ A c, v = .slice A l.length c ∧ Rd w A (cs8 l) ∧ l.length ≤ c ∧ c ≤ maxLen := by
  have := own_open (e := 5) (base := base) (w := w) (v := v) (xs := cs8 l) (by rw [cs8_length]; exact h)
  rw [cs8_length] at this
  exact this
theorem ocs_len {n : Nat} (h : n < 4294967296) : (ocs n).length ≤ 5 := by rw [ocs_length]; have := gk5 h; omega
theorem one8 (l : List Nat) : ∀ u ∈ cs8 l, u.oneCell' = true := by intro u hu; obtain ⟨n, _, rfl⟩ := List.mem_map.1 hu; rfl
/-- 'append(v, s...)' of bytes. -/
theorem app8 {w : World} {base : Nat} {v : Value} {xs ys : List Nat} {A : Option Addr} {c : Nat} (hown : w.ownsRow base 5 1 v xs.length (cs8 xs)) (hy : Rd w A (cs8 ys)) (hb : base ≤ w.heap.size) (hl : xs.length + ys.length ≤ 1000) :
    ∃ v' w', (Builtin.append_ #[40, 40] 40 #[v, .slice A ys.length c]).run Tryd.prog w = .ok v' w' ∧ w'.ownsRow base 5 1 v' (xs ++ ys).length (cs8 (xs ++ ys)) ∧ Below base w w' := by
  obtain ⟨v', w', h1, h2, h3⟩ := app_src (P := Tryd.prog) (ty := 40) Tryd.underlying40 info5 rfl (by rw [cs8_length]; exact hown) (c := c) hy (one8 ys) hb (by rw [cs8_length, cs8_length]; omega) (by rw [cs8_length, cs8_length]; unfold maxLen; omega)
  have e : cs8 xs ++ cs8 ys = cs8 (xs ++ ys) := by unfold cs8; rw [List.map_append]
  rw [cs8_length] at h1
  rw [e, cs8_length] at h2
  exact ⟨v', w', h1, h2, h3⟩

theorem putO_small {n : Nat} {l : List Nat} (ho : OkO n l) (h : chkO n l = 0) : ∀ k, (((ids n l).take k).flatMap ocs).length ≤ 80 := fun k => by
  obtain ⟨a, b, m, rfl, hm, hab, h32⟩ := ids_lt ho h
  have hn := chkO_n h
  have h1 := flat_len (is := (ids n (a :: b :: m)).take k) (fun x hx => by
    rcases List.mem_cons.1 (List.mem_of_mem_take hx) with rfl | hx
    · exact hab
    · exact h32 x (List.mem_of_mem_take hx))
  have h2 : ((ids n (a :: b :: m)).take k).length ≤ 16 := by
    rw [List.length_take]; unfold ids; simp only [List.length_cons, List.length_take]; omega
  omega

end Go.Proofs.YtndamidmgglneaaDoor
