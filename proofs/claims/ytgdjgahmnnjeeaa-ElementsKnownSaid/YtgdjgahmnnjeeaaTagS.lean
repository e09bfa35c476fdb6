/-
  The reference of layer 2: contracts of Groups and Put.
  Conditions: the number is that of a valid tag.
-/
import Derived.Test.YtgdjgahmnnjeeaaTagN2
import Derived.Laws.AppendOwnNone
namespace Go.Proofs.Ytgdjgahmnnjeeaa
open Go.RowKit

/-- The walk's step at the builtin append, by what it runs to. -/
theorem wpList_app {P : Program} {w : World} {ops : Array Oper} {rest : List Oper} {o : Oper} {a : Act} {Q : Exit → Act → World → Prop} (hgd : o.guard = none) (s x : Operand) (t1 t2 : TypeId)
    (ho : o.op = .call { callee := .builtin .append, args := #[s, x], argTypes := #[t1, t2] }) (u v : Value) (hs : a.eval s = u) (hx : a.eval x = v) {r : Value} {w1 : World}
    (hrun : (Builtin.append_ #[t1, t2] o.type #[u, v]).run P w = .ok r w1) (h : wpList P ops Q rest (a.put o.dst r) w1) : wpList P ops Q (o :: rest) a w := by
  refine wpList_plain hgd fun K hK => ?_
  have hK' := hK _ _ h
  unfold Oper.wp execOp
  simp only [ho, resolve, invoke, builtin, Sem.run_bind, Sem.run_pure, Result.andThen_ok, List.map_toArray, List.map_cons, List.map_nil, hs, hx, hrun]
  exact hK'
/-- 'append(v, s...)' to what the call has built, whatever s is. -/
theorem app_src {P : Program} {t ty e : TypeId} {z : Value} {bytes : Nat} (ht : P.underlying t = some (.slice e)) (hinfo : (P.info? e).map (fun i => (i.zero, i.size, i.bytes)) = some (some z, 1, bytes)) (hz : z.cells.size = 1)
    {w : World} {base : Nat} {v : Value} {xs : List Value} (hown : w.ownsRow base e 1 v xs.length xs) {A : Option Addr} {ys : List Value} {c : Nat} (hy : Rd w A ys) (h1 : ∀ u ∈ ys, u.oneCell' = true) (hb : base ≤ w.heap.size)
    (hl : (xs.length + ys.length) * bytes ≤ 140737488355328) (hm : xs.length + ys.length ≤ maxLen) :
    ∃ v' w', (Builtin.append_ #[t, t] ty #[v, .slice A ys.length c]).run P w = .ok v' w' ∧ w'.ownsRow base e 1 v' (xs ++ ys).length (xs ++ ys) ∧ Below base w w' := by
  obtain ⟨i, hi, hz0, hz1, hz2⟩ := info_parts hinfo
  cases A with
  | some a =>
    obtain ⟨v', w', hrun, h2, h3, _⟩ := run_append_own (P := P) w base t ty e i z 1 bytes ht hi hz0 hz1 hz2 hz (by omega) v xs.length xs hown a ys.length c ys (by simp)
      (fun j u hu => by
        obtain ⟨b, off, e, _, hc⟩ := hy (by intro e; subst e; simp at hu)
        injection e with e
        subst e
        rw [addr_add]; exact hc j u hu) h1 hm hl hb
    exact ⟨v', w', hrun, by rw [List.length_append]; exact h2, (Below.refl base w).grown h3 hb (fun k hk => (hown.lt k hk).1)⟩
  | none =>
    have hnil : ys = [] := by
      cases ys with
      | nil => rfl
      | cons u m => obtain ⟨_, _, e, _⟩ := hy (by simp); cases e
    subst hnil
    refine ⟨v, w, ?_, by simpa using hown, Below.refl _ _⟩
    rcases hown.2 with ⟨rfl, h0⟩ | ⟨g, cap, cur, rfl, _, _, hnc, _⟩
    · simp [Builtin.append_, run_underlying ht, sizeOf, typeInfo, hi, Builtin.lenOf, Builtin.firstCells]
    · simp [Builtin.append_, run_underlying ht, sizeOf, typeInfo, hi, Builtin.lenOf, Builtin.firstCells, hnc, storeCells]
/-- A slice literal of one element. -/
theorem own_lit (w : World) (e : TypeId) (x : Value) : (w.alloc (.cells #[x] e)).ownsRow w.heap.size e 1 (.slice (some ⟨w.heap.size, 0, none⟩) 1 1) [x].length [x] :=
  ⟨rfl, .inr ⟨w.heap.size, 1, #[x], rfl, Nat.le_refl _, heap_alloc_new w _, Nat.le_refl _, by unfold maxLen; omega, rfl, rfl⟩⟩
theorem cs8_length (l : List Nat) : (cs8 l).length = l.length := by unfold cs8; rw [List.length_map]
/-- A slice is returned; what was there has not turned. -/
def GiveB (w : World) (l : List Nat) (e : Ending) (w' : World) : Prop :=
  ∃ A c, e = .returned (.slice A l.length c) ∧ Rb w' A l ∧ l.length ≤ c ∧ c ≤ maxLen ∧ Below w.heap.size w w'
theorem gl_le {n : Nat} (h : n < 268435456) : (gl n).length ≤ 5 := by
  by_cases h0 : n = 0
  · subst h0; decide
  · rw [gl_length (by omega) (by omega)]; have := gk_le h; omega
theorem gl_all {n : Nat} (h : n < 268435456) : All8 (gl n) := by
  by_cases h0 : n = 0
  · subst h0; intro x hx; simp [gl, dgs, dgsF] at hx; omega
  · rw [← gl_of (n := n) (by omega) (by omega)]
    intro x hx
    simp only [List.mem_map, items, List.mem_range] at hx
    obtain ⟨y, ⟨j, _, rfl⟩, rfl⟩ := hx
    exact oct_lt
/-- 'append([]byte{x}, s...)'. -/
theorem app_front (w1 : World) (x : Nat) {A : Option Addr} {out : List Nat} {c : Nat} (h : Rb w1 A out) (hl : out.length ≤ 1000) :
    ∃ B2 c2 w2, (Builtin.append_ #[26, 26] 26 #[.slice (some ⟨w1.heap.size, 0, none⟩) 1 1, .slice A out.length c]).run Try.prog (w1.alloc (.cells #[.int .u8 (x : Int)] 5)) = .ok (.slice B2 (x :: out).length c2) w2 ∧ Rd w2 B2 (cs8 (x :: out)) ∧ (x :: out).length ≤ c2 ∧ c2 ≤ maxLen ∧ Below w1.heap.size w1 w2 := by
  have hb2 : Below w1.heap.size w1 (w1.alloc (.cells #[.int .u8 (x : Int)] 5)) := (Below.refl _ _).alloc (Nat.le_refl _) _
  obtain ⟨v', w2, hrun, hown2, hb3⟩ := app_src (P := Try.prog) (ty := 26) Try.underlying26 info5 rfl (own_lit w1 5 (.int .u8 (x : Int))) (c := c) ((h.below hb2).1) (by intro u hu; obtain ⟨n, _, rfl⟩ := List.mem_map.1 hu; rfl) (by simp) (by rw [cs8_length, List.length_singleton]; omega) (by rw [cs8_length, List.length_singleton]; unfold maxLen; omega)
  rw [cs8_length] at hrun
  obtain ⟨B2, c2, rfl, hr2, hc2, hc3⟩ := own_open hown2
  have e1 : [Value.int .u8 (x : Int)] ++ cs8 out = cs8 (x :: out) := rfl
  rw [e1] at hr2 hc2 hrun
  rw [cs8_length] at hc2 hrun
  exact ⟨B2, c2, w2, hrun, hr2, hc2, hc3, hb2.trans hb3⟩

set_option maxRecDepth 100000 in
set_option maxHeartbeats 1000000 in
theorem rgroups_any (n : Nat) (w : World) (hn : n < 268435456) : Calls Try.prog 66 #[.int .i64 (n : Int)] w (GiveB w (gl n)) := by
  have hgl := gl_le hn
  obtain ⟨y, hy⟩ : ∃ y, n % 128 = y := ⟨_, rfl⟩
  obtain ⟨v, hv⟩ : ∃ v, n / 128 = v := ⟨_, rfl⟩
  have hy1 : ((n : Int) % 128) = (y : Int) := by omega
  have hv1 : ((n : Int) / 128) = (v : Int) := by omega
  have hy2 : y < 128 := by omega
  have hv2 : v < 268435456 := by omega
  have HG := Lib.hid (show gl n = ((dgs 128 v).map (128 + ·)).reverse ++ [y] by rw [← hy, ← hv]; rfl)
  have HGL := Lib.hid hgl
  clear hy hv hgl
  go_enter Try.func66, Try.ntmps66
  go_wp2_with fail
  go_loopw [0, 3] (fun d o wr => ∃ (u : Nat) (B : Option Addr) (out : List Nat) (c : Nat), u < 268435456 ∧ d = .int .i64 (u : Int) ∧ o = .slice B out.length c ∧ Rb wr B out ∧ out.length ≤ c ∧ c ≤ maxLen ∧ gl n = ((dgs 128 u).map (128 + ·)).reverse ++ out ∧ Below w.heap.size w wr) (fun d _ _ => (intOf d).toNat)
  case atStart => exact ⟨v, _, [y], 1, hv2, rfl, rfl, one_bytes (by omega), Nat.le_refl _, by unfold maxLen; omega, HG.out, (Below.refl _ _).alloc (Nat.le_refl _) _⟩
  case round =>
    obtain ⟨u, B, out, c, hu, rfl, rfl, hb, hc1, hc2, hd, hbel⟩ := hrel
    have hol : out.length ≤ 1000 := by
      have := congrArg List.length hd
      have h5 := HGL.out
      rw [List.length_append] at this
      omega
    have HRb := Lib.hid hb
    have HO := Lib.hid (And.intro hc1 hc2)
    have HD := Lib.hid hd
    have HBel := Lib.hid hbel
    clear hb hc1 hc2 hd hbel hy1 hv1
    by_cases hu0 : u = 0
    · subst hu0
      have HD2 : Hid (gl n = out) := HD.out.trans (by rw [dgs_zero]; rfl)
      go_wp2_with fail
      go_ret
      rw [HD2.out]
      exact ⟨B, c, rfl, HRb.out, HO.out.1, HO.out.2, HBel.out⟩
    · have hupos : 0 < u := by omega
      obtain ⟨x, hx⟩ : ∃ x, 128 + u % 128 = x := ⟨_, rfl⟩
      obtain ⟨u', hu'⟩ : ∃ u', u / 128 = u' := ⟨_, rfl⟩
      have hx1 : (128 + (u : Int) % 128) = (x : Int) := by omega
      have hu1 : ((u : Int) / 128) = (u' : Int) := by omega
      have hx2 : x < 256 := by omega
      have hu2 : u' < u := by omega
      obtain ⟨B2, c2, w2, hrun, hr2, h21, h22, hb2⟩ := app_front wr x (c := c) HRb.out hol
      have HH := Lib.hid hr2
      have HC2 := Lib.hid (And.intro h21 h22)
      have HB2 := Lib.hid hb2
      have HN : Hid (gl n = ((dgs 128 u').map (128 + ·)).reverse ++ (x :: out)) := Lib.hid (HD.out.trans (by rw [dgs_pos (by omega) hu0, hu', List.map_cons, List.reverse_cons, hx, List.append_assoc]; rfl))
      clear hr2 h21 h22 hb2 hx hu' hu0
      go_wp2_with (at_builtin; refine wpList_app rfl _ _ _ _ rfl _ _ rfl rfl hrun ?_)
      exact ⟨⟨u', B2, x :: out, c2, by omega, rfl, rfl, ⟨HH.out, All8.cons hx2 HRb.out.2⟩, HC2.out.1, HC2.out.2, HN.out, (HBel.out).trans ((HB2.out).mono (HBel.out).size)⟩, by simp [intOf]; omega⟩

theorem one_bytes2 (w : World) (o : Obj) {x : Nat} (h : x < 256) : Rb ((w.alloc o).alloc (.cells #[.int .u8 (x : Int)] 5)) (some ⟨w.heap.size + 1, 0, none⟩) [x] := by
  have := one_bytes (w := w.alloc o) h
  rw [World.size_alloc] at this
  exact this
/-- A literal of one octet, behind what has been made since, and what is put behind it. -/
theorem app_lit {w w1 : World} {o : Obj} {x : Nat} (hb : Below ((w.alloc o).alloc (.cells #[.int .u8 (x : Int)] 5)).heap.size ((w.alloc o).alloc (.cells #[.int .u8 (x : Int)] 5)) w1) {A : Option Addr} {out : List Nat} {c : Nat} (h : Rb w1 A out) (hl : out.length ≤ 1000) (hx : x < 256) :
    ∃ B2 c2 w2, (Builtin.append_ #[26, 26] 26 #[.slice (some ⟨w.heap.size + 1, 0, none⟩) 1 1, .slice A out.length c]).run Try.prog w1 = .ok (.slice B2 (x :: out).length c2) w2 ∧ Rb w2 B2 (x :: out) ∧ (x :: out).length ≤ c2 ∧ c2 ≤ maxLen ∧ Below w.heap.size w w2 := by
  have h0 : ((w.alloc o).alloc (.cells #[.int .u8 (x : Int)] 5)).heap[w.heap.size + 1]? = some (.cells #[.int .u8 (x : Int)] 5 (0, 0)) := by
    have := heap_alloc_new (w.alloc o) (.cells #[.int .u8 (x : Int)] 5)
    rwa [World.size_alloc] at this
  have h1 : w1.heap[w.heap.size + 1]? = some (.cells #[.int .u8 (x : Int)] 5 (0, 0)) := (hb.block (w.heap.size + 1) (by simp)).trans h0
  have hz := hb.size
  simp only [World.size_alloc] at hz
  have hown : w1.ownsRow w.heap.size 5 1 (.slice (some ⟨w.heap.size + 1, 0, none⟩) 1 1) [Value.int .u8 (x : Int)].length [Value.int .u8 (x : Int)] :=
    ⟨rfl, .inr ⟨w.heap.size + 1, 1, #[.int .u8 (x : Int)], rfl, by omega, h1, Nat.le_refl _, by unfold maxLen; omega, rfl, rfl⟩⟩
  obtain ⟨v', w2, hrun, hown2, hb3⟩ := app_src (P := Try.prog) (ty := 26) Try.underlying26 info5 rfl hown (c := c) h.1 (by intro u hu; obtain ⟨n, _, rfl⟩ := List.mem_map.1 hu; rfl) (by omega) (by rw [cs8_length, List.length_singleton]; omega) (by rw [cs8_length, List.length_singleton]; unfold maxLen; omega)
  rw [cs8_length] at hrun
  obtain ⟨B2, c2, rfl, hr2, hc2, hc3⟩ := own_open hown2
  have e1 : [Value.int .u8 (x : Int)] ++ cs8 out = cs8 (x :: out) := rfl
  rw [e1] at hr2 hc2 hrun
  rw [cs8_length] at hc2 hrun
  have hB : Below w.heap.size w w1 := (((Below.refl w.heap.size w).alloc (Nat.le_refl _) _).alloc (by simp) _).trans (hb.mono (by simp; omega))
  exact ⟨B2, c2, w2, hrun, ⟨hr2, All8.cons hx h.2⟩, hc2, hc3, hB.trans hb3⟩
set_option maxRecDepth 100000 in
set_option maxHeartbeats 1000000 in
theorem rput_any (c n : Nat) (k : Bool) (w : World) (hc : c < 256) (hn : n < 4294967296) (h : chk c n k = 0) :
    Calls Try.prog 43 #[tagV c n k] w (GiveB w (putL c n k)) := by
  have hc3 := (chk_zero h).1
  have h28 := (chk_zero h).2
  have hl := hd_le c k hc3
  clear h
  by_cases h31 : n < 31
  · have HP := Lib.hid (show putL c n k = [hd c k + n] from if_pos h31)
    obtain ⟨E, hE⟩ : ∃ E, hd c k + n = E := ⟨_, rfl⟩
    have hEl : E < 256 := by omega
    have hE1 : ((if k = true then (64 * (c : Int) + 32) else 64 * (c : Int)) + (n : Int)) = (E : Int) := by rw [← hE]; unfold hd; cases k <;> simp <;> omega
    have HE := Lib.hid hE
    clear hE hl
    cases k
    · rw [if_neg (by simp)] at hE1
      go_enter Try.func43, Try.ntmps43
      go_wp2_with fail
      go_ret
      rw [HP.out, HE.out]
      exact ⟨_, 1, rfl, one_bytes2 w _ hEl, Nat.le_refl _, by unfold maxLen; omega, ((Below.refl _ _).alloc (Nat.le_refl _) _).alloc (by simp) _⟩
    · rw [if_pos rfl] at hE1
      go_enter Try.func43, Try.ntmps43
      go_wp2_with fail
      go_ret
      rw [HP.out, HE.out]
      exact ⟨_, 1, rfl, one_bytes2 w _ hEl, Nat.le_refl _, by unfold maxLen; omega, ((Below.refl _ _).alloc (Nat.le_refl _) _).alloc (by simp) _⟩
  · have HP := Lib.hid (show putL c n k = (hd c k + 31) :: gl n from if_neg h31)
    have hgl := gl_le h28
    obtain ⟨E, hE⟩ : ∃ E, hd c k + 31 = E := ⟨_, rfl⟩
    have hEl : E < 256 := by omega
    have hE1 : ((if k = true then (64 * (c : Int) + 32) else 64 * (c : Int)) + 31) = (E : Int) := by rw [← hE]; unfold hd; cases k <;> simp <;> omega
    have HE := Lib.hid hE
    clear hE hl
    cases k
    · rw [if_neg (by simp)] at hE1
      go_enter Try.func43, Try.ntmps43
      go_wp2_with fail
      refine (rgroups_any n _ h28).mono ?_
      rintro e w1 ⟨A, c1, rfl, r1, _, _, hb1⟩
      obtain ⟨B2, c2, w2, hrun, hr2, h21, h22, hb2⟩ := app_lit hb1 r1 (c := c1) (by omega) hEl
      have HH := Lib.hid hr2
      have HC2 := Lib.hid (And.intro h21 h22)
      have HB2 := Lib.hid hb2
      clear hr2 h21 h22 hb2 hb1 r1
      go_wp2_with (at_builtin; refine wpList_app rfl _ _ _ _ rfl _ _ rfl rfl hrun ?_)
      go_ret
      rw [HP.out, HE.out]
      exact ⟨B2, c2, rfl, HH.out, HC2.out.1, HC2.out.2, HB2.out⟩
    · rw [if_pos rfl] at hE1
      go_enter Try.func43, Try.ntmps43
      go_wp2_with fail
      refine (rgroups_any n _ h28).mono ?_
      rintro e w1 ⟨A, c1, rfl, r1, _, _, hb1⟩
      obtain ⟨B2, c2, w2, hrun, hr2, h21, h22, hb2⟩ := app_lit hb1 r1 (c := c1) (by omega) hEl
      have HH := Lib.hid hr2
      have HC2 := Lib.hid (And.intro h21 h22)
      have HB2 := Lib.hid hb2
      clear hr2 h21 h22 hb2 hb1 r1
      go_wp2_with (at_builtin; refine wpList_app rfl _ _ _ _ rfl _ _ rfl rfl hrun ?_)
      go_ret
      rw [HP.out, HE.out]
      exact ⟨B2, c2, rfl, HH.out, HC2.out.1, HC2.out.2, HB2.out⟩
end Go.Proofs.Ytgdjgahmnnjeeaa
