/-
  Package tags: the contract of Put.
  Conditions: none.
-/
import Derived.Test.YtgdjgahmnnjeeaaTagD
namespace Go.Proofs.Ytgdjgahmnnjeeaa
open Go.RowKit Go.Shelf
attribute [local go_sem] Oper.semAt_some

/-- The walk's step at the builtin append inside a fence, by what it runs to. -/
theorem wpListIn_app {F : Fence} {n : Nat} {P : Program} {w : World} {ops : Array Oper} {rest : List Oper} {o : Oper} {a : Act} {Q : Exit → Act → World → Prop} (hgd : o.guard = none) (s x : Operand) (t1 t2 : TypeId)
    (ho : o.op = .call { callee := .builtin .append, args := #[s, x], argTypes := #[t1, t2] }) (u v : Value) (hs : a.eval s = u) (hx : a.eval x = v) {r : Value} {w1 : World}
    (hrun : (Builtin.append_ #[t1, t2] o.type #[u, v]).run P w = .ok r w1) (h : wpListIn F n P ops Q rest (a.put o.dst r) w1) : wpListIn F n P ops Q (o :: rest) a w := by
  refine wpListIn_plain hgd fun K hK' => ?_
  unfold Oper.wpIn
  refine ⟨?_, ?_⟩
  · simp [Oper.about, ho, resolve, Target.leads, Sem.run_pure]
  · rw [Oper.semAt_plain F _ _ (by rw [ho]; intro c hc'; cases hc')]
    simp [execOp, ho, resolve, invoke, builtin, hs, hx, hrun, Result.andThen]
    exact hK' _ _ h
theorem info5 : (Try.prog.info? 5).map (fun i => (i.zero, i.size, i.bytes)) = some (some (.int .u8 0), 1, 1) := by kernel_rfl
theorem made_one (v : Value) (n : Nat) : madeCells #[v] n = (List.replicate n v).toArray := by
  unfold madeCells
  apply Array.ext
  · simp
  · intro i h1 h2
    simp [Nat.mod_one]
theorem make_cap (L : Nat) (hL : L ≤ 1000000) (W : World) : (Instr.makeSlice 26 (.int .i64 0) (.int .i64 (L : Int))).run Try.prog W = .ok (.slice (some ⟨W.heap.size, 0, none⟩) 0 L) (W.alloc (.cells (List.replicate L (by8 0)).toArray 5)) := by
  obtain ⟨i, hi, hz0, hz1, hz2⟩ := info_parts info5
  have h := run_make (P := Try.prog) W 26 5 i (.int .u8 0) Try.underlying26 hi hz0 .i64 .i64 0 (L : Int) (by omega) (by omega) (by rw [hz2]; omega) (by omega)
  rw [h, hz1, Int.toNat_natCast, Nat.mul_one, show (Value.int IntKind.u8 0).cells = #[Value.int IntKind.u8 0] from rfl, made_one, Int.toNat_zero]
  rfl
/-- A cell is put where there is room. -/
theorem app_room {w : World} {g L : Nat} {xs : List Value} (hb : Bk w g 5 (xs ++ List.replicate (L - xs.length) (by8 0))) (hl : xs.length < L) (v : Value) (h1 : v.oneCell' = true) (b o : Nat) (ha : w.cell? ⟨b, o, none⟩ = some v) :
    (Builtin.append_ #[26, 26] 26 #[.slice (some ⟨g, 0, none⟩) xs.length L, .slice (some ⟨b, o, none⟩) 1 1]).run Try.prog w = .ok (.slice (some ⟨g, 0, none⟩) (xs.length + 1) L) (w.setCell ⟨g, xs.length, none⟩ v) ∧
    Bk (w.setCell ⟨g, xs.length, none⟩ v) g 5 ((xs ++ [v]) ++ List.replicate (L - (xs ++ [v]).length) (by8 0)) := by
  obtain ⟨i, hi, hz0, hz1, hz2⟩ := info_parts info5
  have hsz : (xs ++ List.replicate (L - xs.length) (by8 0)).length = L := by simp; omega
  constructor
  · have h := run_append_room_cells (P := Try.prog) (w := w) 26 26 5 i Try.underlying26 hi g 0 xs.length L ⟨b, o, none⟩ 1 1 [v] (by rw [hz1]; rfl)
      (fun j u hj => by
        obtain ⟨hj1, rfl⟩ := List.getElem?_eq_some_iff.1 hj
        have : j = 0 := by simpa using hj1
        subst this
        simpa [Addr.add_lit] using ha) (by simpa using h1) (by omega)
      (fun j hj => by
        have : j = 0 := by simpa using hj
        subst this
        rw [hb.cell, List.getElem?_eq_getElem (by rw [hsz, hz1]; omega)]; rfl)
      (fun j _ => hb.free _)
    rw [h, hz1]
    simp [World.setCells]
  · have h := hb.store xs.length v
    have e : (xs ++ List.replicate (L - xs.length) (by8 0)).set xs.length v = (xs ++ [v]) ++ List.replicate (L - (xs ++ [v]).length) (by8 0) := by
      rw [show L - xs.length = (L - (xs ++ [v]).length) + 1 by simp; omega, List.replicate_succ]
      simp
    rwa [e] at h
/-- The walk's step at an append for which there is room. -/
theorem wpListIn_app_room {F : Fence} {n : Nat} {w : World} {ops : Array Oper} {rest : List Oper} {o : Oper} {a : Act} {Q : Exit → Act → World → Prop} (hgd : o.guard = none) (s x : Operand)
    (ho : o.op = .call { callee := .builtin .append, args := #[s, x], argTypes := #[26, 26] }) (hty : o.type = 26) {g L b len : Nat} {v : Value} (l : List Value) (hs : a.eval s = .slice (some ⟨g, 0, none⟩) len L) (hx : a.eval x = .slice (some ⟨b, 0, none⟩) 1 1)
    (hlen : l.length = len) (hb : Bk w g 5 (l ++ List.replicate (L - l.length) (by8 0))) (hl : len < L) (h1 : v.oneCell' = true) (hy : w.cell? ⟨b, 0, none⟩ = some v)
    (h : ∀ w1, Bk w1 g 5 ((l ++ [v]) ++ List.replicate (L - (l ++ [v]).length) (by8 0)) → w.grownBy w1 (some g) → w1.heap.size = w.heap.size → KeepsOthers w w1 → wpListIn F n Try.prog ops Q rest (a.put o.dst (.slice (some ⟨g, 0, none⟩) (len + 1) L)) w1) :
    wpListIn F n Try.prog ops Q (o :: rest) a w := by
  subst hlen
  obtain ⟨h2, h3⟩ := app_room hb hl v h1 b 0 hy
  exact wpListIn_app hgd s x _ _ ho _ _ hs hx (by rw [hty]; exact h2) (h _ h3 (only_store (World.grownBy.refl w _) _ _) (by simp [World.setCell]) (KeepsOthers.setCell _ _ _))

/-- The first octet's class and form. -/
def hd (c : Nat) (k : Bool) : Nat := 64 * c + (if k then 32 else 0)
/-- The identifier octets of a valid tag. -/
def putL (c n : Nat) (k : Bool) : List Nat := if n < 31 then [hd c k + n] else (hd c k + 31) :: gl n
/-- Octets without spare capacity, and an error. -/
def GiveP (w : World) (l : List Nat) (f : Nat) (e : Ending) (w' : World) : Prop :=
  ∃ A, e = .returned (.tuple #[.slice A l.length l.length, .int .i64 (f : Int)]) ∧ Rb w' A l ∧ Below w.heap.size w w'

/-- The same, in a block that was not there. -/
def GiveN (w : World) (l : List Nat) (f : Nat) (e : Ending) (w' : World) : Prop :=
  ∃ g, e = .returned (.tuple #[.slice (some ⟨g, 0, none⟩) l.length l.length, .int .i64 (f : Int)]) ∧ w.heap.size ≤ g ∧ Rb w' (some ⟨g, 0, none⟩) l ∧ Below w.heap.size w w'
theorem GiveN.p {w w' : World} {l : List Nat} {f : Nat} {e : Ending} (h : GiveN w l f e w') : GiveP w l f e w' := let ⟨_, h1, _, h3, h4⟩ := h; ⟨_, h1, h3, h4⟩
theorem or_bits (c n : Nat) (k : Bool) (h : c ≤ 3) (hn : n ≤ 31) : bits BinOp.or IntKind.u8 ((hd c k : Nat) : Int) (n : Int) = ((hd c k + n : Nat) : Int) :=
  (show ∀ (x : Fin 4) (y : Fin 32) (k : Bool), bits BinOp.or IntKind.u8 ((hd x.val k : Nat) : Int) (y.val : Int) = ((hd x.val k + y.val : Nat) : Int) by decide +kernel) ⟨c, by omega⟩ ⟨n, by omega⟩ k
theorem or31 (c : Nat) (k : Bool) (h : c ≤ 3) : bits BinOp.or IntKind.u8 ((hd c k : Nat) : Int) 31 = ((hd c k + 31 : Nat) : Int) := or_bits c 31 k h (by omega)
theorem or32 (c : Nat) (h : c ≤ 3) : bits BinOp.or IntKind.u8 ((c : Int) * 64) 32 = ((hd c true : Nat) : Int) :=
  (show ∀ x : Fin 4, bits BinOp.or IntKind.u8 ((x.val : Int) * 64) 32 = ((hd x.val true : Nat) : Int) by decide +kernel) ⟨c, by omega⟩
theorem hd_false (c : Nat) : ((hd c false : Nat) : Int) = (c : Int) * 64 := by unfold hd; simp; omega
theorem hd_le (c : Nat) (k : Bool) (h : c ≤ 3) : hd c k ≤ 224 := by unfold hd; cases k <;> simp <;> omega
theorem one_bytes {w : World} {x : Nat} (h : x < 256) : Rb (w.alloc (.cells #[.int .u8 (x : Int)] 5)) (some ⟨w.heap.size, 0, none⟩) [x] :=
  ⟨(Bk.new w 5 (cs8 [x])).rd 0, by intro y hy; simp at hy; omega⟩

set_option maxRecDepth 100000 in
set_option maxHeartbeats 1000000 in
theorem put_bad (c n : Nat) (k : Bool) (w : World) (hc : c < 256) (hn : n < 4294967296) (h : chk c n k ≠ 0) :
    Calls Try.prog 38 #[tagV c n k] w (GiveP w [] (chk c n k)) := by
  have h1 : ((chk c n k : Int) != 0) = true := by rw [bne_iff_ne]; omega
  obtain ⟨e0, he⟩ : ∃ e0, chk c n k = e0 := ⟨_, rfl⟩
  have HE := Lib.hid he
  rw [he] at h1 ⊢
  clear he h
  go_enter Try.func38, Try.ntmps38
  go_wp2_with (go_at_call 55; refine (check_any c n k _ hc hn).mono ?_; rintro e w1 ⟨rfl, hb⟩; rw [HE.out]; have HB := Lib.hid hb; clear hb)
  go_ret2
  exact ⟨none, rfl, Rb.nil, ((Below.refl _ _).alloc (Nat.le_refl _) _).trans (HB.out.mono (by simp))⟩

set_option maxRecDepth 100000 in
set_option maxHeartbeats 1000000 in
theorem put_small (c n : Nat) (k : Bool) (w : World) (hc : c < 256) (hn : n < 4294967296) (h : chk c n k = 0) (h31 : n < 31) :
    Calls Try.prog 38 #[tagV c n k] w (GiveN w (putL c n k) 0) := by
  have HP := Lib.hid (show putL c n k = [hd c k + n] from if_pos h31)
  have hc3 := (chk_zero h).1
  have H0 := Lib.hid h
  clear h
  have hl := hd_le c k hc3
  obtain ⟨E, hE⟩ : ∃ E, hd c k + n = E := ⟨_, rfl⟩
  have hEl : E < 256 := by omega
  have o1 := or_bits c n k hc3 (by omega)
  rw [hE] at o1
  have HE := Lib.hid hE
  clear hE
  cases k
  · rw [hd_false] at o1
    clear hl
    go_enter Try.func38, Try.ntmps38
    go_wp2_with (go_at_call 55; refine (check_any c n false _ hc hn).mono ?_; rintro e w1 ⟨rfl, hb⟩; rw [H0.out]; obtain ⟨c0, c1, c2, hsz⟩ := tag_cells hb; have HB := Lib.hid hb; clear hb)
    go_ret2
    rw [HP.out, HE.out]
    exact ⟨_, rfl, Nat.le_of_lt hsz, one_bytes hEl, (((Below.refl _ _).alloc (Nat.le_refl _) _).trans (HB.out.mono (by simp))).alloc (by omega) _⟩
  · have o2 := or32 c hc3
    generalize hd c true = D at *
    go_enter Try.func38, Try.ntmps38
    go_wp2_with (go_at_call 55; refine (check_any c n true _ hc hn).mono ?_; rintro e w1 ⟨rfl, hb⟩; rw [H0.out]; obtain ⟨c0, c1, c2, hsz⟩ := tag_cells hb; have HB := Lib.hid hb; clear hb)
    go_ret2
    rw [HP.out, HE.out]
    exact ⟨_, rfl, Nat.le_of_lt hsz, one_bytes hEl, (((Below.refl _ _).alloc (Nat.le_refl _) _).trans (HB.out.mono (by simp))).alloc (by omega) _⟩

/-- The cell of a group. -/
def octV (x : Nat × Bool) : Value := if x.2 then .int .u8 (bits BinOp.or IntKind.u8 (x.1 : Int) 128) else .int .u8 (x.1 : Int)
theorem octV_items (n L : Nat) : (items n L).map octV = cs8 ((items n L).map oct) := by
  unfold cs8
  rw [List.map_map]
  apply List.map_congr_left
  intro x hx
  have := items_lt hx
  obtain ⟨x1, x2⟩ := x
  cases x2
  · rfl
  · simp only [octV, Function.comp, oct, if_true, by8]
    rw [or128 x1 this]
theorem own_ne {A : World} {g : Nat} {t : TypeId} {cs : Array Value} {row : Option Nat} (h : A.heap[g]? = some (.cells cs t (0, 0))) (hr : ∀ r, row = some r → ∃ o : Obj, A.heap[r]? = some o ∧ o.isCells = false) : some g ≠ row := fun e => by
  obtain ⟨o, ho, hc⟩ := hr g e.symm
  rw [h] at ho
  cases ho
  cases hc
/-- What is known behind the first append. -/
theorem put_pre {w2 w3 : World} {L E : Nat} (hg : (((w2.alloc (.cells (List.replicate L (by8 0)).toArray 5)).alloc (.cells #[.slice (some ⟨w2.heap.size, 0, none⟩) 0 L] 26)).alloc (.cells #[.int .u8 (E : Int)] 5)).grownBy w3 (some w2.heap.size)) :
    Boxed w3 (w2.heap.size + 1) 26 (.slice (some ⟨w2.heap.size, 0, none⟩) 0 L) ∧ Below w2.heap.size w2 w3 ∧ w2.heap.size + 1 < w3.heap.size := by
  have h0 := (Boxed.new (w2.alloc (.cells (List.replicate L (by8 0)).toArray 5)) 26 (.slice (some ⟨w2.heap.size, 0, none⟩) 0 L)).alloc (.cells #[.int .u8 (E : Int)] 5)
  rw [World.size_alloc] at h0
  have h1 := h0.kept hg (by simp)
  exact ⟨h1, ((((Below.refl _ w2).alloc (Nat.le_refl _) _).alloc (by simp) _).alloc (by simp; omega) _).grown hg (by simp; omega) (fun k e => by injection e with e; omega), h1.lt⟩

/-- A round's end. -/
theorem body_end {w W w5 : World} {g L E b : Nat} {pre : List (Nat × Bool)} {x : Nat × Bool} {o : Obj} {a : Act} (hb : Below w.heap.size w w5) (hv : Boxed w5 (g + 1) 26 (.slice (some ⟨g, 0, none⟩) (1 + pre.length) L))
    (hbk : Bk w5 g 5 (((.int .u8 (E : Int) :: pre.map octV) ++ [octV x]) ++ List.replicate (L - ((.int .u8 (E : Int) :: pre.map octV) ++ [octV x]).length) (by8 0))) (hg : (W.alloc o).grownBy w5 (some g)) (hk : KeepsOthers (W.alloc o) w5) (hz : w5.heap.size = (W.alloc o).heap.size)
    (h4 : g + 1 < b) (hw : b < W.heap.size) (hgw : w.heap.size ≤ g) :
    ownPostK (KeepB b) (fun pre W => (Boxed W (g + 1) 26 (.slice (some ⟨g, 0, none⟩) (1 + pre.length) L) ∧ Bk W g 5 ((.int .u8 (E : Int) :: pre.map octV) ++ List.replicate (L - (1 + pre.length)) (by8 0))) ∧ Below w.heap.size w W ∧ b < W.heap.size)
      (fun _ _ _ => False) (pre ++ [x]) W Exit.normal a (w5.setCell ⟨g + 1, 0, none⟩ (.slice (some ⟨g, 0, none⟩) (1 + pre.length + 1) L)) := by
  refine ⟨((KeepsOthers.alloc W o).trans hk).trans (KeepsOthers.setCell _ _ _), ?_, ⟨?_, ?_⟩, hb.setCell (p := ⟨g + 1, 0, none⟩) (by show w.heap.size ≤ g + 1; omega) _, by show b < (w5.setCell _ _).heap.size; rw [show (w5.setCell ⟨g + 1, 0, none⟩ (.slice (some ⟨g, 0, none⟩) (1 + pre.length + 1) L)).heap.size = w5.heap.size by simp [World.setCell], hz, World.size_alloc]; omega⟩
  · unfold KeepB
    rw [World.cell?_setCell_other w5 ⟨g + 1, 0, none⟩ ⟨b, 0, none⟩ _ (by intro e; injection e with e; omega)]
    exact (World.cell?_of_block (hg.block b (by simp; omega) (by simp; omega))).trans (World.cell?_of_block (Below.heap_alloc W o b hw))
  · rw [List.length_append, List.length_singleton, ← Nat.add_assoc]
    exact hv.set _
  · have h := hbk.far (p := ⟨g + 1, 0, none⟩) (by simp) (.slice (some ⟨g, 0, none⟩) (1 + pre.length + 1) L)
    have e : ((.int .u8 (E : Int) :: pre.map octV) ++ [octV x]).length = 1 + (pre ++ [x]).length := by simp; omega
    rw [e] at h
    rw [List.map_append]
    exact h
/-- What has been built. -/
theorem put_rb {W : World} {g L E n D : Nat} {l : List Nat} {ob : Obj} (hb : Bk W g 5 ((.int .u8 (E : Int) :: (items n (gk n + 1)).map octV) ++ List.replicate (L - (1 + (items n (gk n + 1)).length)) (by8 0))) (hL : gk n + 2 = L) (h0 : 0 < n) (h64 : n < 2 ^ 64)
    (hl : l = E :: gl n) (hE : E < 256) (hK : W.heap[D]? = some (.deferred (some []))) : Rb (W.putObj D ob) (some ⟨g, 0, none⟩) l := by
  rw [items_length, show L - (1 + (gk n + 1)) = 0 by omega, List.replicate_zero, List.append_nil, octV_items, gl_of h0 h64] at hb
  have hne : g ≠ D := fun e => by subst e; rw [show W.heap[g]? = _ from hb] at hK; cases hK
  have hb2 : Bk (W.putObj D ob) g 5 (cs8 l) := by
    rw [hl]
    exact (World.putObj_heap_other hne).trans hb
  refine ⟨hb2.rd 0, ?_⟩
  rw [hl]
  refine All8.cons hE ?_
  rw [← gl_of h0 h64]
  intro y hy
  simp only [List.mem_map, items, List.mem_range] at hy
  obtain ⟨x, ⟨j, _, rfl⟩, rfl⟩ := hy
  exact oct_lt

set_option maxRecDepth 100000 in
set_option maxHeartbeats 2000000 in
theorem put_big_in (c n : Nat) (k : Bool) (m : Nat) (hm : 6 ≤ m) (w : World) (hc : c < 256) (hn : n < 4294967296) (h : chk c n k = 0) (h31 : 31 ≤ n) :
    CallsIn Fence.wide m Try.prog 38 #[tagV c n k] w (GiveN w (putL c n k) 0) := by
  have HP := Lib.hid (show putL c n k = (hd c k + 31) :: gl n from if_neg (by omega))
  have hc3 := (chk_zero h).1
  have h28 := (chk_zero h).2
  have hg := gk_le h28
  obtain ⟨L, hL⟩ : ∃ L, gk n + 2 = L := ⟨_, rfl⟩
  have hL1 : 2 ≤ L := by omega
  have hL5 : L ≤ 5 := by omega
  have HZ := Lib.hid (show sizeN c n k = L by unfold sizeN; rw [if_neg (by omega), if_neg (by omega), hL])
  have HL := Lib.hid hL
  clear hL
  have h1 : 1 ≤ m := by omega
  have H0 := Lib.hid h
  clear h
  have hl := hd_le c k hc3
  obtain ⟨E, hE⟩ : ∃ E, hd c k + 31 = E := ⟨_, rfl⟩
  have hEl : E < 256 := by omega
  have o1 := or31 c k hc3
  rw [hE] at o1
  have HE := Lib.hid hE
  clear hE
  cases k
  · rw [hd_false] at o1
    clear hl
    refine callsIn_of_wp_marks Try.func38 rfl trivial ?_ rfl
    simp only [Try.ntmps38, List.size_toArray, List.length_cons, List.length_nil, Nat.reduceAdd, Nat.reduceSub, Array.replicate_succ, Array.replicate_zero, List.push_toArray, List.append_toArray, List.nil_append, List.cons_append]
    gi_wp2_with (first | (refine ⟨trivial, ?_⟩; gi_at_call 55; refine (callsIn_wide.2 (check_any c n false _ hc hn)).mono ?_; rintro e w1 ⟨rfl, hb⟩; rw [H0.out]; obtain ⟨c0, c1, c2, hsz⟩ := tag_cells hb; have HB := Lib.hid hb; clear hb) | (refine ⟨trivial, ?_⟩; gi_at_call 56; refine (callsIn_wide.2 (size_any c n false _ hc hn)).mono ?_; rintro e w2 ⟨rfl, hb2⟩; rw [HZ.out]; have hmk := make_cap L (by omega) w2; have c2' := (hb2.cell (p := ⟨w.heap.size, 2, none⟩) hsz).trans c2; have hsz2 := Nat.lt_of_lt_of_le hsz hb2.size; have HB2 := Lib.hid hb2; clear hb2 c0 c1 c2) | (gi_at_builtin; go_must (refine wpListIn_app_room rfl _ _ rfl rfl (v := .int .u8 (E : Int)) [] rfl rfl rfl (((Bk.new w2 _ _).alloc _).alloc _) (by omega) (by simp [Value.oneCell']) (by first | (simp [go_sem]; done) | (go_simp; done)) ?_); intro w3 hbk3 hgr3 hsz3 hko3; obtain ⟨hv3, hB3, hlt3⟩ := put_pre hgr3; have c3 := (hB3.cell (p := ⟨w.heap.size, 2, none⟩) hsz2).trans c2'; have b3 := hv3.cell; have f3 := hv3.frozen; have HBk3 := Lib.hid hbk3; have HV3 := Lib.hid hv3; have HB3 := Lib.hid hB3; clear hbk3 hv3 hB3 hgr3 hko3 hsz3 hmk c2') | (refine ⟨trivial, ?_⟩; gi_at_call 57; refine (groups_in n _ _).mono ?_; rintro e w' ⟨rfl, rfl⟩))
    have HB0 := Lib.hid (show Below w.heap.size w w3 from (((Below.refl _ w).alloc (Nat.le_refl _) _).trans (HB.out.mono (by simp))).trans ((HB2.out.mono (by omega)).trans (HB3.out.mono (by omega))))
    have hv4 := (HV3.out.set (.slice (some ⟨w2.heap.size, 0, none⟩) 1 L))
    have hbk4 := (HBk3.out.far (p := ⟨w2.heap.size + 1, 0, none⟩) (by simp) (.slice (some ⟨w2.heap.size, 0, none⟩) 1 L))
    have hb4 := HB0.out.setCell (p := ⟨w2.heap.size + 1, 0, none⟩) (by show w.heap.size ≤ w2.heap.size + 1; omega) (.slice (some ⟨w2.heap.size, 0, none⟩) 1 L)
    have hz4 : w2.heap.size + 1 < (w3.setCell ⟨w2.heap.size + 1, 0, none⟩ (.slice (some ⟨w2.heap.size, 0, none⟩) 1 L)).heap.size := hv4.lt
    have hz3 : (w3.setCell ⟨w2.heap.size + 1, 0, none⟩ (.slice (some ⟨w2.heap.size, 0, none⟩) 1 L)).heap.size = w3.heap.size := by simp [World.setCell]
    rw [← hz3]
    generalize w3.setCell ⟨w2.heap.size + 1, 0, none⟩ (.slice (some ⟨w2.heap.size, 0, none⟩) 1 L) = w4 at *
    have hb := cell_new_l w4 (.int .u32 (n : Int)) 23
    clear c3 b3 f3 HV3 HBk3 HB3 HB2 HB hz3 hlt3
    refine wpIn_rangeFunc_ownF rfl h1 (gf := 79) (lb := #[.pointer (some ⟨w4.heap.size, 0, none⟩)]) rfl trivial (enters_of Try.func79 (by kernel_rfl) rfl)
      (iter_stops n (by omega) h28 (m - 1) (by omega) w4.heap.size _ (by simp) hb.1) KeepB.t (KeepB.b (by simp)) (Below.refl _ _) (fun _ => rfl)
      (fun pre W => (Boxed W (w2.heap.size + 1) 26 (.slice (some ⟨w2.heap.size, 0, none⟩) (1 + pre.length) L) ∧ Bk W w2.heap.size 5 ((.int .u8 (E : Int) :: pre.map octV) ++ List.replicate (L - (1 + pre.length)) (by8 0))) ∧ Below w.heap.size w W ∧ w4.heap.size < W.heap.size)
      (fun _ _ _ => False)
      (OwnFrom.and (Own.from (fun s A B row hs hg hr => ⟨hs.1.kept hg (own_ne hs.1 hr), hs.2.only hg (own_ne hs.2 hr)⟩) _) (OwnFrom.and (ownFrom_below (Nat.le_refl _) (by simp; omega)) (Own.from (fun s A B row hs hg hr => Nat.lt_of_lt_of_le hs hg.size) _)))
      (fun _ _ _ _ _ hs _ _ => hs)
      ⟨⟨hv4.alloc _, hbk4.alloc _⟩, hb4.alloc (by omega) _, by simp⟩
      (fun x => { tmps := #[tagV c n false, .pointer (some ⟨w.heap.size, 0, none⟩), .slice none 0 0, .int .i64 0, .int .i64 0, .int .u8 ((c : Int) * 64), .pointer (some ⟨w2.heap.size + 1, 0, none⟩), .int .u8 (x.1 : Int), .bool x.2,
        .agg #[.int .u8 (c : Int), .bool false, .int .u32 (n : Int)], .int .i64 0, .int .i64 0, .bool false, undef, .pointer (some ⟨w.heap.size, 0, none⟩), .int .u8 (c : Int), .int .u8 ((c : Int) * 64), .pointer (some ⟨w.heap.size, 1, none⟩), .bool false, undef, undef,
        .pointer (some ⟨w.heap.size, 2, none⟩), .int .u32 (n : Int), .bool (decide ((n : Int) < 31)), undef, undef, undef, undef, undef, undef, .agg #[.int .u8 (c : Int), .bool false, .int .u32 (n : Int)], .int .i64 (L : Int),
        .slice (some ⟨w2.heap.size, 0, none⟩) 0 L, .slice (some ⟨w2.heap.size, 0, none⟩) 0 L, .int .u8 ((c : Int) * 64), .int .u8 (E : Int), .slice (some ⟨w2.heap.size + 1 + 1, 0, none⟩) 1 1, .slice (some ⟨w2.heap.size, 0, none⟩) 1 L,
        .pointer (some ⟨w.heap.size, 2, none⟩), .int .u32 (n : Int), .func (.func 79) #[] #[.pointer (some ⟨w4.heap.size, 0, none⟩)], .int .u8 (x.1 : Int), .bool x.2, undef, undef, undef, undef, undef, undef, undef, undef], defers := [] }) ?assign ?body ?done ?stop
    case assign =>
      rintro l ⟨x1, x2⟩ W K hK
      gi_wp2_with fail
      simpa [encI] using hK
    case body =>
      rintro l pre ⟨x1, x2⟩ W ⟨⟨hvW, hbkW⟩, hBW, hzW⟩ hpl
      have hcW := hvW.cell
      have hfW := hvW.frozen
      have hplL : 1 + pre.length < L := by have := HL.out; omega
      have HvW := Lib.hid hvW
      have HbkW := Lib.hid hbkW
      have HBW := Lib.hid hBW
      clear hvW hbkW hBW
      cases x2
      · gi_wp2_with (gi_at_builtin; go_must (refine wpListIn_app_room (v := octV (x1, false)) rfl _ _ rfl rfl (.int .u8 (E : Int) :: pre.map octV) rfl rfl (by simp; omega) (by rw [List.length_cons, List.length_map, Nat.add_comm pre.length 1]; exact HbkW.out.alloc _) hplL (by simp [octV, Value.oneCell']) (by simp [octV, go_sem]; done) ?_); intro w5 hbk5 hgr5 hsz5 hko5; have hv5 := (HvW.out.alloc (.cells #[_] 5)).kept hgr5 (by simp); have c5 := hv5.cell; have f5 := hv5.frozen; have hB5 := Below.grown ((HBW.out).alloc HBW.out.size _) hgr5 (by simp; exact Nat.le_succ_of_le HBW.out.size) (fun k e => by injection e with e; omega); have HV5 := Lib.hid hv5; have HBk5 := Lib.hid hbk5; have HB5 := Lib.hid hB5; have HG5 := Lib.hid hgr5; have HK5 := Lib.hid hko5; have HZ5 := Lib.hid hsz5; clear hv5 hbk5 hB5 hgr5 hko5 hsz5)
        exact body_end HB5.out HV5.out HBk5.out HG5.out HK5.out HZ5.out hz4 hzW (by omega)
      · gi_wp2_with (gi_at_builtin; go_must (refine wpListIn_app_room (v := octV (x1, true)) rfl _ _ rfl rfl (.int .u8 (E : Int) :: pre.map octV) rfl rfl (by simp; omega) (by rw [List.length_cons, List.length_map, Nat.add_comm pre.length 1]; exact HbkW.out.alloc _) hplL (by simp [octV, Value.oneCell']) (by simp [octV, go_sem]; done) ?_); intro w5 hbk5 hgr5 hsz5 hko5; have hv5 := (HvW.out.alloc (.cells #[_] 5)).kept hgr5 (by simp); have c5 := hv5.cell; have f5 := hv5.frozen; have hB5 := Below.grown ((HBW.out).alloc HBW.out.size _) hgr5 (by simp; exact Nat.le_succ_of_le HBW.out.size) (fun k e => by injection e with e; omega); have HV5 := Lib.hid hv5; have HBk5 := Lib.hid hbk5; have HB5 := Lib.hid hB5; have HG5 := Lib.hid hgr5; have HK5 := Lib.hid hko5; have HZ5 := Lib.hid hsz5; clear hv5 hbk5 hB5 hgr5 hko5 hsz5)
        exact body_end HB5.out HV5.out HBk5.out HG5.out HK5.out HZ5.out hz4 hzW (by omega)
    case done =>
      rintro D ys W hD rfl ⟨⟨hvW, hbkW⟩, hBW, hzW⟩ hK
      have hcW := hvW.cell
      have HBW := Lib.hid hBW
      have HbkW := Lib.hid hbkW
      have HvW := Lib.hid hvW
      clear hBW hbkW hvW
      gi_wp2_with fail
      refine ⟨by simp, .inl ⟨_, _, rfl, run_takeDeferred hK, ?_⟩⟩
      have hLn := HL.out
      have hlen : (putL c n false).length = L := by rw [HP.out, List.length_cons, gl_length (by omega) (by omega)]; omega
      refine ⟨_, results_tmp2 rfl _ _ _, w2.heap.size, ?_, ?_, put_rb HbkW.out hLn (by omega) (by omega) ?_ ?_ hK, HBW.out.trans (belowK_b (w := w) (Nat.le_refl _) W D _ _ (by simp at hD; omega) hK rfl rfl)⟩
      · rw [hlen, items_length, show 1 + (gk n + 1) = L by omega]; rfl
      · omega
      · rw [HP.out, HE.out]
      · exact hEl
    case stop =>
      rintro D c pre W _ _ h _
      exact h.elim
  · have o2 := or32 c hc3
    generalize hd c true = D at *
    refine callsIn_of_wp_marks Try.func38 rfl trivial ?_ rfl
    simp only [Try.ntmps38, List.size_toArray, List.length_cons, List.length_nil, Nat.reduceAdd, Nat.reduceSub, Array.replicate_succ, Array.replicate_zero, List.push_toArray, List.append_toArray, List.nil_append, List.cons_append]
    gi_wp2_with (first | (refine ⟨trivial, ?_⟩; gi_at_call 55; refine (callsIn_wide.2 (check_any c n true _ hc hn)).mono ?_; rintro e w1 ⟨rfl, hb⟩; rw [H0.out]; obtain ⟨c0, c1, c2, hsz⟩ := tag_cells hb; have HB := Lib.hid hb; clear hb) | (refine ⟨trivial, ?_⟩; gi_at_call 56; refine (callsIn_wide.2 (size_any c n true _ hc hn)).mono ?_; rintro e w2 ⟨rfl, hb2⟩; rw [HZ.out]; have hmk := make_cap L (by omega) w2; have c2' := (hb2.cell (p := ⟨w.heap.size, 2, none⟩) hsz).trans c2; have hsz2 := Nat.lt_of_lt_of_le hsz hb2.size; have HB2 := Lib.hid hb2; clear hb2 c0 c1 c2) | (gi_at_builtin; go_must (refine wpListIn_app_room rfl _ _ rfl rfl (v := .int .u8 (E : Int)) [] rfl rfl rfl (((Bk.new w2 _ _).alloc _).alloc _) (by omega) (by simp [Value.oneCell']) (by first | (simp [go_sem]; done) | (go_simp; done)) ?_); intro w3 hbk3 hgr3 hsz3 hko3; obtain ⟨hv3, hB3, hlt3⟩ := put_pre hgr3; have c3 := (hB3.cell (p := ⟨w.heap.size, 2, none⟩) hsz2).trans c2'; have b3 := hv3.cell; have f3 := hv3.frozen; have HBk3 := Lib.hid hbk3; have HV3 := Lib.hid hv3; have HB3 := Lib.hid hB3; clear hbk3 hv3 hB3 hgr3 hko3 hsz3 hmk c2') | (refine ⟨trivial, ?_⟩; gi_at_call 57; refine (groups_in n _ _).mono ?_; rintro e w' ⟨rfl, rfl⟩))
    have HB0 := Lib.hid (show Below w.heap.size w w3 from (((Below.refl _ w).alloc (Nat.le_refl _) _).trans (HB.out.mono (by simp))).trans ((HB2.out.mono (by omega)).trans (HB3.out.mono (by omega))))
    have hv4 := (HV3.out.set (.slice (some ⟨w2.heap.size, 0, none⟩) 1 L))
    have hbk4 := (HBk3.out.far (p := ⟨w2.heap.size + 1, 0, none⟩) (by simp) (.slice (some ⟨w2.heap.size, 0, none⟩) 1 L))
    have hb4 := HB0.out.setCell (p := ⟨w2.heap.size + 1, 0, none⟩) (by show w.heap.size ≤ w2.heap.size + 1; omega) (.slice (some ⟨w2.heap.size, 0, none⟩) 1 L)
    have hz4 : w2.heap.size + 1 < (w3.setCell ⟨w2.heap.size + 1, 0, none⟩ (.slice (some ⟨w2.heap.size, 0, none⟩) 1 L)).heap.size := hv4.lt
    have hz3 : (w3.setCell ⟨w2.heap.size + 1, 0, none⟩ (.slice (some ⟨w2.heap.size, 0, none⟩) 1 L)).heap.size = w3.heap.size := by simp [World.setCell]
    rw [← hz3]
    generalize w3.setCell ⟨w2.heap.size + 1, 0, none⟩ (.slice (some ⟨w2.heap.size, 0, none⟩) 1 L) = w4 at *
    have hb := cell_new_l w4 (.int .u32 (n : Int)) 23
    clear c3 b3 f3 HV3 HBk3 HB3 HB2 HB hz3 hlt3
    refine wpIn_rangeFunc_ownF rfl h1 (gf := 79) (lb := #[.pointer (some ⟨w4.heap.size, 0, none⟩)]) rfl trivial (enters_of Try.func79 (by kernel_rfl) rfl)
      (iter_stops n (by omega) h28 (m - 1) (by omega) w4.heap.size _ (by simp) hb.1) KeepB.t (KeepB.b (by simp)) (Below.refl _ _) (fun _ => rfl)
      (fun pre W => (Boxed W (w2.heap.size + 1) 26 (.slice (some ⟨w2.heap.size, 0, none⟩) (1 + pre.length) L) ∧ Bk W w2.heap.size 5 ((.int .u8 (E : Int) :: pre.map octV) ++ List.replicate (L - (1 + pre.length)) (by8 0))) ∧ Below w.heap.size w W ∧ w4.heap.size < W.heap.size)
      (fun _ _ _ => False)
      (OwnFrom.and (Own.from (fun s A B row hs hg hr => ⟨hs.1.kept hg (own_ne hs.1 hr), hs.2.only hg (own_ne hs.2 hr)⟩) _) (OwnFrom.and (ownFrom_below (Nat.le_refl _) (by simp; omega)) (Own.from (fun s A B row hs hg hr => Nat.lt_of_lt_of_le hs hg.size) _)))
      (fun _ _ _ _ _ hs _ _ => hs)
      ⟨⟨hv4.alloc _, hbk4.alloc _⟩, hb4.alloc (by omega) _, by simp⟩
      (fun x => { tmps := #[tagV c n true, .pointer (some ⟨w.heap.size, 0, none⟩), .slice none 0 0, .int .i64 0, .int .i64 0, .int .u8 (D : Int), .pointer (some ⟨w2.heap.size + 1, 0, none⟩), .int .u8 (x.1 : Int), .bool x.2,
        .agg #[.int .u8 (c : Int), .bool true, .int .u32 (n : Int)], .int .i64 0, .int .i64 0, .bool false, undef, .pointer (some ⟨w.heap.size, 0, none⟩), .int .u8 (c : Int), .int .u8 ((c : Int) * 64), .pointer (some ⟨w.heap.size, 1, none⟩), .bool true, .int .u8 ((c : Int) * 64), .int .u8 (D : Int),
        .pointer (some ⟨w.heap.size, 2, none⟩), .int .u32 (n : Int), .bool (decide ((n : Int) < 31)), undef, undef, undef, undef, undef, undef, .agg #[.int .u8 (c : Int), .bool true, .int .u32 (n : Int)], .int .i64 (L : Int),
        .slice (some ⟨w2.heap.size, 0, none⟩) 0 L, .slice (some ⟨w2.heap.size, 0, none⟩) 0 L, .int .u8 (D : Int), .int .u8 (E : Int), .slice (some ⟨w2.heap.size + 1 + 1, 0, none⟩) 1 1, .slice (some ⟨w2.heap.size, 0, none⟩) 1 L,
        .pointer (some ⟨w.heap.size, 2, none⟩), .int .u32 (n : Int), .func (.func 79) #[] #[.pointer (some ⟨w4.heap.size, 0, none⟩)], .int .u8 (x.1 : Int), .bool x.2, undef, undef, undef, undef, undef, undef, undef, undef], defers := [] }) ?assign ?body ?done ?stop
    case assign =>
      rintro l ⟨x1, x2⟩ W K hK
      gi_wp2_with fail
      simpa [encI] using hK
    case body =>
      rintro l pre ⟨x1, x2⟩ W ⟨⟨hvW, hbkW⟩, hBW, hzW⟩ hpl
      have hcW := hvW.cell
      have hfW := hvW.frozen
      have hplL : 1 + pre.length < L := by have := HL.out; omega
      have HvW := Lib.hid hvW
      have HbkW := Lib.hid hbkW
      have HBW := Lib.hid hBW
      clear hvW hbkW hBW
      cases x2
      · gi_wp2_with (gi_at_builtin; go_must (refine wpListIn_app_room (v := octV (x1, false)) rfl _ _ rfl rfl (.int .u8 (E : Int) :: pre.map octV) rfl rfl (by simp; omega) (by rw [List.length_cons, List.length_map, Nat.add_comm pre.length 1]; exact HbkW.out.alloc _) hplL (by simp [octV, Value.oneCell']) (by simp [octV, go_sem]; done) ?_); intro w5 hbk5 hgr5 hsz5 hko5; have hv5 := (HvW.out.alloc (.cells #[_] 5)).kept hgr5 (by simp); have c5 := hv5.cell; have f5 := hv5.frozen; have hB5 := Below.grown ((HBW.out).alloc HBW.out.size _) hgr5 (by simp; exact Nat.le_succ_of_le HBW.out.size) (fun k e => by injection e with e; omega); have HV5 := Lib.hid hv5; have HBk5 := Lib.hid hbk5; have HB5 := Lib.hid hB5; have HG5 := Lib.hid hgr5; have HK5 := Lib.hid hko5; have HZ5 := Lib.hid hsz5; clear hv5 hbk5 hB5 hgr5 hko5 hsz5)
        exact body_end HB5.out HV5.out HBk5.out HG5.out HK5.out HZ5.out hz4 hzW (by omega)
      · gi_wp2_with (gi_at_builtin; go_must (refine wpListIn_app_room (v := octV (x1, true)) rfl _ _ rfl rfl (.int .u8 (E : Int) :: pre.map octV) rfl rfl (by simp; omega) (by rw [List.length_cons, List.length_map, Nat.add_comm pre.length 1]; exact HbkW.out.alloc _) hplL (by simp [octV, Value.oneCell']) (by simp [octV, go_sem]; done) ?_); intro w5 hbk5 hgr5 hsz5 hko5; have hv5 := (HvW.out.alloc (.cells #[_] 5)).kept hgr5 (by simp); have c5 := hv5.cell; have f5 := hv5.frozen; have hB5 := Below.grown ((HBW.out).alloc HBW.out.size _) hgr5 (by simp; exact Nat.le_succ_of_le HBW.out.size) (fun k e => by injection e with e; omega); have HV5 := Lib.hid hv5; have HBk5 := Lib.hid hbk5; have HB5 := Lib.hid hB5; have HG5 := Lib.hid hgr5; have HK5 := Lib.hid hko5; have HZ5 := Lib.hid hsz5; clear hv5 hbk5 hB5 hgr5 hko5 hsz5)
        exact body_end HB5.out HV5.out HBk5.out HG5.out HK5.out HZ5.out hz4 hzW (by omega)
    case done =>
      rintro D ys W hD rfl ⟨⟨hvW, hbkW⟩, hBW, hzW⟩ hK
      have hcW := hvW.cell
      have HBW := Lib.hid hBW
      have HbkW := Lib.hid hbkW
      have HvW := Lib.hid hvW
      clear hBW hbkW hvW
      gi_wp2_with fail
      refine ⟨by simp, .inl ⟨_, _, rfl, run_takeDeferred hK, ?_⟩⟩
      have hLn := HL.out
      have hlen : (putL c n true).length = L := by rw [HP.out, List.length_cons, gl_length (by omega) (by omega)]; omega
      refine ⟨_, results_tmp2 rfl _ _ _, w2.heap.size, ?_, ?_, put_rb HbkW.out hLn (by omega) (by omega) ?_ ?_ hK, HBW.out.trans (belowK_b (w := w) (Nat.le_refl _) W D _ _ (by simp at hD; omega) hK rfl rfl)⟩
      · rw [hlen, items_length, show 1 + (gk n + 1) = L by omega]; rfl
      · omega
      · rw [HP.out, HE.out]
      · exact hEl
    case stop =>
      rintro D c pre W _ _ h _
      exact h.elim
theorem putn_any (c n : Nat) (k : Bool) (w : World) (hc : c < 256) (hn : n < 4294967296) (h : chk c n k = 0) :
    Calls Try.prog 38 #[tagV c n k] w (GiveN w (putL c n k) 0) := by
  by_cases h31 : n < 31
  · exact put_small c n k w hc hn h h31
  · exact (callsIn_wide (n := 6)).1 (put_big_in c n k 6 (Nat.le_refl _) w hc hn h (by omega))
theorem put_any (c n : Nat) (k : Bool) (w : World) (hc : c < 256) (hn : n < 4294967296) (h : chk c n k = 0) :
    Calls Try.prog 38 #[tagV c n k] w (GiveP w (putL c n k) 0) := (putn_any c n k w hc hn h).mono fun _ _ h => h.p
end Go.Proofs.Ytgdjgahmnnjeeaa
