/-
  Package oids: the contract of Put.
  Conditions: the OID's cells are in their kinds.
-/
import Derived.Test.YtndamidmgglneaaDoorOidH
import Derived.Test.YtndamidmgglneaaDoorOidE
namespace Go.Proofs.YtndamidmgglneaaDoor
open Go.RowKit Go.Shelf
attribute [local go_sem] Oper.semAt_some

/-- The subidentifiers. -/
def ids (n : Nat) (l : List Nat) : List Nat := match l with
  | a :: b :: m => (40 * a + b) :: m.take (n - 2)
  | _ => []
/-- The content octets. -/
def putO (n : Nat) (l : List Nat) : List Nat := (ids n l).flatMap ocs
def GiveP (w : World) (l : List Nat) (f : Nat) (e : Ending) (w' : World) : Prop :=
  ∃ A, e = .returned (.tuple #[.slice A l.length l.length, .int .i64 (f : Int)]) ∧ Rb w' A l ∧ Below w.heap.size w w'
theorem put_bad (n : Nat) (l : List Nat) (w : World) (ho : OkO n l) (h : chkO n l ≠ 0) : Calls Tryd.prog 13 #[oV n l] w (GiveP w [] 1) := by
  have hl := ho.len
  have S := Lib.hid (Bk.new w 26 (oc n l))
  have B0 := Lib.hid (bel1 w (.cells (oc n l).toArray 26))
  have HC : Hid (chkO n l = 1) := Lib.hid ((chkO_01 n l).resolve_left h)
  clear h
  go_enter Tryd.func13, Tryd.ntmps13
  go_upto_region 1 with fail
  generalize w.alloc (.cells (oc n l).toArray 26) = w1 at *
  go_wp2_with (refine wpList_load25 rfl (.tmp 1) rfl rfl S.out hl ?_)
  refine (check_any n l _ ho).mono ?_
  rw [HC.out]
  rintro e w2 ⟨rfl, hb⟩
  have B2 := bt B0 (Lib.hid hb)
  clear hb
  go_wp2
  go_ret2
  exact ⟨none, rfl, Rb.nil, B2.out⟩
theorem ids_lt {n : Nat} {l : List Nat} (ho : OkO n l) (h : chkO n l = 0) : ∃ a b m, l = a :: b :: m ∧ m.length = 14 ∧ 40 * a + b < 4294967296 ∧ (∀ x ∈ m, x < 4294967296) := by
  obtain ⟨h8, hl, h32⟩ := ho
  obtain ⟨a, b, m, rfl⟩ : ∃ a b m, l = a :: b :: m := by
    match l, hl with
    | a :: b :: m, _ => exact ⟨a, b, m, rfl⟩
  refine ⟨a, b, m, rfl, by simpa using hl, ?_, fun x hx => h32 x (by simp [hx])⟩
  have hf : fst2 (a :: b :: m) = true := by
    unfold chkO at h; split at h
    · rename_i h'; exact h'.2.2.1
    · cases h
  rcases (fst2_ab a b m).1 hf with h' | h' <;> omega
theorem zero23 : ∀ w : World, (zeroValue 24).run Tryd.prog w = .ok (.agg (cs32 zeroL).toArray) w := fun _ => by kernel_rfl
theorem range23 {w : World} {g n : Nat} {l : List Nat} (h : Bk w g 26 (oc n l)) : w.rangeAt g 1 (cs32 l) := fun j v hj => by rw [h.cell, Nat.add_comm]; exact hj
theorem wpList_load23 {ops : Array Oper} {rest : List Oper} {o : Oper} {a : Act} {w : World} {Q : Exit → Act → World → Prop} (hgd : o.guard = none) (x : Operand) (ho : o.op = .load 24 x)
    {g n : Nat} {l : List Nat} (hx : a.eval x = .pointer (some ⟨g, 1, none⟩)) (hg : Bk w g 26 (oc n l)) (hl : l.length = 16) (h : wpList Tryd.prog ops Q rest (a.put o.dst (.agg (cs32 l).toArray)) w) : wpList Tryd.prog ops Q (o :: rest) a w :=
  wpList_load_mid hgd _ x ho g 1 hx (cs32 l) _ (range23 hg) Tryd.underlying24 rfl (by rw [cs32_length, hl]; exact info23) h
theorem wpList_store23 {ops : Array Oper} {rest : List Oper} {o : Oper} {a : Act} {w : World} {Q : Exit → Act → World → Prop} (hgd : o.guard = none) (x v : Operand) (ho : o.op = .store 24 x v)
    {g : Nat} {l : List Nat} {cs : List Value} (hx : a.eval x = .pointer (some ⟨g, 0, none⟩)) (hv : a.eval v = .agg (cs32 l).toArray) (hg : Bk w g 24 cs) (hc : cs.length = 16) (hl : l.length = 16)
    (h : ∀ w', Bk w' g 24 (cs32 l) → w.grownBy w' (some g) → w'.heap.size = w.heap.size → wpList Tryd.prog ops Q rest (a.put o.dst undef) w') : wpList Tryd.prog ops Q (o :: rest) a w :=
  wpList_plain hgd fun K hK => by
    have h1 := run_storeVar_row (P := Tryd.prog) w g 24 24 cs.toArray (cs32 l).toArray hg (by rw [List.size_toArray, cs32_length, hl]; exact info23) (by simp [cs32_length, hc, hl]) (all_oneCell_toArray (cs32_one l))
    have hK' := hK _ _ (h (w.setRow g (cs32 l).toArray) (setRow_heap w g _ _ _ _ hg) ⟨rfl, rfl, rfl, by simp [World.setRow], fun k hk hne => setRow_other w g k _ (fun e => hne (by rw [e]))⟩ (by simp [World.setRow]))
    unfold Oper.wp execOp
    simp only [ho, hx, hv, Instr.storeAt, Instr.sureAddr, Sem.run_bind, Sem.run_pure, Result.andThen_ok, h1]
    exact hK'
theorem slice23lh (g n : Nat) (h1 : 1 ≤ n) (hn : n ≤ 16) (W : World) : (Instr.sliceAt 24 (.pointer (some ⟨g, 0, none⟩)) (some (.int .i64 1)) (some (.int .u8 (n : Int))) none).run Tryd.prog W = .ok (.slice (some ⟨g, 1, none⟩) (n - 1) 15) W := by
  rw [run_sliceAt_array_lh (P := Tryd.prog) W 24 ⟨g, 0, none⟩ (by kernel_rfl) .i64 .u8 1 (n : Int) (by omega) (by omega) (by rw [len23]; omega), size23, len23, Int.toNat_natCast]
  rfl

/-- A mark on a function's deferred calls. -/
def mkD (D : Nat) : Deferred := { target := .collected D, args := #[] }
/-- What stands between two rounds of Put. -/
structure PutR (w : World) (ga gb : Nat) (L is : List Nat) (ms : List Nat) (j : Nat) (wr : World) : Prop where
  box : ∃ v, Boxed wr gb 40 v ∧ wr.ownsRow w.heap.size 5 1 v ((is.take j).flatMap ocs).length (cs8 ((is.take j).flatMap ocs))
  arr : Bk wr ga 24 (cs32 L)
  bel : Below w.heap.size w wr
  nod : ms.Nodup
  mar : ∀ D ∈ ms, w.heap.size ≤ D ∧ wr.heap[D]? = some (.deferred (some []))
theorem ocs_all (x : Nat) : All8 (ocs x) := by
  unfold ocs items
  intro y hy
  simp only [List.mem_map, List.mem_range] at hy
  obtain ⟨z, ⟨j, _, rfl⟩, rfl⟩ := hy
  exact oct_lt
theorem flat_all (is : List Nat) : All8 (is.flatMap ocs) := fun y hy => by
  obtain ⟨x, _, h⟩ := List.mem_flatMap.1 hy
  exact ocs_all x y h
theorem flat_len : ∀ {is : List Nat}, (∀ x ∈ is, x < 4294967296) → (is.flatMap ocs).length ≤ 5 * is.length
  | [], _ => by simp
  | x :: is, h => by
    have h1 := gk5 (h x (by simp))
    have h2 := flat_len (is := is) fun y hy => h y (by simp [hy])
    rw [List.flatMap_cons, List.length_append, ocs_length, List.length_cons]
    omega
/-- A function that has marks alone among its deferred calls leaves. -/
theorem leaves_marks {F : Fence} {n : Nat} {P : Program} {fn : Func} {tmps : Array Value} {R : Ending → World → Prop} {v : Value} (hres : ∀ W, (results fn tmps).run P W = .ok v W) (I : World → Prop)
    (B : Nat) (hI : ∀ W D, B ≤ D → I W → W.heap[D]? = some (.deferred (some [])) → I (W.putObj D (.deferred none))) (hR : ∀ W, I W → R (.returned v) W) :
    ∀ (ms : List Nat) (W : World), ms.Nodup → (∀ D ∈ ms, B ≤ D ∧ W.heap[D]? = some (.deferred (some []))) → I W → LeavesInM F n P fn tmps R (ms.map mkD) .returning W
  | [], W, _, _, h => ⟨v, hres W, hR W h⟩
  | D :: ms, W, hn, hm, h => by
    obtain ⟨hD, hk⟩ := hm D (by simp)
    rw [List.nodup_cons] at hn
    refine ⟨by simp, .inl ⟨D, _, rfl, run_takeDeferred hk, leaves_marks hres I B hI hR ms _ hn.2 (fun D' hD' => ⟨(hm D' (by simp [hD'])).1, ?_⟩) (hI W D hD h hk)⟩⟩
    rw [World.putObj_heap_other (show D' ≠ D from fun e => hn.1 (by rw [← e]; exact hD'))]
    exact (hm D' (by simp [hD'])).2
theorem bk_not_row {W : World} {g : Nat} {t e : TypeId} {cs : List Value} (h : Bk W g t cs) (hte : t ≠ e) {base size k : Nat} {v : Value} {xs : List Value} (hr : W.ownsRow base e size v k xs) : some g ≠ v.ownBlock := by
  rcases hr.2 with ⟨rfl, _⟩ | ⟨g', cap, cur, rfl, _, hgb, _⟩
  · simp [Value.ownBlock]
  · intro e'
    obtain rfl : g = g' := by simpa [Value.ownBlock] using e'
    rw [show W.heap[g]? = _ from h] at hgb
    simp only [Option.some.injEq, Obj.cells.injEq] at hgb
    exact hte hgb.2.1
theorem own_bk (g : Nat) (t : TypeId) (cs : List Value) {β : Type} : Own (fun (_ : β) W => Bk W g t cs) := fun s A B row hs hg hr => (hg.block g hs.lt (fun e => by
  obtain ⟨o, ho, hc⟩ := hr g e.symm
  rw [show A.heap[g]? = _ from hs] at ho; cases ho; cases hc)).trans hs
theorem own_box (g : Nat) (t : TypeId) (v : Value) {β : Type} : Own (fun (_ : β) W => Boxed W g t v) := fun s A B row hs hg hr => hs.kept hg (fun e => by
  obtain ⟨o, ho, hc⟩ := hr g e.symm
  rw [show A.heap[g]? = _ from hs] at ho; cases ho; cases hc)
theorem own_marks (ms : List Nat) (B : Nat) (hB : ∀ D ∈ ms, D < B) {β : Type} : OwnFrom B (fun (_ : β) W => ∀ D ∈ ms, W.heap[D]? = some (.deferred (some []))) := fun s W W' row hs hg hr D hD =>
  (hg.block D (Array.getElem?_eq_some_iff.1 (hs D hD)).1 (fun e => by have := (hr D e.symm).1; have := hB D hD; omega)).trans (hs D hD)
/-- What stands within the inner loop. -/
def PutI (w : World) (ga gb b0 x : Nat) (L out ms : List Nat) (pre : List Nat) (W : World) : Prop :=
  (((∃ v, Boxed W gb 40 v ∧ W.ownsRow w.heap.size 5 1 v (out ++ pre).length (cs8 (out ++ pre)) ∧ True) ∧ Boxed W b0 23 (.int .u32 (x : Int))) ∧ Bk W ga 24 (cs32 L)) ∧ Below w.heap.size w W ∧ (∀ D ∈ ms, W.heap[D]? = some (.deferred (some [])))
theorem putI_own (w : World) (ga gb b0 x : Nat) (L out ms : List Nat) (B : Nat) (hB : w.heap.size ≤ B) (hm : ∀ D ∈ ms, D < B) : OwnFrom B (PutI w ga gb b0 x L out ms) :=
  OwnFrom.and (OwnFrom.and (OwnFrom.and (Own.from (holdsRow_own w.heap.size gb 40 5 1 (fun pre => (out ++ pre).length) (fun pre => cs8 (out ++ pre)) (fun _ _ => True)) B) (Own.from (own_box b0 23 _) B)) (Own.from (own_bk ga 24 _) B)) (OwnFrom.and (ownFrom_below (Nat.le_refl _) hB) (own_marks ms B hm))
theorem info5 : (Tryd.prog.info? 5).map (fun i => (i.zero, i.size, i.bytes)) = some (some (.int .u8 0), 1, 1) := by kernel_rfl
/-- The walk's step at the builtin append inside a fence, by what it runs to. -/
theorem wpListIn_app {F : Fence} {n : Nat} {P : Program} {w : World} {ops : Array Oper} {rest : List Oper} {o : Oper} {a : Act} {Q : Exit → Act → World → Prop} (hgd : o.guard = none) (s x : Operand) (t1 t2 : TypeId)
    (ho : o.op = .call { callee := .builtin .append, args := #[s, x], argTypes := #[t1, t2] }) (u v : Value) (hs : a.eval s = u) (hx : a.eval x = v) {r : Value} {w1 : World}
    (hrun : (Builtin.append_ #[t1, t2] o.type #[u, v]).run P w = .ok r w1) (h : wpListIn F n P ops Q rest (a.put o.dst r) w1) : wpListIn F n P ops Q (o :: rest) a w := by
  refine wpListIn_plain hgd fun K hK' => ?_
  unfold Oper.wpIn
  refine ⟨?_, ?_⟩
  · simp [Oper.about, ho, resolve, Target.leads, Sem.run_pure]
  · rw [Oper.semAt_plain F _ _ (by rw [ho]; intro c hc'; cases hc')]
    simp [execOp, ho, resolve, invoke, builtin, hs, hx, hrun, Result.andThen]
    exact hK' _ _ h
theorem app_own {w : World} {base : Nat} {v : Value} {xs : List Nat} (hown : w.ownsRow base 5 1 v xs.length (cs8 xs)) (y : Nat) (hb : base ≤ w.heap.size) (hl : xs.length ≤ 1000) :
    ∃ g' cap' w', (Builtin.append_ #[40, 40] 40 #[v, .slice (some ⟨w.heap.size, 0, none⟩) 1 1]).run Tryd.prog (w.alloc (.cells #[.int .u8 (y : Int)] 5)) = .ok (.slice (some ⟨g', 0, none⟩) (xs.length + 1) cap') w' ∧
      w'.ownsRow base 5 1 (.slice (some ⟨g', 0, none⟩) (xs.length + 1) cap') (xs.length + 1) (cs8 xs ++ [.int .u8 (y : Int)]) ∧ (w.alloc (.cells #[.int .u8 (y : Int)] 5)).grownBy w' v.ownBlock := by
  obtain ⟨i, hi, hz0, hz1, hz2⟩ := info_parts info5
  obtain ⟨v', w', hrun, h2, h3, _⟩ := run_append_own (P := Tryd.prog) (w.alloc (.cells #[.int .u8 (y : Int)] 5)) base 40 40 5 i (.int .u8 0) 1 1 Tryd.underlying40 hi hz0 hz1 hz2 rfl (by decide) v xs.length (cs8 xs) (hown.alloc _) ⟨w.heap.size, 0, none⟩ 1 1 [.int .u8 (y : Int)] rfl
    (fun j u hu => by
      obtain ⟨hj, rfl⟩ := List.getElem?_eq_some_iff.1 hu
      have : j = 0 := by simpa using hj
      subst this
      simp [Addr.add, go_sem]) (by simp [Value.oneCell']) (by unfold maxLen; omega) (by omega) (by simp; omega)
  obtain ⟨g', cap', rfl⟩ := ownsRow_succ h2
  exact ⟨g', cap', w', hrun, h2, h3⟩
/-- A round of the inner loop ends. -/
theorem putI_end {w W w3 : World} {ga gb b0 x y : Nat} {L out ms pre : List Nat} {v v' : Value} {tmp : Obj} {a : Act} {N : Nat} (hN : (out ++ pre).length + 1 = N) (hv : Boxed W gb 40 v) (hrow : W.ownsRow w.heap.size 5 1 v (out ++ pre).length (cs8 (out ++ pre))) (hbx : Boxed W b0 23 (.int .u32 (x : Int)))
    (hbk : Bk W ga 24 (cs32 L)) (hBW : Below w.heap.size w W) (hmk : ∀ D ∈ ms, W.heap[D]? = some (.deferred (some []))) (h1 : w.heap.size ≤ gb) (h2 : ga ≠ gb) (h3 : b0 ≠ gb)
    (hown : w3.ownsRow w.heap.size 5 1 v' N (cs8 (out ++ pre) ++ [.int .u8 (y : Int)])) (hg : (W.alloc tmp).grownBy w3 v.ownBlock) :
    ownPostK (KeepB b0) (PutI w ga gb b0 x L out ms) (fun _ _ _ => False) (pre ++ [y]) W Exit.normal a (w3.setCell ⟨gb, 0, none⟩ v') := by
  obtain ⟨k1, k2, k3, k4, k5⟩ := hv.appended (by decide) hrow hBW.size h1 hown hg
  have kb : Boxed (w3.setCell ⟨gb, 0, none⟩ v') b0 23 (.int .u32 (x : Int)) := ((hbx.alloc tmp).kept hg (hbx.not_row (by decide) hrow)).other h3 v'
  refine ⟨k4, kb.cell.trans hbx.cell.symm, ⟨⟨⟨⟨v', k2, ?_, trivial⟩, kb⟩, (((hbk.alloc tmp).only hg (bk_not_row hbk (by decide) hrow)).far (p := ⟨gb, 0, none⟩) h2 v')⟩, hBW.trans k5, fun D hD => k4.same D _ (hmk D hD) rfl⟩⟩
  have e1 : cs8 (out ++ pre) ++ [.int .u8 (y : Int)] = cs8 (out ++ (pre ++ [y])) := by unfold cs8; rw [← List.append_assoc, List.map_append (l₂ := [y])]; rfl
  have e2 : N = (out ++ (pre ++ [y])).length := by rw [← hN]; simp; omega
  rw [← e1, ← e2]
  exact k3

theorem clip_any (A : Option Addr) (k cap : Nat) (hk : k ≤ cap) (_hc : cap ≤ maxLen) (w : World) : Calls Tryd.prog 28 #[.slice A k cap] w fun e w' => e = .returned (.slice A k k) ∧ w = w' := by
  unfold maxLen at _hc
  by_cases h0 : k = 0
  · subst h0
    go_enter Tryd.func28, Tryd.ntmps28
    go_wp2
    go_ret
    exact ⟨rfl, rfl⟩
  · go_enter Tryd.func28, Tryd.ntmps28
    go_wp2
    go_ret
    exact ⟨rfl, rfl⟩
theorem octets_any (x : Nat) (w : World) : Calls Tryd.prog 27 #[.int .u32 (x : Int)] w fun e w' => e = .returned (.func (.func 36) #[] #[.pointer (some ⟨w.heap.size, 0, none⟩)]) ∧ w' = w.alloc (.cells #[.int .u32 (x : Int)] 23) := by
  go_enter Tryd.func27, Tryd.ntmps27
  go_wp2
  go_ret
  exact ⟨rfl, rfl⟩

set_option maxRecDepth 100000 in
set_option maxHeartbeats 4000000 in
theorem put_in (n : Nat) (l : List Nat) (m : Nat) (hm : 6 ≤ m) (w : World) (ho : OkO n l) (hc : chkO n l = 0) :
    CallsIn Fence.wide m Tryd.prog 13 #[oV n l] w (GiveP w (putO n l) 0) := by
  have hl := ho.len
  obtain ⟨a, b, tl, rfl, htl, hab, h32⟩ := ids_lt ho hc
  have hn2 := chkO_n hc
  have S := Lib.hid (Bk.new w 26 (oc n (a :: b :: tl)))
  have B0 := Lib.hid (bel1 w (.cells (oc n (a :: b :: tl)).toArray 26))
  have HC := Lib.hid hc
  have HO := Lib.hid ho
  have HL := Lib.hid hl
  have h1 : 1 ≤ m := by omega
  clear hc ho hl
  refine callsIn_of_wp_marks Tryd.func13 rfl trivial ?_ rfl
  simp only [Tryd.ntmps13, List.size_toArray, List.length_cons, List.length_nil, Nat.reduceAdd, Nat.reduceSub, Array.replicate_succ, Array.replicate_zero, List.push_toArray, List.append_toArray, List.nil_append, List.cons_append]
  rw [wpIn_wide]
  go_upto_region 1 with fail
  generalize w.alloc (.cells (oc n (a :: b :: tl)).toArray 26) = w1 at *
  go_wp2_with (refine wpList_load25 rfl (.tmp 1) rfl rfl S.out HL.out ?_)
  refine (check_any n (a :: b :: tl) _ HO.out).mono ?_
  rw [HC.out]
  rintro e w2 ⟨rfl, hb⟩
  have B2 := bt B0 (Lib.hid hb)
  have S2 := kt S (Lib.hid hb)
  clear hb S B0
  go_upto_region 4 with fail
  have hz := zero23
  obtain ⟨zl, hzl⟩ : ∃ zl, zeroL = zl := ⟨_, rfl⟩
  rw [hzl] at hz
  have HZ : Hid (zl.length = 16) := Lib.hid (by rw [← hzl]; rfl)
  clear hzl
  go_upto_region 5 with (first | (refine wpList_load23 rfl (.tmp 15) rfl rfl S2.out HL.out ?_) | (refine wpList_store23 rfl (.tmp 5) (.tmp 16) rfl rfl rfl (Bk.new w2 24 (cs32 zl)) (by rw [cs32_length, HZ.out]) HL.out ?_; intro w3 S3 hg3 hz3; have HS3 := Lib.hid S3; have HB3 := Lib.hid ((B2.out.alloc B2.out.size (.cells (cs32 zl).toArray 24)).grown hg3 (B2.out.alloc B2.out.size (.cells (cs32 zl).toArray 24)).size (fun k e => by injection e with e; have := B2.out.size; omega)); have HR3 := Lib.hid ((S2.out.alloc (.cells (cs32 zl).toArray 24)).only hg3 (by intro e; injection e with e; have := S2.out.lt; omega)); clear S3 hg3 hz3))
  have hga := S2.out.lt
  generalize w2.heap.size = ga at *
  have c0 : w3.cell? ⟨ga, 0, none⟩ = some (.int .u32 (a : Int)) := by rw [HS3.out.cell]; rfl
  have c1 : w3.cell? ⟨ga, 1, none⟩ = some (.int .u32 (b : Int)) := by rw [HS3.out.cell]; rfl
  have f1 := HS3.out.free 1
  obtain ⟨s, hs⟩ : ∃ s, 40 * a + b = s := ⟨_, rfl⟩
  have hsi : (b : Int) + 40 * (a : Int) = (s : Int) := by omega
  have k3 := HS3.out.store 1 (.int .u32 (s : Int))
  have e3 : (cs32 (a :: b :: tl)).set 1 (.int .u32 (s : Int)) = cs32 (a :: s :: tl) := rfl
  rw [e3] at k3
  have HK3 := Lib.hid k3
  have HR4 := Lib.hid (HR3.out.far (p := ⟨ga, 1, none⟩) (by intro e; simp at e; omega) (.int .u32 (s : Int)))
  have HB4 := Lib.hid (HB3.out.setCell (p := ⟨ga, 1, none⟩) (by simp; omega) (.int .u32 (s : Int)))
  clear k3 e3 HS3 HR3 HB3
  go_upto_region 6 with fail
  generalize w3.setCell ⟨ga, 1, none⟩ (.int .u32 (s : Int)) = w4 at *
  clear c0 c1 f1 hsi
  have HBX := Lib.hid (Boxed.new w4 40 (.slice none 0 0))
  have HB5 := Lib.hid (HB4.out.alloc HB4.out.size (.cells #[.slice none 0 0] 40))
  have HK5 := Lib.hid (HK3.out.alloc (.cells #[.slice none 0 0] 40))
  have HR5 := Lib.hid (HR4.out.alloc (.cells #[.slice none 0 0] 40))
  have hgb := HK3.out.lt
  have hgb2 := Nat.lt_of_lt_of_le hga (Nat.le_of_lt hgb)
  go_upto_region 7 with fail
  generalize w4.alloc (.cells #[.slice none 0 0] 40) = w5 at *
  generalize w4.heap.size = gb at *
  clear HK3 HR4 HB4
  have cn := oid_n HR5.out
  obtain ⟨q, hq⟩ : ∃ q, n - 1 = q := ⟨_, rfl⟩
  have hsl := slice23lh ga n (by omega) (by omega)
  rw [hq] at hsl
  have HQ := Lib.hid hq
  have HS := Lib.hid hs
  clear hq hs
  go_wp2
  refine wp_loop (fun A wr => ∃ (ms : List Nat) (j : Nat) (u8 u9 u29 u30 u31 u32 u33 u34 u35 u36 u37 u38 u39 : Value), A = { tmps := #[oV n (a :: b :: tl), .pointer (some ⟨w.heap.size, 0, none⟩), .slice none 0 0, .int .i64 0, .int .i64 0, .pointer (some ⟨ga, 0, none⟩), .pointer (some ⟨gb, 0, none⟩), undef, u8, u9, oV n (a :: b :: tl), .int .i64 0, .int .i64 0, .bool false, undef, .pointer (some ⟨w.heap.size, 1, none⟩), .agg (cs32 (a :: b :: tl)).toArray, .pointer (some ⟨ga, 1, none⟩), .int .u32 (b : Int), .pointer (some ⟨ga, 0, none⟩), .int .u32 (a : Int), .int .u32 (40 * (a : Int)), .int .u32 (s : Int), .pointer (some ⟨ga, 1, none⟩), .pointer (some ⟨w.heap.size, 0, none⟩), .int .u8 (n : Int), .slice (some ⟨ga, 1, none⟩) q 15, .int .i64 (q : Int), .int .i64 (j : Int), u29, u30, u31, u32, u33, u34, u35, u36, u37, u38, u39, undef, undef], defers := ms.map mkD } ∧ j ≤ q ∧ PutR w ga gb (a :: s :: tl) (s :: tl.take (n - 2)) ms j wr) (fun A _ => q - (intOf (A.tmps.getD 28 undef)).toNat) ?start ?round
  case start =>
    refine ⟨[], 0, undef, undef, undef, undef, undef, undef, undef, undef, undef, undef, undef, undef, undef, rfl, Nat.zero_le _, ⟨⟨_, HBX.out, World.ownsRow_nil _ _ _ _⟩, HK5.out, HB5.out, List.nodup_nil, by simp⟩⟩
  case round =>
    rintro A wr ⟨ms, j, u8, u9, u29, u30, u31, u32, u33, u34, u35, u36, u37, u38, u39, rfl, hj, hR⟩
    have HR := Lib.hid hR
    clear hR HBX HB5 HK5 HR5 cn hsl
    have hq16 : q ≤ 15 := by have := HQ.out; omega
    rcases Nat.lt_or_ge j q with hjq | hjq
    · have hx : (cs32 (a :: s :: tl))[1 + j]? = some (.int .u32 (((a :: s :: tl)[1 + j]'(by have := HQ.out; simp; omega) : Nat) : Int)) := cs32_get (by have := HQ.out; simp; omega)
      have hc := (HR.out.arr.cell (1 + j)).trans hx
      have hxl : (a :: s :: tl)[1 + j]'(by have := HQ.out; simp; omega) < 4294967296 := by
        rcases j with _ | j
        · have := HS.out; simpa [this] using hab
        · rw [show (a :: s :: tl)[1 + (j + 1)]'(by have := HQ.out; simp; omega) = tl[j]'(by have := HQ.out; omega) by simp [Nat.add_comm 1]]
          exact h32 _ (List.getElem_mem _)
      have hxi : Hid ((s :: tl.take (n - 2)).take (j + 1) = (s :: tl.take (n - 2)).take j ++ [(a :: s :: tl)[1 + j]'(by have := HQ.out; simp; omega)]) := Lib.hid (by
        have hjl : j < (s :: tl.take (n - 2)).length := by have := HQ.out; simp; omega
        rw [List.take_succ_eq_append_getElem hjl]
        congr 2
        rcases j with _ | j
        · simp
        · simp [Nat.add_comm 1])
      generalize (a :: s :: tl)[1 + j]'(by have := HQ.out; simp; omega) = x at *
      clear hx
      go_wp2_with (go_at_call 27; refine (octets_any _ _).mono ?_; rintro e w' ⟨rfl, rfl⟩)
      have hislt : ∀ z ∈ (s :: tl.take (n - 2)).take j, z < 4294967296 := fun z hz => by
        rcases List.mem_cons.1 (List.mem_of_mem_take hz) with rfl | hz
        · have := HS.out; omega
        · exact h32 z (List.mem_of_mem_take hz)
      have holen : (((s :: tl.take (n - 2)).take j).flatMap ocs).length ≤ 80 := by
        have h1 := flat_len hislt
        rw [List.length_take] at h1
        have := HQ.out
        omega
      obtain ⟨v0, hv0, hrow0⟩ := HR.out.box
      have hmlt : ∀ D ∈ ms, D < wr.heap.size := fun D hD => (Array.getElem?_eq_some_iff.1 (HR.out.mar D hD).2).1
      have HI : PutI w ga gb wr.heap.size x (a :: s :: tl) (((s :: tl.take (n - 2)).take j).flatMap ocs) ms [] (wr.alloc (.cells #[.int .u32 (x : Int)] 23)) :=
        ⟨⟨⟨⟨v0, hv0.alloc _, by rw [List.append_nil]; exact hrow0.alloc _, trivial⟩, Boxed.new _ _ _⟩, HR.out.arr.alloc _⟩, HR.out.bel.alloc HR.out.bel.size _, fun D hD => (Below.heap_alloc _ _ D (hmlt D hD)).trans (HR.out.mar D hD).2⟩
      have hgbl := hv0.lt
      have HXI := hxi
      generalize hout : ((s :: tl.take (n - 2)).take j).flatMap ocs = out at *
      have HML := Lib.hid hmlt
      have H32 := Lib.hid h32
      clear hv0 hrow0 hc hislt h32 hmlt
      rw [← wpIn_wide (n := m)]
      refine wpIn_rangeFunc_ownF rfl h1 (gf := 36) (lb := #[.pointer (some ⟨wr.heap.size, 0, none⟩)]) rfl trivial (enters_of Tryd.func36 (by kernel_rfl) rfl)
        (iter_stops x hxl (m - 1) (by omega) wr.heap.size _ (by simp) (Boxed.new wr 23 (.int .u32 (x : Int))).cell) KeepB.t (KeepB.b (by simp)) (Below.refl _ _) (fun _ => rfl)
        (PutI w ga gb wr.heap.size x (a :: s :: tl) out ms) (fun _ _ _ => False)
        (putI_own w ga gb wr.heap.size x (a :: s :: tl) out ms _ (by have := HR.out.bel.size; simp; omega) (fun D hD => by have := HML.out D hD; simp; omega))
        (fun _ _ _ _ _ hs _ _ => hs) HI
        (fun y => { tmps := #[oV n (a :: b :: tl), .pointer (some ⟨w.heap.size, 0, none⟩), .slice none 0 0, .int .i64 0, .int .i64 0, .pointer (some ⟨ga, 0, none⟩), .pointer (some ⟨gb, 0, none⟩), undef, .int .u32 (x : Int), .int .u8 (y : Int), oV n (a :: b :: tl), .int .i64 0, .int .i64 0, .bool false, undef, .pointer (some ⟨w.heap.size, 1, none⟩), .agg (cs32 (a :: b :: tl)).toArray, .pointer (some ⟨ga, 1, none⟩), .int .u32 (b : Int), .pointer (some ⟨ga, 0, none⟩), .int .u32 (a : Int), .int .u32 (40 * (a : Int)), .int .u32 (s : Int), .pointer (some ⟨ga, 1, none⟩), .pointer (some ⟨w.heap.size, 0, none⟩), .int .u8 (n : Int), .slice (some ⟨ga, 1, none⟩) q 15, .int .i64 (q : Int), .int .i64 (j : Int), .bool true, .pointer (some ⟨ga, 1 + j, none⟩), .int .u32 (x : Int), .int .u32 (x : Int), .func (.func 36) #[] #[.pointer (some ⟨wr.heap.size, 0, none⟩)], .int .u8 (y : Int), u35, u36, u37, u38, u39, undef, undef], defers := [] }) ?assign ?body ?done ?stop
      case assign =>
        rintro l y W K hK
        gi_wp2_with fail
        simpa [encI] using hK
      case body =>
        rintro l pre y W ⟨⟨⟨⟨v, hv, hrow, -⟩, hbx⟩, hbk⟩, hBW, hmk⟩ hpl
        have hcW := hv.cell
        have hfW := hv.frozen
        have hg5 := gk5 hxl
        have hol2 : (out ++ pre).length ≤ 90 := by rw [List.length_append]; omega
        have HV := Lib.hid hv
        have HROW := Lib.hid hrow
        have HBX2 := Lib.hid hbx
        have HBK := Lib.hid hbk
        have HBW := Lib.hid hBW
        have HMK := Lib.hid hmk
        clear hv hrow hbx hbk hBW hmk HI hxi hout
        obtain ⟨g', cap', w3, hrun, hown', hg3⟩ := app_own HROW.out y HBW.out.size (by omega)
        have hv3 := (HV.out.alloc (.cells #[.int .u8 (y : Int)] 5)).kept hg3 (HV.out.not_row (by decide) HROW.out)
        have c3 := hv3.cell
        have f3 := hv3.frozen
        obtain ⟨N, hN⟩ : ∃ N, (out ++ pre).length + 1 = N := ⟨_, rfl⟩
        rw [hN] at hrun hown'
        have HN := Lib.hid hN
        have HOWN := Lib.hid hown'
        have HG3 := Lib.hid hg3
        clear hown' hg3 hv3 hfW hN
        gi_wp2_with (gi_at_builtin; refine wpListIn_app rfl _ _ _ _ rfl _ _ rfl rfl hrun ?_)
        exact putI_end HN.out HV.out HROW.out HBX2.out HBK.out HBW.out HMK.out (by omega) (by omega) (by omega) HOWN.out HG3.out
      case done =>
        rintro D ys W hD rfl ⟨⟨⟨⟨v, hv, hrow, -⟩, hbx⟩, hbk⟩, hBW, hmk⟩ hK
        have hDms : D ∉ ms := fun h => by have := HML.out D h; simp at hD; omega
        have hnew : PutR w ga gb (a :: s :: tl) (s :: tl.take (n - 2)) (D :: ms) (j + 1) W := by
          refine ⟨⟨v, hv, ?_⟩, hbk, hBW, List.nodup_cons.2 ⟨hDms, HR.out.nod⟩, ?_⟩
          · rw [hxi.out, List.flatMap_append, hout]
            simpa using hrow
          · intro D' hD'
            rcases List.mem_cons.1 hD' with rfl | hD'
            · exact ⟨by have := HR.out.bel.size; simp at hD; omega, hK⟩
            · exact ⟨(HR.out.mar D' hD').1, hmk D' hD'⟩
        have HNEW := Lib.hid hnew
        clear hnew hv hrow hbx hbk hBW hmk hK hD HI hout hxi hDms
        go_wp2
        exact ⟨⟨D :: ms, j + 1, _, _, _, _, _, _, _, _, _, _, _, _, _, rfl, by omega, HNEW.out⟩, by simp [intOf]; omega⟩
      case stop =>
        rintro D c pre W _ _ h _
        exact h.elim
    · obtain rfl : j = q := by omega
      obtain ⟨v, hv, hrow⟩ := HR.out.box
      have htk : (s :: tl.take (n - 2)).take j = s :: tl.take (n - 2) := List.take_of_length_le (by have := HQ.out; simp; omega)
      have hpo : putO n (a :: b :: tl) = (s :: tl.take (n - 2)).flatMap ocs := by unfold putO ids; simp only; rw [HS.out]
      rw [htk, ← hpo] at hrow
      have hpos : 0 < (putO n (a :: b :: tl)).length := by rw [hpo, List.flatMap_cons, List.length_append, ocs_length]; omega
      have HP := Lib.hid (show All8 (putO n (a :: b :: tl)) from flat_all _)
      generalize putO n (a :: b :: tl) = out at *
      obtain ⟨k, hk⟩ : ∃ k, out.length = k + 1 := ⟨out.length - 1, by omega⟩
      obtain ⟨g, cap, rfl⟩ := ownsRow_succ (hk ▸ hrow)
      obtain ⟨hcap, hcm⟩ : k + 1 ≤ cap ∧ cap ≤ maxLen := by
        rcases hrow.2 with ⟨h, _⟩ | ⟨_, _, _, h, _, _, h2, h3, _⟩
        · cases h
        · injection h with _ _ h; subst h; exact ⟨by omega, h3⟩
      have hcv := hv.cell
      have HROW := Lib.hid hrow
      have HK := Lib.hid hk
      have HRR := Lib.hid HR.out
      clear hv hrow hk hpos htk hpo h32
      go_wp2_with (go_at_call 28; refine (clip_any _ _ _ hcap hcm _).mono ?_; rintro e w' ⟨rfl, rfl⟩)
      refine leaves_marks (fun W => results_tmp2 rfl _ _ _) (fun W => W.ownsRow w.heap.size 5 1 (.slice (some ⟨g, 0, none⟩) (k + 1) cap) out.length (cs8 out) ∧ Below w.heap.size w W) w.heap.size ?_ ?_ ms wr HRR.out.nod HRR.out.mar ⟨HROW.out, HRR.out.bel⟩
      · rintro W D hD ⟨r1, r2⟩ hk
        exact ⟨ownsRow_putObj r1 _ hk rfl, r2.grown (grownBy_putObj' W D _) r2.size (fun k e => by cases e; exact hD)⟩
      · rintro W ⟨r1, r2⟩
        have hlen : (cs8 out).length = out.length := by unfold cs8; rw [List.length_map]
        obtain ⟨A, c, e, hr, _, _⟩ := own_open (by rw [hlen]; exact r1)
        injection e with e1 e2 e3
        refine ⟨some ⟨g, 0, none⟩, ?_, ⟨e1 ▸ hr, HP.out⟩, r2⟩
        rw [HK.out]
        rfl
theorem put_any (n : Nat) (l : List Nat) (w : World) (ho : OkO n l) (h : chkO n l = 0) : Calls Tryd.prog 13 #[oV n l] w (GiveP w (putO n l) 0) :=
  callsIn_wide.1 (put_in n l 6 (by omega) w ho h)
end Go.Proofs.YtndamidmgglneaaDoor
