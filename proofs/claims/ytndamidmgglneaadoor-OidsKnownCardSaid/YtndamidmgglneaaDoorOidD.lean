/-
  Package oids: contracts of Of, Any and IsAny.
  Conditions: the OID's cells are in their kinds.
-/
import Derived.Test.YtndamidmgglneaaDoorOidC
import Derived.ChangeKeysEq
namespace Go.Proofs.YtndamidmgglneaaDoor
open Go.RowKit

/-- Of's answer. -/
def ofN (l : List Nat) : Nat := if l.length ≤ 16 ∧ chkO l.length (pad l) = 0 then l.length else 0
def ofL (l : List Nat) : List Nat := if l.length ≤ 16 ∧ chkO l.length (pad l) = 0 then pad l else zeroL
theorem zeroL_length : zeroL.length = 16 := rfl
theorem splice_oc (n : Nat) (l : List Nat) : splice (oc n zeroL) 1 (cs32 l) = oc n (pad l) := by
  unfold splice oc pad cs32 zeroL
  rw [List.length_map, List.take_succ_cons, List.take_zero, Nat.add_comm, List.drop_succ_cons, List.map_append, List.map_replicate, List.map_replicate, List.drop_replicate]
  rfl
theorem cs32_one (l : List Nat) : ∀ v ∈ cs32 l, v.oneCell' = true := fun v hv => by obtain ⟨n, _, rfl⟩ := List.mem_map.1 hv; rfl
theorem slice23a (g : Nat) (W : World) : (Instr.sliceAt 24 (.pointer (some ⟨g, 1, none⟩)) none none none).run Tryd.prog W = .ok (.slice (some ⟨g, 1, none⟩) 16 16) W := by kernel_rfl
/-- The walk's step at the builtin copy, by what it runs to. -/
theorem wpList_copy {P : Program} {w : World} {ops : Array Oper} {rest : List Oper} {o : Oper} {a : Act} {Q : Exit → Act → World → Prop} (hgd : o.guard = none) (s x : Operand) (t1 t2 : TypeId)
    (ho : o.op = .call { callee := .builtin .copy, args := #[s, x], argTypes := #[t1, t2] }) (u v : Value) (hs : a.eval s = u) (hx : a.eval x = v) {r : Value} {w1 : World}
    (hrun : (Builtin.copy_ #[t1, t2] o.type #[u, v]).run P w = .ok r w1) (h : wpList P ops Q rest (a.put o.dst r) w1) : wpList P ops Q (o :: rest) a w := by
  refine wpList_plain hgd fun K hK => ?_
  have hK' := hK _ _ h
  unfold Oper.wp execOp
  simp only [ho, resolve, invoke, builtin, Sem.run_bind, Sem.run_pure, Result.andThen_ok, List.map_toArray, List.map_cons, List.map_nil, hs, hx, hrun]
  exact hK'
theorem copy23 {w : World} {g n c : Nat} {A : Option Addr} {l : List Nat} (S : Bk w g 26 (oc n zeroL)) (hA : R32 w A l) (hl : l.length ≤ 16) :
    ∃ r w', (Builtin.copy_ #[32, 32] 3 #[.slice (some ⟨g, 1, none⟩) 16 16, .slice A l.length c]).run Tryd.prog w = .ok r w' ∧ Bk w' g 26 (oc n (pad l)) ∧ w.grownBy w' (some g) := by
  cases l with
  | nil => exact ⟨_, w, run_copy_none (P := Tryd.prog) w 32 32 3 23 _ _ _ _ _ _ Tryd.underlying32 (by kernel_rfl) (by simp), S, World.grownBy.refl _ _⟩
  | cons x l =>
    obtain ⟨b, off, rfl, hb, hc⟩ := hA.all_ (by simp [cs32])
    have hlen : (cs32 (x :: l)).length = (x :: l).length := cs32_length _
    have hrun := run_copy_row (P := Tryd.prog) w 32 32 3 23 g 1 16 16 ⟨b, off, none⟩ (x :: l).length c (oc n zeroL).toArray 26 (cs32 (x :: l)) Tryd.underlying32 (by kernel_rfl) S (by rw [hlen]; exact (Nat.min_eq_left hl).symm)
      (fun j v hv => by
        obtain ⟨hj, hj2⟩ := List.getElem?_eq_some_iff.1 hv
        rw [show (⟨b, off, none⟩ : Addr).add j = ⟨b, off + j, none⟩ by unfold Addr.add; split <;> simp_all, hc j hj, hj2])
      (by rw [hlen, List.size_toArray, oc_length, zeroL_length]; omega) (cs32_one _)
    refine ⟨_, _, hrun, ?_, ⟨rfl, rfl, rfl, by simp [World.setRow], fun k hk hne => setRow_other w g k _ (fun e => hne (by rw [e]))⟩⟩
    have := setRow_heap w g (oc n zeroL).toArray ((oc n zeroL).take 1 ++ (cs32 (x :: l) ++ (oc n zeroL).drop (1 + (cs32 (x :: l)).length))).toArray 26 _ S
    rw [← splice_oc]
    exact this

set_option maxHeartbeats 1000000 in
set_option maxRecDepth 100000 in
theorem of_any (A : Option Addr) (l : List Nat) (c : Nat) (w : World) (hm : l.length ≤ maxLen) (ha : ∀ x ∈ l, x < 4294967296) (hA : R32 w A l) :
    Calls Tryd.prog 14 #[.slice A l.length c] w (GiveO w (ofN l) (ofL l)) := by
  have hz := zero25
  have hzlen := zeroL_length
  unfold maxLen at hm
  by_cases hl : l.length ≤ 16
  · have h0 := Bk.new w 26 (oc 0 zeroL)
    have B0 := Lib.hid (bel1 w (.cells (oc 0 zeroL).toArray 26))
    have hcz : chkO l.length (pad l) = 0 ∨ chkO l.length (pad l) = 1 := by unfold chkO; split <;> simp
    have HOK := Lib.hid (okO_pad hl ha)
    obtain ⟨zl, hzl⟩ : ∃ zl, zeroL = zl := ⟨_, rfl⟩
    rw [hzl] at h0 B0 hz hzlen
    have HZE := Lib.hid hzl
    clear hzl
    have HZ := Lib.hid hzlen
    have H0 := Lib.hid h0
    clear hzlen h0
    go_enter Tryd.func14, Tryd.ntmps14
    go_upto_region 3 with fail
    generalize w.alloc (.cells (oc 0 zl).toArray 26) = w1 at *
    have H1 := Lib.hid (H0.out.alloc (.cells (oc 0 zl).toArray 26))
    have B1 := Lib.hid (B0.out.alloc B0.out.size (.cells (oc 0 zl).toArray 26))
    have hlt := H0.out.lt
    have HLT := Lib.hid hlt
    go_upto_region 4 with (refine wpList_store25 rfl (.tmp 3) (.tmp 11) rfl (n := l.length) (l := zl) rfl rfl (Bk.new w1 26 (oc 0 zl)) (by rw [oc_length, HZ.out]) HZ.out ?_; intro w2 S2 hg2 hz2; have HS2 := Lib.hid S2; have HB2 := Lib.hid (B1.out.grown hg2 B1.out.size (fun k e => by injection e with e; have := B0.out.size; omega)); have HR2 := Lib.hid (H1.out.only hg2 (by intro e; injection e with e; omega)); clear S2 hg2 hz2)
    have hA2 := hA.below (HB2.out)
    obtain ⟨r, w3, hrun, S3, hg3⟩ := copy23 (c := c) (HZE.out ▸ HS2.out) hA2 hl
    have HS3 := Lib.hid S3
    have HB3 := Lib.hid (HB2.out.grown hg3 HB2.out.size (fun k e => by injection e with e; have := B0.out.size; omega))
    have HR3 := Lib.hid (HR2.out.only hg3 (by intro e; injection e with e; omega))
    clear S3 hg3 hA2 HR2 HS2 HB2 H1 B1 H0
    have hpl := pad_length hl
    have HOF := Lib.hid (show ofN l = if chkO l.length (pad l) = 0 then l.length else 0 by unfold ofN; simp [hl])
    have HOL := Lib.hid (show ofL l = if chkO l.length (pad l) = 0 then pad l else zeroL by unfold ofL; simp [hl])
    generalize pad l = pl at *
    go_wp2_with (first | (refine wpList_copy rfl _ _ _ _ rfl _ _ rfl rfl hrun ?_) | (refine wpList_load25 rfl (.tmp 3) rfl rfl HS3.out hpl ?_))
    refine (check_any l.length pl w3 HOK.out).mono ?_
    rintro e w4 ⟨rfl, hb4⟩
    have HB4 := Lib.hid (HB3.out.trans (hb4.mono HB3.out.size))
    have HR4 := Lib.hid (HR3.out.below hb4 HR3.out.lt)
    have HS4 := Lib.hid (HS3.out.below hb4 HS3.out.lt)
    clear hb4 HB3 HR3 HS3 hrun
    rcases hcz with hcz | hcz
    · have HC := Lib.hid hcz
      rw [hcz]
      clear hcz
      go_wp2_with (first | (refine wpList_load25 rfl (.tmp 3) rfl rfl HS4.out hpl ?_) | (refine wpList_store25 rfl (.tmp 2) (.tmp 20) rfl rfl rfl HR4.out (by rw [oc_length, HZ.out]) hpl ?_; intro w5 S5 hg5 hz5; have HS5 := Lib.hid S5; have HB5 := Lib.hid (HB4.out.grown hg5 HB4.out.size (fun k e => by injection e with e; omega)); clear S5 hg5 hz5))
      exact ret25 rfl rfl HS5.out hpl rfl ⟨by rw [HOF.out, HOL.out, if_pos HC.out, if_pos HC.out], HB5.out⟩
    · have HC : Hid (chkO l.length pl ≠ 0) := Lib.hid (by rw [hcz]; decide)
      rw [hcz]
      clear hcz
      go_wp2_with (refine wpList_store25 rfl (.tmp 2) (.tmp 19) rfl rfl rfl HR4.out (by rw [oc_length, HZ.out]) HZ.out ?_; intro w5 S5 hg5 hz5; have HS5 := Lib.hid S5; have HB5 := Lib.hid (HB4.out.grown hg5 HB4.out.size (fun k e => by injection e with e; omega)); clear S5 hg5 hz5)
      exact ret25 rfl rfl HS5.out HZ.out rfl ⟨by rw [HOF.out, HOL.out, if_neg HC.out, if_neg HC.out, HZE.out], HB5.out⟩
  · rw [show ofN l = 0 from if_neg (fun h => hl h.1), show ofL l = zeroL from if_neg (fun h => hl h.1)]
    have h0 := Bk.new w 26 (oc 0 zeroL)
    have B0 := Lib.hid (bel1 w (.cells (oc 0 zeroL).toArray 26))
    generalize zeroL = zl at *
    have HZ := Lib.hid hzlen
    have H0 := Lib.hid h0
    clear hzlen h0
    go_enter Tryd.func14, Tryd.ntmps14
    go_wp2_with (refine wpList_store25 rfl (.tmp 2) (.tmp 7) rfl rfl rfl H0.out (by rw [oc_length, HZ.out]) HZ.out ?_; intro w5 S5 hg5 hz5; have HS5 := Lib.hid S5; have HB5 := Lib.hid (B0.out.grown hg5 B0.out.size (fun k e => by injection e with e; omega)); clear S5 hg5 hz5)
    exact ret25 rfl rfl HS5.out HZ.out rfl ⟨rfl, HB5.out⟩
theorem r32_lit (w : World) (l : List Nat) : R32 (w.alloc (.cells (cs32 l).toArray 23)) (some ⟨w.heap.size, 0, none⟩) l := by
  have := (Bk.new w 23 (cs32 l)).rd 0; rw [List.drop_zero] at this; exact this
/-- Of at a literal. -/
theorem of_lit (l : List Nat) (N n : Nat) (L : List Nat) (W : World) (hN : l.length = N) (hm : N ≤ 100) (ha : l.all (fun x => decide (x < 4294967296)) = true) (h1 : ofN l = n) (h2 : ofL l = L) :
    Calls Tryd.prog 14 #[.slice (some ⟨W.heap.size, 0, none⟩) N N] (W.alloc (.cells (cs32 l).toArray 23)) fun e w' => e = .returned (oV n L) ∧ Hid (Below W.heap.size W w') := by
  subst hN
  exact (of_any _ l l.length _ (by unfold maxLen; omega) (fun x hx => by simpa using List.all_eq_true.1 ha x hx) (r32_lit W l)).mono fun e w' ⟨h3, h4⟩ => ⟨by rw [h3, h1, h2], Lib.hid ((bel1 _ _).trans (h4.mono (bel1 _ _).size))⟩
theorem anyL_length : anyL.length = 16 := rfl
set_option maxRecDepth 100000 in
theorem any_any (w : World) : Calls Tryd.prog 16 #[] w (GiveO w 5 anyL) := by
  have hz := zero25
  have hzlen := zeroL_length
  have halen := anyL_length
  have h1 : ofN [2, 5, 29, 32, 0] = 5 := by decide +kernel
  have h2 : ofL [2, 5, 29, 32, 0] = anyL := by decide +kernel
  have h0 := Bk.new w 26 (oc 0 zeroL)
  have B0 := Lib.hid (bel1 w (.cells (oc 0 zeroL).toArray 26))
  generalize zeroL = zl at *
  generalize anyL = al at *
  have HZ := Lib.hid hzlen
  have HA := Lib.hid halen
  have H0 := Lib.hid h0
  have H1 := Lib.hid h1
  have H2 := Lib.hid h2
  clear hzlen h0 h1 h2 halen
  go_enter Tryd.func16, Tryd.ntmps16
  go_upto_region 1 with fail
  generalize w.alloc (.cells (oc 0 zl).toArray 26) = w1 at *
  go_wp2_with fail
  refine (of_lit [2, 5, 29, 32, 0] 5 5 al w1 rfl (by decide) (by decide) H1.out H2.out).mono ?_
  rintro e w2 ⟨rfl, hb2⟩
  have HB2 := Lib.hid (B0.out.trans (hb2.out.mono B0.out.size))
  have HR2 := Lib.hid (H0.out.below hb2.out H0.out.lt)
  clear hb2 H0 B0
  go_wp2_with (refine wpList_store25 rfl (.tmp 0) (.tmp 2) rfl rfl rfl HR2.out (by rw [oc_length, HZ.out]) HA.out ?_; intro w5 S5 hg5 hz5; have HS5 := Lib.hid S5; have HB5 := Lib.hid (HB2.out.grown hg5 HB2.out.size (fun k e => by injection e with e; omega)); clear S5 hg5 hz5)
  exact ret25 rfl rfl HS5.out HA.out rfl ⟨rfl, HB5.out⟩

theorem info22 : (Tryd.prog.info? 23).isSome = true := by kernel_rfl
theorem cells22 : Tryd.prog.cellsOf 23 = 1 := by kernel_rfl
theorem items_run (d : Nat) (l k : List Nat) (w : World) : ∀ is : List Nat, (∀ i ∈ is, i < l.length ∧ i < k.length) →
    (Op.eqItems (d + 1) 23 (Tryd.prog.cellsOf 23) (cs32 l).toArray (cs32 k).toArray is).run Tryd.prog w = .ok (is.all fun i => l.getD i 0 == k.getD i 0) w
  | [], _ => by simp [Op.eqItems]
  | i :: is, h => by
    have hi := h i (by simp)
    have px : ∀ l : List Nat, i < l.length → (part 23 (cs32 l).toArray (i * Tryd.prog.cellsOf 23)).run Tryd.prog w = .ok (.int .u32 (l.getD i 0 : Int)) w := fun l hl => by
      rw [cells22, Nat.mul_one]
      simp [part, isAgg, run_underlying Tryd.underlying23, cs32_get hl, List.getD, List.getElem?_eq_getElem hl]
    have pe : (Op.equalIn (d + 1) 23 (.int .u32 (l.getD i 0 : Int)) (.int .u32 (k.getD i 0 : Int))).run Tryd.prog w = .ok (l.getD i 0 == k.getD i 0) w := by
      rw [run_equalIn_int w d _ .u32 .u32 _ _ Tryd.underlying23]
      congr 1
      rw [Bool.eq_iff_iff, beq_iff_eq, beq_iff_eq]
      omega
    have ih := items_run d l k w is fun j hj => h j (by simp [hj])
    simp only [Op.eqItems, Sem.run_bind, px l hi.1, px k hi.2, pe, Result.andThen_ok, List.all_cons]
    cases hb : (l.getD i 0 == k.getD i 0)
    · simp
    · simpa using ih
theorem all_get {l k : List Nat} (h : l.length = k.length) : ((List.range l.length).all fun i => l.getD i 0 == k.getD i 0) = decide (l = k) := by
  rw [Bool.eq_iff_iff, decide_eq_true_iff, List.all_eq_true]
  constructor
  · intro h1
    apply List.ext_getElem h
    intro i hi hk
    have := h1 i (by simpa using hi)
    simpa [List.getD, List.getElem?_eq_getElem hi, List.getElem?_eq_getElem hk] using this
  · rintro rfl i _; simp
theorem fields25 : ((Tryd.prog.fieldsOf 26).toList.map fun f => (f.name != "_", f.type, f.offset)) = [(true, 5, 0), (true, 24, 1)] := by kernel_rfl
theorem under25 : Tryd.prog.underlying 26 = some (.struct (Tryd.prog.fieldsOf 26)) := by
  have h := Tryd.underlying26
  simp [Program.fieldsOf, h]
theorem equalIn25 (d : Nat) {n m : Nat} {l k : List Nat} (hl : l.length = 16) (hk : k.length = 16) (w : World) : (Op.equalIn (d + 3) 26 (oV n l) (oV m k)).run Tryd.prog w = .ok (decide (n = m) && decide (l = k)) w := by
  have hi : Tryd.prog.info? 23 = some ((Tryd.prog.info? 23).get info22) := (Option.some_get _).symm
  rw [run_equalIn_struct w (d + 2) 26 _ _ under25 (by kernel_rfl)]
  have hf := fields25
  generalize (Tryd.prog.fieldsOf 26).toList = fs at hf
  match fs, hf, (show fs.length = 2 by simpa using congrArg List.length hf) with
  | [f, g], hf, _ =>
    simp only [List.map_cons, List.map_nil, List.cons.injEq, Prod.mk.injEq, and_true] at hf
    obtain ⟨⟨f1, f2, f3⟩, g1, g2, g3⟩ := hf
    have f1 := bne_iff_ne.1 f1
    have g1 := bne_iff_ne.1 g1
    have p1 : ∀ (n : Nat) (l : List Nat), (part 5 (oc n l).toArray 0).run Tryd.prog w = .ok (.int .u8 (n : Int)) w := fun n l => by
      simp [part, isAgg, run_underlying Tryd.underlying5, oc]
    have p2 : ∀ (n : Nat) (l : List Nat), l.length = 16 → (part 24 (oc n l).toArray 1).run Tryd.prog w = .ok (.agg (cs32 l).toArray) w := fun n l h => by
      simp [part, isAgg, run_underlying Tryd.underlying24, oc]
      rw [List.take_of_length_le (by rw [cs32_length, h]; omega)]
    have e1 : (Op.equalIn (d + 2) 5 (.int .u8 (n : Int)) (.int .u8 (m : Int))).run Tryd.prog w = .ok (decide (n = m)) w := by
      rw [run_equalIn_int w (d + 1) _ .u8 .u8 _ _ Tryd.underlying5]
      refine congrArg (fun b => Result.ok b w) ?_
      rw [Bool.eq_iff_iff, beq_iff_eq, decide_eq_true_iff]
      omega
    have e2 : (Op.equalIn (d + 2) 24 (.agg (cs32 l).toArray) (.agg (cs32 k).toArray)).run Tryd.prog w = .ok (decide (l = k)) w := by
      rw [run_equalIn_array w (d + 1) _ _ Tryd.underlying24 hi, items_run d l k w _ (fun i hi => by have := List.mem_range.1 hi; omega), ← hl, all_get (hl.trans hk.symm)]
    have q1 := p2 n l hl
    have q2 := p2 m k hk
    unfold Op.eqFields
    rw [if_pos f1, f2, f3, Sem.run_bind, p1, Result.andThen_ok, Sem.run_bind, p1, Result.andThen_ok, Sem.run_bind, e1, Result.andThen_ok]
    unfold Op.eqFields
    rw [if_pos g1, g2, g3]
    cases decide (n = m)
    · rfl
    · rw [if_neg (by decide), Sem.run_bind, q1, Result.andThen_ok, Sem.run_bind, q2, Result.andThen_ok, Sem.run_bind, e2, Result.andThen_ok]
      unfold Op.eqFields
      cases decide (l = k) <;> rfl
/-- Two OIDs as values. -/
theorem eql25 {n m : Nat} {l k : List Nat} (hl : l.length = 16) (hk : k.length = 16) (w : World) : (binOp .eql 26 (oV n l) (oV m k)).run Tryd.prog w = .ok (.bool (decide (n = m) && decide (l = k))) w := by
  rw [run_eql_struct, show (10000 : Nat) = 9997 + 3 from rfl, equalIn25 9997 hl hk w]
  rfl
end Go.Proofs.YtndamidmgglneaaDoor
