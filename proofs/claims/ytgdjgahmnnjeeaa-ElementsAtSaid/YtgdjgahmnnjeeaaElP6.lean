/-
  Layer 4, the statement ElementsAt: At returns the element at a path, in new memory, or ErrNone; the size of an element is that of its parts, with its identifier and length octets; the examples of the chapter hold.
  Conditions: none.
-/
import Derived.Test.YtgdjgahmnnjeeaaElOh
import Derived.Test.YtgdjgahmnnjeeaaElPu
namespace Go.Proofs.Ytgdjgahmnnjeeaa
open Go.ChangeShapes Go.WideShapes Go.ChangeAt Go.RowKit

/-- The store of a whole element, as one step of a region that draws. -/
theorem storeE_wp {o : Oper} {a : Act} {w : World} {K : Act → World → Prop} {Q : Exit → Act → World → Prop} (x v : Operand) (ho : o.op = .store 29 x v)
    {g : Nat} {cs : List Value} {n0 n1 n2 n3 n4 : Value} (hx : a.eval x = .pointer (some ⟨g, 0, none⟩)) (hv : a.eval v = .agg #[n0, n1, n2, n3, n4]) (hg : Bk w g 29 cs) (hc : cs.length = 5) (h1 : (#[n0, n1, n2, n3, n4] : Array Value).all (·.oneCell') = true)
    (h : ∀ w', Bk w' g 29 [n0, n1, n2, n3, n4] → w.grownBy w' (some g) → K (a.put o.dst undef) w') : Oper.wp Try.prog o a w K Q := by
  have hr := run_storeVar_row (P := Try.prog) w g 29 29 cs.toArray #[n0, n1, n2, n3, n4] hg (by simpa using infoE5) (by simp [hc]) h1
  have hK' := h (w.setRow g #[n0, n1, n2, n3, n4]) (setRow_heap w g _ _ _ _ hg) ⟨rfl, rfl, rfl, by simp [World.setRow], fun k hk hne => setRow_other w g k _ (fun e => hne (by rw [e]))⟩
  unfold Oper.wp execOp
  simp only [ho, hx, hv, Instr.storeAt, Instr.sureAddr, Sem.run_bind, Sem.run_pure, Result.andThen_ok, hr]
  exact hK'
set_option maxRecDepth 100000 in
/-- An argument that is a slice of ints. -/
theorem open_path {H : Type} {enc : TypeId × Value → H} {W : World} {base : Nat} {d : DataW H} {v : Value} {ps : List MemPlace} {r : Reach} (hval : Value.okWide Try.prog W r base 59 v) (hd : DataW.Trod enc Try.prog W 0 (fun _ => true) true 59 v d ps) :
    ∃ (A : Option Addr) (l : List Int) (c : Nat), v = .slice A l.length c ∧ Rd W A (csZ l) := by
  obtain ⟨A, len, cap, rfl⟩ := okWide_slice Try.underlying59 hval
  obtain ⟨fuel, hf⟩ := hd
  rcases open_ints Try.underlying59 Try.underlying3 (by kernel_rfl) hf with ⟨h0, _⟩ | ⟨a, len', cap', zs, h0, _, hl, hm, hz, _, hc, hw⟩
  · simp only [Value.cells, List.cons.injEq, and_true, Value.slice.injEq] at h0
    obtain ⟨rfl, rfl, rfl⟩ := h0
    exact ⟨none, [], 0, rfl, Rd.nil⟩
  · simp only [Value.cells, List.cons.injEq, and_true, Value.slice.injEq] at h0
    obtain ⟨rfl, rfl, rfl⟩ := h0
    rw [if_pos rfl] at hz
    have hlen : (zs.take len).length = len := by simp; omega
    refine ⟨some a, zs.take len, cap, by rw [hlen], fun hn => ?_⟩
    have h0 : 0 < zs.length := by
      rcases Nat.eq_zero_or_pos zs.length with h0 | h0
      · exact absurd (by rw [List.eq_nil_of_length_eq_zero h0]; simp [csZ]) hn
      · exact h0
    obtain ⟨b, off, rfl, hc'⟩ := ints_at hc h0
    refine ⟨b, off, rfl, ?_, ?_⟩
    · have h1 := hc' 0 h0
      rcases Nat.lt_or_ge b W.heap.size with hlt | hge
      · exact hlt
      · unfold World.cell? at h1
        simp [Array.getElem?_eq_none hge] at h1
    · intro j u hu
      unfold csZ at hu
      rw [List.getElem?_map] at hu
      obtain ⟨z, hz1, rfl⟩ := Option.map_eq_some_iff.1 hu
      obtain ⟨hj, hz2⟩ := List.getElem?_eq_some_iff.1 hz1
      have hj2 : j < zs.length := by simp at hj; omega
      rw [hc' j hj2]
      have h4 : zs.getD j 0 = z := by rw [← hz2]; simp [List.getD, hj2]
      rw [h4]
/-- What E.Of gives, and its parts. -/
def VV (e : El) : Prop := valE e ∧ depE e ≤ 16 ∧ bndE e = true ∧ cntE e ≤ 40
theorem bndS_mem {ss : List El} (h : bndS ss = true) {e : El} (he : e ∈ ss) : bndE e = true := by
  induction ss with
  | nil => simp at he
  | cons x ss ih =>
    rw [bndS, Bool.and_eq_true] at h
    rcases List.mem_cons.1 he with rfl | he
    · exact h.1
    · exact ih h.2 he
theorem VV.sub {c n : Nat} {k : Bool} {bs : List Nat} {ss : List El} (h : VV (.mk c n k bs ss)) {i : Nat} (hi : i < ss.length) : VV ss[i] := by
  obtain ⟨h1, h2, h3, h4⟩ := h
  rw [valE] at h1
  rw [depE] at h2
  rw [bndE, Bool.and_eq_true, Bool.and_eq_true] at h3
  rw [cntE] at h4
  have hm := List.getElem_mem hi
  have := depE_mem hm
  have := cntE_mem hm
  exact ⟨valS_mem h1.2.2.2 hm, by omega, bndS_mem h3.2.2 hm, by omega⟩
theorem VV.chk {e : El} (h : VV e) : (chkE e 1 0).1 = 0 := (val_enc h.1 h.2.1 h.2.2.1).2.1
theorem VV.siz {e : El} (h : VV e) : (sizR e).1 = (encE e).length := by
  rw [bnd_siz h.2.2.1, if_neg (by rw [h.chk]; simp)]
theorem VV.cnt {e : El} (h : VV e) : (meaR e).1 = cntE e := by rw [meaR_cnt h.chk]
theorem VV.dep {e : El} (h : VV e) : (meaR e).2.1 = depE e := by rw [meaR_cnt h.chk]
theorem enc_parts {c n : Nat} {k : Bool} {bs : List Nat} {ss : List El} (h : VV (.mk c n k bs ss)) :
    bs.length + (encS ss).length + 2 ≤ (encE (.mk c n k bs ss)).length ∧ (encE (.mk c n k bs ss)).length ≤ bs.length + (encS ss).length + 9 := by
  have hv := val_enc h.1 h.2.1 h.2.2.1
  have h1 := h.1
  rw [valE] at h1
  have h5 := tput_le (c := c) (k := k) (chk_zero h1.1).2
  have h6 : conL (.mk c n k bs ss) = bs.length + (encS ss).length := rfl
  have h7 := encE_len (c := c) (n := n) (k := k) (bs := bs) (ss := ss)
  have h8 := lput_le (m := conL (.mk c n k bs ss)) (by omega)
  have h9 := tput_pos c n k
  omega
/-- What At gives, in letters. -/
theorem at_res {x : Bool} {S : Nat → Prop} (e : El) (v : Value) (path : List Int) (P : Option Addr) (N pc : Nat) (w : World) (hE : RdE x S w e v) (hv : VV e) (hP : Rd w P (csZ path)) (hN : path.length = N) (hN1 : N ≤ 1000000) :
    ∃ (y : El) (f : Nat), (∀ e', atE e path = some e' → f = 0 ∧ y = e') ∧ (atE e path = none → f = 19 ∧ y = zE) ∧
    Calls Try.prog 21 #[v, .slice P N pc] w fun r w' => ∃ u, r = .returned (.tuple #[u, .int .i64 ((f : Nat) : Int)]) ∧ RdE true (fun i => w.heap.size ≤ i) w' y u ∧ Below w.heap.size w w' := by
  have h := at_el e v path P N pc w (by have := hv.2.1; omega) hE (bnd_sml e hv.2.2.1) hP hN hN1
  have h0 : (meaR e).2.2 = 0 := by rw [meaR_err]; exact hv.chk
  unfold atR at h
  rw [if_neg (by rw [h0]; simp)] at h
  cases ha : atE e path with
  | none =>
    rw [ha] at h
    exact ⟨zE, 19, (fun _ h => by cases h), fun _ => ⟨rfl, rfl⟩, h.mono fun r w' ⟨_, h2, h3⟩ => ⟨_, h2, rd_zero _ _ _, h3⟩⟩
  | some x =>
    rw [ha] at h
    exact ⟨x, 0, (fun e' h => by injection h with h; exact ⟨rfl, h⟩), (fun h => by cases h), h.mono fun r w' ⟨u, h2, h3, h4⟩ => ⟨u, h2, h3, h4⟩⟩
set_option maxHeartbeats 1000000 in
set_option maxRecDepth 100000 in
theorem at_long (A : Option Addr) (N c : Nat) (P : Option Addr) (M d : Nat) (w : World) (hM : 20 < M) :
    Calls Try.prog 8 #[.agg #[.slice A N c], .slice P M d] w fun e w' => e = .returned (.bool true) ∧ Below w.heap.size w w' := by
  have HB := Lib.hid (bel1 w (.cells #[.slice A N c] 47))
  go_enter Try.func8, Try.ntmps8
  go_wp2_with fail
  refine (lives_any _).mono ?_
  rintro r w7 ⟨rfl, hb⟩
  have HB7 := Lib.hid (HB.out.trans (hb.mono HB.out.size))
  clear hb HB
  go_wp2_with fail
  go_ret
  exact ⟨rfl, HB7.out⟩
/-- What the loop over the path keeps. -/
def AtR (w : World) (e : El) (path : List Int) (H T N : Nat) (y : El) (yc : List Value) (uy : Value) (i : Value) (wr : World) : Prop :=
  ∃ (p c n : Nat) (k : Bool) (bs : List Nat) (ss : List El) (A : Option Addr) (ca : Nat) (B : Option Addr) (cb : Nat), p ≤ N ∧ i = .int .i64 (p : Int) ∧ Bk wr H 29 [.int .u8 (c : Int), .bool k, .int .u32 (n : Int), .slice A bs.length ca, .slice B ss.length cb] ∧
    RdE false (fun i => i ≠ H) wr (.mk c n k bs ss) (elV c n k (.slice A bs.length ca) (.slice B ss.length cb)) ∧ VV (.mk c n k bs ss) ∧ atE e path = atE (.mk c n k bs ss) (path.drop p) ∧ Bk wr T 29 yc ∧ RdE true (fun i => i ≠ H) wr y uy ∧ Below w.heap.size w wr
/-- What the loop over the parts keeps. -/
def PaR (w : World) (H c n : Nat) (k : Bool) (A : Option Addr) (bl ca : Nat) (B : Option Addr) (cb : Nat) (bs : List Nat) (ss : List El) (s m q i : Value) (wr : World) : Prop :=
  ∃ p : Nat, p ≤ ss.length ∧ i = .int .i64 (p : Int) ∧ s = .int .i64 ((bl + (encS (ss.take p)).length : Nat) : Int) ∧ m = .int .i64 ((1 + cntS (ss.take p) : Nat) : Int) ∧ q = .int .i64 ((depS (ss.take p) : Nat) : Int) ∧
    Bk wr H 29 [.int .u8 (c : Int), .bool k, .int .u32 (n : Int), .slice A bl ca, .slice B ss.length cb] ∧ RdE false (fun i => i ≠ H) wr (.mk c n k bs ss) (elV c n k (.slice A bl ca) (.slice B ss.length cb)) ∧ Below w.heap.size w wr
theorem cntS_take {ss : List El} {i : Nat} (hi : i < ss.length) : cntS (ss.take (i + 1)) = cntS (ss.take i) + cntE ss[i] := by
  rw [List.take_succ_eq_append_getElem hi, cntS_append, cntS, cntS]; omega

set_option linter.unusedSimpArgs false in
set_option maxHeartbeats 8000000 in
set_option maxRecDepth 100000 in
theorem at_walk (A : Option Addr) (gs : List Gd) (N c : Nat) (P : Option Addr) (path : List Int) (M d : Nat) (w : World) (hA : RdG w A gs) (hN : gs.length = N) (hc : N ≤ c) (hm : c ≤ maxLen) (hP : Rd w P (csZ path)) (hM : path.length = M) :
    Calls Try.prog 8 #[.agg #[.slice A N c], .slice P M d] w fun e w' => e = .returned (.bool true) ∧ Below w.heap.size w w' := by
  by_cases hM20 : 20 < M
  · exact at_long A N c P M d w hM20
  have hM21 : M ≤ 20 := by omega
  obtain ⟨W0, hW0⟩ : ∃ W0, w.alloc (.cells #[.slice A N c] 47) = W0 := ⟨_, rfl⟩
  have hb0 : Below w.heap.size w W0 := by rw [← hW0]; exact bel1 w _
  have k0 : Bk W0 w.heap.size 47 [.slice A N c] := by rw [← hW0]; exact Bk.new w _ [_]
  obtain ⟨G, hG⟩ : ∃ G, w.heap.size = G := ⟨_, rfl⟩
  have HC := Lib.hid (of_E A gs N c W0 (hA.stay hb0) hN hc hm)
  have R := Lib.hid (hP.below hb0)
  have hPP := Lib.hid hP
  have B := Lib.hid hb0
  have HW0 := Lib.hid hW0
  have HG := Lib.hid hG
  have HM := Lib.hid hM
  rw [hG] at k0
  have c0 := k0.cell 0
  simp only [List.getElem?_cons_zero] at c0
  have cz := k0.lt
  clear hA hN hc hm hW0 hG hb0 k0 hP hM
  go_enter Try.func8, Try.ntmps8
  go_upto_region 3 with fail
  rw [HW0.out, HG.out]
  go_wp2_with fail
  refine HC.out.mono ?_
  rintro r w1 ⟨e, u, rfl, hv, hd, hbd, hcn, hE, hb⟩
  have Bq := Lib.hid (B.out.trans (hb.mono B.out.size))
  have Rq := Lib.hid (R.out.below hb)
  clear B R
  have B := Bq
  have R := Rq
  clear Bq Rq hb
  have HV := Lib.hid (show VV e from ⟨hv, hd, hbd, hcn⟩)
  obtain ⟨e1, rfl⟩ : ∃ e1, e = e1 := ⟨_, rfl⟩
  obtain ⟨pc, pn, pk, pbs, pss⟩ := e
  have hE' := hE
  obtain ⟨_, _, _, P1, r1, Q1, s1, rfl, _⟩ := hE'
  obtain ⟨l1, hl1⟩ : ∃ l1, pbs.length = l1 := ⟨_, rfl⟩
  obtain ⟨m1, hm1⟩ : ∃ m1, pss.length = m1 := ⟨_, rfl⟩
  have HL1 := Lib.hid hl1
  have HM1 := Lib.hid hm1
  rw [hl1, hm1] at hE ⊢
  have E := Lib.hid hE
  clear hE hv hd hbd hcn hl1 hm1
  obtain ⟨D, hD⟩ : ∃ D, w1.heap.size = D := ⟨_, rfl⟩
  obtain ⟨wz, hwz⟩ : ∃ wz, w1.alloc (.cells #[.int .u8 0, .bool false, .int .u32 0, .slice none 0 0, .slice none 0 0] 29) = wz := ⟨_, rfl⟩
  have hkz : Bk wz D 29 elZ := by rw [← hwz, ← hD]; exact Bk.new w1 _ elZ
  have hbz : Below D w1 wz := by rw [← hwz, ← hD]; exact bel1 w1 _
  obtain ⟨z0, z1, z2, z3, z4, zz⟩ := hkz.five
  obtain ⟨g0, g1, g2, g3, g4⟩ := hkz.free5
  obtain ⟨w2, hw4⟩ : ∃ w4, (((((wz.setCell ⟨D, 0, none⟩ (.int .u8 (pc : Int))).setCell ⟨D, 1, none⟩ (.bool pk)).setCell ⟨D, 2, none⟩ (.int .u32 (pn : Int))).setCell ⟨D, 3, none⟩ (.slice P1 l1 r1)).setCell ⟨D, 4, none⟩ (.slice Q1 m1 s1)) = w4 := ⟨_, rfl⟩
  have hk4 : Bk w2 D 29 [.int .u8 (pc : Int), .bool pk, .int .u32 (pn : Int), .slice P1 l1 r1, .slice Q1 m1 s1] := by rw [← hw4]; exact ((((hkz.store 0 (.int .u8 (pc : Int))).store 1 (.bool pk)).store 2 (.int .u32 (pn : Int))).store 3 (.slice P1 l1 r1)).store 4 (.slice Q1 m1 s1)
  have hl := Nat.le_refl D
  have hb4 : Below w1.heap.size w1 w2 := by rw [hD, ← hw4]; exact ((((hbz.setCell (p := ⟨D, 0, none⟩) hl _).setCell (p := ⟨D, 1, none⟩) hl _).setCell (p := ⟨D, 2, none⟩) hl _).setCell (p := ⟨D, 3, none⟩) hl _).setCell (p := ⟨D, 4, none⟩) hl _
  have KD := Lib.hid hk4
  have Bq := Lib.hid (B.out.trans (hb4.mono B.out.size))
  have Rq := Lib.hid (R.out.below hb4)
  have Eq := Lib.hid (E.out.stay hb4)
  clear B R E
  have B := Bq
  have R := Rq
  have E := Eq
  clear Bq Rq Eq hb4
  clear hkz hbz hk4 hl HC c0 cz
  go_upto_region 4 with fail
  clear z0 z1 z2 z3 z4 zz g0 g1 g2 g3 g4 hw4 hwz hD
  obtain ⟨x0, x1, x2, x3, x4, xz⟩ := KD.out.five
  obtain ⟨y, f, hy1, hy2, hcall⟩ := at_res _ _ path P M d w2 E.out HV.out R.out HM.out (by omega)
  have HY1 := Lib.hid hy1
  have HY2 := Lib.hid hy2
  have HC := Lib.hid hcall
  clear hcall hy1 hy2
  go_wp2_with fail
  clear x0 x1 x2 x3 x4 xz
  refine HC.out.mono ?_
  rintro r w3 ⟨uy, rfl, hU, hb⟩
  obtain ⟨p2, q2, k2, P2, l2, r2, Q2, m2, s2, rfl⟩ := hU.form
  have U := Lib.hid (RdE.keep (T := fun i => i < w3.heap.size) (Nat.le_refl _) (fun _ _ _ => rfl) (fun _ _ h => h) _ _ hU)
  clear hU HC
  have Bq := Lib.hid (B.out.trans (hb.mono B.out.size))
  have Rq := Lib.hid (R.out.below hb)
  have Eq := Lib.hid (E.out.stay hb)
  have KDq := Lib.hid (KD.out.below hb KD.out.lt)
  clear B R E KD
  have B := Bq
  have R := Rq
  have E := Eq
  have KD := KDq
  clear Bq Rq Eq KDq hb
  obtain ⟨T, hT⟩ : ∃ T, w3.heap.size = T := ⟨_, rfl⟩
  obtain ⟨wz, hwz⟩ : ∃ wz, w3.alloc (.cells #[.int .u8 0, .bool false, .int .u32 0, .slice none 0 0, .slice none 0 0] 29) = wz := ⟨_, rfl⟩
  have hkz : Bk wz T 29 elZ := by rw [← hwz, ← hT]; exact Bk.new w3 _ elZ
  have hbz : Below T w3 wz := by rw [← hwz, ← hT]; exact bel1 w3 _
  obtain ⟨z0, z1, z2, z3, z4, zz⟩ := hkz.five
  obtain ⟨g0, g1, g2, g3, g4⟩ := hkz.free5
  obtain ⟨w4, hw4⟩ : ∃ w4, (((((wz.setCell ⟨T, 0, none⟩ (.int .u8 (p2 : Int))).setCell ⟨T, 1, none⟩ (.bool k2)).setCell ⟨T, 2, none⟩ (.int .u32 (q2 : Int))).setCell ⟨T, 3, none⟩ (.slice P2 l2 r2)).setCell ⟨T, 4, none⟩ (.slice Q2 m2 s2)) = w4 := ⟨_, rfl⟩
  have hk4 : Bk w4 T 29 [.int .u8 (p2 : Int), .bool k2, .int .u32 (q2 : Int), .slice P2 l2 r2, .slice Q2 m2 s2] := by rw [← hw4]; exact ((((hkz.store 0 (.int .u8 (p2 : Int))).store 1 (.bool k2)).store 2 (.int .u32 (q2 : Int))).store 3 (.slice P2 l2 r2)).store 4 (.slice Q2 m2 s2)
  have hl := Nat.le_refl T
  have hb4 : Below w3.heap.size w3 w4 := by rw [hT, ← hw4]; exact ((((hbz.setCell (p := ⟨T, 0, none⟩) hl _).setCell (p := ⟨T, 1, none⟩) hl _).setCell (p := ⟨T, 2, none⟩) hl _).setCell (p := ⟨T, 3, none⟩) hl _).setCell (p := ⟨T, 4, none⟩) hl _
  have KT := Lib.hid hk4
  have hTs := hT
  have Bq := Lib.hid (B.out.trans (hb4.mono B.out.size))
  have Rq := Lib.hid (R.out.below hb4)
  have Eq := Lib.hid (E.out.stay hb4)
  have KDq := Lib.hid (KD.out.below hb4 KD.out.lt)
  have Uq := Lib.hid (U.out.stay hb4)
  clear B R E KD U
  have B := Bq
  have R := Rq
  have E := Eq
  have KD := KDq
  have U := Uq
  clear Bq Rq Eq KDq Uq hb4
  clear hkz hbz hk4 hl
  go_upto_region 5 with fail
  clear z0 z1 z2 z3 z4 zz g0 g1 g2 g3 g4 hw4 hwz hT
  obtain ⟨x0, x1, x2, x3, x4, xz⟩ := KD.out.five
  obtain ⟨H, hH⟩ : ∃ H, w4.heap.size = H := ⟨_, rfl⟩
  obtain ⟨wz, hwz⟩ : ∃ wz, w4.alloc (.cells #[.int .u8 0, .bool false, .int .u32 0, .slice none 0 0, .slice none 0 0] 29) = wz := ⟨_, rfl⟩
  have hkz : Bk wz H 29 elZ := by rw [← hwz, ← hH]; exact Bk.new w4 _ elZ
  have hbz : Below H w4 wz := by rw [← hwz, ← hH]; exact bel1 w4 _
  obtain ⟨z0, z1, z2, z3, z4, zz⟩ := hkz.five
  obtain ⟨g0, g1, g2, g3, g4⟩ := hkz.free5
  obtain ⟨w5, hw4⟩ : ∃ w4, (((((wz.setCell ⟨H, 0, none⟩ (.int .u8 (pc : Int))).setCell ⟨H, 1, none⟩ (.bool pk)).setCell ⟨H, 2, none⟩ (.int .u32 (pn : Int))).setCell ⟨H, 3, none⟩ (.slice P1 l1 r1)).setCell ⟨H, 4, none⟩ (.slice Q1 m1 s1)) = w4 := ⟨_, rfl⟩
  have hk4 : Bk w5 H 29 [.int .u8 (pc : Int), .bool pk, .int .u32 (pn : Int), .slice P1 l1 r1, .slice Q1 m1 s1] := by rw [← hw4]; exact ((((hkz.store 0 (.int .u8 (pc : Int))).store 1 (.bool pk)).store 2 (.int .u32 (pn : Int))).store 3 (.slice P1 l1 r1)).store 4 (.slice Q1 m1 s1)
  have hl := Nat.le_refl H
  have hb4 : Below w4.heap.size w4 w5 := by rw [hH, ← hw4]; exact ((((hbz.setCell (p := ⟨H, 0, none⟩) hl _).setCell (p := ⟨H, 1, none⟩) hl _).setCell (p := ⟨H, 2, none⟩) hl _).setCell (p := ⟨H, 3, none⟩) hl _).setCell (p := ⟨H, 4, none⟩) hl _
  have KH := Lib.hid hk4
  have hTl := KT.out.lt
  have hTH : T ≠ H := by omega
  have hwH : w.heap.size ≤ H := by have := B.out.size; omega
  have hU5 := RdE.keep (T := fun i => i ≠ H) hb4.size (fun j _ hl => hb4.block j hl) (fun i (hi : i < w3.heap.size) _ => by show i ≠ H; omega) _ _ U.out
  have hE5 := RdE.keep (T := fun i => i ≠ H) hb4.size (fun j _ hl => hb4.block j hl) (fun i _ hl => by show i ≠ H; omega) _ _ E.out
  have U5 := Lib.hid hU5
  have E5 := Lib.hid hE5
  clear hU5 hE5 U E hTs
  have U := U5
  have E := E5
  clear U5 E5
  have Bq := Lib.hid (B.out.trans (hb4.mono B.out.size))
  have Rq := Lib.hid (R.out.below hb4)
  have KTq := Lib.hid (KT.out.below hb4 KT.out.lt)
  clear B R KT
  have B := Bq
  have R := Rq
  have KT := KTq
  clear Bq Rq KTq hb4
  clear hkz hbz hk4 hl KD
  go_upto_region 7 with fail
  clear z0 z1 z2 z3 z4 zz g0 g1 g2 g3 g4 hw4 hwz hH
  clear x0 x1 x2 x3 x4 xz
  have H0 : Hid (AtR w (.mk pc pn pk pbs pss) path H T M y [.int .u8 (p2 : Int), .bool k2, .int .u32 (q2 : Int), .slice P2 l2 r2, .slice Q2 m2 s2] (elV p2 q2 k2 (.slice P2 l2 r2) (.slice Q2 m2 s2)) (.int .i64 0) w5) := Lib.hid ⟨0, pc, pn, pk, pbs, pss, P1, r1, Q1, s1, Nat.zero_le _, rfl, by rw [HL1.out, HM1.out]; exact KH.out, by rw [HL1.out, HM1.out]; exact E.out, HV.out, by rw [List.drop_zero], KT.out, U.out, B.out⟩
  have RP := Lib.hid (show ∀ W, Below w.heap.size w W → Rd W P (csZ path) from fun W hb => hPP.out.below hb)
  clear KH E HV KT U B R HL1 HM1
  generalize hel : El.mk pc pn pk pbs pss = e at *
  clear hel
  go_loopw [9] (fun i wr => AtR w e path H T M y [.int .u8 (p2 : Int), .bool k2, .int .u32 (q2 : Int), .slice P2 l2 r2, .slice Q2 m2 s2] (elV p2 q2 k2 (.slice P2 l2 r2) (.slice Q2 m2 s2)) i wr) (fun i _ => M - (intOf i).toNat)
  case atStart => exact H0.out
  case round =>
    obtain ⟨p, c1, n1, k1, bs, ss, A1, ca, B1, cb, hp, rfl, hG, hE, hv, hat, hK, hU, hB⟩ := hrel
    have HGk := Lib.hid hG
    have E := Lib.hid hE
    have HV := Lib.hid hv
    have HAT := Lib.hid hat
    have KT := Lib.hid hK
    have U := Lib.hid hU
    have B := Lib.hid hB
    have R := Lib.hid (RP.out wr hB)
    clear hG hE hv hat hK hU hB
    by_cases hlt : p < M
    · obtain ⟨z, hz⟩ : ∃ z, path[p]'(by rw [HM.out]; exact hlt) = z := ⟨_, rfl⟩
      obtain ⟨pb, poff, rfl, hpb, hpc⟩ := R.out.at_ (k := p) (by unfold csZ; rw [List.length_map, HM.out]; exact hlt)
      have hpc1 : wr.cell? ⟨pb, poff + p, none⟩ = some (.int .i64 z) := by rw [hpc]; unfold csZ; rw [List.getElem_map, hz]
      have hdr : path.drop p = z :: path.drop (p + 1) := by rw [List.drop_eq_getElem_cons (by rw [HM.out]; exact hlt), hz]
      have HDR := Lib.hid hdr
      have HPC := Lib.hid hpc1
      clear hpc hdr hz hpc1
      go_upto_region 9 with fail
      obtain ⟨wd, hwd⟩ : ∃ wd, wr.drew = wd := ⟨_, rfl⟩
      have hbd : Below wr.heap.size wr wd := by rw [← hwd]; exact ⟨rfl, rfl, rfl, Nat.le_refl _, fun _ _ => rfl⟩
      have hcd : wd.cell? ⟨pb, poff + p, none⟩ = some (.int .i64 z) := (hbd.cell (p := ⟨pb, poff + p, none⟩) hpb).trans HPC.out
      have HGkq := Lib.hid (HGk.out.below hbd HGk.out.lt)
      have Eq := Lib.hid (E.out.stay hbd)
      have KTq := Lib.hid (KT.out.below hbd KT.out.lt)
      have Uq := Lib.hid (U.out.stay hbd)
      have Bq := Lib.hid (B.out.trans (hbd.mono B.out.size))
      clear HGk E KT U B
      have HGk := HGkq
      have E := Eq
      have KT := KTq
      have U := Uq
      have B := Bq
      clear HGkq Eq KTq Uq Bq
      have hpbd := Nat.lt_of_lt_of_le hpb hbd.size
      clear hbd R HPC hpb
      have hn4 : wd.cell? ⟨H, 4, none⟩ = some (.slice B1 ss.length cb) := HGk.out.cell 4
      refine wp_region_held_drew (S := fun W => W.cell? ⟨pb, poff + p, none⟩ = some (.int .i64 z) ∧ W.cell? ⟨H, 4, none⟩ = some (.slice B1 ss.length cb)) (by kernel_rfl) (by rw [hwd]; exact ⟨hcd, hn4⟩) (fun hS => ?_)
      rw [hwd] at hS ⊢
      clear hwd
      refine wpAnyH_take (i := 0) (oi := ⟨some 34, _, _, _, _, _⟩) (v := .slice (some ⟨pb, poff, none⟩) M d) rfl (by kernel_rfl) (by kernel_rfl) (by kernel_rfl) (fun _ _ _ h => h) (Or.inl ⟨by rfl, fun w hSw => by (try dsimp only at hSw); go_simp⟩) hS ?_
      simp only [Act.put, List.setIfInBounds_toArray, List.set_cons_zero, List.set_cons_succ]
      refine wpAnyH_take (i := 1) (oi := ⟨some 35, _, _, _, _, _⟩) (v := .int .i64 (p : Int)) rfl (by kernel_rfl) (by kernel_rfl) (by kernel_rfl) (fun _ _ _ h => h) (Or.inl ⟨by rfl, fun w hSw => by (try dsimp only at hSw); go_simp⟩) hS ?_
      simp only [Act.put, List.setIfInBounds_toArray, List.set_cons_zero, List.set_cons_succ]
      refine wpAnyH_take (i := 2) (oi := ⟨some 36, _, _, _, _, _⟩) (v := .pointer (some ⟨pb, poff + p, none⟩)) rfl (by kernel_rfl) (by kernel_rfl) (by kernel_rfl) (fun _ _ _ h => h) (Or.inl ⟨by rfl, fun w hSw => by (try dsimp only at hSw); go_simp⟩) hS ?_
      simp only [Act.put, List.setIfInBounds_toArray, List.set_cons_zero, List.set_cons_succ]
      refine wpAnyH_take (i := 3) (oi := ⟨some 37, _, _, _, _, _⟩) (v := .int .i64 z) rfl (by kernel_rfl) (by kernel_rfl) (by kernel_rfl) (fun _ _ _ h => h) (Or.inl ⟨by rfl, fun w hSw => by (try dsimp only at hSw); obtain ⟨hs1, hs2⟩ := hSw; go_simp⟩) hS ?_
      simp only [Act.put, List.setIfInBounds_toArray, List.set_cons_zero, List.set_cons_succ]
      by_cases hz0 : z < 0
      · have hzb : decide (z < 0) = true := by simpa using hz0
        have hnone : atE e path = none := by rw [HAT.out, HDR.out, atE_no (by omega)]
        refine wpAnyH_take (i := 4) (oi := ⟨some 38, _, _, _, _, _⟩) (v := .bool true) rfl (by kernel_rfl) (by kernel_rfl) (by kernel_rfl) (fun _ _ _ h => h) (Or.inl ⟨by rfl, fun w hSw => by (try dsimp only at hSw); go_simp⟩) hS ?_
        simp only [Act.put, List.setIfInBounds_toArray, List.set_cons_zero, List.set_cons_succ]
        refine wpAnyH_take (i := 5) (oi := ⟨some 39, _, _, _, _, _⟩) (v := .bool true) rfl (by kernel_rfl) (by kernel_rfl) (by kernel_rfl) (fun _ _ _ h => h) (Or.inl ⟨by rfl, fun w hSw => by (try dsimp only at hSw); go_simp⟩) hS ?_
        simp only [Act.put, List.setIfInBounds_toArray, List.set_cons_zero, List.set_cons_succ]
        refine wpAnyH_take (i := 6) (oi := ⟨some 40, _, _, _, _, _⟩) (v := undef) rfl (by kernel_rfl) (by kernel_rfl) (by kernel_rfl) (fun _ _ _ h => h) (Or.inr ⟨by rfl, rfl⟩) hS ?_
        simp only [Act.put, List.setIfInBounds_toArray, List.set_cons_zero, List.set_cons_succ]
        refine wpAnyH_take (i := 7) (oi := ⟨some 41, _, _, _, _, _⟩) (v := undef) rfl (by kernel_rfl) (by kernel_rfl) (by kernel_rfl) (fun _ _ _ h => h) (Or.inr ⟨by rfl, rfl⟩) hS ?_
        simp only [Act.put, List.setIfInBounds_toArray, List.set_cons_zero, List.set_cons_succ]
        refine wpAnyH_take (i := 8) (oi := ⟨some 42, _, _, _, _, _⟩) (v := undef) rfl (by kernel_rfl) (by kernel_rfl) (by kernel_rfl) (fun _ _ _ h => h) (Or.inr ⟨by rfl, rfl⟩) hS ?_
        simp only [Act.put, List.setIfInBounds_toArray, List.set_cons_zero, List.set_cons_succ]
        refine wpAnyH_take (i := 9) (oi := ⟨some 43, _, _, _, _, _⟩) (v := undef) rfl (by kernel_rfl) (by kernel_rfl) (by kernel_rfl) (fun _ _ _ h => h) (Or.inr ⟨by rfl, rfl⟩) hS ?_
        simp only [Act.put, List.setIfInBounds_toArray, List.set_cons_zero, List.set_cons_succ]
        refine wpAnyH_take (i := 10) (oi := ⟨some 44, _, _, _, _, _⟩) (v := undef) rfl (by kernel_rfl) (by kernel_rfl) (by kernel_rfl) (fun _ _ _ h => h) (Or.inr ⟨by rfl, rfl⟩) hS ?_
        simp only [Act.put, List.setIfInBounds_toArray, List.set_cons_zero, List.set_cons_succ]
        refine wpAnyH_take (i := 11) (oi := ⟨some 45, _, _, _, _, _⟩) (v := undef) rfl (by kernel_rfl) (by kernel_rfl) (by kernel_rfl) (fun _ _ _ h => h) (Or.inr ⟨by rfl, rfl⟩) hS ?_
        simp only [Act.put, List.setIfInBounds_toArray, List.set_cons_zero, List.set_cons_succ]
        refine wpAnyH_take (i := 12) (oi := ⟨some 46, _, _, _, _, _⟩) (v := undef) rfl (by kernel_rfl) (by kernel_rfl) (by kernel_rfl) (fun _ _ _ h => h) (Or.inr ⟨by rfl, rfl⟩) hS ?_
        simp only [Act.put, List.setIfInBounds_toArray, List.set_cons_zero, List.set_cons_succ]
        refine wpAnyH_take (i := 13) (oi := ⟨some 47, _, _, _, _, _⟩) (v := undef) rfl (by kernel_rfl) (by kernel_rfl) (by kernel_rfl) (fun _ _ _ h => h) (Or.inr ⟨by rfl, rfl⟩) hS ?_
        simp only [Act.put, List.setIfInBounds_toArray, List.set_cons_zero, List.set_cons_succ]
        refine wpAnyH_take (i := 14) (oi := ⟨some 48, _, _, _, _, _⟩) (v := .bool true) rfl (by kernel_rfl) (by kernel_rfl) (by kernel_rfl) (fun _ _ _ h => h) (Or.inl ⟨by rfl, fun w hSw => by (try dsimp only at hSw); go_simp⟩) hS ?_
        simp only [Act.put, List.setIfInBounds_toArray, List.set_cons_zero, List.set_cons_succ]
        refine wpAnyH_done (by kernel_rfl) ?_ _
        clear hS
        obtain ⟨hf, hyz⟩ := HY2.out hnone
        subst hyz
        have hfb : ((f : Int) == 19) = true := by simp; omega
        clear hnone
        obtain ⟨x0, x1, x2, x3, x4, xz⟩ := KT.out.five
        go_wp2_with fail
        clear x0 x1 x2 x3 x4 xz
        refine (rsame_any zE _ _ _ U.out (rd_zero false (fun _ => True) _)).mono ?_
        rintro r w7 ⟨rfl, hb⟩
        have Bq := Lib.hid (B.out.trans (hb.mono B.out.size))
        clear B
        have B := Bq
        clear Bq hb
        go_wp2_with fail
        refine (lives_any _).mono ?_
        rintro r w8 ⟨rfl, hb⟩
        have Bq := Lib.hid (B.out.trans (hb.mono B.out.size))
        clear B
        have B := Bq
        clear Bq hb
        go_wp2_with fail
        go_ret
        exact ⟨rfl, B.out⟩
      · have hzb : decide (z < 0) = false := by simpa using hz0
        refine wpAnyH_take (i := 4) (oi := ⟨some 38, _, _, _, _, _⟩) (v := .bool false) rfl (by kernel_rfl) (by kernel_rfl) (by kernel_rfl) (fun _ _ _ h => h) (Or.inl ⟨by rfl, fun w hSw => by (try dsimp only at hSw); go_simp⟩) hS ?_
        simp only [Act.put, List.setIfInBounds_toArray, List.set_cons_zero, List.set_cons_succ]
        refine wpAnyH_take (i := 5) (oi := ⟨some 39, _, _, _, _, _⟩) (v := .bool false) rfl (by kernel_rfl) (by kernel_rfl) (by kernel_rfl) (fun _ _ _ h => h) (Or.inl ⟨by rfl, fun w hSw => by (try dsimp only at hSw); go_simp⟩) hS ?_
        simp only [Act.put, List.setIfInBounds_toArray, List.set_cons_zero, List.set_cons_succ]
        refine wpAnyH_take (i := 6) (oi := ⟨some 40, _, _, _, _, _⟩) (v := .slice (some ⟨pb, poff, none⟩) M d) rfl (by kernel_rfl) (by kernel_rfl) (by kernel_rfl) (fun _ _ _ h => h) (Or.inl ⟨by rfl, fun w hSw => by (try dsimp only at hSw); go_simp⟩) hS ?_
        simp only [Act.put, List.setIfInBounds_toArray, List.set_cons_zero, List.set_cons_succ]
        refine wpAnyH_take (i := 7) (oi := ⟨some 41, _, _, _, _, _⟩) (v := .int .i64 (p : Int)) rfl (by kernel_rfl) (by kernel_rfl) (by kernel_rfl) (fun _ _ _ h => h) (Or.inl ⟨by rfl, fun w hSw => by (try dsimp only at hSw); go_simp⟩) hS ?_
        simp only [Act.put, List.setIfInBounds_toArray, List.set_cons_zero, List.set_cons_succ]
        refine wpAnyH_take (i := 8) (oi := ⟨some 42, _, _, _, _, _⟩) (v := .pointer (some ⟨pb, poff + p, none⟩)) rfl (by kernel_rfl) (by kernel_rfl) (by kernel_rfl) (fun _ _ _ h => h) (Or.inl ⟨by rfl, fun w hSw => by (try dsimp only at hSw); go_simp⟩) hS ?_
        simp only [Act.put, List.setIfInBounds_toArray, List.set_cons_zero, List.set_cons_succ]
        refine wpAnyH_take (i := 9) (oi := ⟨some 43, _, _, _, _, _⟩) (v := .int .i64 z) rfl (by kernel_rfl) (by kernel_rfl) (by kernel_rfl) (fun _ _ _ h => h) (Or.inl ⟨by rfl, fun w hSw => by (try dsimp only at hSw); obtain ⟨hs1, hs2⟩ := hSw; go_simp⟩) hS ?_
        simp only [Act.put, List.setIfInBounds_toArray, List.set_cons_zero, List.set_cons_succ]
        refine wpAnyH_take (i := 10) (oi := ⟨some 44, _, _, _, _, _⟩) (v := .pointer (some ⟨H, 4, none⟩)) rfl (by kernel_rfl) (by kernel_rfl) (by kernel_rfl) (fun _ _ _ h => h) (Or.inl ⟨by rfl, fun w hSw => by (try dsimp only at hSw); go_simp⟩) hS ?_
        simp only [Act.put, List.setIfInBounds_toArray, List.set_cons_zero, List.set_cons_succ]
        refine wpAnyH_take (i := 11) (oi := ⟨some 45, _, _, _, _, _⟩) (v := .slice B1 ss.length cb) rfl (by kernel_rfl) (by kernel_rfl) (by kernel_rfl) (fun _ _ _ h => h) (Or.inl ⟨by rfl, fun w hSw => by (try dsimp only at hSw); obtain ⟨hs1, hs2⟩ := hSw; go_simp⟩) hS ?_
        simp only [Act.put, List.setIfInBounds_toArray, List.set_cons_zero, List.set_cons_succ]
        refine wpAnyH_take (i := 12) (oi := ⟨some 46, _, _, _, _, _⟩) (v := .int .i64 (ss.length : Int)) rfl (by kernel_rfl) (by kernel_rfl) (by kernel_rfl) (fun _ _ _ h => h) (Or.inl ⟨by rfl, fun w hSw => by (try dsimp only at hSw); go_simp⟩) hS ?_
        simp only [Act.put, List.setIfInBounds_toArray, List.set_cons_zero, List.set_cons_succ]
        by_cases hzn0 : (ss.length : Int) ≤ z
        · have hzl : decide (z ≥ (ss.length : Int)) = true := by simp; omega
          have hzl2 : decide ((ss.length : Int) ≤ z) = true := by simp; omega
          have hnone : atE e path = none := by rw [HAT.out, HDR.out, atE_no (by omega)]
          refine wpAnyH_take (i := 13) (oi := ⟨some 47, _, _, _, _, _⟩) (v := .bool true) rfl (by kernel_rfl) (by kernel_rfl) (by kernel_rfl) (fun _ _ _ h => h) (Or.inl ⟨by rfl, fun w hSw => by (try dsimp only at hSw); go_simp⟩) hS ?_
          simp only [Act.put, List.setIfInBounds_toArray, List.set_cons_zero, List.set_cons_succ]
          refine wpAnyH_take (i := 14) (oi := ⟨some 48, _, _, _, _, _⟩) (v := .bool true) rfl (by kernel_rfl) (by kernel_rfl) (by kernel_rfl) (fun _ _ _ h => h) (Or.inl ⟨by rfl, fun w hSw => by (try dsimp only at hSw); go_simp⟩) hS ?_
          simp only [Act.put, List.setIfInBounds_toArray, List.set_cons_zero, List.set_cons_succ]
          refine wpAnyH_done (by kernel_rfl) ?_ _
          clear hS
          obtain ⟨hf, hyz⟩ := HY2.out hnone
          subst hyz
          have hfb : ((f : Int) == 19) = true := by simp; omega
          clear hnone
          obtain ⟨x0, x1, x2, x3, x4, xz⟩ := KT.out.five
          go_wp2_with fail
          clear x0 x1 x2 x3 x4 xz
          refine (rsame_any zE _ _ _ U.out (rd_zero false (fun _ => True) _)).mono ?_
          rintro r w7 ⟨rfl, hb⟩
          have Bq := Lib.hid (B.out.trans (hb.mono B.out.size))
          clear B
          have B := Bq
          clear Bq hb
          go_wp2_with fail
          refine (lives_any _).mono ?_
          rintro r w8 ⟨rfl, hb⟩
          have Bq := Lib.hid (B.out.trans (hb.mono B.out.size))
          clear B
          have B := Bq
          clear Bq hb
          go_wp2_with fail
          go_ret
          exact ⟨rfl, B.out⟩
        · obtain ⟨i, rfl⟩ : ∃ i : Nat, z = (i : Int) := ⟨z.toNat, by omega⟩
          have hzn : i < ss.length := by omega
          have hzl : decide ((i : Int) ≥ (ss.length : Int)) = false := by simp; omega
          have hzl2 : decide ((ss.length : Int) ≤ (i : Int)) = false := by simp; omega
          have hzl3 : decide (ss.length ≤ i) = false := by simp; omega
          refine wpAnyH_take (i := 13) (oi := ⟨some 47, _, _, _, _, _⟩) (v := .bool false) rfl (by kernel_rfl) (by kernel_rfl) (by kernel_rfl) (fun _ _ _ h => h) (Or.inl ⟨by rfl, fun w hSw => by (try dsimp only at hSw); go_simp⟩) hS ?_
          simp only [Act.put, List.setIfInBounds_toArray, List.set_cons_zero, List.set_cons_succ]
          refine wpAnyH_take (i := 14) (oi := ⟨some 48, _, _, _, _, _⟩) (v := .bool false) rfl (by kernel_rfl) (by kernel_rfl) (by kernel_rfl) (fun _ _ _ h => h) (Or.inl ⟨by rfl, fun w hSw => by (try dsimp only at hSw); go_simp⟩) hS ?_
          simp only [Act.put, List.setIfInBounds_toArray, List.set_cons_zero, List.set_cons_succ]
          refine wpAnyH_done (by kernel_rfl) ?_ _
          clear hS hzl hzl2 hzl3 hzb hz0
          have hE' := E.out
          obtain ⟨_, _, _, A9, ca9, B9, cb9, heq, _, _, _, h8, h9, _, h11⟩ := hE'
          simp only [elV, Value.agg.injEq, Array.mk.injEq, List.cons.injEq, Value.slice.injEq, true_and, and_true] at heq
          obtain ⟨⟨rfl, rfl⟩, rfl, rfl⟩ := heq
          obtain ⟨b, off, c2, n2, k3, u, v, rfl, hb, hSb, y0, y1, y2, y3, y4, hEs⟩ := h11.five hzn
          have hsl : ss.length ≤ 9223372036854775807 := by unfold maxLen at h9; omega
          have hvs := HV.out.sub hzn
          have hat2 := atE_cons (c := c1) (n := n1) (k := k1) (bs := bs) (t := path.drop (p + 1)) (i := (i : Int)) (by omega) (by rw [Int.toNat_natCast]; exact hzn)
          simp only [Int.toNat_natCast] at hat2
          have h99 : atE e path = atE ss[i] (path.drop (p + 1)) := by rw [HAT.out, HDR.out]; exact hat2
          have HAT2 := Lib.hid h99
          clear h99
          generalize hss : ss[i] = es at *
          obtain ⟨c4, n4, k4, bs2, ss2⟩ := es
          obtain ⟨j1, j2, j3, A2, ca2, B2, cb2, heq2, j5, j6, j7, j8, j9, j10, j11⟩ := hEs
          simp only [elV, Value.agg.injEq, Array.mk.injEq, List.cons.injEq, Value.int.injEq, Value.bool.injEq, true_and, and_true] at heq2
          obtain ⟨hcc, rfl, hnn, rfl, rfl⟩ := heq2
          obtain rfl : c2 = c4 := by omega
          obtain rfl : n2 = n4 := by omega
          have HES := Lib.hid (show RdE false (fun i => i ≠ H) wd (.mk c2 n2 k3 bs2 ss2) (elV c2 n2 k3 (.slice A2 bs2.length ca2) (.slice B2 ss2.length cb2)) from ⟨j1, j2, j3, A2, ca2, B2, cb2, rfl, j5, j6, j7, j8, j9, j10, j11⟩)
          have HVS := Lib.hid hvs
          clear j1 j2 j3 j5 j6 j7 j8 j9 j10 j11 h11 hat2 hvs hss
          go_upto_region 11 with fail
          obtain ⟨we, hwe⟩ : ∃ we, wd.drew = we := ⟨_, rfl⟩
          have hbd : Below wd.heap.size wd we := by rw [← hwe]; exact ⟨rfl, rfl, rfl, Nat.le_refl _, fun _ _ => rfl⟩
          have hcd2 : we.cell? ⟨pb, poff + p, none⟩ = some (.int .i64 (i : Int)) := (hbd.cell (p := ⟨pb, poff + p, none⟩) hpbd).trans hcd
          have z0 := (hbd.cell (p := ⟨b, off + i * 5, none⟩) hb).trans y0
          have z1 := (hbd.cell (p := ⟨b, off + i * 5 + 1, none⟩) hb).trans y1
          have z2 := (hbd.cell (p := ⟨b, off + i * 5 + 2, none⟩) hb).trans y2
          have z3 := (hbd.cell (p := ⟨b, off + i * 5 + 3, none⟩) hb).trans y3
          have z4 := (hbd.cell (p := ⟨b, off + i * 5 + 4, none⟩) hb).trans y4
          have HGkq := Lib.hid (HGk.out.below hbd HGk.out.lt)
          have HESq := Lib.hid (HES.out.stay hbd)
          have KTq := Lib.hid (KT.out.below hbd KT.out.lt)
          have Uq := Lib.hid (U.out.stay hbd)
          have Bq := Lib.hid (B.out.trans (hbd.mono B.out.size))
          clear HGk HES KT U B
          have HGk := HGkq
          have HES := HESq
          have KT := KTq
          have U := Uq
          have B := Bq
          clear HGkq HESq KTq Uq Bq hbd
          have hn42 : we.cell? ⟨H, 4, none⟩ = some (.slice (some ⟨b, off, none⟩) ss.length cb) := HGk.out.cell 4
          clear y0 y1 y2 y3 y4 hcd hn4
          refine wp_region_held_drew (S := fun _ => True) (by kernel_rfl) trivial (fun hS => ?_)
          rw [hwe]
          clear hwe
          refine wpAnyH_take (i := 0) (oi := ⟨some 59, _, _, _, _, _⟩) (v := .pointer (some ⟨H, 4, none⟩)) rfl (by kernel_rfl) (by kernel_rfl) (by kernel_rfl) (fun _ _ _ h => h) (Or.inl ⟨by rfl, fun w hSw => by (try dsimp only at hSw); go_simp⟩) hS ?_
          simp only [Act.put, List.setIfInBounds_toArray, List.set_cons_zero, List.set_cons_succ]
          refine wpAnyH_take (i := 2) (oi := ⟨some 61, _, _, _, _, _⟩) (v := .slice (some ⟨pb, poff, none⟩) M d) rfl (by kernel_rfl) (by kernel_rfl) (by kernel_rfl) (fun _ _ _ h => h) (Or.inl ⟨by rfl, fun w hSw => by (try dsimp only at hSw); go_simp⟩) hS ?_
          simp only [Act.put, List.setIfInBounds_toArray, List.set_cons_zero, List.set_cons_succ]
          refine wpAnyH_take (i := 3) (oi := ⟨some 62, _, _, _, _, _⟩) (v := .int .i64 (p : Int)) rfl (by kernel_rfl) (by kernel_rfl) (by kernel_rfl) (fun _ _ _ h => h) (Or.inl ⟨by rfl, fun w hSw => by (try dsimp only at hSw); go_simp⟩) hS ?_
          simp only [Act.put, List.setIfInBounds_toArray, List.set_cons_zero, List.set_cons_succ]
          refine wpAnyH_take (i := 4) (oi := ⟨some 63, _, _, _, _, _⟩) (v := .pointer (some ⟨pb, poff + p, none⟩)) rfl (by kernel_rfl) (by kernel_rfl) (by kernel_rfl) (fun _ _ _ h => h) (Or.inl ⟨by rfl, fun w hSw => by (try dsimp only at hSw); go_simp⟩) hS ?_
          simp only [Act.put, List.setIfInBounds_toArray, List.set_cons_zero, List.set_cons_succ]
          refine wpAnyH_ready (rs := [1, 5]) (by kernel_rfl) (by simp) ?_
          refine AllReadyH.cons (o := _) rfl (fun K hK => ?_) (AllReadyH.cons (o := _) rfl (fun K hK => ?_) (AllReadyH.nil))
          · go_simp
            refine hK.out _ _ (trivial) (fun hS => ?_)
            clear hK K
            (try simp only [Act.put, List.setIfInBounds_toArray, List.set_cons_zero, List.set_cons_succ])
            refine wpAnyH_ready (rs := [5]) (by kernel_rfl) (by simp) ?_
            refine AllReadyH.cons (o := _) rfl (fun K hK => ?_) (AllReadyH.nil)
            go_simp
            refine hK.out _ _ (trivial) (fun hS => ?_)
            clear hK K
            (try simp only [Act.put, List.setIfInBounds_toArray, List.set_cons_zero, List.set_cons_succ])
            refine wpAnyH_take (i := 6) (oi := ⟨some 65, _, _, _, _, _⟩) (v := .pointer (some ⟨b, off + i * 5, none⟩)) rfl (by kernel_rfl) (by kernel_rfl) (by kernel_rfl) (fun _ _ _ h => h) (Or.inl ⟨by rfl, fun w hSw => by (try dsimp only at hSw); go_simp⟩) hS ?_
            simp only [Act.put, List.setIfInBounds_toArray, List.set_cons_zero, List.set_cons_succ]
            refine wpAnyH_ready (rs := [7]) (by kernel_rfl) (by simp) ?_
            refine AllReadyH.cons (o := _) rfl (fun K hK => ?_) (AllReadyH.nil)
            go_simp
            refine hK.out _ _ (trivial) (fun hS => ?_)
            clear hK K
            (try simp only [Act.put, List.setIfInBounds_toArray, List.set_cons_zero, List.set_cons_succ])
            refine wpAnyH_ready (rs := [8]) (by kernel_rfl) (by simp) ?_
            refine AllReadyH.cons (o := _) rfl (fun K hK => ?_) (AllReadyH.nil)
            refine storeE_wp (.tmp 8) (.tmp 66) rfl rfl rfl HGk.out rfl (by simp [Value.oneCell']) ?_
            intro wf V hg
            have hne : ∀ j, j ≠ H → j < we.heap.size → wf.heap[j]? = we.heap[j]? := fun j hj hl => hg.block j hl (by intro e; injection e with e; exact hj e)
            have HF : Hid (AtR w e path H T M y [.int .u8 (p2 : Int), .bool k2, .int .u32 (q2 : Int), .slice P2 l2 r2, .slice Q2 m2 s2] (elV p2 q2 k2 (.slice P2 l2 r2) (.slice Q2 m2 s2)) (.int .i64 ((p + 1 : Nat) : Int)) wf) := Lib.hid
              ⟨p + 1, c2, n2, k3, bs2, ss2, A2, ca2, B2, cb2, hlt, rfl, V, RdE.keep hg.size (fun j hj hl => hne j hj hl) (fun _ h _ => h) _ _ HES.out, HVS.out, HAT2.out, KT.out.only hg (by intro e; injection e with e; exact hTH e), RdE.keep hg.size (fun j hj hl => hne j hj hl) (fun _ h _ => h) _ _ U.out, B.out.grown hg B.out.size (fun k e => by injection e with e; omega)⟩
            refine hK.out _ _ trivial (fun hS => ?_)
            clear hK K V hg hne z0 z1 z2 z3 z4 hcd2 hn42
            (try simp only [Act.put, List.setIfInBounds_toArray, List.set_cons_zero, List.set_cons_succ])
            refine wpAnyH_done (by kernel_rfl) ?_ _
            go_wp2_with fail
            exact ⟨HF.out, by simp [intOf]; omega⟩
          · go_simp
            refine hK.out _ _ (trivial) (fun hS => ?_)
            clear hK K
            (try simp only [Act.put, List.setIfInBounds_toArray, List.set_cons_zero, List.set_cons_succ])
            refine wpAnyH_ready (rs := [1]) (by kernel_rfl) (by simp) ?_
            refine AllReadyH.cons (o := _) rfl (fun K hK => ?_) (AllReadyH.nil)
            go_simp
            refine hK.out _ _ (trivial) (fun hS => ?_)
            clear hK K
            (try simp only [Act.put, List.setIfInBounds_toArray, List.set_cons_zero, List.set_cons_succ])
            refine wpAnyH_take (i := 6) (oi := ⟨some 65, _, _, _, _, _⟩) (v := .pointer (some ⟨b, off + i * 5, none⟩)) rfl (by kernel_rfl) (by kernel_rfl) (by kernel_rfl) (fun _ _ _ h => h) (Or.inl ⟨by rfl, fun w hSw => by (try dsimp only at hSw); go_simp⟩) hS ?_
            simp only [Act.put, List.setIfInBounds_toArray, List.set_cons_zero, List.set_cons_succ]
            refine wpAnyH_ready (rs := [7]) (by kernel_rfl) (by simp) ?_
            refine AllReadyH.cons (o := _) rfl (fun K hK => ?_) (AllReadyH.nil)
            go_simp
            refine hK.out _ _ (trivial) (fun hS => ?_)
            clear hK K
            (try simp only [Act.put, List.setIfInBounds_toArray, List.set_cons_zero, List.set_cons_succ])
            refine wpAnyH_ready (rs := [8]) (by kernel_rfl) (by simp) ?_
            refine AllReadyH.cons (o := _) rfl (fun K hK => ?_) (AllReadyH.nil)
            refine storeE_wp (.tmp 8) (.tmp 66) rfl rfl rfl HGk.out rfl (by simp [Value.oneCell']) ?_
            intro wf V hg
            have hne : ∀ j, j ≠ H → j < we.heap.size → wf.heap[j]? = we.heap[j]? := fun j hj hl => hg.block j hl (by intro e; injection e with e; exact hj e)
            have HF : Hid (AtR w e path H T M y [.int .u8 (p2 : Int), .bool k2, .int .u32 (q2 : Int), .slice P2 l2 r2, .slice Q2 m2 s2] (elV p2 q2 k2 (.slice P2 l2 r2) (.slice Q2 m2 s2)) (.int .i64 ((p + 1 : Nat) : Int)) wf) := Lib.hid
              ⟨p + 1, c2, n2, k3, bs2, ss2, A2, ca2, B2, cb2, hlt, rfl, V, RdE.keep hg.size (fun j hj hl => hne j hj hl) (fun _ h _ => h) _ _ HES.out, HVS.out, HAT2.out, KT.out.only hg (by intro e; injection e with e; exact hTH e), RdE.keep hg.size (fun j hj hl => hne j hj hl) (fun _ h _ => h) _ _ U.out, B.out.grown hg B.out.size (fun k e => by injection e with e; omega)⟩
            refine hK.out _ _ trivial (fun hS => ?_)
            clear hK K V hg hne z0 z1 z2 z3 z4 hcd2 hn42
            (try simp only [Act.put, List.setIfInBounds_toArray, List.set_cons_zero, List.set_cons_succ])
            refine wpAnyH_done (by kernel_rfl) ?_ _
            go_wp2_with fail
            exact ⟨HF.out, by simp [intOf]; omega⟩
    · obtain rfl : p = M := by omega
      obtain ⟨hf, hyz⟩ := HY1.out _ (show atE e path = some (.mk c1 n1 k1 bs ss) by rw [HAT.out, List.drop_of_length_le (Nat.le_of_eq HM.out), atE_nil])
      have HYZ := Lib.hid hyz
      have hfb : ((f : Int) != 0) = false := by simp; omega
      have hfb2 : ((f : Int) == 0) = true := by simp; omega
      rw [hyz] at U
      clear hyz HY1 HY2 HAT RP R H0 hf
      obtain ⟨q, hq⟩ : ∃ q, manE (.mk c1 n1 k1 bs ss) 50 = q := ⟨_, rfl⟩
      have hq40 : q ≤ 40 := by have := HV.out.2.2.2; rw [← hq, manE_eq]; omega
      have HQ := Lib.hid hq
      have hqb : decide ((50 : Int) < (q : Int)) = false := by simp; omega
      clear hq
      obtain ⟨x0, x1, x2, x3, x4, xz⟩ := HGk.out.five
      obtain ⟨y0, y1, y2, y3, y4, yz⟩ := KT.out.five
      go_wp2_with fail
      clear x0 x1 x2 x3 x4 xz
      clear y0 y1 y2 y3 y4 yz
      refine (many_any _ _ 50 _ (by decide) U.out).mono ?_
      rintro r w7 ⟨rfl, hb⟩
      rw [HQ.out]
      have HGkq := Lib.hid (HGk.out.below hb HGk.out.lt)
      have Eq := Lib.hid (E.out.stay hb)
      have KTq := Lib.hid (KT.out.below hb KT.out.lt)
      have Uq := Lib.hid (U.out.stay hb)
      have Bq := Lib.hid (B.out.trans (hb.mono B.out.size))
      clear HGk E KT U B
      have HGk := HGkq
      have E := Eq
      have KT := KTq
      have U := Uq
      have B := Bq
      clear HGkq Eq KTq Uq Bq hb
      obtain ⟨x0, x1, x2, x3, x4, xz⟩ := HGk.out.five
      obtain ⟨y0, y1, y2, y3, y4, yz⟩ := KT.out.five
      go_wp2_with fail
      clear x0 x1 x2 x3 x4 xz
      clear y0 y1 y2 y3 y4 yz
      refine (rsame_any _ _ _ _ U.out E.out).mono ?_
      rintro r w8 ⟨rfl, hb⟩
      have HGkq := Lib.hid (HGk.out.below hb HGk.out.lt)
      have Eq := Lib.hid (E.out.stay hb)
      have KTq := Lib.hid (KT.out.below hb KT.out.lt)
      have Uq := Lib.hid (U.out.stay hb)
      have Bq := Lib.hid (B.out.trans (hb.mono B.out.size))
      clear HGk E KT U B
      have HGk := HGkq
      have E := Eq
      have KT := KTq
      have U := Uq
      have B := Bq
      clear HGkq Eq KTq Uq Bq hb
      obtain ⟨x0, x1, x2, x3, x4, xz⟩ := HGk.out.five
      obtain ⟨y0, y1, y2, y3, y4, yz⟩ := KT.out.five
      go_wp2_with fail
      clear x0 x1 x2 x3 x4 xz
      clear y0 y1 y2 y3 y4 yz
      refine (exact_any _ _ _ U.out).mono ?_
      rintro r w9 ⟨rfl, hb⟩
      have HGkq := Lib.hid (HGk.out.below hb HGk.out.lt)
      have Eq := Lib.hid (E.out.stay hb)
      have KTq := Lib.hid (KT.out.below hb KT.out.lt)
      have Uq := Lib.hid (U.out.stay hb)
      have Bq := Lib.hid (B.out.trans (hb.mono B.out.size))
      clear HGk E KT U B
      have HGk := HGkq
      have E := Eq
      have KT := KTq
      have U := Uq
      have B := Bq
      clear HGkq Eq KTq Uq Bq hb
      clear KT U
      obtain ⟨x0, x1, x2, x3, x4, xz⟩ := HGk.out.five
      go_upto_region 16 with fail
      clear x0 x1 x2 x3 x4 xz
      obtain ⟨bl, hbl⟩ : ∃ bl, bs.length = bl := ⟨_, rfl⟩
      have HBL := Lib.hid hbl
      rw [hbl] at HGk E ⊢
      clear hbl
      have hcn := HV.out.2.2.2
      rw [cntE] at hcn
      have hen := enc_parts HV.out
      have hvl := (val_enc HV.out.1 HV.out.2.1 HV.out.2.2.1).2.2.2
      have hdp := HV.out.2.1
      rw [depE] at hdp
      have H1 : Hid (PaR w H c1 n1 k1 A1 bl ca B1 cb bs ss (.int .i64 (bl : Int)) (.int .i64 1) (.int .i64 0) (.int .i64 0) w9) := Lib.hid ⟨0, Nat.zero_le _, rfl, by simp [encS], by simp [cntS], by simp [depS], HGk.out, E.out, B.out⟩
      have HCN := Lib.hid hcn
      have HEN := Lib.hid hen
      have HVL := Lib.hid hvl
      have HDP := Lib.hid hdp
      clear HGk E B hcn hen hvl hdp
      go_loopw [10, 11, 12, 13] (fun s m q i wr => PaR w H c1 n1 k1 A1 bl ca B1 cb bs ss s m q i wr) (fun _ _ _ i _ => ss.length - (intOf i).toNat)
      case atStart => exact H1.out
      case round =>
        obtain ⟨p3, hp3, rfl, rfl, rfl, rfl, hG, hE, hB⟩ := hrel
        have HGk := Lib.hid hG
        have E := Lib.hid hE
        have B := Lib.hid hB
        clear hG hE hB
        obtain ⟨sz, hsz⟩ : ∃ sz, bl + (encS (ss.take p3)).length = sz := ⟨_, rfl⟩
        obtain ⟨cn, hcn⟩ : ∃ cn, 1 + cntS (ss.take p3) = cn := ⟨_, rfl⟩
        obtain ⟨dp, hdp⟩ : ∃ dp, depS (ss.take p3) = dp := ⟨_, rfl⟩
        rw [hsz, hcn, hdp]
        have HSZ := Lib.hid hsz
        have HC2 := Lib.hid hcn
        have HD2 := Lib.hid hdp
        clear hsz hcn hdp
        obtain ⟨L, hL⟩ : ∃ L, ss.length = L := ⟨_, rfl⟩
        have HLL := Lib.hid hL
        rw [hL] at HGk E hp3 ⊢
        clear hL
        obtain ⟨x0, x1, x2, x3, x4, xz⟩ := HGk.out.five
        by_cases hlt2 : p3 < L
        · have hpl : p3 < ss.length := by rw [HLL.out]; exact hlt2
          have hE' := E.out
          obtain ⟨_, _, _, A9, ca9, B9, cb9, heq, _, _, _, h8, h9, _, h11⟩ := hE'
          simp only [elV, Value.agg.injEq, Array.mk.injEq, List.cons.injEq, Value.slice.injEq, true_and, and_true] at heq
          obtain ⟨⟨rfl, hqa, rfl⟩, rfl, hqb2, rfl⟩ := heq
          clear hqa hqb2
          obtain ⟨b, off, c2, n2, k3, A2, l3, r3, B2, m3, s3, rfl, hb, hSb, y0, y1, y2, y3, y4, hEs⟩ := h11.fives hpl
          have hvs := HV.out.sub hpl
          have hs1 := encS_take hpl
          have hs2 := cntS_take hpl
          have hs3 := depS_take hpl
          have hs4 := encS_part hpl
          have hs5 := cntE_mem (List.getElem_mem hpl)
          have hs6 := depE_mem (List.getElem_mem hpl)
          generalize ss[p3] = es at *
          have ES := Lib.hid hEs
          have HVS := Lib.hid hvs
          obtain ⟨z1, hz1⟩ : ∃ z1, (encE es).length = z1 := ⟨_, rfl⟩
          obtain ⟨z2, hz2⟩ : ∃ z2, cntE es = z2 := ⟨_, rfl⟩
          obtain ⟨z3, hz3⟩ : ∃ z3, depE es = z3 := ⟨_, rfl⟩
          have HZ1 := Lib.hid (hvs.siz.trans hz1)
          have HZ2 := Lib.hid (hvs.cnt.trans hz2)
          have HZ3 := Lib.hid (hvs.dep.trans hz3)
          have HN1 := Lib.hid (show bl + (encS (ss.take (p3 + 1))).length = sz + z1 by have := HSZ.out; omega)
          have HN2 := Lib.hid (show 1 + cntS (ss.take (p3 + 1)) = cn + z2 by have := HC2.out; omega)
          have HN3 := Lib.hid (show depS (ss.take (p3 + 1)) = max dp z3 by have := HD2.out; omega)
          have hb1 : sz + z1 ≤ 12540 := by have := HSZ.out; have := HEN.out; have := HVL.out; have := HBL.out; omega
          have hb2 : cn ≤ 41 := by have := HC2.out; have := cntS_append (ss.take p3) (ss.drop p3); rw [List.take_append_drop] at this; have := HCN.out; omega
          have hb3 : z2 ≤ 40 := by have := HCN.out; omega
          have hb4 : z3 ≤ 16 := by have := HDP.out; omega
          have hb5 : dp ≤ 16 := by
            have h1 := depS_append (ss.take p3) (ss.drop p3)
            rw [List.take_append_drop] at h1
            have := HD2.out; have := HDP.out; omega
          have HE2 : Hid (PaR w H c1 n1 k1 A1 bl ca (some ⟨b, off, none⟩) cb bs ss (.int .i64 ((sz + z1 : Nat) : Int)) (.int .i64 ((cn + z2 : Nat) : Int)) (.int .i64 ((max dp z3 : Nat) : Int)) (.int .i64 ((p3 + 1 : Nat) : Int)) wr → True) := Lib.hid (fun _ => trivial)
          clear hvs hs1 hs2 hs3 hs4 hs5 hs6 hz1 hz2 hz3 hEs h11 HE2 x0 x1 x2 x3 x4 xz
          have hL7 : L ≤ 9223372036854775807 := by unfold maxLen at h9; have := HLL.out; omega
          have YB := Lib.hid (⟨hb, y0, y1, y2, y3, y4⟩ : b < wr.heap.size ∧ wr.cell? ⟨b, off + p3 * 5, none⟩ = some (.int .u8 (c2 : Int)) ∧ wr.cell? ⟨b, off + p3 * 5 + 1, none⟩ = some (.bool k3) ∧ wr.cell? ⟨b, off + p3 * 5 + 2, none⟩ = some (.int .u32 (n2 : Int)) ∧ wr.cell? ⟨b, off + p3 * 5 + 3, none⟩ = some (.slice A2 l3 r3) ∧ wr.cell? ⟨b, off + p3 * 5 + 4, none⟩ = some (.slice B2 m3 s3))
          clear hb y0 y1 y2 y3 y4
          obtain ⟨hyb, y0, y1, y2, y3, y4⟩ := YB.out
          obtain ⟨x0, x1, x2, x3, x4, xz⟩ := HGk.out.five
          go_wp2_with fail
          clear x0 x1 x2 x3 x4 xz
          clear hyb y0 y1 y2 y3 y4
          refine (esize_any _ _ _ (by have := HVS.out.2.1; omega) ES.out (bnd_con HVS.out.2.2.1)).mono ?_
          rintro r wn ⟨rfl, hb⟩
          rw [HZ1.out]
          have YBq := Lib.hid (⟨Nat.lt_of_lt_of_le YB.out.1 hb.size, (hb.cell (p := ⟨b, off + p3 * 5, none⟩) YB.out.1).trans YB.out.2.1, (hb.cell (p := ⟨b, off + p3 * 5 + 1, none⟩) YB.out.1).trans YB.out.2.2.1, (hb.cell (p := ⟨b, off + p3 * 5 + 2, none⟩) YB.out.1).trans YB.out.2.2.2.1, (hb.cell (p := ⟨b, off + p3 * 5 + 3, none⟩) YB.out.1).trans YB.out.2.2.2.2.1, (hb.cell (p := ⟨b, off + p3 * 5 + 4, none⟩) YB.out.1).trans YB.out.2.2.2.2.2⟩ : b < wn.heap.size ∧ wn.cell? ⟨b, off + p3 * 5, none⟩ = some (.int .u8 (c2 : Int)) ∧ wn.cell? ⟨b, off + p3 * 5 + 1, none⟩ = some (.bool k3) ∧ wn.cell? ⟨b, off + p3 * 5 + 2, none⟩ = some (.int .u32 (n2 : Int)) ∧ wn.cell? ⟨b, off + p3 * 5 + 3, none⟩ = some (.slice A2 l3 r3) ∧ wn.cell? ⟨b, off + p3 * 5 + 4, none⟩ = some (.slice B2 m3 s3))
          clear YB
          have YB := YBq
          clear YBq
          have HGkq := Lib.hid (HGk.out.below hb HGk.out.lt)
          have Eq := Lib.hid (E.out.stay hb)
          have ESq := Lib.hid (ES.out.stay hb)
          have Bq := Lib.hid (B.out.trans (hb.mono B.out.size))
          clear HGk E ES B
          have HGk := HGkq
          have E := Eq
          have ES := ESq
          have B := Bq
          clear HGkq Eq ESq Bq hb
          obtain ⟨hyb, y0, y1, y2, y3, y4⟩ := YB.out
          obtain ⟨x0, x1, x2, x3, x4, xz⟩ := HGk.out.five
          go_wp2_with fail
          clear x0 x1 x2 x3 x4 xz
          clear hyb y0 y1 y2 y3 y4
          refine (ecount_any _ _ _ (by have := HVS.out.2.1; omega) ES.out).mono ?_
          rintro r wn ⟨rfl, hb⟩
          rw [HZ2.out]
          have YBq := Lib.hid (⟨Nat.lt_of_lt_of_le YB.out.1 hb.size, (hb.cell (p := ⟨b, off + p3 * 5, none⟩) YB.out.1).trans YB.out.2.1, (hb.cell (p := ⟨b, off + p3 * 5 + 1, none⟩) YB.out.1).trans YB.out.2.2.1, (hb.cell (p := ⟨b, off + p3 * 5 + 2, none⟩) YB.out.1).trans YB.out.2.2.2.1, (hb.cell (p := ⟨b, off + p3 * 5 + 3, none⟩) YB.out.1).trans YB.out.2.2.2.2.1, (hb.cell (p := ⟨b, off + p3 * 5 + 4, none⟩) YB.out.1).trans YB.out.2.2.2.2.2⟩ : b < wn.heap.size ∧ wn.cell? ⟨b, off + p3 * 5, none⟩ = some (.int .u8 (c2 : Int)) ∧ wn.cell? ⟨b, off + p3 * 5 + 1, none⟩ = some (.bool k3) ∧ wn.cell? ⟨b, off + p3 * 5 + 2, none⟩ = some (.int .u32 (n2 : Int)) ∧ wn.cell? ⟨b, off + p3 * 5 + 3, none⟩ = some (.slice A2 l3 r3) ∧ wn.cell? ⟨b, off + p3 * 5 + 4, none⟩ = some (.slice B2 m3 s3))
          clear YB
          have YB := YBq
          clear YBq
          have HGkq := Lib.hid (HGk.out.below hb HGk.out.lt)
          have Eq := Lib.hid (E.out.stay hb)
          have ESq := Lib.hid (ES.out.stay hb)
          have Bq := Lib.hid (B.out.trans (hb.mono B.out.size))
          clear HGk E ES B
          have HGk := HGkq
          have E := Eq
          have ES := ESq
          have B := Bq
          clear HGkq Eq ESq Bq hb
          obtain ⟨hyb, y0, y1, y2, y3, y4⟩ := YB.out
          obtain ⟨x0, x1, x2, x3, x4, xz⟩ := HGk.out.five
          go_wp2_with fail
          clear x0 x1 x2 x3 x4 xz
          clear hyb y0 y1 y2 y3 y4
          refine (edepth_any _ _ _ (by have := HVS.out.2.1; omega) ES.out).mono ?_
          rintro r wn ⟨rfl, hb⟩
          rw [HZ3.out]
          have YBq := Lib.hid (⟨Nat.lt_of_lt_of_le YB.out.1 hb.size, (hb.cell (p := ⟨b, off + p3 * 5, none⟩) YB.out.1).trans YB.out.2.1, (hb.cell (p := ⟨b, off + p3 * 5 + 1, none⟩) YB.out.1).trans YB.out.2.2.1, (hb.cell (p := ⟨b, off + p3 * 5 + 2, none⟩) YB.out.1).trans YB.out.2.2.2.1, (hb.cell (p := ⟨b, off + p3 * 5 + 3, none⟩) YB.out.1).trans YB.out.2.2.2.2.1, (hb.cell (p := ⟨b, off + p3 * 5 + 4, none⟩) YB.out.1).trans YB.out.2.2.2.2.2⟩ : b < wn.heap.size ∧ wn.cell? ⟨b, off + p3 * 5, none⟩ = some (.int .u8 (c2 : Int)) ∧ wn.cell? ⟨b, off + p3 * 5 + 1, none⟩ = some (.bool k3) ∧ wn.cell? ⟨b, off + p3 * 5 + 2, none⟩ = some (.int .u32 (n2 : Int)) ∧ wn.cell? ⟨b, off + p3 * 5 + 3, none⟩ = some (.slice A2 l3 r3) ∧ wn.cell? ⟨b, off + p3 * 5 + 4, none⟩ = some (.slice B2 m3 s3))
          clear YB
          have YB := YBq
          clear YBq
          have HGkq := Lib.hid (HGk.out.below hb HGk.out.lt)
          have Eq := Lib.hid (E.out.stay hb)
          have ESq := Lib.hid (ES.out.stay hb)
          have Bq := Lib.hid (B.out.trans (hb.mono B.out.size))
          clear HGk E ES B
          have HGk := HGkq
          have E := Eq
          have ES := ESq
          have B := Bq
          clear HGkq Eq ESq Bq hb
          have hmx : max (dp : Int) (z3 : Int) = ((max dp z3 : Nat) : Int) := by omega
          have HFIN : Hid (PaR w H c1 n1 k1 A1 bl ca (some ⟨b, off, none⟩) cb bs ss (.int .i64 ((sz : Int) + (z1 : Int))) (.int .i64 ((cn : Int) + (z2 : Int))) (.int .i64 ((max dp z3 : Nat) : Int)) (.int .i64 ((p3 : Int) + 1)) wn) := Lib.hid ⟨p3 + 1, hpl, by simp, by rw [HN1.out]; simp, by rw [HN2.out]; simp, by rw [HN3.out], by rw [HLL.out]; exact HGk.out, by rw [HLL.out]; exact E.out, B.out⟩
          clear YB
          go_wp2_with fail
          exact ⟨HFIN.out, by simp [intOf]; omega⟩
        · obtain rfl : p3 = L := by omega
          have hsz1 : sz + 2 ≤ (encE (.mk c1 n1 k1 bs ss)).length ∧ (encE (.mk c1 n1 k1 bs ss)).length ≤ sz + 9 := by
            have h1 := HSZ.out
            rw [List.take_of_length_le (Nat.le_of_eq HLL.out)] at h1
            have := HEN.out; have := HBL.out; omega
          have hcn1 : cntE (.mk c1 n1 k1 bs ss) = cn := by
            have h1 := HC2.out
            rw [List.take_of_length_le (Nat.le_of_eq HLL.out)] at h1
            rw [cntE]; exact h1
          have hdp1 : depE (.mk c1 n1 k1 bs ss) = dp + 1 := by
            have h1 := HD2.out
            rw [List.take_of_length_le (Nat.le_of_eq HLL.out)] at h1
            rw [depE, h1]; try omega
          obtain ⟨ln, hln⟩ : ∃ ln, (encE (.mk c1 n1 k1 bs ss)).length = ln := ⟨_, rfl⟩
          rw [hln] at hsz1
          have HZ1 := Lib.hid (HV.out.siz.trans hln)
          have HZ2 := Lib.hid (HV.out.cnt.trans hcn1)
          have HZ3 := Lib.hid (HV.out.dep.trans hdp1)
          have hlm : ln ≤ 12540 := by have := HVL.out; omega
          have hcm : cn ≤ 40 := by have := HV.out.2.2.2; omega
          have hdm : dp ≤ 16 := by have := HV.out.2.1; omega
          obtain ⟨hsa, hsb⟩ := hsz1
          have hga : decide ((sz : Int) + 2 ≤ (ln : Int)) = true := by simp; omega
          have hgb : decide ((ln : Int) ≤ (sz : Int) + 9) = true := by simp; omega
          clear hln hcn1 hdp1
          go_wp2_with fail
          clear x0 x1 x2 x3 x4 xz
          refine (esize_any _ _ _ (by have := HV.out.2.1; omega) E.out (bnd_con HV.out.2.2.1)).mono ?_
          rintro r wn ⟨rfl, hb⟩
          rw [HZ1.out]
          have HGkq := Lib.hid (HGk.out.below hb HGk.out.lt)
          have Eq := Lib.hid (E.out.stay hb)
          have Bq := Lib.hid (B.out.trans (hb.mono B.out.size))
          clear HGk E B
          have HGk := HGkq
          have E := Eq
          have B := Bq
          clear HGkq Eq Bq hb
          obtain ⟨x0, x1, x2, x3, x4, xz⟩ := HGk.out.five
          go_wp2_with fail
          clear x0 x1 x2 x3 x4 xz
          refine (ecount_any _ _ _ (by have := HV.out.2.1; omega) E.out).mono ?_
          rintro r wn ⟨rfl, hb⟩
          rw [HZ2.out]
          have HGkq := Lib.hid (HGk.out.below hb HGk.out.lt)
          have Eq := Lib.hid (E.out.stay hb)
          have Bq := Lib.hid (B.out.trans (hb.mono B.out.size))
          clear HGk E B
          have HGk := HGkq
          have E := Eq
          have B := Bq
          clear HGkq Eq Bq hb
          obtain ⟨x0, x1, x2, x3, x4, xz⟩ := HGk.out.five
          have hcc : ((cn : Int) == (cn : Int)) = true := by simp
          go_wp2_with fail
          clear x0 x1 x2 x3 x4 xz
          refine (edepth_any _ _ _ (by have := HV.out.2.1; omega) E.out).mono ?_
          rintro r wn ⟨rfl, hb⟩
          rw [HZ3.out]
          have Bq := Lib.hid (B.out.trans (hb.mono B.out.size))
          clear B
          have B := Bq
          clear Bq hb
          have hdd : (((dp + 1 : Nat) : Int) == (dp : Int) + 1) = true := by simp
          go_wp2_with fail
          refine (lives_any _).mono ?_
          rintro r wn ⟨rfl, hb⟩
          have Bq := Lib.hid (B.out.trans (hb.mono B.out.size))
          clear B
          have B := Bq
          clear Bq hb
          go_wp2_with fail
          go_ret
          exact ⟨rfl, B.out⟩

open Go.ChangeShapes Go.WideShapes Go.ChangeAt
set_option maxRecDepth 100000 in
theorem elementsAt_lifted (os : Os) (started : os.Started) (H : Type) (enc : TypeId × Value → H) :
    ReturnsInHanded {} Try.checked os 8 .any (Rows.elementsAtSpec.pre6 enc Try.prog Try.f8 Rows.elementsAtRow.domain false) (Rows.elementsAtSpec.post enc Try.prog Try.f8 false true false false) := by
  refine returnsInHanded_of_change (C := Try.checked) x_own started (by kernel_rfl) Try.func8
    (ChangeSpec.witness6 (enc := enc) (C := Try.checked) false ⟨#[], #[.agg #[.slice none 0 0], .slice none 0 0], []⟩ 8 (by kernel_rfl) (by kernel_rfl) (by kernel_rfl) (by kernel_rfl)) ?_
  intro W base args ds gs before hval0 hW hcnd _
  have hval : ∀ (j : Nat) t v, Try.f8.params[j]? = some t → args[j]? = some v → Value.okWide Try.prog W .any base t v := hval0
  have hW' := hW
  obtain ⟨p, q, hA0, hV, rfl, hfz, hnd⟩ := hW
  have hA : DataW.TrodAll enc Try.prog W 0 (fun _ => true) true Try.f8.params.toList args.toList ds p := hA0
  rw [Try.params8] at hA hval
  obtain ⟨v0, v1, d0, d1, p0, p1, rfl, rfl, rfl, h0, h1⟩ := trodAll_two hA
  obtain ⟨rfl, rfl⟩ := trodVars_none hV
  obtain ⟨A, gs, c, rfl, hA2, hlc, hm⟩ := open_E (hval 0 _ v0 rfl rfl) h0
  obtain ⟨P, path, d, rfl, hP⟩ := open_path (hval 1 _ v1 rfl rfl) h1
  clear hA0 hval0
  refine (at_walk A gs gs.length c P path path.length d W hA2 rfl hlc hm hP rfl).mono fun e W' ⟨he, hb⟩ => ?_
  subst he
  exact ⟨_, rfl, law_post (tb := 4) x_laid (by decide +kernel) rfl rfl (by kernel_rfl) Try.underlying4 hW' hb⟩

/-- The statement. -/
theorem elementsAt_holds : Rows.ElementsAtSaid :=
  OpenClaim.holds_of_wide 8 Try.f8 rfl rfl rfl rfl rfl rfl rfl ⟨rfl, rfl, rfl, rfl, rfl⟩ rfl rfl rfl rfl rfl (by kernel_rfl) Try.func8 (by kernel_rfl)
    (of_decide_eq_true (by kernel_rfl)) (by unfold Func.isWrapper; first | (rw [if_pos (by decide +kernel)]; kernel_rfl) | (rw [if_neg (by decide +kernel)]; exact ⟨rfl, rfl⟩))
    (fun os started H enc _ => elementsAt_lifted os started H enc)
end Go.Proofs.Ytgdjgahmnnjeeaa
