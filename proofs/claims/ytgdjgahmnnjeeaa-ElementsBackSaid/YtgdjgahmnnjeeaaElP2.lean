/-
  Layer 4, the statement ElementsBack: Get returns the element that was put, and Next does so whatever bytes follow; the examples of the chapter hold.
  Conditions: none.
-/
import Derived.Test.YtgdjgahmnnjeeaaElOh
import Derived.Test.YtgdjgahmnnjeeaaElPu
namespace Go.Proofs.Ytgdjgahmnnjeeaa
open Go.RowKit

theorem wpAnyH_mono {P : Program} {md : Region.Mode} {ops : Array Oper} {Q : Exit → Act → World → Prop} {S S' : World → Prop} (hs : ∀ w, S' w → S w) :
    ∀ (fuel : Nat) (listed : Array Bool) (a : Act) (w : World), wpAnyH P md ops Q S' fuel listed a w → wpAnyH P md ops Q S fuel listed a w
  | 0, _, _, _, h => h
  | fuel + 1, _, _, _, h => ⟨h.1, fun i hi => wpOp_mono (fun a' w' h' => ⟨hs _ h'.1, wpAnyH_mono hs fuel _ a' w' h'.2⟩) (h.2 i hi)⟩
/-- The walk's step at a guarded builtin append whose guard says yes. -/
theorem wpList_app2 {P : Program} {w : World} {ops : Array Oper} {rest : List Oper} {o : Oper} {a : Act} {Q : Exit → Act → World → Prop} (hw : Region.wanted o (yielded ops a.tmps) = true) (s x : Operand) (t1 t2 : TypeId)
    (ho : o.op = .call { callee := .builtin .append, args := #[s, x], argTypes := #[t1, t2] }) (u v : Value) (hs : a.eval s = u) (hx : a.eval x = v) {r : Value} {w1 : World}
    (hrun : (Builtin.append_ #[t1, t2] o.type #[u, v]).run P w = .ok r w1) (h : wpList P ops Q rest (a.put o.dst r) w1) : wpList P ops Q (o :: rest) a w := by
  refine BigFrame.wpList_want hw fun K hK => ?_
  have hK' := hK _ _ h
  unfold Oper.wp execOp
  simp only [ho, resolve, invoke, builtin, Sem.run_bind, Sem.run_pure, Result.andThen_ok, List.map_toArray, List.map_cons, List.map_nil, hs, hx, hrun]
  exact hK'
theorem nxX_back {e : El} (hv : valE e) (hd : depE e ≤ 16) (hc : cntE e ≤ 40) (hl : (encE e).length ≤ 12540) (rest : List Nat) (hr : rest.length ≤ 20) : ∃ b, nextX (encE e ++ rest) = .ok e (encE e).length b := by
  refine ⟨0 + cntE e, ?_⟩
  unfold nextX
  rw [if_neg (by rw [List.length_append]; omega)]
  exact nx_back e 17 1 0 rest hv (by omega) (by omega) (by omega) (by omega)
theorem getX_back {e : El} (hv : valE e) (hd : depE e ≤ 16) (hc : cntE e ≤ 40) (hl : (encE e).length ≤ 12540) : resX (getX (encE e)) = (e, 0, 0) := by
  obtain ⟨b, h⟩ := nxX_back hv hd hc hl [] (by simp)
  rw [List.append_nil] at h
  unfold getX
  rw [h]
  dsimp only
  rw [if_neg (by omega)]
  rfl
theorem getX_trail {e : El} (hv : valE e) (hd : depE e ≤ 16) (hc : cntE e ≤ 40) (hl : (encE e).length ≤ 12540) (rest : List Nat) (hr : rest.length ≤ 20) (h0 : 0 < rest.length) : resX (getX (encE e ++ rest)) = (zE, (encE e).length, 8) := by
  obtain ⟨b, h⟩ := nxX_back hv hd hc hl rest hr
  unfold getX
  rw [h]
  dsimp only
  rw [if_pos (by rw [List.length_append]; omega)]
  rfl
/-- 'append(append([]byte{}, l...), m...)'. -/
theorem cat_two {w : World} {A B : Option Addr} {l m : List Nat} (hA : Rb w A l) (hB : Rb w B m) (hl : l.length ≤ 12540) (hm : m.length ≤ 20) (c d L M : Nat) (hL : l.length = L) (hM : m.length = M) :
    ∃ v2 w2 C k w3, (Builtin.append_ #[26, 26] 26 #[.slice (some ⟨w.heap.size, 0, none⟩) 0 0, .slice A L c]).run Try.prog (w.alloc (.cells #[] 5)) = .ok v2 w2 ∧
      (Builtin.append_ #[26, 26] 26 #[v2, .slice B M d]).run Try.prog w2 = .ok (.slice C (L + M) k) w3 ∧ Rb w3 C (l ++ m) ∧ L + M ≤ k ∧ k ≤ maxLen ∧ Below w.heap.size w w3 ∧ ((C = none ∧ k = 0) ∨ ∃ ba off, C = some ⟨ba, off, none⟩ ∧ ba < w3.heap.size) := by
  have hb1 := bel1 w (.cells #[] 5)
  have hA1 := hA.below hb1
  have hB1 := hB.below hb1
  obtain ⟨v2, w2, r1, o1, b1⟩ := Len.app_src (P := Try.prog) (t := 26) (ty := 26) Try.underlying26 info5 rfl (own_empty8 w) (c := c) hA1.1 (cs8_ones l) (by simp) (by rw [cs8_length, List.length_nil]; omega) (by rw [cs8_length, List.length_nil]; unfold maxLen; omega)
  rw [cs8_length, hL] at r1
  rw [List.nil_append] at o1
  have hB2 : Rb w2 B m := hB.below (((Below.refl w.heap.size w).alloc (Nat.le_refl _) _).trans b1)
  obtain ⟨v3, w3, r2, o2, b2⟩ := Len.app_src (P := Try.prog) (t := 26) (ty := 26) Try.underlying26 info5 rfl o1 (c := d) hB2.1 (cs8_ones m) (by have := b1.size; simp at this; omega) (by rw [cs8_length, cs8_length]; omega) (by rw [cs8_length, cs8_length]; unfold maxLen; omega)
  rw [cs8_length, hM] at r2
  have hlen : (cs8 l ++ cs8 m).length = L + M := by rw [List.length_append, cs8_length, cs8_length, hL, hM]
  obtain ⟨C, k, rfl, h1, h2, h3⟩ := own_open o2
  rw [hlen] at r2 h2
  refine ⟨v2, w2, C, k, w3, r1, r2, ⟨by rw [← cs8_cat]; exact h1, hA.2.append hB.2⟩, h2, h3, (((Below.refl w.heap.size w).alloc (Nat.le_refl _) _).trans b1).trans b2, ?_⟩
  rcases o2.2 with ⟨e, _⟩ | ⟨g, cap, cur, e, hg, hh, _⟩
  · injection e with e1 e2 e3
    exact .inl ⟨e1, e3⟩
  · injection e with e1 e2 e3
    refine .inr ⟨g, 0, e1, ?_⟩
    rcases Nat.lt_or_ge g w3.heap.size with h | h
    · exact h
    · rw [Array.getElem?_eq_none h] at hh; cases hh

set_option maxHeartbeats 1000000 in
set_option maxRecDepth 100000 in
theorem back_long (A : Option Addr) (N c : Nat) (P : Option Addr) (M d : Nat) (w : World) (hM : 20 < M) :
    Calls Try.prog 4 #[.agg #[.slice A N c], .slice P M d] w fun e w' => e = .returned (.bool true) ∧ Below w.heap.size w w' := by
  have HB := Lib.hid (bel1 w (.cells #[.slice A N c] 47))
  go_enter Try.func4, Try.ntmps4
  go_wp2_with fail
  refine (lives_any _).mono ?_
  rintro r w7 ⟨rfl, hb⟩
  have HB7 := Lib.hid (HB.out.trans (hb.mono HB.out.size))
  clear hb HB
  go_wp2_with fail
  go_ret
  exact ⟨rfl, HB7.out⟩
set_option linter.unusedSimpArgs false in
set_option maxHeartbeats 8000000 in
set_option maxRecDepth 100000 in
theorem back_walk (A : Option Addr) (gs : List Gd) (N c : Nat) (P : Option Addr) (m : List Nat) (M d : Nat) (w : World) (hA : RdG w A gs) (hN : gs.length = N) (hc : N ≤ c) (hm : c ≤ maxLen) (hP : Rb w P m) (hM : m.length = M) :
    Calls Try.prog 4 #[.agg #[.slice A N c], .slice P M d] w fun e w' => e = .returned (.bool true) ∧ Below w.heap.size w w' := by
  by_cases hM20 : 20 < M
  · exact back_long A N c P M d w hM20
  have hM21 : M ≤ 20 := by omega
  obtain ⟨W0, hW0⟩ : ∃ W0, w.alloc (.cells #[.slice A N c] 47) = W0 := ⟨_, rfl⟩
  have hb0 : Below w.heap.size w W0 := by rw [← hW0]; exact bel1 w _
  have k0 : Bk W0 w.heap.size 47 [.slice A N c] := by rw [← hW0]; exact Bk.new w _ [_]
  obtain ⟨G, hG⟩ : ∃ G, w.heap.size = G := ⟨_, rfl⟩
  have HC := Lib.hid (of_E A gs N c W0 (hA.stay hb0) hN hc hm)
  have R := Lib.hid (hP.below hb0)
  have B := Lib.hid hb0
  have HW0 := Lib.hid hW0
  have HG := Lib.hid hG
  have HM := Lib.hid hM
  rw [hG] at k0
  have c0 := k0.cell 0
  simp only [List.getElem?_cons_zero] at c0
  have cz := k0.lt
  clear hA hN hc hm hW0 hG hb0 k0 hP hM
  go_enter Try.func4, Try.ntmps4
  go_upto_region 3 with fail
  rw [HW0.out, HG.out]
  go_wp2_with fail
  refine HC.out.mono ?_
  rintro r w1 ⟨e, u, rfl, hv, hd, hbd, hcn, hE, hb⟩
  have Bq := Lib.hid (B.out.trans (hb.mono B.out.size))
  have Rq := Lib.hid (R.out.below hb)
  clear B R
  have B := Bq
  have R := Rq
  clear Bq Rq hb
  obtain ⟨he1, he2, he3, he4⟩ := val_enc hv hd hbd
  have HV := Lib.hid (show valE e ∧ depE e ≤ 16 ∧ cntE e ≤ 40 ∧ (encE e).length ≤ 12540 ∧ bndE e = true from ⟨hv, hd, hcn, he4, hbd⟩)
  have HE1 := Lib.hid he1
  have HZ := Lib.hid he2
  obtain ⟨p1, q1, k1, P1, l1, r1, Q1, m1, s1, rfl⟩ := hE.form
  have E := Lib.hid hE
  clear hE hv hd hbd hcn he1 he2 he4
  obtain ⟨D, hD⟩ : ∃ D, w1.heap.size = D := ⟨_, rfl⟩
  obtain ⟨wz, hwz⟩ : ∃ wz, w1.alloc (.cells #[.int .u8 0, .bool false, .int .u32 0, .slice none 0 0, .slice none 0 0] 29) = wz := ⟨_, rfl⟩
  have hkz : Bk wz D 29 elZ := by rw [← hwz, ← hD]; exact Bk.new w1 _ elZ
  have hbz : Below D w1 wz := by rw [← hwz, ← hD]; exact bel1 w1 _
  obtain ⟨z0, z1, z2, z3, z4, zz⟩ := hkz.five
  obtain ⟨g0, g1, g2, g3, g4⟩ := hkz.free5
  obtain ⟨w2, hw4⟩ : ∃ w4, (((((wz.setCell ⟨D, 0, none⟩ (.int .u8 (p1 : Int))).setCell ⟨D, 1, none⟩ (.bool k1)).setCell ⟨D, 2, none⟩ (.int .u32 (q1 : Int))).setCell ⟨D, 3, none⟩ (.slice P1 l1 r1)).setCell ⟨D, 4, none⟩ (.slice Q1 m1 s1)) = w4 := ⟨_, rfl⟩
  have hk4 : Bk w2 D 29 [.int .u8 (p1 : Int), .bool k1, .int .u32 (q1 : Int), .slice P1 l1 r1, .slice Q1 m1 s1] := by rw [← hw4]; exact ((((hkz.store 0 (.int .u8 (p1 : Int))).store 1 (.bool k1)).store 2 (.int .u32 (q1 : Int))).store 3 (.slice P1 l1 r1)).store 4 (.slice Q1 m1 s1)
  have hl := Nat.le_refl D
  have hb4 : Below w1.heap.size w1 w2 := by rw [hD, ← hw4]; exact ((((hbz.setCell (p := ⟨D, 0, none⟩) hl _).setCell (p := ⟨D, 1, none⟩) hl _).setCell (p := ⟨D, 2, none⟩) hl _).setCell (p := ⟨D, 3, none⟩) hl _).setCell (p := ⟨D, 4, none⟩) hl _
  have KD := Lib.hid hk4
  have Bq := Lib.hid (B.out.trans (hb4.mono B.out.size))
  have Rq := Lib.hid (R.out.below hb4)
  have Eq := Lib.hid (E.out.stay hb4)
  clear B R E
  have B := Bq
  have R := Rq
  have E := Eq
  clear Bq Rq Eq hb4
  clear hkz hbz hk4 hl HC c0 cz
  go_upto_region 4 with fail
  clear z0 z1 z2 z3 z4 zz g0 g1 g2 g3 g4 hw4 hwz hD
  obtain ⟨x0, x1, x2, x3, x4, xz⟩ := KD.out.five
  have hput := eput_any e _ w2 (by have := HV.out.2.1; omega) E.out (bnd_con HV.out.2.2.2.2)
  rw [HE1.out] at hput
  have HPUT := Lib.hid hput
  obtain ⟨L, hL⟩ : ∃ L, (encE e).length = L := ⟨_, rfl⟩
  have HLL := Lib.hid hL
  have hL0' : 0 < L := by omega
  have hLm : L ≤ 12540 := by have := HV.out.2.2.2.1; omega
  clear hput hL he3
  go_wp2_with fail
  clear x0 x1 x2 x3 x4 xz
  refine HPUT.out.mono ?_
  rintro r w3 ⟨Q, rfl, hQ, h8, hb⟩
  rw [HLL.out]
  have Bq := Lib.hid (B.out.trans (hb.mono B.out.size))
  have KDq := Lib.hid (KD.out.below hb KD.out.lt)
  have Rq := Lib.hid (R.out.below hb)
  have Eq := Lib.hid (E.out.stay hb)
  clear B KD R E
  have B := Bq
  have KD := KDq
  have R := Rq
  have E := Eq
  clear Bq KDq Rq Eq
  have Y := Lib.hid (show Rb w3 Q (encE e) from ⟨hQ.rd, h8⟩)
  have hQs := hQ (by intro h; have := congrArg List.length h; rw [cs8_len, HLL.out] at this; simp at this; omega)
  obtain ⟨pb, po, rfl, hpl, _, _⟩ := hQs
  have Z := Lib.hid hpl
  clear hb HPUT hQ h8 hpl
  go_upto_region 5 with fail
  obtain ⟨wd, hwd⟩ : ∃ wd, w3.drew = wd := ⟨_, rfl⟩
  have hbd : Below w3.heap.size w3 wd := by rw [← hwd]; exact ⟨rfl, rfl, rfl, Nat.le_refl _, fun _ _ => rfl⟩
  have Bq := Lib.hid (B.out.trans (hbd.mono B.out.size))
  have KDq := Lib.hid (KD.out.below hbd KD.out.lt)
  have Rq := Lib.hid (R.out.below hbd)
  have Eq := Lib.hid (E.out.stay hbd)
  have Yq := Lib.hid (Y.out.below hbd)
  have Zq := Lib.hid (Nat.lt_of_lt_of_le Z.out hbd.size)
  clear B KD R E Y Z
  have B := Bq
  have KD := KDq
  have R := Rq
  have E := Eq
  have Y := Yq
  have Z := Zq
  clear Bq KDq Rq Eq Yq Zq hbd
  refine wp_region_held_drew (S := fun W => Bk W D 29 [.int .u8 (p1 : Int), .bool k1, .int .u32 (q1 : Int), .slice P1 l1 r1, .slice Q1 m1 s1] ∧ Rb W (some ⟨pb, po, none⟩) (encE e)) (by kernel_rfl) (by rw [hwd]; exact ⟨KD.out, Y.out⟩) (fun hS => ?_)
  rw [hwd] at hS ⊢
  clear hwd
  have hcv1 : ∀ W, Rb W (some ⟨pb, po, none⟩) (encE e) → (convert 26 9 (.slice (some ⟨pb, po, none⟩) L L)).run Try.prog W = .ok (.string (bstr (encE e))) W := fun W h => by have := run_str8 (h := h) L; rwa [HLL.out] at this
  have HCV := Lib.hid hcv1
  clear hcv1
  refine wpAnyH_take (i := 0) (oi := ⟨some 23, _, _, _, _, _⟩) (v := .int .i64 0) rfl (by kernel_rfl) (by kernel_rfl) (by kernel_rfl) (fun _ _ _ h => h) (Or.inl ⟨by rfl, fun w hSw => by (try dsimp only at hSw); go_simp⟩) hS ?_
  simp only [Act.put, List.setIfInBounds_toArray, List.set_cons_zero, List.set_cons_succ]
  refine wpAnyH_take (i := 1) (oi := ⟨some 24, _, _, _, _, _⟩) (v := .bool false) rfl (by kernel_rfl) (by kernel_rfl) (by kernel_rfl) (fun _ _ _ h => h) (Or.inl ⟨by rfl, fun w hSw => by (try dsimp only at hSw); go_simp⟩) hS ?_
  simp only [Act.put, List.setIfInBounds_toArray, List.set_cons_zero, List.set_cons_succ]
  refine wpAnyH_take (i := 2) (oi := ⟨some 25, _, _, _, _, _⟩) (v := .bool false) rfl (by kernel_rfl) (by kernel_rfl) (by kernel_rfl) (fun _ _ _ h => h) (Or.inl ⟨by rfl, fun w hSw => by (try dsimp only at hSw); go_simp⟩) hS ?_
  simp only [Act.put, List.setIfInBounds_toArray, List.set_cons_zero, List.set_cons_succ]
  refine wpAnyH_take (i := 3) (oi := ⟨some 26, _, _, _, _, _⟩) (v := .slice (some ⟨pb, po, none⟩) L L) rfl (by kernel_rfl) (by kernel_rfl) (by kernel_rfl) (fun _ _ _ h => h) (Or.inl ⟨by rfl, fun w hSw => by (try dsimp only at hSw); go_simp⟩) hS ?_
  simp only [Act.put, List.setIfInBounds_toArray, List.set_cons_zero, List.set_cons_succ]
  refine wpAnyH_take (i := 4) (oi := ⟨some 27, _, _, _, _, _⟩) (v := .string (bstr (encE e))) rfl (by kernel_rfl) (by kernel_rfl) (by kernel_rfl) (fun _ _ _ h => h) (Or.inl ⟨by rfl, fun w hSw => by (try dsimp only at hSw); have hcv := HCV.out _ hSw.2; go_simp⟩) hS ?_
  simp only [Act.put, List.setIfInBounds_toArray, List.set_cons_zero, List.set_cons_succ]
  refine wpAnyH_take (i := 5) (oi := ⟨some 28, _, _, _, _, _⟩) (v := .agg #[.int .u8 (p1 : Int), .bool k1, .int .u32 (q1 : Int), .slice P1 l1 r1, .slice Q1 m1 s1]) rfl (by kernel_rfl) (by kernel_rfl) (by kernel_rfl) (fun _ _ _ h => h) (yieldsIf_load_mid (by rfl) 29 (.tmp 5) rfl (D) 0 rfl [.int .u8 (p1 : Int), .bool k1, .int .u32 (q1 : Int), .slice P1 l1 r1, .slice Q1 m1 s1] _ (fun W h => rangeE h.1) Try.underlying29 rfl infoE5) hS ?_
  simp only [Act.put, List.setIfInBounds_toArray, List.set_cons_zero, List.set_cons_succ]
  refine wpAnyH_ready (rs := [6]) (by kernel_rfl) (by simp) ?_
  refine AllReadyH.cons (o := _) rfl (fun K hK => ?_) (AllReadyH.nil)
  go_simp
  refine (rputE_any e _ _ E.out HV.out.1 (by have := HV.out.2.2.2.1; omega)).mono ?_
  rintro r w4 ⟨D1, o1, rfl, hr1, ho1, hp1, hb⟩
  have Bq := Lib.hid (B.out.trans (hb.mono B.out.size))
  have KDq := Lib.hid (KD.out.below hb KD.out.lt)
  have Rq := Lib.hid (R.out.below hb)
  have Eq := Lib.hid (E.out.stay hb)
  have Yq := Lib.hid (Y.out.below hb)
  have Zq := Lib.hid (Nat.lt_of_lt_of_le Z.out hb.size)
  clear B KD R E Y Z
  have B := Bq
  have KD := KDq
  have R := Rq
  have E := Eq
  have Y := Yq
  have Z := Zq
  clear Bq KDq Rq Eq Yq Zq hb
  refine hK.out _ _ (⟨KD.out, Y.out⟩) (fun hS => ?_)
  clear hK K
  (try simp only [Act.put, List.setIfInBounds_toArray, List.set_cons_zero, List.set_cons_succ])
  have hSS : (Bk w4 D 29 [.int .u8 (p1 : Int), .bool k1, .int .u32 (q1 : Int), .slice P1 l1 r1, .slice Q1 m1 s1] ∧ Rb w4 (some ⟨pb, po, none⟩) (encE e)) ∧ Rb w4 D1 (encE e) := ⟨hS, hr1⟩
  refine wpAnyH_mono (S' := fun W => (Bk W D 29 [.int .u8 (p1 : Int), .bool k1, .int .u32 (q1 : Int), .slice P1 l1 r1, .slice Q1 m1 s1] ∧ Rb W (some ⟨pb, po, none⟩) (encE e)) ∧ Rb W D1 (encE e)) (fun _ h => h.1) _ _ _ _ ?_
  clear hS
  have hS := hSS
  clear hSS
  have hse := bstr_dec hr1.2 hr1.2
  rw [decide_eq_true (p := encE e = encE e) rfl] at hse
  have hsn : (!(bstr (encE e)).toList == (bstr (encE e)).toList) = false := by rw [hse]; rfl
  refine wpAnyH_take (i := 7) (oi := ⟨some 30, _, _, _, _, _⟩) (v := .string (bstr (encE e))) rfl (by kernel_rfl) (by kernel_rfl) (by kernel_rfl) (fun _ _ _ h => h) (Or.inl ⟨by rfl, fun w hSw => by (try dsimp only at hSw); have hcv := run_str8 (h := hSw.2) o1; go_simp⟩) hS ?_
  simp only [Act.put, List.setIfInBounds_toArray, List.set_cons_zero, List.set_cons_succ]
  refine wpAnyH_take (i := 8) (oi := ⟨some 31, _, _, _, _, _⟩) (v := .bool false) rfl (by kernel_rfl) (by kernel_rfl) (by kernel_rfl) (fun _ _ _ h => h) (Or.inl ⟨by rfl, fun w hSw => by (try dsimp only at hSw); go_simp⟩) hS ?_
  simp only [Act.put, List.setIfInBounds_toArray, List.set_cons_zero, List.set_cons_succ]
  refine wpAnyH_take (i := 9) (oi := ⟨some 32, _, _, _, _, _⟩) (v := .bool false) rfl (by kernel_rfl) (by kernel_rfl) (by kernel_rfl) (fun _ _ _ h => h) (Or.inl ⟨by rfl, fun w hSw => by (try dsimp only at hSw); go_simp⟩) hS ?_
  simp only [Act.put, List.setIfInBounds_toArray, List.set_cons_zero, List.set_cons_succ]
  refine wpAnyH_take (i := 10) (oi := ⟨some 33, _, _, _, _, _⟩) (v := .bool false) rfl (by kernel_rfl) (by kernel_rfl) (by kernel_rfl) (fun _ _ _ h => h) (Or.inl ⟨by rfl, fun w hSw => by (try dsimp only at hSw); go_simp⟩) hS ?_
  simp only [Act.put, List.setIfInBounds_toArray, List.set_cons_zero, List.set_cons_succ]
  refine wpAnyH_take (i := 11) (oi := ⟨some 34, _, _, _, _, _⟩) (v := .slice (some ⟨pb, po, none⟩) L L) rfl (by kernel_rfl) (by kernel_rfl) (by kernel_rfl) (fun _ _ _ h => h) (Or.inl ⟨by rfl, fun w hSw => by (try dsimp only at hSw); go_simp⟩) hS ?_
  simp only [Act.put, List.setIfInBounds_toArray, List.set_cons_zero, List.set_cons_succ]
  refine wpAnyH_take (i := 12) (oi := ⟨some 35, _, _, _, _, _⟩) (v := .agg #[.int .u8 (p1 : Int), .bool k1, .int .u32 (q1 : Int), .slice P1 l1 r1, .slice Q1 m1 s1]) rfl (by kernel_rfl) (by kernel_rfl) (by kernel_rfl) (fun _ _ _ h => h) (yieldsIf_load_mid (by rfl) 29 (.tmp 5) rfl (D) 0 rfl [.int .u8 (p1 : Int), .bool k1, .int .u32 (q1 : Int), .slice P1 l1 r1, .slice Q1 m1 s1] _ (fun W h => rangeE h.1.1) Try.underlying29 rfl infoE5) hS ?_
  simp only [Act.put, List.setIfInBounds_toArray, List.set_cons_zero, List.set_cons_succ]
  refine wpAnyH_ready (rs := [13]) (by kernel_rfl) (by simp) ?_
  refine AllReadyH.cons (o := _) rfl (fun K hK => ?_) (AllReadyH.nil)
  go_simp
  refine (got_any (cap := L) _ Y.out HLL.out (Nat.le_refl _) (by unfold maxLen; omega) (.inr ⟨pb, po, rfl, Z.out⟩) (x := e) (a := 0) (f := 0) (getX_back HV.out.1 HV.out.2.1 HV.out.2.2.1 HV.out.2.2.2.1) (by have := HV.out.2.2.1; rw [manE_eq]; omega) E.out).mono ?_
  rintro r w5 ⟨rfl, hb⟩
  have hr2 := hr1.below hb
  have Bq := Lib.hid (B.out.trans (hb.mono B.out.size))
  have KDq := Lib.hid (KD.out.below hb KD.out.lt)
  have Rq := Lib.hid (R.out.below hb)
  have Eq := Lib.hid (E.out.stay hb)
  have Yq := Lib.hid (Y.out.below hb)
  have Zq := Lib.hid (Nat.lt_of_lt_of_le Z.out hb.size)
  clear B KD R E Y Z
  have B := Bq
  have KD := KDq
  have R := Rq
  have E := Eq
  have Y := Yq
  have Z := Zq
  clear Bq KDq Rq Eq Yq Zq hb
  refine hK.out _ _ (⟨⟨KD.out, Y.out⟩, hr2⟩) (fun hS => ?_)
  clear hK K
  (try simp only [Act.put, List.setIfInBounds_toArray, List.set_cons_zero, List.set_cons_succ])
  refine wpAnyH_take (i := 14) (oi := ⟨some 37, _, _, _, _, _⟩) (v := .bool false) rfl (by kernel_rfl) (by kernel_rfl) (by kernel_rfl) (fun _ _ _ h => h) (Or.inl ⟨by rfl, fun w hSw => by (try dsimp only at hSw); go_simp⟩) hS ?_
  simp only [Act.put, List.setIfInBounds_toArray, List.set_cons_zero, List.set_cons_succ]
  refine wpAnyH_take (i := 15) (oi := ⟨some 38, _, _, _, _, _⟩) (v := .bool false) rfl (by kernel_rfl) (by kernel_rfl) (by kernel_rfl) (fun _ _ _ h => h) (Or.inl ⟨by rfl, fun w hSw => by (try dsimp only at hSw); go_simp⟩) hS ?_
  simp only [Act.put, List.setIfInBounds_toArray, List.set_cons_zero, List.set_cons_succ]
  refine wpAnyH_done (by kernel_rfl) ?_ _
  clear hS hr1 hr2 ho1 hp1 hse hsn
  generalize bstr (encE e) = ZS at *
  go_upto_region 7 with fail
  obtain ⟨v2, w6, C, k, w7, hrun1, hrun2, hcat, hlk, hkm, hb7, hA7⟩ := cat_two Y.out R.out (by have := HLL.out; omega) (by have := HM.out; omega) L d L M HLL.out HM.out
  obtain ⟨bb, hnx⟩ := nxX_back HV.out.1 HV.out.2.1 HV.out.2.2.1 HV.out.2.2.2.1 m (by have := HM.out; omega)
  have hlcat : (encE e ++ m).length = L + M := by rw [List.length_append, HLL.out, HM.out]
  have hnext := next_any (cap := k) w7 hcat hlcat hlk hkm hA7
  rw [hnx] at hnext
  have HNX := Lib.hid hnext
  have HR1 := Lib.hid hrun1
  have HR2 := Lib.hid hrun2
  have Bq := Lib.hid (B.out.trans (hb7.mono B.out.size))
  have KDq := Lib.hid (KD.out.below hb7 KD.out.lt)
  have Rq := Lib.hid (R.out.below hb7)
  have Eq := Lib.hid (E.out.stay hb7)
  have Yq := Lib.hid (Y.out.below hb7)
  have Zq := Lib.hid (Nat.lt_of_lt_of_le Z.out hb7.size)
  clear B KD R E Y Z
  have B := Bq
  have KD := KDq
  have R := Rq
  have E := Eq
  have Y := Yq
  have Z := Zq
  clear Bq KDq Rq Eq Yq Zq hb7
  obtain ⟨J, hJ⟩ : ∃ J, L + M = J := ⟨_, rfl⟩
  rw [hJ] at HNX HR2
  clear hrun1 hrun2 hcat hlk hkm hA7 hnx hlcat hnext hJ
  go_wp2_with (first | (at_builtin; refine Len.wpList_app (o := ⟨some 42, _, _, _, _, _⟩) rfl _ _ _ _ rfl _ _ rfl rfl HR1.out ?_) | (at_builtin; refine Len.wpList_app (o := ⟨some 44, _, _, _, _, _⟩) rfl _ _ _ _ rfl _ _ rfl rfl HR2.out ?_))
  refine HNX.out.mono ?_
  rintro r w8 ⟨u, rfl, hU, hb⟩
  obtain ⟨p2, q2, k2, P2, l2, r2, Q2, m2, s2, rfl⟩ := hU.form
  have U := Lib.hid hU
  clear hU HR1 HR2 HNX
  rw [HLL.out]
  have Bq := Lib.hid (B.out.trans (hb.mono B.out.size))
  have KDq := Lib.hid (KD.out.below hb KD.out.lt)
  have Rq := Lib.hid (R.out.below hb)
  have Eq := Lib.hid (E.out.stay hb)
  have Yq := Lib.hid (Y.out.below hb)
  have Zq := Lib.hid (Nat.lt_of_lt_of_le Z.out hb.size)
  clear B KD R E Y Z
  have B := Bq
  have KD := KDq
  have R := Rq
  have E := Eq
  have Y := Yq
  have Z := Zq
  clear Bq KDq Rq Eq Yq Zq hb
  obtain ⟨T, hT⟩ : ∃ T, w8.heap.size = T := ⟨_, rfl⟩
  obtain ⟨wz, hwz⟩ : ∃ wz, w8.alloc (.cells #[.int .u8 0, .bool false, .int .u32 0, .slice none 0 0, .slice none 0 0] 29) = wz := ⟨_, rfl⟩
  have hkz : Bk wz T 29 elZ := by rw [← hwz, ← hT]; exact Bk.new w8 _ elZ
  have hbz : Below T w8 wz := by rw [← hwz, ← hT]; exact bel1 w8 _
  obtain ⟨z0, z1, z2, z3, z4, zz⟩ := hkz.five
  obtain ⟨g0, g1, g2, g3, g4⟩ := hkz.free5
  obtain ⟨w9, hw4⟩ : ∃ w4, (((((wz.setCell ⟨T, 0, none⟩ (.int .u8 (p2 : Int))).setCell ⟨T, 1, none⟩ (.bool k2)).setCell ⟨T, 2, none⟩ (.int .u32 (q2 : Int))).setCell ⟨T, 3, none⟩ (.slice P2 l2 r2)).setCell ⟨T, 4, none⟩ (.slice Q2 m2 s2)) = w4 := ⟨_, rfl⟩
  have hk4 : Bk w9 T 29 [.int .u8 (p2 : Int), .bool k2, .int .u32 (q2 : Int), .slice P2 l2 r2, .slice Q2 m2 s2] := by rw [← hw4]; exact ((((hkz.store 0 (.int .u8 (p2 : Int))).store 1 (.bool k2)).store 2 (.int .u32 (q2 : Int))).store 3 (.slice P2 l2 r2)).store 4 (.slice Q2 m2 s2)
  have hl := Nat.le_refl T
  have hb4 : Below w8.heap.size w8 w9 := by rw [hT, ← hw4]; exact ((((hbz.setCell (p := ⟨T, 0, none⟩) hl _).setCell (p := ⟨T, 1, none⟩) hl _).setCell (p := ⟨T, 2, none⟩) hl _).setCell (p := ⟨T, 3, none⟩) hl _).setCell (p := ⟨T, 4, none⟩) hl _
  have J1 := Lib.hid hk4
  have Bq := Lib.hid (B.out.trans (hb4.mono B.out.size))
  have KDq := Lib.hid (KD.out.below hb4 KD.out.lt)
  have Rq := Lib.hid (R.out.below hb4)
  have Eq := Lib.hid (E.out.stay hb4)
  have Yq := Lib.hid (Y.out.below hb4)
  have Zq := Lib.hid (Nat.lt_of_lt_of_le Z.out hb4.size)
  have Uq := Lib.hid (U.out.stay hb4)
  clear B KD R E Y Z U
  have B := Bq
  have KD := KDq
  have R := Rq
  have E := Eq
  have Y := Yq
  have Z := Zq
  have U := Uq
  clear Bq KDq Rq Eq Yq Zq Uq hb4
  clear hkz hbz hk4 hl
  go_upto_region 8 with fail
  clear z0 z1 z2 z3 z4 zz g0 g1 g2 g3 g4 hw4 hwz hT
  obtain ⟨x0, x1, x2, x3, x4, xz⟩ := KD.out.five
  obtain ⟨y0, y1, y2, y3, y4, yz⟩ := J1.out.five
  obtain ⟨q, hq⟩ : ∃ q, manE e 50 = q := ⟨_, rfl⟩
  have hq40 : q ≤ 40 := by have := HV.out.2.2.1; rw [← hq, manE_eq]; omega
  have HQ := Lib.hid hq
  have hqb : decide ((50 : Int) < (q : Int)) = false := by simp; omega
  have hne : ((L : Int) != (L : Int)) = false := by simp
  clear hq
  go_wp2_with fail
  clear x0 x1 x2 x3 x4 xz
  clear y0 y1 y2 y3 y4 yz
  refine (many_any e _ 50 _ (by decide) U.out).mono ?_
  rintro r w10 ⟨rfl, hb⟩
  rw [HQ.out]
  have Bq := Lib.hid (B.out.trans (hb.mono B.out.size))
  have KDq := Lib.hid (KD.out.below hb KD.out.lt)
  have Rq := Lib.hid (R.out.below hb)
  have Eq := Lib.hid (E.out.stay hb)
  have Yq := Lib.hid (Y.out.below hb)
  have Zq := Lib.hid (Nat.lt_of_lt_of_le Z.out hb.size)
  have Uq := Lib.hid (U.out.stay hb)
  have J1q := Lib.hid (J1.out.below hb J1.out.lt)
  clear B KD R E Y Z U J1
  have B := Bq
  have KD := KDq
  have R := Rq
  have E := Eq
  have Y := Yq
  have Z := Zq
  have U := Uq
  have J1 := J1q
  clear Bq KDq Rq Eq Yq Zq Uq J1q hb
  obtain ⟨x0, x1, x2, x3, x4, xz⟩ := KD.out.five
  obtain ⟨y0, y1, y2, y3, y4, yz⟩ := J1.out.five
  go_wp2_with fail
  clear x0 x1 x2 x3 x4 xz
  clear y0 y1 y2 y3 y4 yz
  refine (rsame_any e _ _ _ U.out E.out).mono ?_
  rintro r w11 ⟨rfl, hb⟩
  have Bq := Lib.hid (B.out.trans (hb.mono B.out.size))
  have KDq := Lib.hid (KD.out.below hb KD.out.lt)
  have Rq := Lib.hid (R.out.below hb)
  have Eq := Lib.hid (E.out.stay hb)
  have Yq := Lib.hid (Y.out.below hb)
  have Zq := Lib.hid (Nat.lt_of_lt_of_le Z.out hb.size)
  have Uq := Lib.hid (U.out.stay hb)
  have J1q := Lib.hid (J1.out.below hb J1.out.lt)
  clear B KD R E Y Z U J1
  have B := Bq
  have KD := KDq
  have R := Rq
  have E := Eq
  have Y := Yq
  have Z := Zq
  have U := Uq
  have J1 := J1q
  clear Bq KDq Rq Eq Yq Zq Uq J1q hb
  have hself : (decide ((chkE e 1 0).1 = 0) && eqE e e) = true := by rw [decide_eq_true HZ.out, Bool.true_and, eqE_iff]
  have HSE := Lib.hid hself
  clear hself
  by_cases hM0 : M = 0
  · have hMb : decide ((0 : Int) < (M : Int)) = false := by simp; omega
    have hMb2 : decide (0 < M) = false := by simp; omega
    clear hM0
    obtain ⟨x0, x1, x2, x3, x4, xz⟩ := KD.out.five
    obtain ⟨y0, y1, y2, y3, y4, yz⟩ := J1.out.five
    go_wp2_with fail
    clear x0 x1 x2 x3 x4 xz
    clear y0 y1 y2 y3 y4 yz
    refine (esame_any e e _ _ _ (by have := HV.out.2.1; omega) E.out U.out).mono ?_
    rintro r w13 ⟨rfl, hb⟩
    rw [HSE.out]
    have Bq := Lib.hid (B.out.trans (hb.mono B.out.size))
    clear B
    have B := Bq
    clear Bq hb
    go_wp2_with fail
    refine (lives_any _).mono ?_
    rintro r w14 ⟨rfl, hb⟩
    have Bq := Lib.hid (B.out.trans (hb.mono B.out.size))
    clear B
    have B := Bq
    clear Bq hb
    go_wp2_with fail
    go_ret
    exact ⟨rfl, B.out⟩
  · have hMb : decide ((0 : Int) < (M : Int)) = true := by simp; omega
    have hMb2 : decide (0 < M) = true := by simp; omega
    go_upto_region 10 with fail
    obtain ⟨v3, w12, C3, k3, w13, hrun1, hrun2, hcat, hlk, hkm, hb7, hA7⟩ := cat_two Y.out R.out (by have := HLL.out; omega) (by have := HM.out; omega) L d L M HLL.out HM.out
    have hlcat : (encE e ++ m).length = L + M := by rw [List.length_append, HLL.out, HM.out]
    have hgot := got_any (cap := k3) w13 hcat hlcat hlk hkm hA7 (x := zE) (a := L) (f := 8) (by have := getX_trail HV.out.1 HV.out.2.1 HV.out.2.2.1 HV.out.2.2.2.1 m (by have := HM.out; omega) (by have := HM.out; omega); rwa [HLL.out] at this) (by decide +kernel) (rd_zero false (fun _ => True) w13)
    have HGOT := Lib.hid hgot
    have HR1 := Lib.hid hrun1
    have HR2 := Lib.hid hrun2
    have Bq := Lib.hid (B.out.trans (hb7.mono B.out.size))
    have KDq := Lib.hid (KD.out.below hb7 KD.out.lt)
    have Rq := Lib.hid (R.out.below hb7)
    have Eq := Lib.hid (E.out.stay hb7)
    have Yq := Lib.hid (Y.out.below hb7)
    have Zq := Lib.hid (Nat.lt_of_lt_of_le Z.out hb7.size)
    have Uq := Lib.hid (U.out.stay hb7)
    have J1q := Lib.hid (J1.out.below hb7 J1.out.lt)
    clear B KD R E Y Z U J1
    have B := Bq
    have KD := KDq
    have R := Rq
    have E := Eq
    have Y := Yq
    have Z := Zq
    have U := Uq
    have J1 := J1q
    clear Bq KDq Rq Eq Yq Zq Uq J1q hb7
    obtain ⟨J, hJ⟩ : ∃ J, L + M = J := ⟨_, rfl⟩
    rw [hJ] at HGOT HR2
    clear hrun1 hrun2 hcat hlk hkm hA7 hlcat hgot hJ
    go_wp2_with (first | (at_builtin; refine wpList_app2 (o := ⟨some 79, _, _, _, _, _⟩) rfl _ _ _ _ rfl _ _ rfl rfl HR1.out ?_) | (at_builtin; refine wpList_app2 (o := ⟨some 81, _, _, _, _, _⟩) rfl _ _ _ _ rfl _ _ rfl rfl HR2.out ?_))
    refine HGOT.out.mono ?_
    rintro r w15 ⟨rfl, hb⟩
    clear HR1 HR2 HGOT
    have Bq := Lib.hid (B.out.trans (hb.mono B.out.size))
    have KDq := Lib.hid (KD.out.below hb KD.out.lt)
    have Rq := Lib.hid (R.out.below hb)
    have Eq := Lib.hid (E.out.stay hb)
    have Yq := Lib.hid (Y.out.below hb)
    have Zq := Lib.hid (Nat.lt_of_lt_of_le Z.out hb.size)
    have Uq := Lib.hid (U.out.stay hb)
    have J1q := Lib.hid (J1.out.below hb J1.out.lt)
    clear B KD R E Y Z U J1
    have B := Bq
    have KD := KDq
    have R := Rq
    have E := Eq
    have Y := Yq
    have Z := Zq
    have U := Uq
    have J1 := J1q
    clear Bq KDq Rq Eq Yq Zq Uq J1q hb
    obtain ⟨x0, x1, x2, x3, x4, xz⟩ := KD.out.five
    obtain ⟨y0, y1, y2, y3, y4, yz⟩ := J1.out.five
    go_wp2_with fail
    clear x0 x1 x2 x3 x4 xz
    clear y0 y1 y2 y3 y4 yz
    refine (esame_any e e _ _ _ (by have := HV.out.2.1; omega) E.out U.out).mono ?_
    rintro r w13 ⟨rfl, hb⟩
    rw [HSE.out]
    have Bq := Lib.hid (B.out.trans (hb.mono B.out.size))
    clear B
    have B := Bq
    clear Bq hb
    go_wp2_with fail
    refine (lives_any _).mono ?_
    rintro r w14 ⟨rfl, hb⟩
    have Bq := Lib.hid (B.out.trans (hb.mono B.out.size))
    clear B
    have B := Bq
    clear Bq hb
    go_wp2_with fail
    go_ret
    exact ⟨rfl, B.out⟩

open Go.ChangeShapes Go.WideShapes Go.ChangeAt
set_option maxRecDepth 100000 in
theorem elementsBack_lifted (os : Os) (started : os.Started) (H : Type) (enc : TypeId × Value → H) :
    ReturnsInHanded {} Try.checked os 4 .any (Rows.elementsBackSpec.pre6 enc Try.prog Try.f4 Rows.elementsBackRow.domain false) (Rows.elementsBackSpec.post enc Try.prog Try.f4 false true false false) := by
  refine returnsInHanded_of_change (C := Try.checked) x_own started (by kernel_rfl) Try.func4
    (ChangeSpec.witness6 (enc := enc) (C := Try.checked) false ⟨#[], #[.agg #[.slice none 0 0], .slice none 0 0], []⟩ 8 (by kernel_rfl) (by kernel_rfl) (by kernel_rfl) (by kernel_rfl)) ?_
  intro W base args ds gs before hval0 hW hcnd _
  have hval : ∀ (j : Nat) t v, Try.f4.params[j]? = some t → args[j]? = some v → Value.okWide Try.prog W .any base t v := hval0
  have hW' := hW
  obtain ⟨p, q, hA0, hV, rfl, hfz, hnd⟩ := hW
  have hA : DataW.TrodAll enc Try.prog W 0 (fun _ => true) true Try.f4.params.toList args.toList ds p := hA0
  rw [Try.params4] at hA hval
  obtain ⟨v0, v1, d0, d1, p0, p1, rfl, rfl, rfl, h0, h1⟩ := trodAll_two hA
  obtain ⟨rfl, rfl⟩ := trodVars_none hV
  obtain ⟨A, gs, c, rfl, hA2, hlc, hm⟩ := open_E (hval 0 _ v0 rfl rfl) h0
  obtain ⟨P, m, d, rfl, hP, hd1, hd2⟩ := open_bytes (hval 1 _ v1 rfl rfl) h1
  clear hA0 hval0
  refine (back_walk A gs gs.length c P m m.length d W hA2 rfl hlc hm hP rfl).mono fun e W' ⟨he, hb⟩ => ?_
  subst he
  exact ⟨_, rfl, law_post (tb := 4) x_laid (by decide +kernel) rfl rfl (by kernel_rfl) Try.underlying4 hW' hb⟩

/-- The statement. -/
theorem elementsBack_holds : Rows.ElementsBackSaid :=
  OpenClaim.holds_of_wide 4 Try.f4 rfl rfl rfl rfl rfl rfl rfl ⟨rfl, rfl, rfl, rfl, rfl⟩ rfl rfl rfl rfl rfl (by kernel_rfl) Try.func4 (by kernel_rfl)
    (of_decide_eq_true (by kernel_rfl)) (by unfold Func.isWrapper; first | (rw [if_pos (by decide +kernel)]; kernel_rfl) | (rw [if_neg (by decide +kernel)]; exact ⟨rfl, rfl⟩))
    (fun os started H enc _ => elementsBack_lifted os started H enc)
end Go.Proofs.Ytgdjgahmnnjeeaa
