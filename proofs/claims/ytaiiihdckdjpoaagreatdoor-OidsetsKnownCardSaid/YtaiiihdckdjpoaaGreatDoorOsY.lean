/-
  Layer 7: the examples of the chapter hold: the statements' helper 'lives' returns true; what was there has not turned.
  Conditions: the variables hold what the program's text lays.
-/
import Derived.Test.YtaiiihdckdjpoaaGreatDoorOgI
import Derived.Test.YtaiiihdckdjpoaaGreatDoorOgK
import Derived.Test.YtaiiihdckdjpoaaGreatDoorOgG
import Derived.Test.YtaiiihdckdjpoaaGreatDoorOgB
import Derived.Test.YtaiiihdckdjpoaaGreatDoorOgD
namespace Go.Proofs.YtaiiihdckdjpoaaGreatDoor
open Go.RowKit Go.Shelf

theorem okO_any7 : OkO 5 anyL := ⟨by decide, rfl, by decide⟩
theorem okO_lit7 (l : List Nat) (h1 : l.length ≤ 16) (h : l.all (fun x => decide (x < 4294967296)) = true) : OkO l.length (pad l) := okO_pad h1 fun x hx => by simpa using List.all_eq_true.1 h x hx
theorem any_lit7 (W : World) : Calls Tryz.prog 36 #[] W fun e w' => e = .returned (oV 5 anyL) ∧ Hid (Below W.heap.size W w') := (any_any W).mono fun _ _ ⟨h1, h2⟩ => ⟨h1, Lib.hid h2⟩
theorem flat_ocsL : ∀ (L : List Od), (L.map fun o => oV o.1 o.2).flatMap (fun v => v.cells.toList) = ocs L
  | [] => rfl
  | o :: L => by rw [List.map_cons, List.flatMap_cons, flat_ocsL L, ocs]; rfl
/-- A literal of OIDs, in a walk. -/
theorem wpList_buildL {ops : Array Oper} {rest : List Oper} {o : Oper} {a : Act} {w : World} {Q : Exit → Act → World → Prop} (hw : Region.wanted o (yielded ops a.tmps) = true) {k : Nat} {parts : Array (Nat × Operand)} (ho : o.op = .buildSlice 22 k parts)
    (L : List Od) (hL : OkL L) (hk : L.length = k) (h0 : 0 < k) (hm : k ≤ 100) (hx' : (parts.toList.map fun p => (p.1, a.eval p.2)) = ((L.map fun o => oV o.1 o.2).zipIdx 0).map fun x => (x.2, x.1))
    (h : wpList Tryz.prog ops Q rest (a.put o.dst (.slice (some ⟨w.heap.size, 0, none⟩) k k)) (w.alloc (.cells (ocs L).toArray 26))) : wpList Tryz.prog ops Q (o :: rest) a w := by
  have hx : (parts.map fun (i, x) => (i, a.eval x)).toList = ((L.map fun o => oV o.1 o.2).zipIdx 0).map fun x => (x.2, x.1) := by rw [Array.toList_map]; exact hx'
  obtain ⟨i, hi, hz0, hz1, hz2⟩ := info_parts infoO3
  have hf := Great.fill_whole (s := 17) (by decide) (L.map fun o => oV o.1 o.2) ((Array.range (k * 17)).map ((oV 0 zeroL).cells[· % (oV 0 zeroL).cells.size]!)) (by
    intro v hv
    obtain ⟨o, ho, rfl⟩ := List.mem_map.1 hv
    rw [show (oV o.1 o.2).cells = (oc o.1 o.2).toArray from rfl, List.size_toArray]; exact oc_17 (hL o ho)) (by simp [hk])
  rw [flat_ocsL, ← hx] at hf
  have hr := run_buildSlice (P := Tryz.prog) w 22 26 k (parts.map fun (i, x) => (i, a.eval x)) (ocs L).toArray i _ Tryz.underlying22 hi hz0 (by rw [hz1]; show ¬ k * 17 > 2 ^ 24; omega) (by rw [hz1]; omega) (by rw [hz1]; exact hf)
  refine BigFrame.wpList_want hw fun K hK => ?_
  have hK' := hK _ _ h
  unfold Oper.wp execOp
  simp only [ho, Sem.run_bind, hr, Result.andThen_ok]
  exact hK'
/-- A literal of OIDs, as one step of a region that draws. -/
theorem buildL_wp {o : Oper} {a : Act} {w : World} {K : Act → World → Prop} {Q : Exit → Act → World → Prop} {k : Nat} {parts : Array (Nat × Operand)} (ho : o.op = .buildSlice 22 k parts)
    (L : List Od) (hL : OkL L) (hk : L.length = k) (h0 : 0 < k) (hm : k ≤ 100) (hx' : (parts.toList.map fun p => (p.1, a.eval p.2)) = ((L.map fun o => oV o.1 o.2).zipIdx 0).map fun x => (x.2, x.1))
    (h : K (a.put o.dst (.slice (some ⟨w.heap.size, 0, none⟩) k k)) (w.alloc (.cells (ocs L).toArray 26))) : o.wp Tryz.prog a w K Q := by
  have hx : (parts.map fun (i, x) => (i, a.eval x)).toList = ((L.map fun o => oV o.1 o.2).zipIdx 0).map fun x => (x.2, x.1) := by rw [Array.toList_map]; exact hx'
  obtain ⟨i, hi, hz0, hz1, hz2⟩ := info_parts infoO3
  have hf := Great.fill_whole (s := 17) (by decide) (L.map fun o => oV o.1 o.2) ((Array.range (k * 17)).map ((oV 0 zeroL).cells[· % (oV 0 zeroL).cells.size]!)) (by
    intro v hv
    obtain ⟨o, ho, rfl⟩ := List.mem_map.1 hv
    rw [show (oV o.1 o.2).cells = (oc o.1 o.2).toArray from rfl, List.size_toArray]; exact oc_17 (hL o ho)) (by simp [hk])
  rw [flat_ocsL, ← hx] at hf
  have hr := run_buildSlice (P := Tryz.prog) w 22 26 k (parts.map fun (i, x) => (i, a.eval x)) (ocs L).toArray i _ Tryz.underlying22 hi hz0 (by rw [hz1]; show ¬ k * 17 > 2 ^ 24; omega) (by rw [hz1]; omega) (by rw [hz1]; exact hf)
  unfold Oper.wp execOp
  simp only [ho, Sem.run_bind, hr, Result.andThen_ok]
  exact h
theorem lit_rdO (w : World) {L : List Od} (h : OkL L) : RdO (w.alloc (.cells (ocs L).toArray 26)) (some ⟨w.heap.size, 0, none⟩) L :=
  ⟨by have := (Bk.new w 26 (ocs L)).rd 0; simpa using this, h⟩
/-- What holds all along. -/
structure Kp (w0 : World) (g1 g2 g3 : Nat) (xl yl al : List Nat) (rows : List (Option Addr × List Od)) (W : World) : Prop where
  b : Below w0.heap.size w0 W
  e : Env W
  x : Bk W g1 26 (oc 3 xl)
  y : Bk W g2 26 (oc 3 yl)
  z : Bk W g3 26 (oc 5 al)
  r : ∀ r ∈ rows, RdO W r.1 r.2
section
variable {w0 : World} {g1 g2 g3 : Nat} {xl yl al : List Nat} {rows : List (Option Addr × List Od)} {W W' : World}
theorem Kp.below (h : Kp w0 g1 g2 g3 xl yl al rows W) (hb : Below W.heap.size W W') : Kp w0 g1 g2 g3 xl yl al rows W' :=
  ⟨h.b.trans (hb.mono h.b.size), h.e.below hb, h.x.below hb h.x.lt, h.y.below hb h.y.lt, h.z.below hb h.z.lt, fun r hr => (h.r r hr).below hb⟩
theorem Kp.drew (h : Kp w0 g1 g2 g3 xl yl al rows W) : Kp w0 g1 g2 g3 xl yl al rows W.drew := h.below (Below.refl _ W).drew
theorem Kp.lit (h : Kp w0 g1 g2 g3 xl yl al rows W) {L : List Od} (hL : OkL L) : Kp w0 g1 g2 g3 xl yl al ((some ⟨W.heap.size, 0, none⟩, L) :: rows) (W.alloc (.cells (ocs L).toArray 26)) :=
  ⟨(h.below (bel1 W _)).b, (h.below (bel1 W _)).e, (h.below (bel1 W _)).x, (h.below (bel1 W _)).y, (h.below (bel1 W _)).z, fun r hr => by
    rcases List.mem_cons.1 hr with rfl | hr
    · exact lit_rdO W hL
    · exact (h.below (bel1 W _)).r r hr⟩
theorem Kp.add (h : Kp w0 g1 g2 g3 xl yl al rows W) {A : Option Addr} {L : List Od} (hr : RdO W A L) : Kp w0 g1 g2 g3 xl yl al ((A, L) :: rows) W :=
  ⟨h.b, h.e, h.x, h.y, h.z, fun r hr' => by
    rcases List.mem_cons.1 hr' with rfl | hr'
    · exact hr
    · exact h.r r hr'⟩
end
theorem kp {w0 : World} {g1 g2 g3 : Nat} {xl yl al : List Nat} {rows : List (Option Addr × List Od)} {W W' : World} (h : Hid (Kp w0 g1 g2 g3 xl yl al rows W)) (hb : Hid (Below W.heap.size W W')) : Hid (Kp w0 g1 g2 g3 xl yl al rows W') := Lib.hid (h.out.below hb.out)
theorem chk_at (A : Option Addr) (L : List Od) (k f : Nat) (W : World) (hr : RdO W A L) (hk : L.length = k) (hm : k ≤ 100) (hf : chkW L = f) :
    Calls Tryz.prog 11 #[.slice A k k] W fun e w' => e = .returned (.int .i64 (f : Int)) ∧ Hid (Below W.heap.size W w') := by
  subst hf
  exact (ochk_any A L k k W hr hk (by omega)).mono fun _ _ ⟨h1, h2⟩ => ⟨h1, Lib.hid h2⟩
theorem chk_lit (L : List Od) (k f : Nat) (W : World) (hL : OkL L) (hk : L.length = k) (hm : k ≤ 100) (hf : chkW L = f) :
    Calls Tryz.prog 11 #[.slice (some ⟨W.heap.size, 0, none⟩) k k] (W.alloc (.cells (ocs L).toArray 26)) fun e w' => e = .returned (.int .i64 (f : Int)) ∧ Hid (Below W.heap.size W w') := by
  subst hf
  exact (ochk_any _ L k k _ (lit_rdO W hL) hk (by omega)).mono fun _ _ ⟨h1, h2⟩ => ⟨h1, Lib.hid ((bel1 W _).trans (h2.mono (bel1 W _).size))⟩
theorem perm2 {R : List OD} {x y : Od} (hp : (vs R).Perm [y, x]) (ha : AscO R) (hlt : cmpO x.1 x.2 y.1 y.2 = -1) : vs R = [x, y] := by
  have hl := hp.length_eq
  match R, hp, ha, hl with
  | [r1, r2], hp, ha, _ =>
    have hp : [r1.1, r2.1].Perm [y, x] := hp
    have ha : 0 ≤ cfO r2 r1 := by unfold AscO at ha; simpa using ha
    unfold cfO at ha
    have h1 : r1.1 = y ∨ r1.1 = x := by have := hp.mem_iff.1 (show r1.1 ∈ [r1.1, r2.1] by simp); simpa using this
    rcases h1 with h1 | h1
    · rw [h1] at hp ha
      have h2 := List.perm_singleton.1 ((List.perm_cons y).1 hp)
      injection h2 with h2 _
      rw [h2, hlt] at ha
      omega
    · rw [h1] at hp
      have h2 := List.perm_singleton.1 ((List.perm_cons x).1 (hp.trans (List.Perm.swap x y [])))
      injection h2 with h2 _
      show [r1.1, r2.1] = _
      rw [h1, h2]
theorem of_lit7 (x y : Od) (W : World) (hx : OkO x.1 x.2) (hy : OkO y.1 y.2) (h1 : okA [y, x, y] = true) (h2 : capM [y, x, y] = [y, x]) (h3 : cmpO x.1 x.2 y.1 y.2 = -1) :
    Calls Tryz.prog 24 #[.slice (some ⟨W.heap.size, 0, none⟩) 3 3] (W.alloc (.cells (ocs [y, x, y]).toArray 26)) fun e w' => ∃ A, e = .returned (.tuple #[.slice A 2 2, .int .i64 0]) ∧ RdO w' A [x, y] ∧ Hid (Below W.heap.size W w') := by
  have hok : OkL [y, x, y] := OkL.cons hy (OkL.cons hx (OkL.cons hy OkL.nil))
  refine (of_setany _ [y, x, y] 3 3 _ (lit_rdO W hok) rfl (by omega)).mono fun e w' h => ?_
  unfold GiveOf at h
  rw [if_neg (by rw [h1]; decide), if_neg (by rw [h2]; simp)] at h
  obtain ⟨A, N, R, he, hp, ha, hN, hr, hb⟩ := h
  rw [h2] at hp
  have hv := perm2 hp ha h3
  have hN2 : N = 2 := by
    have := congrArg List.length hv
    unfold vs at this; rw [List.length_map] at this; rw [← hN, this]; rfl
  subst hN2
  rw [hv] at hr
  exact ⟨A, he, hr, Lib.hid ((bel1 W _).trans (hb.mono (bel1 W _).size))⟩
theorem giveL_lit {f : FuncId} {args : Array Value} {W : World} {r : List Od × Nat} {R : List Od} {k : Nat} (h : Calls Tryz.prog f args W (GiveL W r)) (hr : r = (R, 0)) (hk : R.length = k) :
    Calls Tryz.prog f args W fun e w' => ∃ A, e = .returned (.tuple #[.slice A k k, .int .i64 0]) ∧ RdO w' A R ∧ Hid (Below W.heap.size W w') := by
  subst hr hk
  exact h.mono fun e w' ⟨A, h1, h2, _, h3⟩ => ⟨A, h1, h2, Lib.hid h3⟩
theorem ino_of {W : World} {A : Option Addr} {L : List Od} {n : Nat} (h : RdO W A L) (hn : L.length = n) (hm : n ≤ 100) : Ino W A L n n := ⟨h, hn, Nat.le_refl _, Nat.le_trans hm (by decide)⟩
theorem same_at (A B : Option Addr) (L : List Od) (n : Nat) (W : World) (hA : RdO W A L) (hB : RdO W B L) (hn : L.length = n) (hm : n ≤ 100) :
    Calls Tryz.prog 21 #[.slice A n n, .int .i64 0, .slice B n n, .int .i64 0] W fun e w' => e = .returned (.bool true) ∧ Hid (Below W.heap.size W w') :=
  (same_set A B L n n W (ino_of hA hn hm) (ino_of hB hn hm) (by omega)).mono fun _ _ ⟨h1, h2⟩ => ⟨h1, Lib.hid h2⟩
theorem same_lit7 (A : Option Addr) (L : List Od) (n : Nat) (W : World) (hA : RdO W A L) (hL : OkL L) (hn : L.length = n) (hm : n ≤ 100) :
    Calls Tryz.prog 21 #[.slice A n n, .int .i64 0, .slice (some ⟨W.heap.size, 0, none⟩) n n, .int .i64 0] (W.alloc (.cells (ocs L).toArray 26)) fun e w' => e = .returned (.bool true) ∧ Hid (Below W.heap.size W w') :=
  (same_set A _ L n n _ (ino_of (hA.below (bel1 W _)) hn hm) (ino_of (lit_rdO W hL) hn hm) (by omega)).mono fun _ _ ⟨h1, h2⟩ => ⟨h1, Lib.hid ((bel1 W _).trans (h2.mono (bel1 W _).size))⟩
theorem bool_lit {f : FuncId} {args : Array Value} {W : World} {b v : Bool} (h : Calls Tryz.prog f args W fun e w' => e = .returned (.bool b) ∧ Below W.heap.size W w') (hv : b = v) :
    Calls Tryz.prog f args W fun e w' => e = .returned (.bool v) ∧ Hid (Below W.heap.size W w') := by
  subst hv
  exact h.mono fun _ _ ⟨h1, h2⟩ => ⟨h1, Lib.hid h2⟩
theorem text_at (A : Option Addr) (L : List Od) (n : Nat) (l : List Nat) (S : ByteArray) (W : World) (hA : RdO W A L) (hn : L.length = n) (hm : n ≤ 100) (hE : Env W) (h1 : chkW L = 0) (h2 : txW L = l) (hS : bstr l = S) :
    Calls Tryz.prog 17 #[.slice A n n] W fun e w' => e = .returned (.string S) ∧ Hid (Below W.heap.size W w') := by
  subst hS h2
  have := textW_any A L n n W hA hn (by omega) hE
  rw [if_pos h1] at this
  exact this.mono fun _ _ ⟨h1, h2⟩ => ⟨h1, Lib.hid h2⟩
theorem parsed_at (S : ByteArray) (l : List Nat) (A : Option Addr) (K : List Od) (n f : Nat) (W : World) (hS : bstr l = S) (h8 : l.all (fun x => decide (x < 256)) = true) (hl : l.length ≤ 1000000) (hE : Env W) (hA : RdO W A K) (hn : K.length = n) (hm : n ≤ 100) (hq : prsW l = (K, f)) (hz : f ≠ 0 → K = []) :
    Calls Tryz.prog 33 #[.string S, .slice A n n, .int .i64 (f : Int)] W fun e w' => e = .returned (.bool true) ∧ Hid (Below W.heap.size W w') := by
  subst hS
  exact (parsedW l (fun x hx => by simpa using List.all_eq_true.1 h8 x hx) hl A K n n f W hE (ino_of hA hn hm) (by omega) hq hz).mono fun _ _ ⟨h1, h2⟩ => ⟨h1, Lib.hid h2⟩

set_option maxHeartbeats 6400000 in
set_option maxRecDepth 100000 in
theorem lives7 (w : World) (hE : Env w) : Calls Tryz.prog 9 #[] w fun e w' => e = .returned (.bool true) ∧ Below w.heap.size w w' := by
  have hz := zero25
  obtain ⟨zl, hzl⟩ : ∃ zl, zeroL = zl := ⟨_, rfl⟩
  have HZ := Lib.hid hzl
  have HZL : Hid (zl.length = 16) := Lib.hid (by rw [← hzl]; exact zeroL_length)
  have HZO : Hid (OkO 0 zl) := Lib.hid (by rw [← hzl]; exact ok_zero)
  have hC1 : chkW [(0, zeroL)] = 1 := by decide +kernel
  rw [hzl] at hz hC1
  have B0 := Lib.hid (Below.refl w.heap.size w)
  have E0 := Lib.hid hE
  clear hE hzl
  obtain ⟨xl, hxl⟩ : ∃ xl, pad [1, 2, 3] = xl := ⟨_, rfl⟩
  obtain ⟨yl, hyl⟩ : ∃ yl, pad [1, 2, 4] = yl := ⟨_, rfl⟩
  obtain ⟨al, hal⟩ : ∃ al, anyL = al := ⟨_, rfl⟩
  have hck1 : chkW [(3, pad [1, 2, 4]), (3, pad [1, 2, 3])] = 13 := by decide +kernel
  have hck2 : chkW [(3, pad [1, 2, 3]), (3, pad [1, 2, 3])] = 14 := by decide +kernel
  have hof1 : okA [(3, pad [1, 2, 4]), (3, pad [1, 2, 3]), (3, pad [1, 2, 4])] = true := by decide +kernel
  have hof2 : capM [(3, pad [1, 2, 4]), (3, pad [1, 2, 3]), (3, pad [1, 2, 4])] = [(3, pad [1, 2, 4]), (3, pad [1, 2, 3])] := by decide +kernel
  have hof3 : cmpO 3 (pad [1, 2, 3]) 3 (pad [1, 2, 4]) = -1 := by decide +kernel
  have hun : uniR [(3, pad [1, 2, 3]), (3, pad [1, 2, 4])] [(3, pad [1, 2, 4]), (5, anyL)] = ([(3, pad [1, 2, 3]), (3, pad [1, 2, 4]), (5, anyL)], 0) := by decide +kernel
  have hcm : cmbR cK [(3, pad [1, 2, 3]), (3, pad [1, 2, 4])] [(3, pad [1, 2, 4]), (5, anyL)] = ([(3, pad [1, 2, 4])], 0) := by decide +kernel
  have hmi : cmbR mK [(3, pad [1, 2, 3]), (3, pad [1, 2, 4])] [(3, pad [1, 2, 4]), (5, anyL)] = ([(3, pad [1, 2, 3])], 0) := by decide +kernel
  have hha : hasR [(3, pad [1, 2, 3]), (3, pad [1, 2, 4])] (3, pad [1, 2, 4]) = true := by decide +kernel
  have hay : hasR [(3, pad [1, 2, 3]), (3, pad [1, 2, 4])] (5, anyL) = false := by decide +kernel
  have hby : hasR [(3, pad [1, 2, 4]), (5, anyL)] (5, anyL) = true := by decide +kernel
  have hwi : witR [(3, pad [1, 2, 4])] [(3, pad [1, 2, 3]), (3, pad [1, 2, 4])] = true := by decide +kernel
  have hsa : samR [(3, pad [1, 2, 3]), (3, pad [1, 2, 4])] [(3, pad [1, 2, 4]), (5, anyL)] = false := by decide +kernel
  have hck3 : chkW [(3, pad [1, 2, 3]), (3, pad [1, 2, 4])] = 0 := by decide +kernel
  have htx : txW [(3, pad [1, 2, 3]), (3, pad [1, 2, 4])] = [123, 49, 46, 50, 46, 51, 32, 49, 46, 50, 46, 52, 125] := by decide +kernel
  have hp1 : prsW [123, 49, 46, 50, 46, 51, 32, 49, 46, 50, 46, 52, 125] = ([(3, pad [1, 2, 3]), (3, pad [1, 2, 4])], 0) := by decide +kernel
  have hp2 : prsW [123, 125] = ([], 0) := by decide +kernel
  have hp3 : prsW [123, 49, 46, 50, 46, 52, 32, 49, 46, 50, 46, 51, 125] = ([], 13) := by decide +kernel
  have hp4 : prsW [123, 49, 46, 50, 46, 51, 32, 32, 49, 46, 50, 46, 52, 125] = ([], 6) := by decide +kernel
  have hp5 : prsW [123, 49, 46, 50, 46, 48, 51, 125] = ([], 6) := by decide +kernel
  have hp6 : prsW [49, 46, 50, 46, 51] = ([], 6) := by decide +kernel
  have HXO : Hid (OkO 3 xl) := Lib.hid (by rw [← hxl]; exact okO_lit7 [1, 2, 3] (by decide) (by decide))
  have HYO : Hid (OkO 3 yl) := Lib.hid (by rw [← hyl]; exact okO_lit7 [1, 2, 4] (by decide) (by decide))
  have HAO : Hid (OkO 5 al) := Lib.hid (by rw [← hal]; exact okO_any7)
  have hx16 := HXO.out.len
  have hy16 := HYO.out.len
  have ha16 := HAO.out.len
  have hofx : ofL [1, 2, 3] = xl := by rw [← hxl]; decide +kernel
  have hofy : ofL [1, 2, 4] = yl := by rw [← hyl]; decide +kernel
  have hany := any_lit7
  rw [hal] at hany
  rw [hxl] at hck1 hck2 hof1 hof2 hof3 hun hcm hmi hha hay hwi hsa hck3 htx hp1
  rw [hyl] at hck1 hof1 hof2 hof3 hun hcm hmi hha hay hby hwi hsa hck3 htx hp1
  rw [hal] at hun hcm hmi hay hby hsa
  have HCK1 := Lib.hid hck1
  have HCK2 := Lib.hid hck2
  have HOF1 := Lib.hid hof1
  have HOF2 := Lib.hid hof2
  have HOF3 := Lib.hid hof3
  have HUN := Lib.hid hun
  have HCM := Lib.hid hcm
  have HMI := Lib.hid hmi
  have HHA := Lib.hid hha
  have HAY := Lib.hid hay
  have HBY := Lib.hid hby
  have HWI := Lib.hid hwi
  have HSA := Lib.hid hsa
  have HCK3 := Lib.hid hck3
  have HTX := Lib.hid htx
  have HP1 := Lib.hid hp1
  have HP2 := Lib.hid hp2
  have HP3 := Lib.hid hp3
  have HP4 := Lib.hid hp4
  have HP5 := Lib.hid hp5
  have HP6 := Lib.hid hp6
  have HC1 := Lib.hid hC1
  have HOFX := Lib.hid hofx
  have HOFY := Lib.hid hofy
  have HANY := Lib.hid hany
  have HANYL := Lib.hid hal
  clear hC1 hofx hofy hany hxl hyl hal hck1 hck2 hof1 hof2 hof3 hun hcm hmi hha hay hby hwi hsa hck3 htx hp1 hp2 hp3 hp4 hp5 hp6
  go_enter Tryz.func9, Tryz.ntmps9
  go_wp2_with fail
  refine (of_lit [1, 2, 3] 3 3 xl _ rfl (by decide) (by decide) (by decide +kernel) HOFX.out).mono ?_
  rintro e w1 ⟨rfl, hb⟩
  have B1 := bt B0 hb
  have E1 := et E0 hb
  clear hb B0 E0
  go_wp2_with fail
  refine (of_lit [1, 2, 4] 3 3 yl _ rfl (by decide) (by decide) (by decide +kernel) HOFY.out).mono ?_
  rintro e w2 ⟨rfl, hb⟩
  have B2 := bt B1 hb
  have E2 := et E1 hb
  clear hb B1 E1
  go_wp2_with fail
  refine (HANY.out _).mono ?_
  rintro e w3 ⟨rfl, hb⟩
  have B3 := bt B2 hb
  have E3 := et E2 hb
  clear hb B2 E2
  obtain ⟨wa, hwa⟩ : ∃ wa, ((w3.alloc (.cells (oc 0 zl).toArray 26)).alloc (.cells (oc 0 zl).toArray 26)).alloc (.cells (oc 0 zl).toArray 26) = wa := ⟨_, rfl⟩
  have S1 : Hid (Bk wa w3.heap.size 26 (oc 0 zl)) := Lib.hid (by rw [← hwa]; exact ((Bk.new w3 26 (oc 0 zl)).alloc _).alloc _)
  have S2 : Hid (Bk wa (w3.heap.size + 1) 26 (oc 0 zl)) := Lib.hid (by
    rw [← hwa]
    have := (Bk.new (w3.alloc (.cells (oc 0 zl).toArray 26)) 26 (oc 0 zl)).alloc (.cells (oc 0 zl).toArray 26)
    rwa [World.size_alloc] at this)
  have S3 : Hid (Bk wa (w3.heap.size + 1 + 1) 26 (oc 0 zl)) := Lib.hid (by
    rw [← hwa]
    have := Bk.new ((w3.alloc (.cells (oc 0 zl).toArray 26)).alloc (.cells (oc 0 zl).toArray 26)) 26 (oc 0 zl)
    rwa [World.size_alloc, World.size_alloc] at this)
  have hb3 : Below w3.heap.size w3 wa := by
    rw [← hwa]
    exact ((bel1 w3 _).alloc (by simp) _).alloc (by simp; omega) _
  have HB3 := Lib.hid hb3
  have HWA := Lib.hid hwa
  clear hb3 hwa
  go_upto_region 2 with (first
    | (refine wpList_store25 rfl (.tmp 1) (.tmp 15) rfl (n := 3) (l := xl) rfl rfl (HWA.out ▸ S1.out) (by rw [oc_length, HZL.out]) hx16 ?_
       rw [HWA.out]
       intro w4 V1 hg4 hz4
       have T1 := Lib.hid V1
       have T2 := Lib.hid (S2.out.only hg4 (by intro e; injection e with e; omega))
       have T3 := Lib.hid (S3.out.only hg4 (by intro e; injection e with e; omega))
       have HB4 := Lib.hid (HB3.out.grown hg4 HB3.out.size (fun k e => by injection e with e; omega))
       clear V1 hg4 hz4 S1 S2 S3)
    | (refine wpList_store25 rfl (.tmp 2) (.tmp 17) rfl (n := 3) (l := yl) rfl rfl T2.out (by rw [oc_length, HZL.out]) hy16 ?_
       intro w5 V2 hg5 hz5
       have U2 := Lib.hid V2
       have U1 := Lib.hid (T1.out.only hg5 (by intro e; injection e with e; omega))
       have U3 := Lib.hid (T3.out.only hg5 (by intro e; injection e with e; omega))
       have HB5 := Lib.hid (HB4.out.grown hg5 HB4.out.size (fun k e => by injection e with e; omega))
       clear V2 hg5 hz5 T1 T2 T3)
    | (refine wpList_store25 rfl (.tmp 3) (.tmp 18) rfl (n := 5) (l := al) rfl rfl U3.out (by rw [oc_length, HZL.out]) ha16 ?_
       intro w6 V3 hg6 hz6
       have K0 : Hid (Kp w w3.heap.size (w3.heap.size + 1) (w3.heap.size + 1 + 1) xl yl al [] w6) := Lib.hid (by
         have hb6 := HB5.out.grown hg6 HB5.out.size (fun k e => by injection e with e; omega)
         exact ⟨B3.out.trans (hb6.mono B3.out.size), E3.out.below hb6, U1.out.only hg6 (by intro e; injection e with e; omega), U2.out.only hg6 (by intro e; injection e with e; omega), V3, fun r hr => absurd hr (by simp)⟩)
       clear V3 hg6 hz6 U1 U2 U3 HB5 HB4 HB3 HWA B3 E3))
  generalize w3.heap.size = g1 at *
  generalize g1 + 1 + 1 = g3 at *
  generalize g1 + 1 = g2 at *
  have okab : OkL [(3, xl), (3, yl)] := OkL.cons HXO.out (OkL.cons HYO.out OkL.nil)
  have okbc : OkL [(3, yl), (5, al)] := OkL.cons HYO.out (OkL.cons HAO.out OkL.nil)
  have OKA := Lib.hid okab
  have OKB := Lib.hid okbc
  clear okab okbc
  go_frame
  go_cut [4, 5] (fun a b wx => ∃ ga gb, a = .slice (some ⟨ga, 0, none⟩) 2 2 ∧ b = .slice (some ⟨gb, 0, none⟩) 2 2 ∧ Kp w g1 g2 g3 xl yl al [] wx ∧ RdO wx (some ⟨ga, 0, none⟩) [(3, xl), (3, yl)] ∧ RdO wx (some ⟨gb, 0, none⟩) [(3, yl), (5, al)])
  case first =>
    refine wp_region_held_drew (S := Kp w g1 g2 g3 xl yl al []) (by kernel_rfl) K0.out.drew (fun hS => ?_)
    refine wpAnyH_take (i := 0) (oi := ⟨some 19, _, _, _, _, _⟩) (v := oV 3 xl) rfl (by kernel_rfl) (by kernel_rfl) (by kernel_rfl) (fun _ _ _ h => h) (yieldsIf_load_mid (by rfl) 26 (.tmp 1) rfl g1 0 rfl (oc 3 xl) _ (fun W h => range25 h.x) Tryz.underlying26 rfl (by rw [oc_length, hx16]; exact info25)) hS ?_
    simp only [Act.put, List.setIfInBounds_toArray, List.set_cons_zero, List.set_cons_succ]
    refine wpAnyH_take (i := 1) (oi := ⟨some 20, _, _, _, _, _⟩) (v := oV 3 yl) rfl (by kernel_rfl) (by kernel_rfl) (by kernel_rfl) (fun _ _ _ h => h) (yieldsIf_load_mid (by rfl) 26 (.tmp 2) rfl g2 0 rfl (oc 3 yl) _ (fun W h => range25 h.y) Tryz.underlying26 rfl (by rw [oc_length, hy16]; exact info25)) hS ?_
    simp only [Act.put, List.setIfInBounds_toArray, List.set_cons_zero, List.set_cons_succ]
    refine wpAnyH_take (i := 3) (oi := ⟨some 22, _, _, _, _, _⟩) (v := oV 3 yl) rfl (by kernel_rfl) (by kernel_rfl) (by kernel_rfl) (fun _ _ _ h => h) (yieldsIf_load_mid (by rfl) 26 (.tmp 2) rfl g2 0 rfl (oc 3 yl) _ (fun W h => range25 h.y) Tryz.underlying26 rfl (by rw [oc_length, hy16]; exact info25)) hS ?_
    simp only [Act.put, List.setIfInBounds_toArray, List.set_cons_zero, List.set_cons_succ]
    refine wpAnyH_take (i := 4) (oi := ⟨some 23, _, _, _, _, _⟩) (v := oV 5 al) rfl (by kernel_rfl) (by kernel_rfl) (by kernel_rfl) (fun _ _ _ h => h) (yieldsIf_load_mid (by rfl) 26 (.tmp 3) rfl g3 0 rfl (oc 5 al) _ (fun W h => range25 h.z) Tryz.underlying26 rfl (by rw [oc_length, ha16]; exact info25)) hS ?_
    simp only [Act.put, List.setIfInBounds_toArray, List.set_cons_zero, List.set_cons_succ]
    have KD := Lib.hid K0.out.drew
    generalize w6.drew = wd at *
    refine wpAnyH_ready (rs := [2, 5]) (by kernel_rfl) (by simp) ?_
    refine AllReadyH.cons (o := ⟨some 21, _, _, _, _, _⟩) rfl (fun K hK => ?_) (AllReadyH.cons (o := ⟨some 24, _, _, _, _, _⟩) rfl (fun K hK => ?_) (AllReadyH.nil))
    · refine buildL_wp rfl [(3, xl), (3, yl)] OKA.out rfl (by decide) (by decide) rfl ?_
      refine hK.out _ _ (KD.out.below (bel1 wd _)) (fun hS => ?_)
      have R1 := Lib.hid (lit_rdO wd OKA.out)
      clear hK K
      (try simp only [Act.put, List.setIfInBounds_toArray, List.set_cons_zero, List.set_cons_succ])
      have KE := Lib.hid hS
      generalize hwe : wd.alloc (.cells (ocs [(3, xl), (3, yl)]).toArray 26) = we at *
      have HWE := Lib.hid hwe
      clear hwe
      refine wpAnyH_take (i := 6) (oi := ⟨some 4, _, _, _, _, _⟩) (v := .slice (some ⟨wd.heap.size, 0, none⟩) 2 2) rfl (by kernel_rfl) (by kernel_rfl) (by kernel_rfl) (fun _ _ _ h => h) (Or.inl ⟨by rfl, fun w hSw => by go_simp⟩) hS ?_
      simp only [Act.put, List.setIfInBounds_toArray, List.set_cons_zero, List.set_cons_succ]
      refine wpAnyH_ready (rs := [5]) (by kernel_rfl) (by simp) ?_
      refine AllReadyH.cons (o := ⟨some 24, _, _, _, _, _⟩) rfl (fun K hK => ?_) (AllReadyH.nil)
      refine buildL_wp rfl [(3, yl), (5, al)] OKB.out rfl (by decide) (by decide) rfl ?_
      refine hK.out _ _ (KE.out.below (bel1 we _)) (fun hS => ?_)
      have R2 := Lib.hid (lit_rdO we OKB.out)
      have R1' := Lib.hid (R1.out.below (bel1 we (.cells (ocs [(3, yl), (5, al)]).toArray 26)))
      clear hK K
      (try simp only [Act.put, List.setIfInBounds_toArray, List.set_cons_zero, List.set_cons_succ])
      refine wpAnyH_take (i := 7) (oi := ⟨some 5, _, _, _, _, _⟩) (v := .slice (some ⟨we.heap.size, 0, none⟩) 2 2) rfl (by kernel_rfl) (by kernel_rfl) (by kernel_rfl) (fun _ _ _ h => h) (Or.inl ⟨by rfl, fun w hSw => by go_simp⟩) hS ?_
      simp only [Act.put, List.setIfInBounds_toArray, List.set_cons_zero, List.set_cons_succ]
      refine wpAnyH_done (by kernel_rfl) ?_ _
      go_wp2_with fail
      go_meet
      exact ⟨_, _, rfl, rfl, hS, R1'.out, R2.out⟩
    · refine buildL_wp rfl [(3, yl), (5, al)] OKB.out rfl (by decide) (by decide) rfl ?_
      refine hK.out _ _ (KD.out.below (bel1 wd _)) (fun hS => ?_)
      have R1 := Lib.hid (lit_rdO wd OKB.out)
      clear hK K
      (try simp only [Act.put, List.setIfInBounds_toArray, List.set_cons_zero, List.set_cons_succ])
      have KE := Lib.hid hS
      generalize hwe : wd.alloc (.cells (ocs [(3, yl), (5, al)]).toArray 26) = we at *
      have HWE := Lib.hid hwe
      clear hwe
      refine wpAnyH_ready (rs := [2]) (by kernel_rfl) (by simp) ?_
      refine AllReadyH.cons (o := ⟨some 21, _, _, _, _, _⟩) rfl (fun K hK => ?_) (AllReadyH.nil)
      refine buildL_wp rfl [(3, xl), (3, yl)] OKA.out rfl (by decide) (by decide) rfl ?_
      refine hK.out _ _ (KE.out.below (bel1 we _)) (fun hS => ?_)
      have R2 := Lib.hid (lit_rdO we OKA.out)
      have R1' := Lib.hid (R1.out.below (bel1 we (.cells (ocs [(3, xl), (3, yl)]).toArray 26)))
      clear hK K
      (try simp only [Act.put, List.setIfInBounds_toArray, List.set_cons_zero, List.set_cons_succ])
      refine wpAnyH_take (i := 6) (oi := ⟨some 4, _, _, _, _, _⟩) (v := .slice (some ⟨we.heap.size, 0, none⟩) 2 2) rfl (by kernel_rfl) (by kernel_rfl) (by kernel_rfl) (fun _ _ _ h => h) (Or.inl ⟨by rfl, fun w hSw => by go_simp⟩) hS ?_
      simp only [Act.put, List.setIfInBounds_toArray, List.set_cons_zero, List.set_cons_succ]
      refine wpAnyH_take (i := 7) (oi := ⟨some 5, _, _, _, _, _⟩) (v := .slice (some ⟨wd.heap.size, 0, none⟩) 2 2) rfl (by kernel_rfl) (by kernel_rfl) (by kernel_rfl) (fun _ _ _ h => h) (Or.inl ⟨by rfl, fun w hSw => by go_simp⟩) hS ?_
      simp only [Act.put, List.setIfInBounds_toArray, List.set_cons_zero, List.set_cons_succ]
      refine wpAnyH_done (by kernel_rfl) ?_ _
      go_wp2_with fail
      go_meet
      exact ⟨_, _, rfl, rfl, hS, R2.out, R1'.out⟩
  case rest =>
    obtain ⟨ga, gb, rfl, rfl, hk7, hra, hrb⟩ := hcut
    have K1 := Lib.hid ((hk7.add hrb).add hra)
    clear hk7 hra hrb K0
    have OK3 := Lib.hid (show OkL [(3, xl), (3, yl), (5, al)] from OkL.cons HXO.out OKB.out)
    have OKX := Lib.hid (show OkL [(3, xl)] from OkL.cons HXO.out OkL.nil)
    have OKY := Lib.hid (show OkL [(3, yl)] from OkL.cons HYO.out OkL.nil)
    have OKZ := Lib.hid (show OkL [(0, zl)] from OkL.cons HZO.out OkL.nil)
    have OKYX := Lib.hid (show OkL [(3, yl), (3, xl)] from OkL.cons HYO.out (OkL.cons HXO.out OkL.nil))
    have OKXX := Lib.hid (show OkL [(3, xl), (3, xl)] from OkL.cons HXO.out (OkL.cons HXO.out OkL.nil))
    have OKYXY := Lib.hid (show OkL [(3, yl), (3, xl), (3, yl)] from OkL.cons HYO.out (OkL.cons HXO.out (OkL.cons HYO.out OkL.nil)))
    go_wp2_with (first
      | (refine wpList_load25g (by rfl) (.tmp 1) rfl rfl K1.out.x hx16 ?_)
      | (refine wpList_load25g (by rfl) (.tmp 1) rfl rfl (K1.out.x.alloc _) hx16 ?_)
      | (refine wpList_load25g (by rfl) (.tmp 2) rfl rfl K1.out.y hy16 ?_)
      | (refine wpList_load25g (by rfl) (.tmp 2) rfl rfl (K1.out.y.alloc _) hy16 ?_)
      | (refine wpList_load25g (by rfl) (.tmp 3) rfl rfl K1.out.z ha16 ?_)
      | (refine wpList_load25g (by rfl) (.tmp 3) rfl rfl (K1.out.z.alloc _) ha16 ?_)
      | (refine wpList_buildL (by rfl) rfl [(3, yl), (3, xl)] OKYX.out rfl (by decide) (by decide) rfl ?_))
    refine (chk_lit [(3, yl), (3, xl)] 2 13 _ OKYX.out rfl (by decide) HCK1.out).mono ?_
    rintro e v2 ⟨rfl, hb⟩
    have K2 := kp K1 hb
    clear hb K1
    go_wp2_with (first
      | (refine wpList_load25g (by rfl) (.tmp 1) rfl rfl K2.out.x hx16 ?_)
      | (refine wpList_load25g (by rfl) (.tmp 1) rfl rfl (K2.out.x.alloc _) hx16 ?_)
      | (refine wpList_load25g (by rfl) (.tmp 2) rfl rfl K2.out.y hy16 ?_)
      | (refine wpList_load25g (by rfl) (.tmp 2) rfl rfl (K2.out.y.alloc _) hy16 ?_)
      | (refine wpList_load25g (by rfl) (.tmp 3) rfl rfl K2.out.z ha16 ?_)
      | (refine wpList_load25g (by rfl) (.tmp 3) rfl rfl (K2.out.z.alloc _) ha16 ?_)
      | (refine wpList_buildL (by rfl) rfl [(3, xl), (3, xl)] OKXX.out rfl (by decide) (by decide) rfl ?_))
    refine (chk_lit [(3, xl), (3, xl)] 2 14 _ OKXX.out rfl (by decide) HCK2.out).mono ?_
    rintro e v3 ⟨rfl, hb⟩
    have K3 := kp K2 hb
    clear hb K2
    go_wp2_with (first
      | (refine wpList_load25g (by rfl) (.tmp 1) rfl rfl K3.out.x hx16 ?_)
      | (refine wpList_load25g (by rfl) (.tmp 1) rfl rfl (K3.out.x.alloc _) hx16 ?_)
      | (refine wpList_load25g (by rfl) (.tmp 2) rfl rfl K3.out.y hy16 ?_)
      | (refine wpList_load25g (by rfl) (.tmp 2) rfl rfl (K3.out.y.alloc _) hy16 ?_)
      | (refine wpList_load25g (by rfl) (.tmp 3) rfl rfl K3.out.z ha16 ?_)
      | (refine wpList_load25g (by rfl) (.tmp 3) rfl rfl (K3.out.z.alloc _) ha16 ?_)
      | (refine wpList_buildL (by rfl) rfl [(0, zl)] OKZ.out rfl (by decide) (by decide) rfl ?_))
    refine (chk_lit [(0, zl)] 1 1 _ OKZ.out rfl (by decide) HC1.out).mono ?_
    rintro e v4 ⟨rfl, hb⟩
    have K4 := kp K3 hb
    clear hb K3
    go_wp2_with (first
      | (refine wpList_load25g (by rfl) (.tmp 1) rfl rfl K4.out.x hx16 ?_)
      | (refine wpList_load25g (by rfl) (.tmp 1) rfl rfl (K4.out.x.alloc _) hx16 ?_)
      | (refine wpList_load25g (by rfl) (.tmp 2) rfl rfl K4.out.y hy16 ?_)
      | (refine wpList_load25g (by rfl) (.tmp 2) rfl rfl (K4.out.y.alloc _) hy16 ?_)
      | (refine wpList_load25g (by rfl) (.tmp 3) rfl rfl K4.out.z ha16 ?_)
      | (refine wpList_load25g (by rfl) (.tmp 3) rfl rfl (K4.out.z.alloc _) ha16 ?_)
      | (refine wpList_buildL (by rfl) rfl [(3, yl), (3, xl), (3, yl)] OKYXY.out rfl (by decide) (by decide) rfl ?_))
    refine (of_lit7 (3, xl) (3, yl) _ HXO.out HYO.out HOF1.out HOF2.out HOF3.out).mono ?_
    rintro e v5 ⟨Ao, rfl, hr, hb⟩
    have K5 := Lib.hid ((kp K4 hb).out.add hr)
    clear hr hb K4
    go_wp2_with (first
      | (refine wpList_load25g (by rfl) (.tmp 1) rfl rfl K5.out.x hx16 ?_)
      | (refine wpList_load25g (by rfl) (.tmp 1) rfl rfl (K5.out.x.alloc _) hx16 ?_)
      | (refine wpList_load25g (by rfl) (.tmp 2) rfl rfl K5.out.y hy16 ?_)
      | (refine wpList_load25g (by rfl) (.tmp 2) rfl rfl (K5.out.y.alloc _) hy16 ?_)
      | (refine wpList_load25g (by rfl) (.tmp 3) rfl rfl K5.out.z ha16 ?_)
      | (refine wpList_load25g (by rfl) (.tmp 3) rfl rfl (K5.out.z.alloc _) ha16 ?_))
    refine (giveL_lit (union_any (some ⟨ga, 0, none⟩) (some ⟨gb, 0, none⟩) [(3, xl), (3, yl)] [(3, yl), (5, al)] 2 2 2 2 _ (ino_of (K5.out.r ((some ⟨ga, 0, none⟩), [(3, xl), (3, yl)]) (by simp)) rfl (by decide)) (ino_of (K5.out.r ((some ⟨gb, 0, none⟩), [(3, yl), (5, al)]) (by simp)) rfl (by decide)) (by decide) (by decide)) HUN.out rfl).mono ?_
    rintro e v6 ⟨Au, rfl, hr, hb⟩
    have K6 := Lib.hid ((kp K5 hb).out.add hr)
    clear hr hb K5
    go_wp2_with (first
      | (refine wpList_load25g (by rfl) (.tmp 1) rfl rfl K6.out.x hx16 ?_)
      | (refine wpList_load25g (by rfl) (.tmp 1) rfl rfl (K6.out.x.alloc _) hx16 ?_)
      | (refine wpList_load25g (by rfl) (.tmp 2) rfl rfl K6.out.y hy16 ?_)
      | (refine wpList_load25g (by rfl) (.tmp 2) rfl rfl (K6.out.y.alloc _) hy16 ?_)
      | (refine wpList_load25g (by rfl) (.tmp 3) rfl rfl K6.out.z ha16 ?_)
      | (refine wpList_load25g (by rfl) (.tmp 3) rfl rfl (K6.out.z.alloc _) ha16 ?_))
    refine (giveL_lit (common_any (some ⟨ga, 0, none⟩) (some ⟨gb, 0, none⟩) [(3, xl), (3, yl)] [(3, yl), (5, al)] 2 2 2 2 _ (ino_of (K6.out.r ((some ⟨ga, 0, none⟩), [(3, xl), (3, yl)]) (by simp)) rfl (by decide)) (ino_of (K6.out.r ((some ⟨gb, 0, none⟩), [(3, yl), (5, al)]) (by simp)) rfl (by decide)) (by decide) (by decide)) HCM.out rfl).mono ?_
    rintro e v7 ⟨Ac, rfl, hr, hb⟩
    have K7 := Lib.hid ((kp K6 hb).out.add hr)
    clear hr hb K6
    go_wp2_with (first
      | (refine wpList_load25g (by rfl) (.tmp 1) rfl rfl K7.out.x hx16 ?_)
      | (refine wpList_load25g (by rfl) (.tmp 1) rfl rfl (K7.out.x.alloc _) hx16 ?_)
      | (refine wpList_load25g (by rfl) (.tmp 2) rfl rfl K7.out.y hy16 ?_)
      | (refine wpList_load25g (by rfl) (.tmp 2) rfl rfl (K7.out.y.alloc _) hy16 ?_)
      | (refine wpList_load25g (by rfl) (.tmp 3) rfl rfl K7.out.z ha16 ?_)
      | (refine wpList_load25g (by rfl) (.tmp 3) rfl rfl (K7.out.z.alloc _) ha16 ?_))
    refine (giveL_lit (minus_any (some ⟨ga, 0, none⟩) (some ⟨gb, 0, none⟩) [(3, xl), (3, yl)] [(3, yl), (5, al)] 2 2 2 2 _ (ino_of (K7.out.r ((some ⟨ga, 0, none⟩), [(3, xl), (3, yl)]) (by simp)) rfl (by decide)) (ino_of (K7.out.r ((some ⟨gb, 0, none⟩), [(3, yl), (5, al)]) (by simp)) rfl (by decide)) (by decide) (by decide)) HMI.out rfl).mono ?_
    rintro e v8 ⟨Am, rfl, hr, hb⟩
    have K8 := Lib.hid ((kp K7 hb).out.add hr)
    clear hr hb K7
    go_wp2_with (first
      | (refine wpList_load25g (by rfl) (.tmp 1) rfl rfl K8.out.x hx16 ?_)
      | (refine wpList_load25g (by rfl) (.tmp 1) rfl rfl (K8.out.x.alloc _) hx16 ?_)
      | (refine wpList_load25g (by rfl) (.tmp 2) rfl rfl K8.out.y hy16 ?_)
      | (refine wpList_load25g (by rfl) (.tmp 2) rfl rfl (K8.out.y.alloc _) hy16 ?_)
      | (refine wpList_load25g (by rfl) (.tmp 3) rfl rfl K8.out.z ha16 ?_)
      | (refine wpList_load25g (by rfl) (.tmp 3) rfl rfl (K8.out.z.alloc _) ha16 ?_))
    refine (same_at Ao (some ⟨ga, 0, none⟩) [(3, xl), (3, yl)] 2 _ (K8.out.r (Ao, [(3, xl), (3, yl)]) (by simp)) (K8.out.r ((some ⟨ga, 0, none⟩), [(3, xl), (3, yl)]) (by simp)) rfl (by decide)).mono ?_
    rintro e v9 ⟨rfl, hb⟩
    have K9 := kp K8 hb
    clear hb K8
    go_wp2_with (first
      | (refine wpList_load25g (by rfl) (.tmp 1) rfl rfl K9.out.x hx16 ?_)
      | (refine wpList_load25g (by rfl) (.tmp 1) rfl rfl (K9.out.x.alloc _) hx16 ?_)
      | (refine wpList_load25g (by rfl) (.tmp 2) rfl rfl K9.out.y hy16 ?_)
      | (refine wpList_load25g (by rfl) (.tmp 2) rfl rfl (K9.out.y.alloc _) hy16 ?_)
      | (refine wpList_load25g (by rfl) (.tmp 3) rfl rfl K9.out.z ha16 ?_)
      | (refine wpList_load25g (by rfl) (.tmp 3) rfl rfl (K9.out.z.alloc _) ha16 ?_)
      | (refine wpList_buildL (by rfl) rfl [(3, xl), (3, yl), (5, al)] OK3.out rfl (by decide) (by decide) rfl ?_))
    refine (same_lit7 Au [(3, xl), (3, yl), (5, al)] 3 _ (K9.out.r (Au, [(3, xl), (3, yl), (5, al)]) (by simp)) OK3.out rfl (by decide)).mono ?_
    rintro e v10 ⟨rfl, hb⟩
    have K10 := kp K9 hb
    clear hb K9
    go_wp2_with (first
      | (refine wpList_load25g (by rfl) (.tmp 1) rfl rfl K10.out.x hx16 ?_)
      | (refine wpList_load25g (by rfl) (.tmp 1) rfl rfl (K10.out.x.alloc _) hx16 ?_)
      | (refine wpList_load25g (by rfl) (.tmp 2) rfl rfl K10.out.y hy16 ?_)
      | (refine wpList_load25g (by rfl) (.tmp 2) rfl rfl (K10.out.y.alloc _) hy16 ?_)
      | (refine wpList_load25g (by rfl) (.tmp 3) rfl rfl K10.out.z ha16 ?_)
      | (refine wpList_load25g (by rfl) (.tmp 3) rfl rfl (K10.out.z.alloc _) ha16 ?_)
      | (refine wpList_buildL (by rfl) rfl [(3, yl)] OKY.out rfl (by decide) (by decide) rfl ?_))
    refine (same_lit7 Ac [(3, yl)] 1 _ (K10.out.r (Ac, [(3, yl)]) (by simp)) OKY.out rfl (by decide)).mono ?_
    rintro e v11 ⟨rfl, hb⟩
    have K11 := kp K10 hb
    clear hb K10
    go_wp2_with (first
      | (refine wpList_load25g (by rfl) (.tmp 1) rfl rfl K11.out.x hx16 ?_)
      | (refine wpList_load25g (by rfl) (.tmp 1) rfl rfl (K11.out.x.alloc _) hx16 ?_)
      | (refine wpList_load25g (by rfl) (.tmp 2) rfl rfl K11.out.y hy16 ?_)
      | (refine wpList_load25g (by rfl) (.tmp 2) rfl rfl (K11.out.y.alloc _) hy16 ?_)
      | (refine wpList_load25g (by rfl) (.tmp 3) rfl rfl K11.out.z ha16 ?_)
      | (refine wpList_load25g (by rfl) (.tmp 3) rfl rfl (K11.out.z.alloc _) ha16 ?_)
      | (refine wpList_buildL (by rfl) rfl [(3, xl)] OKX.out rfl (by decide) (by decide) rfl ?_))
    refine (same_lit7 Am [(3, xl)] 1 _ (K11.out.r (Am, [(3, xl)]) (by simp)) OKX.out rfl (by decide)).mono ?_
    rintro e v12 ⟨rfl, hb⟩
    have K12 := kp K11 hb
    clear hb K11
    go_wp2_with (first
      | (refine wpList_load25g (by rfl) (.tmp 1) rfl rfl K12.out.x hx16 ?_)
      | (refine wpList_load25g (by rfl) (.tmp 1) rfl rfl (K12.out.x.alloc _) hx16 ?_)
      | (refine wpList_load25g (by rfl) (.tmp 2) rfl rfl K12.out.y hy16 ?_)
      | (refine wpList_load25g (by rfl) (.tmp 2) rfl rfl (K12.out.y.alloc _) hy16 ?_)
      | (refine wpList_load25g (by rfl) (.tmp 3) rfl rfl K12.out.z ha16 ?_)
      | (refine wpList_load25g (by rfl) (.tmp 3) rfl rfl (K12.out.z.alloc _) ha16 ?_))
    refine (bool_lit (has7_any (some ⟨ga, 0, none⟩) [(3, xl), (3, yl)] 2 2 3 yl _ (ino_of (K12.out.r ((some ⟨ga, 0, none⟩), [(3, xl), (3, yl)]) (by simp)) rfl (by decide)) (by decide) HYO.out) HHA.out).mono ?_
    rintro e v13 ⟨rfl, hb⟩
    have K13 := kp K12 hb
    clear hb K12
    go_wp2_with (first
      | (refine wpList_load25g (by rfl) (.tmp 1) rfl rfl K13.out.x hx16 ?_)
      | (refine wpList_load25g (by rfl) (.tmp 1) rfl rfl (K13.out.x.alloc _) hx16 ?_)
      | (refine wpList_load25g (by rfl) (.tmp 2) rfl rfl K13.out.y hy16 ?_)
      | (refine wpList_load25g (by rfl) (.tmp 2) rfl rfl (K13.out.y.alloc _) hy16 ?_)
      | (refine wpList_load25g (by rfl) (.tmp 3) rfl rfl K13.out.z ha16 ?_)
      | (refine wpList_load25g (by rfl) (.tmp 3) rfl rfl (K13.out.z.alloc _) ha16 ?_))
    refine (bool_lit (v := false) (hasany7_any (some ⟨ga, 0, none⟩) [(3, xl), (3, yl)] 2 2 _ (ino_of (K13.out.r ((some ⟨ga, 0, none⟩), [(3, xl), (3, yl)]) (by simp)) rfl (by decide)) (by decide)) (by rw [HANYL.out]; exact HAY.out)).mono ?_
    rintro e v14 ⟨rfl, hb⟩
    have K14 := kp K13 hb
    clear hb K13
    go_wp2_with (first
      | (refine wpList_load25g (by rfl) (.tmp 1) rfl rfl K14.out.x hx16 ?_)
      | (refine wpList_load25g (by rfl) (.tmp 1) rfl rfl (K14.out.x.alloc _) hx16 ?_)
      | (refine wpList_load25g (by rfl) (.tmp 2) rfl rfl K14.out.y hy16 ?_)
      | (refine wpList_load25g (by rfl) (.tmp 2) rfl rfl (K14.out.y.alloc _) hy16 ?_)
      | (refine wpList_load25g (by rfl) (.tmp 3) rfl rfl K14.out.z ha16 ?_)
      | (refine wpList_load25g (by rfl) (.tmp 3) rfl rfl (K14.out.z.alloc _) ha16 ?_))
    refine (bool_lit (v := true) (hasany7_any (some ⟨gb, 0, none⟩) [(3, yl), (5, al)] 2 2 _ (ino_of (K14.out.r ((some ⟨gb, 0, none⟩), [(3, yl), (5, al)]) (by simp)) rfl (by decide)) (by decide)) (by rw [HANYL.out]; exact HBY.out)).mono ?_
    rintro e v15 ⟨rfl, hb⟩
    have K15 := kp K14 hb
    clear hb K14
    go_wp2_with (first
      | (refine wpList_load25g (by rfl) (.tmp 1) rfl rfl K15.out.x hx16 ?_)
      | (refine wpList_load25g (by rfl) (.tmp 1) rfl rfl (K15.out.x.alloc _) hx16 ?_)
      | (refine wpList_load25g (by rfl) (.tmp 2) rfl rfl K15.out.y hy16 ?_)
      | (refine wpList_load25g (by rfl) (.tmp 2) rfl rfl (K15.out.y.alloc _) hy16 ?_)
      | (refine wpList_load25g (by rfl) (.tmp 3) rfl rfl K15.out.z ha16 ?_)
      | (refine wpList_load25g (by rfl) (.tmp 3) rfl rfl (K15.out.z.alloc _) ha16 ?_))
    refine (bool_lit (within_any Ac (some ⟨ga, 0, none⟩) [(3, yl)] [(3, xl), (3, yl)] 1 2 1 2 _ (ino_of (K15.out.r (Ac, [(3, yl)]) (by simp)) rfl (by decide)) (ino_of (K15.out.r ((some ⟨ga, 0, none⟩), [(3, xl), (3, yl)]) (by simp)) rfl (by decide)) (by decide) (by decide)) HWI.out).mono ?_
    rintro e v16 ⟨rfl, hb⟩
    have K16 := kp K15 hb
    clear hb K15
    go_wp2_with (first
      | (refine wpList_load25g (by rfl) (.tmp 1) rfl rfl K16.out.x hx16 ?_)
      | (refine wpList_load25g (by rfl) (.tmp 1) rfl rfl (K16.out.x.alloc _) hx16 ?_)
      | (refine wpList_load25g (by rfl) (.tmp 2) rfl rfl K16.out.y hy16 ?_)
      | (refine wpList_load25g (by rfl) (.tmp 2) rfl rfl (K16.out.y.alloc _) hy16 ?_)
      | (refine wpList_load25g (by rfl) (.tmp 3) rfl rfl K16.out.z ha16 ?_)
      | (refine wpList_load25g (by rfl) (.tmp 3) rfl rfl (K16.out.z.alloc _) ha16 ?_))
    refine (bool_lit (same7_any (some ⟨ga, 0, none⟩) (some ⟨gb, 0, none⟩) [(3, xl), (3, yl)] [(3, yl), (5, al)] 2 2 2 2 _ (ino_of (K16.out.r ((some ⟨ga, 0, none⟩), [(3, xl), (3, yl)]) (by simp)) rfl (by decide)) (ino_of (K16.out.r ((some ⟨gb, 0, none⟩), [(3, yl), (5, al)]) (by simp)) rfl (by decide)) (by decide)) HSA.out).mono ?_
    rintro e v17 ⟨rfl, hb⟩
    have K17 := kp K16 hb
    clear hb K16
    go_wp2_with (first
      | (refine wpList_load25g (by rfl) (.tmp 1) rfl rfl K17.out.x hx16 ?_)
      | (refine wpList_load25g (by rfl) (.tmp 1) rfl rfl (K17.out.x.alloc _) hx16 ?_)
      | (refine wpList_load25g (by rfl) (.tmp 2) rfl rfl K17.out.y hy16 ?_)
      | (refine wpList_load25g (by rfl) (.tmp 2) rfl rfl (K17.out.y.alloc _) hy16 ?_)
      | (refine wpList_load25g (by rfl) (.tmp 3) rfl rfl K17.out.z ha16 ?_)
      | (refine wpList_load25g (by rfl) (.tmp 3) rfl rfl (K17.out.z.alloc _) ha16 ?_))
    refine (text_at (some ⟨ga, 0, none⟩) [(3, xl), (3, yl)] 2 _ ⟨#[123, 49, 46, 50, 46, 51, 32, 49, 46, 50, 46, 52, 125]⟩ _ (K17.out.r ((some ⟨ga, 0, none⟩), [(3, xl), (3, yl)]) (by simp)) rfl (by decide) K17.out.e HCK3.out HTX.out rfl).mono ?_
    rintro e v18 ⟨rfl, hb⟩
    have K18 := kp K17 hb
    clear hb K17
    go_wp2_with (first
      | (refine wpList_load25g (by rfl) (.tmp 1) rfl rfl K18.out.x hx16 ?_)
      | (refine wpList_load25g (by rfl) (.tmp 1) rfl rfl (K18.out.x.alloc _) hx16 ?_)
      | (refine wpList_load25g (by rfl) (.tmp 2) rfl rfl K18.out.y hy16 ?_)
      | (refine wpList_load25g (by rfl) (.tmp 2) rfl rfl (K18.out.y.alloc _) hy16 ?_)
      | (refine wpList_load25g (by rfl) (.tmp 3) rfl rfl K18.out.z ha16 ?_)
      | (refine wpList_load25g (by rfl) (.tmp 3) rfl rfl (K18.out.z.alloc _) ha16 ?_))
    refine (text_at none [] 0 [123, 125] ⟨#[123, 125]⟩ _ RdO.nil rfl (by decide) K18.out.e (by decide) rfl rfl).mono ?_
    rintro e v19 ⟨rfl, hb⟩
    have K19 := kp K18 hb
    clear hb K18
    go_wp2_with (first
      | (refine wpList_load25g (by rfl) (.tmp 1) rfl rfl K19.out.x hx16 ?_)
      | (refine wpList_load25g (by rfl) (.tmp 1) rfl rfl (K19.out.x.alloc _) hx16 ?_)
      | (refine wpList_load25g (by rfl) (.tmp 2) rfl rfl K19.out.y hy16 ?_)
      | (refine wpList_load25g (by rfl) (.tmp 2) rfl rfl (K19.out.y.alloc _) hy16 ?_)
      | (refine wpList_load25g (by rfl) (.tmp 3) rfl rfl K19.out.z ha16 ?_)
      | (refine wpList_load25g (by rfl) (.tmp 3) rfl rfl (K19.out.z.alloc _) ha16 ?_))
    refine (parsed_at ⟨#[123, 49, 46, 50, 46, 51, 32, 49, 46, 50, 46, 52, 125]⟩ [123, 49, 46, 50, 46, 51, 32, 49, 46, 50, 46, 52, 125] (some ⟨ga, 0, none⟩) [(3, xl), (3, yl)] 2 0 _ rfl (by decide) (by decide) K19.out.e (K19.out.r ((some ⟨ga, 0, none⟩), [(3, xl), (3, yl)]) (by simp)) rfl (by decide) HP1.out (fun h => absurd rfl h)).mono ?_
    rintro e v20 ⟨rfl, hb⟩
    have K20 := kp K19 hb
    clear hb K19
    go_wp2_with (first
      | (refine wpList_load25g (by rfl) (.tmp 1) rfl rfl K20.out.x hx16 ?_)
      | (refine wpList_load25g (by rfl) (.tmp 1) rfl rfl (K20.out.x.alloc _) hx16 ?_)
      | (refine wpList_load25g (by rfl) (.tmp 2) rfl rfl K20.out.y hy16 ?_)
      | (refine wpList_load25g (by rfl) (.tmp 2) rfl rfl (K20.out.y.alloc _) hy16 ?_)
      | (refine wpList_load25g (by rfl) (.tmp 3) rfl rfl K20.out.z ha16 ?_)
      | (refine wpList_load25g (by rfl) (.tmp 3) rfl rfl (K20.out.z.alloc _) ha16 ?_))
    refine (parsed_at ⟨#[123, 125]⟩ [123, 125] none [] 0 0 _ rfl (by decide) (by decide) K20.out.e RdO.nil rfl (by decide) HP2.out (fun _ => rfl)).mono ?_
    rintro e v21 ⟨rfl, hb⟩
    have K21 := kp K20 hb
    clear hb K20
    go_wp2_with (first
      | (refine wpList_load25g (by rfl) (.tmp 1) rfl rfl K21.out.x hx16 ?_)
      | (refine wpList_load25g (by rfl) (.tmp 1) rfl rfl (K21.out.x.alloc _) hx16 ?_)
      | (refine wpList_load25g (by rfl) (.tmp 2) rfl rfl K21.out.y hy16 ?_)
      | (refine wpList_load25g (by rfl) (.tmp 2) rfl rfl (K21.out.y.alloc _) hy16 ?_)
      | (refine wpList_load25g (by rfl) (.tmp 3) rfl rfl K21.out.z ha16 ?_)
      | (refine wpList_load25g (by rfl) (.tmp 3) rfl rfl (K21.out.z.alloc _) ha16 ?_))
    refine (parsed_at ⟨#[123, 49, 46, 50, 46, 52, 32, 49, 46, 50, 46, 51, 125]⟩ [123, 49, 46, 50, 46, 52, 32, 49, 46, 50, 46, 51, 125] none [] 0 13 _ rfl (by decide) (by decide) K21.out.e RdO.nil rfl (by decide) HP3.out (fun _ => rfl)).mono ?_
    rintro e v22 ⟨rfl, hb⟩
    have K22 := kp K21 hb
    clear hb K21
    go_wp2_with (first
      | (refine wpList_load25g (by rfl) (.tmp 1) rfl rfl K22.out.x hx16 ?_)
      | (refine wpList_load25g (by rfl) (.tmp 1) rfl rfl (K22.out.x.alloc _) hx16 ?_)
      | (refine wpList_load25g (by rfl) (.tmp 2) rfl rfl K22.out.y hy16 ?_)
      | (refine wpList_load25g (by rfl) (.tmp 2) rfl rfl (K22.out.y.alloc _) hy16 ?_)
      | (refine wpList_load25g (by rfl) (.tmp 3) rfl rfl K22.out.z ha16 ?_)
      | (refine wpList_load25g (by rfl) (.tmp 3) rfl rfl (K22.out.z.alloc _) ha16 ?_))
    refine (parsed_at ⟨#[123, 49, 46, 50, 46, 51, 32, 32, 49, 46, 50, 46, 52, 125]⟩ [123, 49, 46, 50, 46, 51, 32, 32, 49, 46, 50, 46, 52, 125] none [] 0 6 _ rfl (by decide) (by decide) K22.out.e RdO.nil rfl (by decide) HP4.out (fun _ => rfl)).mono ?_
    rintro e v23 ⟨rfl, hb⟩
    have K23 := kp K22 hb
    clear hb K22
    go_wp2_with (first
      | (refine wpList_load25g (by rfl) (.tmp 1) rfl rfl K23.out.x hx16 ?_)
      | (refine wpList_load25g (by rfl) (.tmp 1) rfl rfl (K23.out.x.alloc _) hx16 ?_)
      | (refine wpList_load25g (by rfl) (.tmp 2) rfl rfl K23.out.y hy16 ?_)
      | (refine wpList_load25g (by rfl) (.tmp 2) rfl rfl (K23.out.y.alloc _) hy16 ?_)
      | (refine wpList_load25g (by rfl) (.tmp 3) rfl rfl K23.out.z ha16 ?_)
      | (refine wpList_load25g (by rfl) (.tmp 3) rfl rfl (K23.out.z.alloc _) ha16 ?_))
    refine (parsed_at ⟨#[123, 49, 46, 50, 46, 48, 51, 125]⟩ [123, 49, 46, 50, 46, 48, 51, 125] none [] 0 6 _ rfl (by decide) (by decide) K23.out.e RdO.nil rfl (by decide) HP5.out (fun _ => rfl)).mono ?_
    rintro e v24 ⟨rfl, hb⟩
    have K24 := kp K23 hb
    clear hb K23
    go_wp2_with (first
      | (refine wpList_load25g (by rfl) (.tmp 1) rfl rfl K24.out.x hx16 ?_)
      | (refine wpList_load25g (by rfl) (.tmp 1) rfl rfl (K24.out.x.alloc _) hx16 ?_)
      | (refine wpList_load25g (by rfl) (.tmp 2) rfl rfl K24.out.y hy16 ?_)
      | (refine wpList_load25g (by rfl) (.tmp 2) rfl rfl (K24.out.y.alloc _) hy16 ?_)
      | (refine wpList_load25g (by rfl) (.tmp 3) rfl rfl K24.out.z ha16 ?_)
      | (refine wpList_load25g (by rfl) (.tmp 3) rfl rfl (K24.out.z.alloc _) ha16 ?_))
    refine (parsed_at ⟨#[49, 46, 50, 46, 51]⟩ [49, 46, 50, 46, 51] none [] 0 6 _ rfl (by decide) (by decide) K24.out.e RdO.nil rfl (by decide) HP6.out (fun _ => rfl)).mono ?_
    rintro e v25 ⟨rfl, hb⟩
    have K25 := kp K24 hb
    clear hb K24
    go_wp2_with fail
    go_ret
    exact ⟨rfl, K25.out.b⟩
end Go.Proofs.YtaiiihdckdjpoaaGreatDoor
