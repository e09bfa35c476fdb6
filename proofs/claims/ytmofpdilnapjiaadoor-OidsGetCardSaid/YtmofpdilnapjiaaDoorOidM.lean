/-
  The reference of layer 6: the contract of Get.
  Conditions: the slice reads as bytes.
-/
import Derived.Test.YtmofpdilnapjiaaDoorOidL
import Derived.Test.YtmofpdilnapjiaaDoorOidJ
namespace Go.Proofs.YtmofpdilnapjiaaDoor
open Go.RowKit

theorem infoI : (Tryd.prog.info? 3).map (fun i => (i.zero, i.size, i.bytes)) = some (some (.int .i64 0), 1, 8) := by kernel_rfl
theorem appInt {w : World} {base : Nat} {v : Value} {l : List Nat} (hown : w.ownsRow base 3 1 v l.length (csI l)) (x : Nat) (hb : base ≤ w.heap.size) (hl : l.length ≤ 1000000) :
    ∃ v' w', (Builtin.append_ #[55, 55] 55 #[v, .slice (some ⟨w.heap.size, 0, none⟩) 1 1]).run Tryd.prog (w.alloc (.cells #[.int .i64 (x : Int)] 3)) = .ok v' w' ∧ w'.ownsRow base 3 1 v' (l ++ [x]).length (csI (l ++ [x])) ∧ Below base w w' := by
  rw [← csI_length] at hown
  obtain ⟨v', w', h1, h2, h3⟩ := app_one (P := Tryd.prog) (ty := 55) Tryd.underlying55 infoI rfl hown (.int .i64 (x : Int)) rfl hb (by rw [csI_length]; omega) (by rw [csI_length]; unfold maxLen; omega)
  refine ⟨v', w', h1, ?_, h3⟩
  rw [csI_snoc, csI_length] at h2
  exact h2
theorem own_form {w : World} {base : Nat} {e : TypeId} {v : Value} {n : Nat} {xs : List Value} (h : w.ownsRow base e 1 v n xs) : ∃ A c, v = .slice A n c := by
  rcases h.2 with ⟨rfl, rfl⟩ | ⟨g, cap, cur, rfl, _⟩
  · exact ⟨_, _, rfl⟩
  · exact ⟨_, _, rfl⟩
theorem own_int {w : World} {base : Nat} {A : Option Addr} {n c : Nat} {l : List Nat} (h : w.ownsRow base 3 1 (.slice A n c) l.length (csI l)) : Ri w A l := by
  have := own_open (e := 3) (base := base) (w := w) (v := .slice A n c) (xs := csI l) (by rw [csI_length]; exact h)
  obtain ⟨A', c', e, hr, _⟩ := this
  injection e with e
  rw [e]; exact hr
/-- What stands between two rounds of the reference's Get. -/
structure RGetR (w : World) (l : List Nat) (r : List Nat × Nat) (acc : List Nat) (i : Nat) (v : Value) (wr : World) : Prop where
  il : i ≤ l.length
  al : acc.length ≤ 15
  a32 : ∀ x ∈ acc, x < 4294967296
  own : wr.ownsRow (w.heap.size + 1) 3 1 v acc.length (csI acc)
  res : Bk wr w.heap.size 25 (oc 0 zeroL)
  bel : Below w.heap.size w wr
  eq : ∃ f, l.length - i ≤ f ∧ r = getF f acc (l.drop i)
  ne : i = l.length → acc ≠ []

set_option maxRecDepth 100000 in
set_option maxHeartbeats 4000000 in
theorem rget_any (A : Option Addr) (l : List Nat) (c : Nat) (w : World) (hm : l.length ≤ 1000000) (hA : Rb w A l) :
    Calls Tryd.prog 26 #[.slice A l.length c] w (GiveG w (getO l)) := by
  have hz := zero25
  have HZL := Lib.hid zeroL_length
  by_cases h0 : l.length = 0
  · have HE := Lib.hid (show getO l = (0, zeroL, 7) from if_pos h0)
    rw [HE.out]
    have S0 := Lib.hid (Bk.new w 25 (oc 0 zeroL))
    have B0 := Lib.hid (bel1 w (.cells (oc 0 zeroL).toArray 25))
    rw [h0]
    clear h0 HE
    generalize zeroL = zl at *
    go_enter Tryd.func26, Tryd.ntmps26
    go_upto_region 3 with fail
    generalize w.alloc (.cells (oc 0 zl).toArray 25) = w1 at *
    go_loopw [4, 5] (fun v i wr => v = .slice none 0 0 ∧ i = .int .i64 0 ∧ wr = w1) (fun _ _ _ => 0)
    case atStart => exact ⟨rfl, rfl, rfl⟩
    case round =>
      obtain ⟨rfl, rfl, rfl⟩ := hrel
      go_wp2_with (refine wpList_store25 rfl (.tmp 2) (.tmp 23) rfl rfl rfl S0.out (by rw [oc_length, HZL.out]) HZL.out ?_; intro w5 S5 hg5 hz5; have HS5 := Lib.hid S5; have HB5 := Lib.hid (B0.out.grown hg5 B0.out.size (fun k e => by injection e with e; omega)); clear S5 hg5 hz5)
      exact ret25t rfl rfl rfl HS5.out HZL.out rfl ⟨rfl, HB5.out⟩
  · have HE := Lib.hid (show getO l = if (getF l.length [] l).2 ≠ 0 then (0, zeroL, (getF l.length [] l).2) else ((getF l.length [] l).1.length + 1, mkL (getF l.length [] l).1, 0) from if_neg h0)
    rw [HE.out]
    obtain ⟨r, hr⟩ : ∃ r, getF l.length [] l = r := ⟨_, rfl⟩
    rw [hr]
    have HR := Lib.hid hr
    clear HE
    obtain ⟨T, hT⟩ : ∃ T, (if r.2 ≠ 0 then (0, zeroL, r.2) else (r.1.length + 1, mkL r.1, 0)) = T := ⟨_, rfl⟩
    rw [hT]
    have HT := Lib.hid hT
    have S0 := Lib.hid (Bk.new w 25 (oc 0 zeroL))
    have B0 := Lib.hid (bel1 w (.cells (oc 0 zeroL).toArray 25))
    have HA := Lib.hid hA
    clear hT hr hA
    generalize hzl : zeroL = zl at *
    have HZ := Lib.hid hzl
    clear hzl
    go_enter Tryd.func26, Tryd.ntmps26
    go_upto_region 3 with fail
    generalize w.alloc (.cells (oc 0 zl).toArray 25) = w1 at *
    have START := Lib.hid (show RGetR w l r [] 0 (.slice none 0 0) w1 from ⟨Nat.zero_le _, by simp, by simp, World.ownsRow_nil _ _ _ _, HZ.out ▸ S0.out, B0.out, ⟨l.length, by omega, HR.out.symm⟩, fun e => absurd e.symm h0⟩)
    clear S0 B0
    go_loopw [4, 5, 6] (fun v i _ wr => ∃ (acc : List Nat) (j : Nat), i = .int .i64 (j : Int) ∧ RGetR w l r acc j v wr) (fun _ i _ _ => l.length - (intOf i).toNat)
    case atStart => exact ⟨[], 0, rfl, START.out⟩
    case round =>
      obtain ⟨acc, i, rfl, hR⟩ := hrel
      have HG := Lib.hid hR
      clear hR START
      obtain ⟨Av, cv, hv⟩ := own_form HG.out.own
      subst hv
      have hil := HG.out.il
      rcases Nat.lt_or_ge i l.length with hi | hi
      · obtain ⟨b, off, rfl, hb, hy8, hyc⟩ := HA.out.at_ hi
        have hyc := (HG.out.bel.cell (p := ⟨b, off + i, none⟩) hb).trans hyc
        obtain ⟨f, hf, hreq⟩ := HG.out.eq
        obtain ⟨f, rfl⟩ : ∃ f', f = f' + 1 := ⟨f - 1, by omega⟩
        have hdr := List.drop_eq_getElem_cons hi
        rw [hdr, getF, ← hdr] at hreq
        have hsub : subO (l.drop i) = if l[i] = 128 then (0, 0, 11) else rdS 0 0 (l.drop i) := by rw [hdr, subO_cons, ← hdr]
        have hib : decide (i < l.length) = true := decide_eq_true hi
        have hib2 : ((i : Int) == (l.length : Int)) = false := by rw [beq_eq_false_iff_ne]; omega
        generalize hbi : l[i] = y at *
        clear hdr
        by_cases h15 : acc.length = 15
        · rw [if_pos h15] at hreq
          have HREQ := Lib.hid hreq
          rw [h15]
          clear hreq hsub hyc h15 hbi
          go_wp2_with (refine wpList_store25 rfl (.tmp 2) (.tmp 27) rfl rfl rfl HG.out.res (by rw [oc_length]; rfl) HZL.out ?_; intro w5 S5 hg5 hz5; have HS5 := Lib.hid S5; have HB5 := Lib.hid (HG.out.bel.grown hg5 HG.out.bel.size (fun k e => by injection e with e; omega)); clear S5 hg5 hz5)
          refine ret25t rfl rfl rfl HS5.out HZL.out rfl ⟨?_, HB5.out⟩
          rw [← HT.out, HREQ.out, ← HZ.out]
          rfl
        · rw [if_neg h15] at hreq
          have hb15 : ((acc.length : Int) == 15) = false := by rw [beq_eq_false_iff_ne]; omega
          have hal := HG.out.al
          have H15 := Lib.hid h15
          clear h15
          by_cases hy : y = 128
          · rw [hsub, if_pos hy, if_pos (by simp)] at hreq
            have HREQ := Lib.hid hreq
            subst hy
            clear hreq hsub hbi
            go_wp2_with (refine wpList_store25 rfl (.tmp 2) (.tmp 33) rfl rfl rfl HG.out.res (by rw [oc_length]; rfl) HZL.out ?_; intro w5 S5 hg5 hz5; have HS5 := Lib.hid S5; have HB5 := Lib.hid (HG.out.bel.grown hg5 HG.out.bel.size (fun k e => by injection e with e; omega)); clear S5 hg5 hz5)
            refine ret25t rfl rfl rfl HS5.out HZL.out rfl ⟨?_, HB5.out⟩
            rw [← HT.out, HREQ.out, ← HZ.out]
            rfl
          · rw [hsub, if_neg hy] at hreq
            have HREQ := Lib.hid hreq
            have hyb : ((y : Int) == 128) = false := by rw [beq_eq_false_iff_ne]; omega
            have HY := Lib.hid hy
            have HBI := Lib.hid hbi
            clear hreq hsub hy hbi
            obtain ⟨wo, rfl⟩ : ∃ wo : World, wo = wr := ⟨_, rfl⟩
            go_wp2_with fail
            clear hyc hyb hb15 hib hib2
            go_loop [5, 6] (fun jv nv => ∃ j x : Nat, i ≤ j ∧ j ≤ l.length ∧ x < 4294967296 ∧ jv = .int .i64 (j : Int) ∧ nv = .int .i64 (x : Int) ∧ rdS 0 0 (l.drop i) = rdS x (j - i) (l.drop j)) (fun jv _ => l.length - (intOf jv).toNat)
            case atStart => exact ⟨i, 0, Nat.le_refl _, hil, by omega, rfl, rfl, by rw [Nat.sub_self]⟩
            case round =>
              obtain ⟨j, x, hij, hjl, hx, rfl, rfl, hrd⟩ := hrel
              have hreq := HREQ.out
              rw [hrd] at hreq
              have HRDX := Lib.hid hrd
              clear hrd
              rcases Nat.lt_or_ge j l.length with hj | hj
              · have hjb : ((j : Int) == (l.length : Int)) = false := by rw [beq_eq_false_iff_ne]; omega
                obtain ⟨b', off', e, -, hy8', hyc'⟩ := HA.out.at_ hj
                injection e with e
                injection e with e1 e2
                subst e1 e2
                have hyc := (HG.out.bel.cell (p := ⟨b, off + j, none⟩) hb).trans hyc'
                have HSTEP := Lib.hid (rdS_drop (v := x) (k := j - i) hj)
                rw [rdS_drop hj] at hreq
                generalize hyy : l[j] = yj at *
                obtain ⟨z, hz1⟩ : ∃ z, yj % 128 = z := ⟨_, rfl⟩
                obtain ⟨v, hv1⟩ : ∃ v, 128 * x + z = v := ⟨_, rfl⟩
                rw [hz1, hv1] at hreq HSTEP
                have hzi : (yj : Int) % 128 = (z : Int) := by omega
                have hvi : 128 * (x : Int) + (z : Int) = (v : Int) := by omega
                have hz128 : z < 128 := by omega
                clear hz1 hv1 hyc' hyy
                by_cases hv3 : 4294967295 < v
                · rw [if_pos hv3, if_pos (by simp)] at hreq
                  have HREQ := Lib.hid hreq
                  clear hreq
                  go_wp2_with (refine wpList_store25 rfl (.tmp 2) (.tmp 50) rfl rfl rfl HG.out.res (by rw [oc_length]; rfl) HZL.out ?_; intro w5 S5 hg5 hz5; have HS5 := Lib.hid S5; have HB5 := Lib.hid (HG.out.bel.grown hg5 HG.out.bel.size (fun k e => by injection e with e; omega)); clear S5 hg5 hz5)
                  refine ret25t rfl rfl rfl HS5.out HZL.out rfl ⟨?_, HB5.out⟩
                  rw [← HT.out, HREQ.out, ← HZ.out]
                  rfl
                · rw [if_neg hv3] at hreq
                  by_cases hyl : yj < 128
                  · rw [if_pos hyl, if_neg (by simp)] at hreq
                    simp only [List.drop_drop] at hreq
                    rw [show i + (j - i + 1) = j + 1 by omega] at hreq
                    have HREQ2 := Lib.hid hreq
                    obtain ⟨v2, w2, hrun, hown2, hb2⟩ := appInt HG.out.own v HG.out.res.lt (by omega)
                    have hnew : RGetR w l r (acc ++ [v]) (j + 1) v2 w2 := ⟨by omega, by have := H15.out; simp; omega, fun q hq => by
                        rcases List.mem_append.1 hq with hq | hq
                        · exact HG.out.a32 q hq
                        · obtain rfl : q = v := by simpa using hq
                          omega, hown2, HG.out.res.below hb2 (Nat.lt_succ_self _), HG.out.bel.trans (hb2.mono (Nat.le_succ _)), ⟨f, by omega, HREQ2.out⟩, fun _ => by simp⟩
                    have HNEW := Lib.hid hnew
                    clear hreq hnew hown2 hb2
                    go_wp2_with (at_builtin; refine wpList_app rfl _ _ _ _ rfl _ _ rfl rfl hrun ?_)
                    exact ⟨⟨acc ++ [v], j + 1, by go_num, HNEW.out⟩, by simp [intOf]; omega⟩
                  · have HRD : Hid (rdS 0 0 (l.drop i) = rdS v (j + 1 - i) (l.drop (j + 1))) := Lib.hid (by rw [HRDX.out, HSTEP.out, if_neg hv3, if_neg hyl, show j - i + 1 = j + 1 - i by omega])
                    clear hreq
                    go_wp2
                    go_round
                    case rel => exact ⟨j + 1, v, by omega, by omega, by omega, by go_num, rfl, HRD.out⟩
                    case measure => simp [intOf]; omega
              · obtain rfl : j = l.length := by omega
                rw [List.drop_of_length_le (l := l) (Nat.le_refl _), rdS, if_pos (by simp)] at hreq
                have HREQ := Lib.hid hreq
                clear hreq
                go_wp2_with (refine wpList_store25 rfl (.tmp 2) (.tmp 38) rfl rfl rfl HG.out.res (by rw [oc_length]; rfl) HZL.out ?_; intro w5 S5 hg5 hz5; have HS5 := Lib.hid S5; have HB5 := Lib.hid (HG.out.bel.grown hg5 HG.out.bel.size (fun k e => by injection e with e; omega)); clear S5 hg5 hz5)
                refine ret25t rfl rfl rfl HS5.out HZL.out rfl ⟨?_, HB5.out⟩
                rw [← HT.out, HREQ.out, ← HZ.out]
                rfl
      · obtain rfl : i = l.length := by omega
        obtain ⟨x, m, rfl⟩ : ∃ x m, acc = x :: m := by
          have := HG.out.ne rfl
          cases acc with
          | nil => exact absurd rfl this
          | cons x m => exact ⟨x, m, rfl⟩
        have HE3 : Hid (r = (x :: m, 0)) := Lib.hid (by
          obtain ⟨f, _, e⟩ := HG.out.eq
          rw [e, List.drop_of_length_le (Nat.le_refl _)]; cases f <;> rfl)
        have hx32 := HG.out.a32 x (by simp)
        have hml : m.length ≤ 14 := by have := HG.out.al; simp at this; omega
        have hri := own_int HG.out.own
        have hlb : (((x :: m).length : Int) == 0) = false := by rw [beq_eq_false_iff_ne, List.length_cons]; omega
        obtain ⟨k, hk⟩ : ∃ k, (x :: m).length = k := ⟨_, rfl⟩
        obtain ⟨d, hd⟩ : ∃ d, min (x / 40) 2 = d := ⟨_, rfl⟩
        obtain ⟨y, hy⟩ : ∃ y, x - 40 * d = y := ⟨_, rfl⟩
        have HTT : Hid (T = (m.length + 2, pad (d :: y :: m), 0)) := Lib.hid (by
          rw [← HT.out, HE3.out, if_neg (by simp), mkL, hd, hy]; rfl)
        rw [hk] at hlb ⊢
        have HRI := Lib.hid hri
        have HK := Lib.hid hk
        have HD := Lib.hid hd
        have HYY := Lib.hid hy
        clear hri hk hd hy
        go_upto_region 20 with fail
        have hk15 : k ≤ 15 := by have := HK.out; simp at this; omega
        have e7 := Lib.hid (Bk.new wr 25 (oc 0 zl))
        have r7 := Lib.hid (HG.out.res.alloc (.cells (oc 0 zl).toArray 25))
        have b7 := Lib.hid (HG.out.bel.alloc HG.out.bel.size (.cells (oc 0 zl).toArray 25))
        have i7 := Lib.hid (HRI.out.below (bel1 wr (.cells (oc 0 zl).toArray 25)))
        have hlt := HG.out.res.lt
        have hsz : wr.heap.size < (wr.alloc (.cells (oc 0 zl).toArray 25)).heap.size := by simp
        obtain ⟨bv, ov, hAv, hbv, -⟩ := HRI.out.at_ (k := 0) (by simp)
        subst hAv
        have c0 := oid_n e7.out
        have f0 := e7.out.free 0
        obtain ⟨k1, hk1⟩ : ∃ k1, k + 1 = k1 := ⟨_, rfl⟩
        have hk1i : (k : Int) + 1 = (k1 : Int) := by omega
        have hk16 : k1 ≤ 16 := by omega
        generalize wr.alloc (.cells (oc 0 zl).toArray 25) = we at *
        generalize wr.heap.size = g at *
        have hne : bv ≠ g := by omega
        have HK1 := Lib.hid hk1
        clear hk1
        go_upto_region 21 with fail
        have e8 := Lib.hid (show Bk (we.setCell ⟨g, 0, none⟩ (.int .u8 (k1 : Int))) g 25 (oc k1 zl) from e7.out.store 0 (.int .u8 (k1 : Int)))
        have r8 := Lib.hid (r7.out.far (p := ⟨g, 0, none⟩) (by simp; omega) (.int .u8 (k1 : Int)))
        have b8 := Lib.hid (b7.out.setCell (p := ⟨g, 0, none⟩) (by show w.heap.size ≤ g; omega) (.int .u8 (k1 : Int)))
        have i8 := Lib.hid (Rd.far (B := g) (o := 0) i7.out (fun q hq => by injection hq with hq; rw [← hq]; exact hne) (.int .u8 (k1 : Int)))
        clear c0 f0 hk1i e7 r7 b7 i7
        generalize we.setCell ⟨g, 0, none⟩ (.int .u8 (k1 : Int)) = wf at *
        have HZP := Lib.hid (show zl = pad [] from by rw [← HZ.out]; rfl)
        have HCX := Lib.hid (fun (W : World) (h : Rd W (some ⟨bv, ov, none⟩) (csI (x :: m))) => show W.cell? ⟨bv, ov, none⟩ = some (.int .i64 (x : Int)) from by
          obtain ⟨b', o', e, _, h2⟩ := h.at_ (k := 0) (by simp [csI])
          injection e with e
          injection e with e1 e2
          subst e1 e2
          exact h2)
        have cx := HCX.out wf i8.out
        have hk0 : 0 < k := by have := HK.out; simp at this; omega
        have hyi : (x : Int) - 40 * (d : Int) = (y : Int) := by have h1 := HD.out; have h2 := HYY.out; omega
        have c1 : wf.cell? ⟨g, 1, none⟩ = some (.int .u32 0) := by rw [e8.out.cell, HZP.out]; rfl
        have f1 := e8.out.free 1
        have hd2 : d ≤ 2 := by have := HD.out; omega
        have hdx : 40 * d ≤ x := by have := HD.out; omega
        have HA32 := Lib.hid HG.out.a32
        by_cases h80 : x < 80
        · have hui : (x : Int) / 40 = (d : Int) := by have := HD.out; omega
          go_upto_region 25 with fail
          clear hui
          have e9 := Lib.hid (show Bk (wf.setCell ⟨g, 1, none⟩ (.int .u32 (d : Int))) g 25 (oc k1 (pad [d])) from by
            have := e8.out.store 1 (.int .u32 (d : Int))
            rw [oc_set k1 zl 0 d, HZP.out] at this
            exact this)
          have r9 := Lib.hid (r8.out.far (p := ⟨g, 1, none⟩) (by simp; omega) (.int .u32 (d : Int)))
          have b9 := Lib.hid (b8.out.setCell (p := ⟨g, 1, none⟩) (by show w.heap.size ≤ g; omega) (.int .u32 (d : Int)))
          have i9 := Lib.hid (Rd.far (B := g) (o := 1) i8.out (fun q hq => by injection hq with hq; rw [← hq]; exact hne) (.int .u32 (d : Int)))
          generalize wf.setCell ⟨g, 1, none⟩ (.int .u32 (d : Int)) = wg at *
          clear c1 f1 e8 r8 b8 i8 cx
          have cx : wg.cell? ⟨bv, ov, none⟩ = some (.int .i64 (x : Int)) := HCX.out wg i9.out
          have c2 : wg.cell? ⟨g, 2, none⟩ = some (.int .u32 0) := by rw [e9.out.cell]; rfl
          have f2 := e9.out.free 2
          go_upto_region 26 with fail
          have e10 := Lib.hid (show Bk (wg.setCell ⟨g, 2, none⟩ (.int .u32 (y : Int))) g 25 (oc k1 (pad (d :: y :: m.take 0))) from by
            have := e9.out.store 2 (.int .u32 (y : Int))
            rw [oc_set k1 _ 1 y] at this
            exact this)
          have r10 := Lib.hid (r9.out.far (p := ⟨g, 2, none⟩) (by simp; omega) (.int .u32 (y : Int)))
          have b10 := Lib.hid (b9.out.setCell (p := ⟨g, 2, none⟩) (by show w.heap.size ≤ g; omega) (.int .u32 (y : Int)))
          have i10 := Lib.hid (Rd.far (B := g) (o := 2) i9.out (fun q hq => by injection hq with hq; rw [← hq]; exact hne) (.int .u32 (y : Int)))
          generalize wg.setCell ⟨g, 2, none⟩ (.int .u32 (y : Int)) = wh at *
          clear c2 f2 e9 r9 b9 i9 cx
          go_wp2
          have E10 := Lib.hid (show m.length + 1 = k from HK.out)
          go_loopw [9] (fun kv wl => ∃ p : Nat, p ≤ m.length ∧ kv = .int .i64 ((1 + p : Nat) : Int) ∧ Bk wl g 25 (oc k1 (pad (d :: y :: m.take p))) ∧ Bk wl w.heap.size 25 (oc 0 zeroL) ∧ Below w.heap.size w wl ∧ Rd wl (some ⟨bv, ov, none⟩) (csI (x :: m))) (fun kv _ => k - (intOf kv).toNat)
          case atStart => exact ⟨0, Nat.zero_le _, rfl, e10.out, r10.out, b10.out, i10.out⟩
          case round =>
            obtain ⟨p, hp, rfl, h1, h2, h3, h4⟩ := hrel
            have H1 := Lib.hid h1
            have H2 := Lib.hid h2
            have H3 := Lib.hid h3
            have H4 := Lib.hid h4
            clear h1 h2 h3 h4 e10 r10 b10 i10
            have hkm := E10.out
            rcases Nat.lt_or_ge p m.length with hpm | hpm
            · have hlp : (d :: y :: m.take p).length = p + 2 := by rw [List.length_cons, List.length_cons, List.length_take, Nat.min_eq_left (by omega)]
              have hcz : ∃ z, z = m[p] ∧ z < 4294967296 := ⟨_, rfl, HA32.out _ (List.mem_cons_of_mem _ (List.getElem_mem hpm))⟩
              obtain ⟨z, hzm, hz32⟩ := hcz
              obtain ⟨q, hq⟩ : ∃ q, 1 + p = q := ⟨_, rfl⟩
              have hcm : wr.cell? ⟨bv, ov + q, none⟩ = some (.int .i64 (z : Int)) := by
                obtain ⟨b', o', e, _, hcc⟩ := Rd.at_ (k := 1 + p) H4.out (by rw [csI_length, List.length_cons]; omega)
                injection e with e
                injection e with e1 e2
                subst e1 e2
                rw [← hq, hcc, hzm]
                congr 1
                simp [csI, int64, Nat.add_comm 1 p]
              obtain ⟨q1, hq1⟩ : ∃ q1, q + 1 = q1 := ⟨_, rfl⟩
              have hq1i : (q : Int) + 1 = (q1 : Int) := by omega
              obtain ⟨zo, hcell⟩ : ∃ zo : Nat, wr.cell? ⟨g, 1 + q1, none⟩ = some (.int .u32 (zo : Int)) := ⟨_, oid_a' H1.out (by rw [pad_length (by omega)]; omega)⟩
              have hfr := H1.out.free (1 + q1)
              have hq16 : q1 < 16 := by omega
              have hqk : (q : Int) < (k : Int) := by omega
              have hqk2 : q < k := by omega
              have HSET := Lib.hid (show Bk (wr.setCell ⟨g, 1 + q1, none⟩ (.int .u32 (z : Int))) g 25 (oc k1 (pad (d :: y :: m.take (p + 1)))) from by
                have := H1.out.store (1 + q1) (.int .u32 (z : Int))
                rw [Nat.add_comm 1 q1, oc_set, show q1 = (d :: y :: m.take p).length by omega, pad_snoc _ _ (by omega), hlp] at this
                rw [List.take_succ_eq_append_getElem hpm, ← hzm, show 1 + q1 = p + 2 + 1 by omega]
                exact this)
              have HSET2 := Lib.hid (H2.out.far (p := ⟨g, 1 + q1, none⟩) (by simp; omega) (.int .u32 (z : Int)))
              have HSET3 := Lib.hid (H3.out.setCell (p := ⟨g, 1 + q1, none⟩) (by show w.heap.size ≤ g; omega) (.int .u32 (z : Int)))
              have HSET4 := Lib.hid (Rd.far (B := g) (o := 1 + q1) H4.out (fun q hq => by injection hq with hq; rw [← hq]; exact hne) (.int .u32 (z : Int)))
              rw [hq]
              have HQ := Lib.hid hq
              clear hq hq1 hkm hlp hzm
              go_wp2
              exact ⟨⟨p + 1, by omega, by have := HQ.out; congr 1; omega, HSET.out, HSET2.out, HSET3.out, HSET4.out⟩, by simp [intOf]; omega⟩
            · obtain rfl : p = m.length := by omega
              rw [List.take_length] at H1
              have hpl : (pad (d :: y :: m)).length = 16 := pad_length (by simp; omega)
              obtain ⟨q, hq⟩ : ∃ q, 1 + m.length = q := ⟨_, rfl⟩
              have hqk : ¬ q < k := by omega
              have hqk2 : decide (q < k) = false := decide_eq_false hqk
              rw [hq]
              have HQ := Lib.hid hq
              have HHK := Lib.hid hkm
              clear hq hkm
              generalize pad (d :: y :: m) = pl at *
              go_wp2_with (first | (refine wpList_load25 rfl (.tmp 7) rfl rfl H1.out hpl ?_) | (refine wpList_store25 rfl (.tmp 2) (.tmp 104) rfl rfl rfl H2.out (by rw [oc_length]; rfl) hpl ?_; intro w5 S5 hg5 hz5; have HS5 := Lib.hid S5; have HB5 := Lib.hid (H3.out.grown hg5 H3.out.size (fun k e => by injection e with e; omega)); clear S5 hg5 hz5))
              refine ret25t rfl rfl rfl HS5.out hpl rfl ⟨?_, HB5.out⟩
              rw [HTT.out, show m.length + 2 = k1 by have h1 := HK1.out; have h2 := HHK.out; omega]
              rfl
        · have hdd : (2 : Int) = (d : Int) := by have := HD.out; omega
          have hy80 : (x : Int) - 80 = (y : Int) := by omega
          go_upto_region 25 with fail
          clear hdd
          have e9 := Lib.hid (show Bk (wf.setCell ⟨g, 1, none⟩ (.int .u32 (d : Int))) g 25 (oc k1 (pad [d])) from by
            have := e8.out.store 1 (.int .u32 (d : Int))
            rw [oc_set k1 zl 0 d, HZP.out] at this
            exact this)
          have r9 := Lib.hid (r8.out.far (p := ⟨g, 1, none⟩) (by simp; omega) (.int .u32 (d : Int)))
          have b9 := Lib.hid (b8.out.setCell (p := ⟨g, 1, none⟩) (by show w.heap.size ≤ g; omega) (.int .u32 (d : Int)))
          have i9 := Lib.hid (Rd.far (B := g) (o := 1) i8.out (fun q hq => by injection hq with hq; rw [← hq]; exact hne) (.int .u32 (d : Int)))
          generalize wf.setCell ⟨g, 1, none⟩ (.int .u32 (d : Int)) = wg at *
          clear c1 f1 e8 r8 b8 i8 cx
          have cx : wg.cell? ⟨bv, ov, none⟩ = some (.int .i64 (x : Int)) := HCX.out wg i9.out
          have c2 : wg.cell? ⟨g, 2, none⟩ = some (.int .u32 0) := by rw [e9.out.cell]; rfl
          have f2 := e9.out.free 2
          go_upto_region 26 with fail
          have e10 := Lib.hid (show Bk (wg.setCell ⟨g, 2, none⟩ (.int .u32 (y : Int))) g 25 (oc k1 (pad (d :: y :: m.take 0))) from by
            have := e9.out.store 2 (.int .u32 (y : Int))
            rw [oc_set k1 _ 1 y] at this
            exact this)
          have r10 := Lib.hid (r9.out.far (p := ⟨g, 2, none⟩) (by simp; omega) (.int .u32 (y : Int)))
          have b10 := Lib.hid (b9.out.setCell (p := ⟨g, 2, none⟩) (by show w.heap.size ≤ g; omega) (.int .u32 (y : Int)))
          have i10 := Lib.hid (Rd.far (B := g) (o := 2) i9.out (fun q hq => by injection hq with hq; rw [← hq]; exact hne) (.int .u32 (y : Int)))
          generalize wg.setCell ⟨g, 2, none⟩ (.int .u32 (y : Int)) = wh at *
          clear c2 f2 e9 r9 b9 i9 cx
          go_wp2
          have E10 := Lib.hid (show m.length + 1 = k from HK.out)
          go_loopw [9] (fun kv wl => ∃ p : Nat, p ≤ m.length ∧ kv = .int .i64 ((1 + p : Nat) : Int) ∧ Bk wl g 25 (oc k1 (pad (d :: y :: m.take p))) ∧ Bk wl w.heap.size 25 (oc 0 zeroL) ∧ Below w.heap.size w wl ∧ Rd wl (some ⟨bv, ov, none⟩) (csI (x :: m))) (fun kv _ => k - (intOf kv).toNat)
          case atStart => exact ⟨0, Nat.zero_le _, rfl, e10.out, r10.out, b10.out, i10.out⟩
          case round =>
            obtain ⟨p, hp, rfl, h1, h2, h3, h4⟩ := hrel
            have H1 := Lib.hid h1
            have H2 := Lib.hid h2
            have H3 := Lib.hid h3
            have H4 := Lib.hid h4
            clear h1 h2 h3 h4 e10 r10 b10 i10
            have hkm := E10.out
            rcases Nat.lt_or_ge p m.length with hpm | hpm
            · have hlp : (d :: y :: m.take p).length = p + 2 := by rw [List.length_cons, List.length_cons, List.length_take, Nat.min_eq_left (by omega)]
              have hcz : ∃ z, z = m[p] ∧ z < 4294967296 := ⟨_, rfl, HA32.out _ (List.mem_cons_of_mem _ (List.getElem_mem hpm))⟩
              obtain ⟨z, hzm, hz32⟩ := hcz
              obtain ⟨q, hq⟩ : ∃ q, 1 + p = q := ⟨_, rfl⟩
              have hcm : wr.cell? ⟨bv, ov + q, none⟩ = some (.int .i64 (z : Int)) := by
                obtain ⟨b', o', e, _, hcc⟩ := Rd.at_ (k := 1 + p) H4.out (by rw [csI_length, List.length_cons]; omega)
                injection e with e
                injection e with e1 e2
                subst e1 e2
                rw [← hq, hcc, hzm]
                congr 1
                simp [csI, int64, Nat.add_comm 1 p]
              obtain ⟨q1, hq1⟩ : ∃ q1, q + 1 = q1 := ⟨_, rfl⟩
              have hq1i : (q : Int) + 1 = (q1 : Int) := by omega
              obtain ⟨zo, hcell⟩ : ∃ zo : Nat, wr.cell? ⟨g, 1 + q1, none⟩ = some (.int .u32 (zo : Int)) := ⟨_, oid_a' H1.out (by rw [pad_length (by omega)]; omega)⟩
              have hfr := H1.out.free (1 + q1)
              have hq16 : q1 < 16 := by omega
              have hqk : (q : Int) < (k : Int) := by omega
              have hqk2 : q < k := by omega
              have HSET := Lib.hid (show Bk (wr.setCell ⟨g, 1 + q1, none⟩ (.int .u32 (z : Int))) g 25 (oc k1 (pad (d :: y :: m.take (p + 1)))) from by
                have := H1.out.store (1 + q1) (.int .u32 (z : Int))
                rw [Nat.add_comm 1 q1, oc_set, show q1 = (d :: y :: m.take p).length by omega, pad_snoc _ _ (by omega), hlp] at this
                rw [List.take_succ_eq_append_getElem hpm, ← hzm, show 1 + q1 = p + 2 + 1 by omega]
                exact this)
              have HSET2 := Lib.hid (H2.out.far (p := ⟨g, 1 + q1, none⟩) (by simp; omega) (.int .u32 (z : Int)))
              have HSET3 := Lib.hid (H3.out.setCell (p := ⟨g, 1 + q1, none⟩) (by show w.heap.size ≤ g; omega) (.int .u32 (z : Int)))
              have HSET4 := Lib.hid (Rd.far (B := g) (o := 1 + q1) H4.out (fun q hq => by injection hq with hq; rw [← hq]; exact hne) (.int .u32 (z : Int)))
              rw [hq]
              have HQ := Lib.hid hq
              clear hq hq1 hkm hlp hzm
              go_wp2
              exact ⟨⟨p + 1, by omega, by have := HQ.out; congr 1; omega, HSET.out, HSET2.out, HSET3.out, HSET4.out⟩, by simp [intOf]; omega⟩
            · obtain rfl : p = m.length := by omega
              rw [List.take_length] at H1
              have hpl : (pad (d :: y :: m)).length = 16 := pad_length (by simp; omega)
              obtain ⟨q, hq⟩ : ∃ q, 1 + m.length = q := ⟨_, rfl⟩
              have hqk : ¬ q < k := by omega
              have hqk2 : decide (q < k) = false := decide_eq_false hqk
              rw [hq]
              have HQ := Lib.hid hq
              have HHK := Lib.hid hkm
              clear hq hkm
              generalize pad (d :: y :: m) = pl at *
              go_wp2_with (first | (refine wpList_load25 rfl (.tmp 7) rfl rfl H1.out hpl ?_) | (refine wpList_store25 rfl (.tmp 2) (.tmp 104) rfl rfl rfl H2.out (by rw [oc_length]; rfl) hpl ?_; intro w5 S5 hg5 hz5; have HS5 := Lib.hid S5; have HB5 := Lib.hid (H3.out.grown hg5 H3.out.size (fun k e => by injection e with e; omega)); clear S5 hg5 hz5))
              refine ret25t rfl rfl rfl HS5.out hpl rfl ⟨?_, HB5.out⟩
              rw [HTT.out, show m.length + 2 = k1 by have h1 := HK1.out; have h2 := HHK.out; omega]
              rfl
end Go.Proofs.YtmofpdilnapjiaaDoor
