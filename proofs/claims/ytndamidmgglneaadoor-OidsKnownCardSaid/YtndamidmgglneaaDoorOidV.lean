/-
  Package oids: the contract of Parse.
  Conditions: the string has at most 1000000 bytes; the variables hold what the program's text lays.
-/
import Derived.Test.YtndamidmgglneaaDoorOidU
namespace Go.Proofs.YtndamidmgglneaaDoor
open Go.RowKit Go.Shelf
attribute [local go_sem] Oper.semAt_some

theorem bk_put {W : World} {g D : Nat} {t : TypeId} {cs : List Value} (h : Bk W g t cs) (hD : W.heap[D]? = some (.deferred (some []))) (o : Obj) : Bk (W.putObj D o) g t cs :=
  h.only (grownBy_putObj' W D o) (fun e => by injection e with e; subst e; rw [show W.heap[g]? = _ from h] at hD; cases hD)

set_option maxRecDepth 100000 in
set_option maxHeartbeats 4000000 in
theorem parse_in (l : List Nat) (h8 : All8 l) (hl : l.length ≤ 1000000) (m : Nat) (hm : 8 ≤ m) (w : World) (hE : Env w) :
    CallsIn Fence.wide m Tryd.prog 20 #[.string (bstr l)] w (GiveG w (prsO l)) := by
  have h1 : 1 ≤ m := by omega
  have hz := zero25
  have HZP : Hid (zeroL = pad []) := Lib.hid rfl
  have hdot := fun w => isdotted_any l h8 hl w
  obtain ⟨zl, hzl⟩ : ∃ zl, zeroL = zl := ⟨_, rfl⟩
  have HZ := Lib.hid hzl
  have HZL : Hid (zl.length = 16) := Lib.hid (by rw [← hzl]; exact zeroL_length)
  rw [hzl] at hz
  have S0 := Lib.hid ((Bk.new w 26 (oc 0 zl)).alloc (.cells #[.int .i64 0] 41))
  have T0 := Lib.hid (show Boxed ((w.alloc (.cells (oc 0 zl).toArray 26)).alloc (.cells #[.int .i64 0] 41)) (w.heap.size + 1) 41 (.int .i64 0) from by
    have := Boxed.new (w.alloc (.cells (oc 0 zl).toArray 26)) 41 (.int .i64 0)
    rwa [World.size_alloc] at this)
  have B0 := Lib.hid ((bel1 w (.cells (oc 0 zl).toArray 26)).alloc (by simp) (.cells #[.int .i64 0] 41))
  have H8 := Lib.hid h8
  have HE := Lib.hid hE
  have HDOT := Lib.hid hdot
  clear h8 hE hzl hdot
  cases hd : (splitD l).all isDec with
  | false =>
    have HO : Hid (prsO l = (0, zl, 6)) := Lib.hid (by unfold prsO; rw [if_pos hd, HZ.out])
    have HD := Lib.hid hd
    clear hd
    refine callsIn_of_wp_marks Tryd.func20 rfl trivial ?_ rfl
    simp only [Tryd.ntmps20, List.size_toArray, List.length_cons, List.length_nil, Nat.reduceAdd, Nat.reduceSub, Array.replicate_succ, Array.replicate_zero, List.push_toArray, List.append_toArray, List.nil_append, List.cons_append]
    rw [wpIn_wide]
    go_upto_region 1 with fail
    generalize (w.alloc (.cells (oc 0 zl).toArray 26)).alloc (.cells #[.int .i64 0] 41) = w1 at *
    go_upto_region 2 with (go_at_call 30; refine (HDOT.out _).mono ?_; rw [HD.out]; rintro e w2 ⟨rfl, hb⟩; have B2 := bt B0 (Lib.hid hb); have S2 := kt S0 (Lib.hid hb); have T2 := Lib.hid (show Boxed w2 (w.heap.size + 1) 41 (.int .i64 0) from (hb.block _ T0.out.lt).trans T0.out); clear hb)
    go_wp2_with (refine wpList_store25 rfl (.tmp 2) (.tmp 13) rfl rfl rfl S2.out (by rw [oc_length, HZL.out]) HZL.out ?_; intro w5 S5 hg5 hz5; have HS5 := Lib.hid S5; have T5 := Lib.hid (T2.out.kept hg5 (by intro e; injection e with e; omega)); have f5 := T5.out.frozen; have c5 := T5.out.cell; have HB5 := Lib.hid (B2.out.grown hg5 B2.out.size (fun k e => by injection e with e; omega)); clear S5 hg5 hz5)
    have T6 := Lib.hid (T5.out.set (.int .i64 6))
    have S6 := Lib.hid (HS5.out.far (p := ⟨w.heap.size + 1, 0, none⟩) (by simp) (.int .i64 6))
    have B6 := Lib.hid (HB5.out.setCell (p := ⟨w.heap.size + 1, 0, none⟩) (by simp) (.int .i64 6))
    refine leaves_marks2 (fun W => Bk W w.heap.size 26 (oc 0 zl) ∧ Boxed W (w.heap.size + 1) 41 (.int .i64 6) ∧ Below w.heap.size w W) w.heap.size (fun W D hD h hk => ⟨bk_put h.1 hk _, boxed_put h.2.1 hk _, h.2.2.grown (grownBy_putObj' W D _) h.2.2.size (fun k e => by cases e; exact hD)⟩)
      (fun W h => ⟨_, res_oe rfl _ W rfl rfl h.1 HZL.out h.2.1, by rw [HO.out]; rfl, h.2.2⟩) [] _ (by simp) (by simp) ⟨S6.out, T6.out, B6.out⟩
  | true =>
    have HD := Lib.hid hd
    clear hd
    refine callsIn_of_wp_marks Tryd.func20 rfl trivial ?_ rfl
    simp only [Tryd.ntmps20, List.size_toArray, List.length_cons, List.length_nil, Nat.reduceAdd, Nat.reduceSub, Array.replicate_succ, Array.replicate_zero, List.push_toArray, List.append_toArray, List.nil_append, List.cons_append]
    rw [wpIn_wide]
    go_upto_region 1 with fail
    generalize (w.alloc (.cells (oc 0 zl).toArray 26)).alloc (.cells #[.int .i64 0] 41) = w1 at *
    go_upto_region 3 with (go_at_call 30; refine (HDOT.out _).mono ?_; rw [HD.out]; rintro e w2 ⟨rfl, hb⟩; have B2 := bt B0 (Lib.hid hb); have S2 := kt S0 (Lib.hid hb); have E2 := Lib.hid (HE.out.below (B0.out.trans (hb.mono B0.out.size))); have T2 := Lib.hid (show Boxed w2 (w.heap.size + 1) 41 (.int .i64 0) from (hb.block _ T0.out.lt).trans T0.out); clear hb)
    have S3 := Lib.hid (S2.out.alloc (.cells #[.slice none 0 0] 32))
    have T3 := Lib.hid (T2.out.alloc (.cells #[.slice none 0 0] 32))
    have B3 := Lib.hid (B2.out.alloc B2.out.size (.cells #[.slice none 0 0] 32))
    have E3 := Lib.hid (E2.out.below ((Below.refl w2.heap.size w2).alloc (Nat.le_refl _) (.cells #[.slice none 0 0] 32)))
    have V3 := Lib.hid (Boxed.new w2 32 (.slice none 0 0))
    have hg4 : w.heap.size + 1 < w2.heap.size := T2.out.lt
    have HG4 := Lib.hid hg4
    clear S0 T0 B0 S2 T2 B2 E2 hg4
    go_upto_region 4 with fail
    generalize w2.alloc (.cells #[.slice none 0 0] 32) = w3 at *
    generalize w2.heap.size = g4 at *
    have hg43 := V3.out.lt
    have HG43 := Lib.hid hg43
    clear hg43
    go_wp2_with (go_at_call 31; refine (splitseq_any _ _).mono ?_; rintro e w' ⟨rfl, rfl⟩)
    have BS := Lib.hid (((Boxed.new w3 9 (.string (bstr l))).alloc (.cells #[.string ⟨#[46]⟩] 9)).alloc (.cells #[.int .i64 0] 3))
    have BE := Lib.hid (show Boxed (((w3.alloc (.cells #[.string (bstr l)] 9)).alloc (.cells #[.string ⟨#[46]⟩] 9)).alloc (.cells #[.int .i64 0] 3)) (w3.heap.size + 1) 9 (.string ⟨#[46]⟩) from by
      have := (Boxed.new (w3.alloc (.cells #[.string (bstr l)] 9)) 9 (.string ⟨#[46]⟩)).alloc (.cells #[.int .i64 0] 3)
      rwa [World.size_alloc] at this)
    have BV := Lib.hid (show Boxed (((w3.alloc (.cells #[.string (bstr l)] 9)).alloc (.cells #[.string ⟨#[46]⟩] 9)).alloc (.cells #[.int .i64 0] 3)) (w3.heap.size + 1 + 1) 3 (.int .i64 0) from by
      have := Boxed.new ((w3.alloc (.cells #[.string (bstr l)] 9)).alloc (.cells #[.string ⟨#[46]⟩] 9)) 3 (.int .i64 0)
      rwa [World.size_alloc, World.size_alloc] at this)
    have hb3 : Below w3.heap.size w3 (((w3.alloc (.cells #[.string (bstr l)] 9)).alloc (.cells #[.string ⟨#[46]⟩] 9)).alloc (.cells #[.int .i64 0] 3)) :=
      (((Below.refl _ w3).alloc (Nat.le_refl _) (.cells #[.string (bstr l)] 9)).alloc (by simp) (.cells #[.string ⟨#[46]⟩] 9)).alloc (by simp; omega) (.cells #[.int .i64 0] 3)
    have S4 := kt S3 (Lib.hid hb3)
    have T4 := Lib.hid (show Boxed _ (w.heap.size + 1) 41 (.int .i64 0) from (hb3.block _ T3.out.lt).trans T3.out)
    have V4 := Lib.hid (show Boxed _ g4 32 (.slice none 0 0) from (hb3.block _ V3.out.lt).trans V3.out)
    have B4 := bt B3 (Lib.hid hb3)
    have E4 := et E3 (Lib.hid hb3)
    have hwz : (((w3.alloc (.cells #[.string (bstr l)] 9)).alloc (.cells #[.string ⟨#[46]⟩] 9)).alloc (.cells #[.int .i64 0] 3)).heap.size = w3.heap.size + 3 := by simp
    clear hb3 S3 T3 V3 B3 E3
    generalize ((w3.alloc (.cells #[.string (bstr l)] 9)).alloc (.cells #[.string ⟨#[46]⟩] 9)).alloc (.cells #[.int .i64 0] 3) = w4 at *
    generalize w3.heap.size = b at *
    have HWZ := Lib.hid hwz
    clear hwz
    rw [← wpIn_wide (n := m)]
    refine range_b h1 (gf := 48) (lb := #[.pointer (some ⟨b + 1, 0, none⟩), .pointer (some ⟨b, 0, none⟩), .pointer (some ⟨b + 1 + 1, 0, none⟩)]) rfl (enters_of Tryd.func48 (by kernel_rfl) rfl) (bs := [b + 1, b, b + 1 + 1]) (b := b)
      (fun i hi => by have := HWZ.out; simp at hi; omega) (by simp) (split_seq l H8.out hl (m - 1) (by omega) (b + 1) b (b + 1 + 1) (by omega) (by omega) w4 BE.out BS.out BV.out) (fun _ => rfl)
      (fun pre W => fits pre = true ∧ ParW w4 w.heap.size g4 zl (pre.map vd) W)
      (fun c pre W => (c = .ret ∧ fits pre = false ∧ Bk W w.heap.size 26 (oc 0 zl) ∧ Boxed W (w.heap.size + 1) 41 (.int .i64 3)) ∧ Below w.heap.size w W)
      (OwnFrom.and (fun s A B row hs hg hr => hs) (parW_own w4 w.heap.size g4 zl _ (by have := HWZ.out; have := HG4.out; have := HG43.out; omega) (by have := HWZ.out; have := HG4.out; have := HG43.out; omega) (fun s => s.map vd)))
      (fun s W v hs => ⟨hs.1, hs.2.cell (by have := HG43.out; omega) (by have := HG4.out; omega) (by have := HWZ.out; omega) v⟩)
      (fun c => OwnFrom.and (Own.from (fun s A B row hs hg hr => ⟨hs.1, hs.2.1, own_bk w.heap.size 26 (oc 0 zl) (β := List (List Nat)) s A B row hs.2.2.1 hg hr, own_box (w.heap.size + 1) 41 (.int .i64 3) (β := List (List Nat)) s A B row hs.2.2.2 hg hr⟩) _) (ownFrom_below (Nat.le_refl _) (by have := HWZ.out; have := HG4.out; have := HG43.out; omega)))
      ⟨rfl, ⟨⟨_, V4.out, World.ownsRow_nil _ _ _ _, trivial⟩, ⟨S4.out, T4.out⟩, Below.refl _ _⟩⟩
      (fun x => { tmps := #[.string (bstr l), undef, .pointer (some ⟨w.heap.size, 0, none⟩), .pointer (some ⟨w.heap.size + 1, 0, none⟩), .pointer (some ⟨g4, 0, none⟩), .string (bstr x), undef, undef, undef, undef, .string (bstr l), .bool true, .bool false, undef, .string (bstr l), .func (.func 48) #[] #[.pointer (some ⟨b + 1, 0, none⟩), .pointer (some ⟨b, 0, none⟩), .pointer (some ⟨b + 1 + 1, 0, none⟩)], .string (bstr x), undef, undef, undef, undef, undef, undef, undef, undef, undef, undef, undef, undef, undef, undef, undef, undef, undef, undef, undef, undef, undef, undef, undef, undef, undef, undef, undef], defers := [] }) ?assign ?body ?done ?stop
    case assign =>
      rintro l y W K hK
      gi_wp2_with fail
      simpa [encS] using hK
    case body =>
      rintro lw pre x W hok ⟨hf, hP⟩ hlen
      have hxm := pre_mem hok
      obtain ⟨hxa, hxl⟩ := split_mem hxm
      have hx8 : All8 x := fun c hc => H8.out c (hxa c hc)
      have hxd : isDec x = true := List.all_eq_true.1 HD.out x hxm
      have hEW := HE.out.below (B4.out.trans hP.2.2)
      have hfs := fits_snoc (x := x) hf
      have hpl : pre.length ≤ 16 := by unfold fits at hf; rw [Bool.and_eq_true, decide_eq_true_eq] at hf; exact hf.1
      have HP := Lib.hid hP
      have HFS := Lib.hid hfs
      have hx9 : x.length ≤ 1000000 := by omega
      clear hP hfs hf hxa hxm hok
      obtain ⟨y, hy⟩ : ∃ y, vd x = y := ⟨_, rfl⟩
      obtain ⟨ys, hys⟩ : ∃ ys, pre.map vd = ys := ⟨_, rfl⟩
      have HYL : Hid (ys.length = pre.length) := Lib.hid (by rw [← hys, List.length_map])
      have HY := Lib.hid hy
      have HYS := Lib.hid hys
      rw [hys] at HP
      by_cases hv : y ≤ 4294967295
      · have HPU := Lib.hid (pu_ok x hx8 hx9 hxd (by rw [hy]; exact hv) W)
        rw [hy] at HPU
        clear hx8 hxd hEW hys hy
        by_cases hn : ys.length = 16
        · have hnb : ((ys.length : Int) == 16) = true := by rw [beq_iff_eq]; omega
          have HF : Hid (fits (pre ++ [x]) = false) := Lib.hid (by rw [HFS.out, decide_eq_false (by have := HYL.out; omega)]; rfl)
          gi_wp2_with fail
          refine ⟨trivial, fun _ => by omega, ?_⟩
          refine (show CallsIn (Fence.wide.inRound lw) (m - 1 - 1 - 1) Tryd.prog 32 #[.string (bstr x), .int .i64 10, .int .i64 32] W _ from callsIn_wide.2 HPU.out).mono ?_
          rintro e w5 ⟨rfl, hb⟩
          obtain ⟨⟨v, hv5, hrow, -⟩, ⟨hs5, ht5⟩, hb5⟩ := HP.out.below hb (by have := HWZ.out; have := HG4.out; have := HG43.out; omega)
          obtain ⟨A, c, rfl, hrd, hlc, hcm⟩ := own32 hrow
          have c4 := hv5.cell
          have HS := Lib.hid hs5
          have HT := Lib.hid ht5
          have HBB := Lib.hid hb5
          have HK := Lib.hid (keeps_below hb)
          clear hv5 hrow hs5 ht5 hb5 hrd hb
          gi_wp2_with (refine wpListIn_store25 rfl (.tmp 2) (.tmp 29) rfl rfl rfl HS.out (by rw [oc_length, HZL.out]) HZL.out ?_; intro w6 S6 hg6 hz6; have HS6 := Lib.hid S6; have T6 := Lib.hid (HT.out.kept hg6 (by intro e; injection e with e; omega)); have f6 := T6.out.frozen; have c6 := T6.out.cell; have HB6 := Lib.hid (HBB.out.grown hg6 (by have := HBB.out.size; have := HWZ.out; have := HG4.out; have := HG43.out; omega) (fun k e => by injection e with e; omega)); have HK6 := Lib.hid (HK.out.trans (KeepsOthers.of_grownBy hg6 (fun j o ej hj => by injection ej with ej; subst ej; rw [show _ = some _ from HS.out] at hj; cases hj; rfl))); clear S6 hg6 hz6)
          exact ⟨HK6.out.trans (KeepsOthers.setCell _ _ _), ⟨rfl, HF.out, HS6.out.far (p := ⟨w.heap.size + 1, 0, none⟩) (by simp) _, T6.out.set _⟩, B4.out.trans (HB6.out.setCell (p := ⟨w.heap.size + 1, 0, none⟩) (by simp) _)⟩
        · have hnb : ((ys.length : Int) == 16) = false := by rw [beq_eq_false_iff_ne]; omega
          have HF : Hid (fits (pre ++ [x]) = true) := Lib.hid (by rw [HFS.out, decide_eq_true (by have := HYL.out; omega), decide_eq_true (by rw [HY.out]; exact hv)]; rfl)
          gi_wp2_with fail
          refine ⟨trivial, fun _ => by omega, ?_⟩
          refine (show CallsIn (Fence.wide.inRound lw) (m - 1 - 1 - 1) Tryd.prog 32 #[.string (bstr x), .int .i64 10, .int .i64 32] W _ from callsIn_wide.2 HPU.out).mono ?_
          rintro e w5 ⟨rfl, hb⟩
          have HP5 := Lib.hid (HP.out.below hb (by have := HWZ.out; have := HG4.out; have := HG43.out; omega))
          obtain ⟨⟨v, hv5, hrow, -⟩, -, hb5⟩ := HP5.out
          obtain ⟨A, c, rfl, hrd, hlc, hcm⟩ := own32 hrow
          obtain ⟨v', w6, hrun, hown', hg6, g', c', rfl⟩ := app32 hrow y hb5.size (by have := HYL.out; omega)
          have c4 := hv5.cell
          have HV5 := Lib.hid hv5
          have HROW := Lib.hid hrow
          have hv6 := (hv5.alloc (.cells #[.int .u32 (y : Int)] 23)).kept hg6 (hv5.not_row (by decide) hrow)
          have c6 := hv6.cell
          have f6 := hv6.frozen
          have HOWN := Lib.hid hown'
          have HG6 := Lib.hid hg6
          have HK := Lib.hid (keeps_below hb)
          have HKH : Hid (KeepH [b + 1, b, b + 1 + 1] W w5) := Lib.hid (fun i hi => hb.block i (by have := HP.out.2.2.size; have := HWZ.out; simp at hi; omega))
          clear hv5 hrow hb5 hrd hb hown' hg6 hv6
          gi_wp2_with (gi_at_builtin; refine wpListIn_app rfl _ _ _ _ rfl _ _ rfl rfl hrun ?_)
          obtain ⟨k1, k2, k3⟩ := parW_end (bs := [b + 1, b, b + 1 + 1]) (fun i hi => by have := HWZ.out; have := HG43.out; simp at hi; omega) HG4.out (by have := HWZ.out; have := HG43.out; omega) HP5.out HV5.out HROW.out HOWN.out HG6.out
          exact ⟨HK.out.trans k1, HKH.out.trans k2, HF.out, by rw [List.map_append, HYS.out, List.map_cons, List.map_nil, HY.out]; exact k3⟩
      · have HPU := Lib.hid (pu_range x hx8 hx9 hxd (by rw [hy]; omega) W hEW)
        have HF : Hid (fits (pre ++ [x]) = false) := Lib.hid (by rw [HFS.out, decide_eq_false (p := vd x ≤ 4294967295) (by rw [hy]; exact hv), Bool.and_false])
        clear hx8 hxd hEW hys hy
        gi_wp2_with fail
        refine ⟨trivial, fun _ => by omega, ?_⟩
        refine (show CallsIn (Fence.wide.inRound lw) (m - 1 - 1 - 1) Tryd.prog 32 #[.string (bstr x), .int .i64 10, .int .i64 32] W _ from callsIn_wide.2 HPU.out).mono ?_
        rintro e w5 ⟨tt, NN, rfl, hb⟩
        obtain ⟨⟨v, hv5, hrow, -⟩, ⟨hs5, ht5⟩, hb5⟩ := HP.out.below hb (by have := HWZ.out; have := HG4.out; have := HG43.out; omega)
        have HS := Lib.hid hs5
        have HT := Lib.hid ht5
        have HBB := Lib.hid hb5
        have HK := Lib.hid (keeps_below hb)
        clear hv5 hrow hs5 ht5 hb5 hb
        gi_wp2_with (refine wpListIn_store25 rfl (.tmp 2) (.tmp 29) rfl rfl rfl HS.out (by rw [oc_length, HZL.out]) HZL.out ?_; intro w6 S6 hg6 hz6; have HS6 := Lib.hid S6; have T6 := Lib.hid (HT.out.kept hg6 (by intro e; injection e with e; omega)); have f6 := T6.out.frozen; have c6 := T6.out.cell; have HB6 := Lib.hid (HBB.out.grown hg6 (by have := HBB.out.size; have := HWZ.out; have := HG4.out; have := HG43.out; omega) (fun k e => by injection e with e; omega)); have HK6 := Lib.hid (HK.out.trans (KeepsOthers.of_grownBy hg6 (fun j o ej hj => by injection ej with ej; subst ej; rw [show _ = some _ from HS.out] at hj; cases hj; rfl))); clear S6 hg6 hz6)
        exact ⟨HK6.out.trans (KeepsOthers.setCell _ _ _), ⟨rfl, HF.out, HS6.out.far (p := ⟨w.heap.size + 1, 0, none⟩) (by simp) _, T6.out.set _⟩, B4.out.trans (HB6.out.setCell (p := ⟨w.heap.size + 1, 0, none⟩) (by simp) _)⟩
    case done =>
      rintro D ps W hD rfl ⟨hf, hP⟩ hK
      have hlen : (splitD l).length ≤ 16 := by unfold fits at hf; rw [Bool.and_eq_true, decide_eq_true_eq] at hf; exact hf.1
      have hall : ∀ z ∈ (splitD l).map vd, z < 4294967296 := fun z hz => by
        obtain ⟨x, hx, rfl⟩ := List.mem_map.1 hz
        unfold fits at hf
        rw [Bool.and_eq_true] at hf
        have := List.all_eq_true.1 hf.2 x hx
        rw [decide_eq_true_eq] at this
        omega
      have HPO : Hid (prsO l = if chkO (splitD l).length (pad ((splitD l).map vd)) = 0 then ((splitD l).length, pad ((splitD l).map vd), 0) else (0, zl, 1)) := Lib.hid (by
        unfold prsO; rw [if_neg (by rw [HD.out]; decide), if_neg (by rw [hf]; decide), HZ.out])
      have hnl : ((splitD l).map vd).length = (splitD l).length := List.length_map _
      obtain ⟨n, hn⟩ : ∃ n, (splitD l).length = n := ⟨_, rfl⟩
      rw [hn] at HPO hnl hlen
      obtain ⟨ys, hys⟩ : ∃ ys, (splitD l).map vd = ys := ⟨_, rfl⟩
      rw [hys] at HPO hnl hall hP
      obtain ⟨⟨v, hv, hrow, -⟩, ⟨hs, ht⟩, hb⟩ := hP
      obtain ⟨A, c, rfl, hrd, hlc, hcm⟩ := own32 hrow
      have c4 := hv.cell
      have hof := of_any A ys c W (Nat.le_trans hlc hcm) hall hrd
      have hofn : ofN ys = if chkO n (pad ys) = 0 then n else 0 := by unfold ofN; rw [hnl]; simp [hlen]
      have hofl : ofL ys = if chkO n (pad ys) = 0 then pad ys else zl := by unfold ofL; rw [hnl, HZ.out]; simp [hlen]
      rw [hofn, hofl] at hof
      have hplen := pad_length (l := ys) (by omega)
      have hcz : chkO n (pad ys) = 0 ∨ chkO n (pad ys) = 1 := by unfold chkO; split <;> simp
      have hok := okO_pad (l := ys) (by omega) hall
      rw [hnl] at hok
      have hzc : chkO 0 zl = 1 := by rw [← HZ.out]; rfl
      have HOF := Lib.hid hof
      have HS := Lib.hid hs
      have HT := Lib.hid ht
      have HB := Lib.hid (B4.out.trans hb)
      have HKK := Lib.hid hK
      have HHW := Lib.hid (show w4.heap.size ≤ W.heap.size from hb.size)
      have hDlt := (Array.getElem?_eq_some_iff.1 hK).1
      have HDL := Lib.hid hDlt
      clear hof hs ht hb hK hrow hv hrd hlc hcm hf hys hn hofn hofl hall hDlt
      generalize pad ys = pl at *
      have HCZ := Lib.hid hcz
      have HOK := Lib.hid hok
      clear hcz hok
      rw [hnl] at HOF c4
      clear hnl
      go_wp2_with fail
      refine HOF.out.mono ?_
      rintro e W2 ⟨rfl, hb⟩
      have HS2 := kt HS (Lib.hid hb)
      have HT2 := Lib.hid (show Boxed W2 (w.heap.size + 1) 41 (.int .i64 0) from (hb.block _ HT.out.lt).trans HT.out)
      have HB2 := bt HB (Lib.hid hb)
      have HKK2 := Lib.hid ((hb.block D HDL.out).trans HKK.out)
      have hDl2 : Hid (D < W2.heap.size) := Lib.hid (Nat.lt_of_lt_of_le HDL.out hb.size)
      clear hb
      have HMK := Lib.hid (show w.heap.size ≤ D by have := HWZ.out; have := HG4.out; have := HG43.out; omega)
      have HDW : Hid (w.heap.size + 1 < D) := Lib.hid (by have := HWZ.out; have := HG4.out; have := HG43.out; omega)
      have HOZ : Hid (OkO 0 zl) := Lib.hid (by rw [← HZ.out, HZP.out]; exact okO_pad (l := []) (by simp) (by simp))
      rcases HCZ.out with hc | hc
      · have HPO2 : Hid (prsO l = (n, pl, 0)) := Lib.hid (by rw [HPO.out, if_pos (by rw [hc])])
        rw [if_pos (by rw [hc]), if_pos (by rw [hc])]
        have hch := fun W => check_any n pl W HOK.out
        rw [hc] at hch
        have HCH := Lib.hid hch
        clear hch c4 hc
        have V0 := Lib.hid (Bk.new W2 26 (oc 0 zl))
        have S7 := Lib.hid (HS2.out.alloc (.cells (oc 0 zl).toArray 26))
        have T7 := Lib.hid (HT2.out.alloc (.cells (oc 0 zl).toArray 26))
        have B7 := Lib.hid (HB2.out.alloc HB2.out.size (.cells (oc 0 zl).toArray 26))
        have K7 := Lib.hid ((Below.heap_alloc W2 (.cells (oc 0 zl).toArray 26) D hDl2.out).trans HKK2.out)
        have HQ8 := Lib.hid (show w.heap.size + 1 < W2.heap.size from HT2.out.lt)
        go_wp2_with (refine wpList_store25 rfl (.tmp 8) (.tmp 36) rfl (n := n) (l := pl) rfl rfl V0.out (by rw [oc_length, HZL.out]) hplen ?_)
        intro W3 V8 hg8 hz8
        have HV8 := Lib.hid V8
        have S8 := Lib.hid (S7.out.only hg8 (by intro e; injection e with e; have := HQ8.out; omega))
        have T8 := Lib.hid (T7.out.kept hg8 (by intro e; injection e with e; have := HQ8.out; omega))
        have B8 := Lib.hid (B7.out.grown hg8 B7.out.size (fun k e => by injection e with e; have := HQ8.out; omega))
        have K8 := Lib.hid ((hg8.block D (by have := hDl2.out; simp; omega) (by intro e; injection e with e; have := hDl2.out; omega)).trans K7.out)
        clear V8 hg8 hz8 V0 S7 T7 B7 K7
        have hg8 : D < W2.heap.size := hDl2.out
        have HG8 := Lib.hid hg8
        clear hg8
        generalize W2.heap.size = g8 at *
        go_wp2_with (refine wpList_load25 rfl (.tmp 8) rfl rfl HV8.out hplen ?_)
        refine (HCH.out _).mono ?_
        rintro e W4 ⟨rfl, hb⟩
        have HV9 := kt HV8 (Lib.hid hb)
        have S9 := kt S8 (Lib.hid hb)
        have T9 := Lib.hid (show Boxed W4 (w.heap.size + 1) 41 (.int .i64 0) from (hb.block _ T8.out.lt).trans T8.out)
        have B9 := bt B8 (Lib.hid hb)
        have K9 := Lib.hid ((hb.block D (Array.getElem?_eq_some_iff.1 K8.out).1).trans K8.out)
        clear hb HV8 S8 T8 B8 K8
        go_wp2_with (first | (refine wpList_load25 rfl (.tmp 8) rfl rfl HV9.out hplen ?_) | (refine wpList_store25 rfl (.tmp 2) (.tmp 43) rfl (n := n) (l := pl) rfl rfl S9.out (by rw [oc_length, HZL.out]) hplen ?_; intro w5 S5 hg5 hz5; have HS5 := Lib.hid S5; have T5 := Lib.hid (T9.out.kept hg5 (by intro e; injection e with e; omega)); have f5 := T5.out.frozen; have c5 := T5.out.cell; have HB5 := Lib.hid (B9.out.grown hg5 B9.out.size (fun k e => by injection e with e; omega)); have K5 := Lib.hid ((hg5.block D (Array.getElem?_eq_some_iff.1 K9.out).1 (by intro e; injection e with e; have := HMK.out; have := HDW.out; omega)).trans K9.out); clear S5 hg5 hz5))
        have T6 := Lib.hid (T5.out.set (.int .i64 0))
        have S6 := Lib.hid (HS5.out.far (p := ⟨w.heap.size + 1, 0, none⟩) (by simp) (.int .i64 0))
        have B6 := Lib.hid (HB5.out.setCell (p := ⟨w.heap.size + 1, 0, none⟩) (by simp) (.int .i64 0))
        have K6 := Lib.hid ((setCell_heap (b := w.heap.size + 1) (k := D) (by have := HDW.out; omega) (.int .i64 0)).trans K5.out)
        refine leaves_marks2 (fun W => Bk W w.heap.size 26 (oc n pl) ∧ Boxed W (w.heap.size + 1) 41 (.int .i64 0) ∧ Below w.heap.size w W) w.heap.size (fun W D hD h hk => ⟨bk_put h.1 hk _, boxed_put h.2.1 hk _, h.2.2.grown (grownBy_putObj' W D _) h.2.2.size (fun k e => by cases e; exact hD)⟩)
          (fun W h => ⟨_, res_oe rfl _ W rfl rfl h.1 hplen h.2.1, by rw [HPO2.out]; rfl, h.2.2⟩) [D] _ (by simp) (marks_one HMK.out K6.out) ⟨S6.out, T6.out, B6.out⟩
      · have HPO2 : Hid (prsO l = (0, zl, 1)) := Lib.hid (by rw [HPO.out, if_neg (by rw [hc]; decide)])
        rw [if_neg (by rw [hc]; decide), if_neg (by rw [hc]; decide)]
        have hch := fun W => check_any 0 zl W HOZ.out
        rw [hzc] at hch
        have HCH := Lib.hid hch
        clear hch c4 hc
        have V0 := Lib.hid (Bk.new W2 26 (oc 0 zl))
        have S7 := Lib.hid (HS2.out.alloc (.cells (oc 0 zl).toArray 26))
        have T7 := Lib.hid (HT2.out.alloc (.cells (oc 0 zl).toArray 26))
        have B7 := Lib.hid (HB2.out.alloc HB2.out.size (.cells (oc 0 zl).toArray 26))
        have K7 := Lib.hid ((Below.heap_alloc W2 (.cells (oc 0 zl).toArray 26) D hDl2.out).trans HKK2.out)
        have HQ8 := Lib.hid (show w.heap.size + 1 < W2.heap.size from HT2.out.lt)
        go_wp2_with (refine wpList_store25 rfl (.tmp 8) (.tmp 36) rfl (n := 0) (l := zl) rfl rfl V0.out (by rw [oc_length, HZL.out]) HZL.out ?_)
        intro W3 V8 hg8 hz8
        have HV8 := Lib.hid V8
        have S8 := Lib.hid (S7.out.only hg8 (by intro e; injection e with e; have := HQ8.out; omega))
        have T8 := Lib.hid (T7.out.kept hg8 (by intro e; injection e with e; have := HQ8.out; omega))
        have B8 := Lib.hid (B7.out.grown hg8 B7.out.size (fun k e => by injection e with e; have := HQ8.out; omega))
        have K8 := Lib.hid ((hg8.block D (by have := hDl2.out; simp; omega) (by intro e; injection e with e; have := hDl2.out; omega)).trans K7.out)
        clear V8 hg8 hz8 V0 S7 T7 B7 K7
        have hg8 : D < W2.heap.size := hDl2.out
        have HG8 := Lib.hid hg8
        clear hg8
        generalize W2.heap.size = g8 at *
        go_wp2_with (refine wpList_load25 rfl (.tmp 8) rfl rfl HV8.out HZL.out ?_)
        refine (HCH.out _).mono ?_
        rintro e W4 ⟨rfl, hb⟩
        have HV9 := kt HV8 (Lib.hid hb)
        have S9 := kt S8 (Lib.hid hb)
        have T9 := Lib.hid (show Boxed W4 (w.heap.size + 1) 41 (.int .i64 0) from (hb.block _ T8.out.lt).trans T8.out)
        have B9 := bt B8 (Lib.hid hb)
        have K9 := Lib.hid ((hb.block D (Array.getElem?_eq_some_iff.1 K8.out).1).trans K8.out)
        clear hb HV8 S8 T8 B8 K8
        go_wp2_with (first | (refine wpList_load25 rfl (.tmp 8) rfl rfl HV9.out HZL.out ?_) | (refine wpList_store25 rfl (.tmp 2) (.tmp 41) rfl (n := 0) (l := zl) rfl rfl S9.out (by rw [oc_length, HZL.out]) HZL.out ?_; intro w5 S5 hg5 hz5; have HS5 := Lib.hid S5; have T5 := Lib.hid (T9.out.kept hg5 (by intro e; injection e with e; omega)); have f5 := T5.out.frozen; have c5 := T5.out.cell; have HB5 := Lib.hid (B9.out.grown hg5 B9.out.size (fun k e => by injection e with e; omega)); have K5 := Lib.hid ((hg5.block D (Array.getElem?_eq_some_iff.1 K9.out).1 (by intro e; injection e with e; have := HMK.out; have := HDW.out; omega)).trans K9.out); clear S5 hg5 hz5))
        have T6 := Lib.hid (T5.out.set (.int .i64 1))
        have S6 := Lib.hid (HS5.out.far (p := ⟨w.heap.size + 1, 0, none⟩) (by simp) (.int .i64 1))
        have B6 := Lib.hid (HB5.out.setCell (p := ⟨w.heap.size + 1, 0, none⟩) (by simp) (.int .i64 1))
        have K6 := Lib.hid ((setCell_heap (b := w.heap.size + 1) (k := D) (by have := HDW.out; omega) (.int .i64 1)).trans K5.out)
        refine leaves_marks2 (fun W => Bk W w.heap.size 26 (oc 0 zl) ∧ Boxed W (w.heap.size + 1) 41 (.int .i64 1) ∧ Below w.heap.size w W) w.heap.size (fun W D hD h hk => ⟨bk_put h.1 hk _, boxed_put h.2.1 hk _, h.2.2.grown (grownBy_putObj' W D _) h.2.2.size (fun k e => by cases e; exact hD)⟩)
          (fun W h => ⟨_, res_oe rfl _ W rfl rfl h.1 HZL.out h.2.1, by rw [HPO2.out]; rfl, h.2.2⟩) [D] _ (by simp) (marks_one HMK.out K6.out) ⟨S6.out, T6.out, B6.out⟩
    case stop =>
      rintro D c pre W hD hpre ⟨⟨rfl, hp, hg, ht⟩, hB⟩ hK
      have HO : Hid (prsO l = (0, zl, 3)) := Lib.hid (by unfold prsO; rw [if_neg (by rw [HD.out]; decide), if_pos (fits_false hpre hp), HZ.out])
      have HG := Lib.hid hg
      have HT := Lib.hid ht
      have HB := Lib.hid hB
      have HKK := Lib.hid hK
      clear hpre hp hg ht hB hK
      rw [wpIn_wide]
      go_wp2
      refine leaves_marks2 (fun W => Bk W w.heap.size 26 (oc 0 zl) ∧ Boxed W (w.heap.size + 1) 41 (.int .i64 3) ∧ Below w.heap.size w W) w.heap.size (fun W D hD h hk => ⟨bk_put h.1 hk _, boxed_put h.2.1 hk _, h.2.2.grown (grownBy_putObj' W D _) h.2.2.size (fun k e => by cases e; exact hD)⟩)
        (fun W h => ⟨_, res_oe rfl _ W rfl rfl h.1 HZL.out h.2.1, by rw [HO.out]; rfl, h.2.2⟩) [D] _ (by simp) (marks_one (by have := HWZ.out; have := HG4.out; have := HG43.out; omega) HKK.out) ⟨HG.out, HT.out, HB.out⟩
theorem parse_any (l : List Nat) (h8 : All8 l) (hl : l.length ≤ 1000000) (w : World) (hE : Env w) : Calls Tryd.prog 20 #[.string (bstr l)] w (GiveG w (prsO l)) :=
  callsIn_wide.1 (parse_in l h8 hl 8 (by omega) w hE)
end Go.Proofs.YtndamidmgglneaaDoor
