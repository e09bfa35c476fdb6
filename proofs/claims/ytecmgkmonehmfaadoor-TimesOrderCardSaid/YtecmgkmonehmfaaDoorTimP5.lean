/-
  Layer 10, the statement TimesOrder: Compare is the order of the fields; for valid times it agrees with the order of the seconds, and of the texts; the examples hold.
  Conditions: the package-level variables that the row lists hold what the program's text lays (the card ties them).
-/
import Derived.Test.YtecmgkmonehmfaaDoorTimLi
import Derived.Test.YtecmgkmonehmfaaDoorTimRw
import Derived.Deep.DeepCutAuto
import Derived.Deep.CutBlock
namespace Go.Proofs.YtecmgkmonehmfaaDoor.Tim
open Go.RowKit Go.Shelf

theorem storeG_wp5 {t t' : TypeId} {o : Oper} {a : Act} {w : World} {K : Act → World → Prop} {Q : Exit → Act → World → Prop} (x v : Operand) (ho : o.op = .store t x v)
    {g : Nat} {ds cs : List Value} (hx : a.eval x = .pointer (some ⟨g, 0, none⟩)) (hv : a.eval v = .agg ds.toArray) (hg : Bk w g t' cs) (hi : (Tryd.prog.info? t).map (·.size) = some ds.length) (hc : cs.length = ds.length) (h1 : ds.all (·.oneCell') = true)
    (h : ∀ w', Bk w' g t' ds → w.grownBy w' (some g) → w'.heap.size = w.heap.size → K (a.put o.dst undef) w') : o.wp Tryd.prog a w K Q := by
  have hs := run_storeVar_row (P := Tryd.prog) w g t' t cs.toArray ds.toArray hg (by rw [List.size_toArray]; exact hi) (by simp [hc]) (by rw [List.all_toArray]; exact h1)
  have hK' := h (w.setRow g ds.toArray) (setRow_heap w g _ _ _ _ hg) ⟨rfl, rfl, rfl, by simp [World.setRow], fun k hk hne => setRow_other w g k _ (fun e => hne (by rw [e]))⟩ (by simp [World.setRow])
  unfold Oper.wp execOp
  simp only [ho, hx, hv, Instr.storeAt, Instr.sureAddr, Sem.run_bind, Sem.run_pure, Result.andThen_ok, hs]
  exact hK'
theorem gtr_str (S T : ByteArray) (b : Bool) (hb : (!Op.bytesLess S.toList T.toList && !(S.toList == T.toList)) = b) (W : World) : (binOp .gtr 9 (.string S) (.string T)).run Tryd.prog W = .ok (.bool b) W := by
  show (Op.stringOp .gtr S T).run Tryd.prog W = _
  subst hb
  unfold Op.stringOp
  simp [go_sem]
theorem cmpB_self (l : List Nat) : cmpB l l = 0 := by
  induction l with
  | nil => rfl
  | cons x l ih => rw [cmpB_same, ih]
theorem infoX2 : (Tryd.prog.info? 59).map (·.size) = some 12 := by kernel_rfl
theorem rangeX {w : World} {g : Nat} {ty : TypeId} {xs ys : List Value} (h : Bk w g ty (xs ++ ys)) : w.rangeAt g 0 xs := fun i u hu => rangeB h i u (by rw [List.getElem?_append_left (List.getElem?_eq_some_iff.1 hu).1]; exact hu)
theorem rangeY {w : World} {g : Nat} {ty : TypeId} {xs ys : List Value} {n : Nat} (hn : xs.length = n) (h : Bk w g ty (xs ++ ys)) : w.rangeAt g n ys := fun i u hu => by
  have := rangeB h (n + i) u (by rw [List.getElem?_append_right (by omega), hn, Nat.add_sub_cancel_left]; exact hu)
  rwa [Nat.zero_add] at this
theorem less_lit {l m : List Nat} (hl : All8 l) (hm : All8 m) : Op.bytesLess (bstr l).toList (bstr m).toList = decide (cmpB l m = -1) := by
  rw [ByteArray.toList_eq, ByteArray.toList_eq, bstr_list, bstr_list]
  exact less_bstr hl hm
set_option linter.unusedSimpArgs false in
set_option linter.unusedVariables false in
set_option maxHeartbeats 6400000 in
set_option maxRecDepth 100000 in
theorem order_walk (a0 a1 a2 a3 a4 a5 b0 b1 b2 b3 b4 b5 : Int) (c0 c1 c2 c3 c4 c5 d0 d1 d2 d3 d4 d5 : Nat) (hr1 : PtR c0 c1 c2 c3 c4 c5) (hr2 : PtR d0 d1 d2 d3 d4 d5) (w : World) (hT : Env w) :
    Calls Tryd.prog 7 #[tV a0 a1 a2 a3 a4 a5, tV b0 b1 b2 b3 b4 b5, .agg (ptL c0 c1 c2 c3 c4 c5 ++ ptL d0 d1 d2 d3 d4 d5).toArray] w fun e w' => e = .returned (.bool true) ∧ Below w.heap.size w w' := by
  have Z : ∀ w : World, (zeroValue 23).run Tryd.prog w = .ok (.agg #[.int .i64 0, .int .i64 0, .int .i64 0, .int .i64 0, .int .i64 0, .int .i64 0]) w := zTm
  have K0 := Lib.hid (St.start hT)
  have HT0 := Lib.hid hT
  obtain ⟨y, hy1⟩ : ∃ y, c0 % 10000 = y := ⟨_, rfl⟩
  obtain ⟨m, hm1⟩ : ∃ m, 1 + c1 % 12 = m := ⟨_, rfl⟩
  obtain ⟨dd, hdd1⟩ : ∃ dd, ofD c0 c1 c2 = dd := ⟨_, rfl⟩
  obtain ⟨h, hh1⟩ : ∃ h, c3 % 24 = h := ⟨_, rfl⟩
  obtain ⟨mi, hmi1⟩ : ∃ mi, c4 % 60 = mi := ⟨_, rfl⟩
  obtain ⟨s, hs1⟩ : ∃ s, c5 % 60 = s := ⟨_, rfl⟩
  have hc1 : ck y m dd h mi s = 0 := by have := of_ck c0 c1 c2 c3 c4 c5; rwa [hy1, hm1, hdd1, hh1, hmi1, hs1] at this
  have HL1 := Lib.hid (And.intro hy1 (And.intro hm1 (And.intro hdd1 (And.intro hh1 (And.intro hmi1 hs1)))))
  have HC1 := Lib.hid hc1
  obtain ⟨y2, hy2⟩ : ∃ y, d0 % 10000 = y := ⟨_, rfl⟩
  obtain ⟨m2, hm2⟩ : ∃ m, 1 + d1 % 12 = m := ⟨_, rfl⟩
  obtain ⟨dd2, hdd2⟩ : ∃ dd, ofD d0 d1 d2 = dd := ⟨_, rfl⟩
  obtain ⟨h2, hh2⟩ : ∃ h, d3 % 24 = h := ⟨_, rfl⟩
  obtain ⟨mi2, hmi2⟩ : ∃ mi, d4 % 60 = mi := ⟨_, rfl⟩
  obtain ⟨s2, hs2⟩ : ∃ s, d5 % 60 = s := ⟨_, rfl⟩
  have hc2 : ck y2 m2 dd2 h2 mi2 s2 = 0 := by have := of_ck d0 d1 d2 d3 d4 d5; rwa [hy2, hm2, hdd2, hh2, hmi2, hs2] at this
  have HL2 := Lib.hid (And.intro hy2 (And.intro hm2 (And.intro hdd2 (And.intro hh2 (And.intro hmi2 hs2)))))
  have HC2 := Lib.hid hc2
  have HR1 := Lib.hid hr1
  have HR2 := Lib.hid hr2
  obtain ⟨n1, hn1⟩ : ∃ n, ssT y m dd h mi s = n := ⟨_, rfl⟩
  obtain ⟨n2, hn2⟩ : ∃ n, ssT y2 m2 dd2 h2 mi2 s2 = n := ⟨_, rfl⟩
  obtain ⟨z2, hz2⟩ : ∃ z, cmpT y m dd h mi s y2 m2 dd2 h2 mi2 s2 = z := ⟨_, rfl⟩
  have hzn : cmpI n1 n2 = z2 := by rw [← hn1, ← hn2, ← hz2]; exact cmp_ss hc1 hc2
  obtain ⟨S1, hS1⟩ : ∃ S, bstr (txtX y m dd h mi s) = S := ⟨_, rfl⟩
  obtain ⟨S2, hS2⟩ : ∃ S, bstr (txtX y2 m2 dd2 h2 mi2 s2) = S := ⟨_, rfl⟩
  have hl1 : Op.bytesLess S1.toList S2.toList = decide (z2 = -1) := by rw [← hS1, ← hS2, less_lit (all_X _ _ _ _ _ _) (all_X _ _ _ _ _ _), cmp_txtX hc1 hc2, hz2]
  have hl2 : Op.bytesLess S2.toList S1.toList = decide (z2 = 1) := by
    rw [← hS1, ← hS2, less_lit (all_X _ _ _ _ _ _) (all_X _ _ _ _ _ _), cmp_txtX hc2 hc1, cmpT_swap, hz2]
    congr 1
    exact propext (by omega)
  have hl3 : (S1.toList == S2.toList) = decide (z2 = 0) := by
    rw [← hS1, ← hS2, bstr_dec (all_X _ _ _ _ _ _) (all_X _ _ _ _ _ _)]
    congr 1
    apply propext
    constructor
    · intro e
      rw [← hz2, ← cmp_txtX hc1 hc2, e]
      exact cmpB_self _
    · intro e
      rcases cmpT_cases y m dd h mi s y2 m2 dd2 h2 mi2 s2 with ⟨k1, k2⟩ | ⟨k1, k2⟩ | ⟨k1, k2⟩
      · rw [hz2, e] at k1; cases k1
      · rw [hz2, e] at k1; cases k1
      · obtain ⟨e0, e1, e2, e3, e4, e5⟩ := k2
        rw [Int.ofNat.inj e0, Int.ofNat.inj e1, Int.ofNat.inj e2, Int.ofNat.inj e3, Int.ofNat.inj e4, Int.ofNat.inj e5]
  have HN1 := Lib.hid hn1
  have HN2 := Lib.hid hn2
  have HZ2 := Lib.hid hz2
  have HZN := Lib.hid hzn
  have HS1 := Lib.hid hS1
  have HS2 := Lib.hid hS2
  have HLS := Lib.hid (And.intro hl1 (And.intro hl2 hl3))
  obtain ⟨z, hz⟩ : ∃ z, cmpT a0 a1 a2 a3 a4 a5 b0 b1 b2 b3 b4 b5 = z := ⟨_, rfl⟩
  have hcs := cmpT_cases a0 a1 a2 a3 a4 a5 b0 b1 b2 b3 b4 b5
  have hyr := fun h : a0 ≠ b0 => cmpT_year (a1 := a1) (a2 := a2) (a3 := a3) (a4 := a4) (a5 := a5) (b1 := b1) (b2 := b2) (b3 := b3) (b4 := b4) (b5 := b5) h
  have hsw : cmpT b0 b1 b2 b3 b4 b5 a0 a1 a2 a3 a4 a5 = -z := by rw [← hz]; exact cmpT_swap a0 a1 a2 a3 a4 a5 b0 b1 b2 b3 b4 b5
  rw [hz] at hcs hyr
  have hz1 : decide (z < -1) = false := by rw [decide_eq_false_iff_not]; omega
  have hz3 : decide (1 < z) = false := by rw [decide_eq_false_iff_not]; omega
  have hzw : IntKind.i64.wrap (-z) = -z := by rw [IntKind.wrap_i64]; omega
  obtain ⟨v, hv⟩ : ∃ v, (z == 0) = v := ⟨_, rfl⟩
  have heqab : ∀ W, (binOp .eql 23 (.agg (tL a0 a1 a2 a3 a4 a5).toArray) (.agg (tL b0 b1 b2 b3 b4 b5).toArray)).run Tryd.prog W = .ok (.bool v) W := fun W => by
    rw [eqlTm, ← hv]
    congr 2
    rw [Bool.eq_iff_iff, decide_eq_true_eq, beq_iff_eq]
    rcases hcs with ⟨h1, h2⟩ | ⟨h1, h2⟩ | ⟨h1, h2⟩
    · have := lexT_ne h2; constructor
      · intro h; exact absurd h this
      · intro h; omega
    · have := lexT_ne h2; constructor
      · intro h; exact absurd (by omega) this
      · intro h; omega
    · exact ⟨fun _ => h1, fun _ => h2⟩
  have hvv : (v != v) = false := by simp
  have HZ := Lib.hid hz
  have HSW := Lib.hid hsw
  have HYR := Lib.hid hyr
  clear hr1 hr2 hT hy1 hm1 hdd1 hh1 hmi1 hs1 hc1 hy2 hm2 hdd2 hh2 hmi2 hs2 hc2 hcs hyr hsw hz hn1 hn2 hz2 hzn hS1 hS2 hl1 hl2 hl3
  obtain ⟨g3, hg3⟩ : ∃ g, w.heap.size = g := ⟨_, rfl⟩
  obtain ⟨g4, hg4⟩ : ∃ g, g3 + 1 = g := ⟨_, rfl⟩
  obtain ⟨g5, hg5⟩ : ∃ g, g4 + 1 = g := ⟨_, rfl⟩
  obtain ⟨w1, hw1⟩ : ∃ v, ((w.alloc (.cells #[.int .i64 a0, .int .i64 a1, .int .i64 a2, .int .i64 a3, .int .i64 a4, .int .i64 a5] 23)).alloc (.cells #[.int .i64 b0, .int .i64 b1, .int .i64 b2, .int .i64 b3, .int .i64 b4, .int .i64 b5] 23)).alloc (.cells (ptL c0 c1 c2 c3 c4 c5 ++ ptL d0 d1 d2 d3 d4 d5).toArray 59) = v := ⟨_, rfl⟩
  have hb : Hid (Below w.heap.size w w1) := Lib.hid (by rw [← hw1]; exact ((bel1 w (.cells #[.int .i64 a0, .int .i64 a1, .int .i64 a2, .int .i64 a3, .int .i64 a4, .int .i64 a5] 23)).alloc (by simp) _).alloc (by simp; omega) _)
  have hk3 : Hid (Bk w1 g3 23 (tL a0 a1 a2 a3 a4 a5)) := Lib.hid (by rw [← hw1, ← hg3]; exact ((Bk.new w 23 (tL a0 a1 a2 a3 a4 a5)).alloc _).alloc _)
  have hk4 : Hid (Bk w1 g4 23 (tL b0 b1 b2 b3 b4 b5)) := Lib.hid (by
    rw [← hw1, ← hg4, ← hg3]
    have := (Bk.new (w.alloc (.cells #[.int .i64 a0, .int .i64 a1, .int .i64 a2, .int .i64 a3, .int .i64 a4, .int .i64 a5] 23)) 23 (tL b0 b1 b2 b3 b4 b5)).alloc (.cells (ptL c0 c1 c2 c3 c4 c5 ++ ptL d0 d1 d2 d3 d4 d5).toArray 59)
    rwa [World.size_alloc] at this)
  have hk5 : Hid (Bk w1 g5 59 (ptL c0 c1 c2 c3 c4 c5 ++ ptL d0 d1 d2 d3 d4 d5)) := Lib.hid (by
    rw [← hw1, ← hg5, ← hg4, ← hg3]
    have := Bk.new ((w.alloc (.cells #[.int .i64 a0, .int .i64 a1, .int .i64 a2, .int .i64 a3, .int .i64 a4, .int .i64 a5] 23)).alloc (.cells #[.int .i64 b0, .int .i64 b1, .int .i64 b2, .int .i64 b3, .int .i64 b4, .int .i64 b5] 23)) 59 (ptL c0 c1 c2 c3 c4 c5 ++ ptL d0 d1 d2 d3 d4 d5)
    rwa [World.size_alloc, World.size_alloc] at this)
  have K1 := kb (kb (kb (kp K0 hb) hk3) hk4) hk5
  have HW1 := Lib.hid hw1
  have HG3 := Lib.hid hg3
  have HG4 := Lib.hid hg4
  have HG5 := Lib.hid hg5
  clear hb hk3 hk4 hk5 hw1 hg3 hg4 hg5 K0
  go_enter Tryd.func7, Tryd.ntmps7
  go_upto_region 1 with fail
  rw [HW1.out, HG3.out, HG4.out, HG5.out]
  clear HW1
  go_wp2_with (first | (refine wpList_loadGg (by rfl) (.tmp 3) rfl rfl (rangeB (K1.out.k (g3, 23, tL a0 a1 a2 a3 a4 a5) (by simp))) Tryd.underlying23 rfl infoTm ?_) | (refine wpList_loadGg (by rfl) (.tmp 4) rfl rfl (rangeB (K1.out.k (g4, 23, tL b0 b1 b2 b3 b4 b5) (by simp))) Tryd.underlying23 rfl infoTm ?_))
  refine (cmp_at w1 a0 a1 a2 a3 a4 a5 b0 b1 b2 b3 b4 b5 z HZ.out).mono ?_
  rintro e w2 ⟨rfl, hb⟩
  have K2 := kp K1 hb
  clear hb K1
  go_upto_region 2 with fail
  go_cut [56] (fun v wx => v = .bool false ∧ St w [] [(g5, 59, ptL c0 c1 c2 c3 c4 c5 ++ ptL d0 d1 d2 d3 d4 d5), (g4, 23, tL b0 b1 b2 b3 b4 b5), (g3, 23, tL a0 a1 a2 a3 a4 a5)] wx)
  case first =>
    go_wp2_with (first | (refine wpList_loadGg (by rfl) (.tmp 3) rfl rfl (rangeB (K2.out.k (g3, 23, tL a0 a1 a2 a3 a4 a5) (by simp))) Tryd.underlying23 rfl infoTm ?_) | (refine wpList_loadGg (by rfl) (.tmp 4) rfl rfl (rangeB (K2.out.k (g4, 23, tL b0 b1 b2 b3 b4 b5) (by simp))) Tryd.underlying23 rfl infoTm ?_))
    refine (cmp_at w2 b0 b1 b2 b3 b4 b5 a0 a1 a2 a3 a4 a5 (-z) HSW.out).mono ?_
    rintro e w3 ⟨rfl, hb⟩
    have K3 := kp K2 hb
    clear hb K2
    have c_g3_0 : w3.cell? ⟨g3, 0, none⟩ = some (.int .i64 a0) := by rw [(K3.out.k (g3, 23, tL a0 a1 a2 a3 a4 a5) (by simp)).cell]; rfl
    have c_g4_0 : w3.cell? ⟨g4, 0, none⟩ = some (.int .i64 b0) := by rw [(K3.out.k (g4, 23, tL b0 b1 b2 b3 b4 b5) (by simp)).cell]; rfl
    by_cases hab : a0 = b0
    · have hab1 : (a0 != b0) = false := by rw [hab]; simp
      clear hab
      go_wp2_with (first | (refine wpList_loadGg (by rfl) (.tmp 3) rfl rfl (rangeB (K3.out.k (g3, 23, tL a0 a1 a2 a3 a4 a5) (by simp))) Tryd.underlying23 rfl infoTm ?_) | (refine wpList_loadGg (by rfl) (.tmp 4) rfl rfl (rangeB (K3.out.k (g4, 23, tL b0 b1 b2 b3 b4 b5) (by simp))) Tryd.underlying23 rfl infoTm ?_))
      go_meet
      exact ⟨rfl, K3.out⟩
    · have hab1 : (a0 != b0) = true := by rw [bne_iff_ne]; exact hab
      have hy := HYR.out hab
      obtain ⟨u, hu⟩ : ∃ u, decide (a0 < b0) = u := ⟨_, rfl⟩
      have hu2 : decide (z < 0) = u := by rw [← hu]; congr 1; exact propext hy
      have huu : (u != u) = false := by simp
      clear hy hab
      go_wp2_with (first | (refine wpList_loadGg (by rfl) (.tmp 3) rfl rfl (rangeB (K3.out.k (g3, 23, tL a0 a1 a2 a3 a4 a5) (by simp))) Tryd.underlying23 rfl infoTm ?_) | (refine wpList_loadGg (by rfl) (.tmp 4) rfl rfl (rangeB (K3.out.k (g4, 23, tL b0 b1 b2 b3 b4 b5) (by simp))) Tryd.underlying23 rfl infoTm ?_))
      go_meet
      exact ⟨rfl, K3.out⟩
  case rest =>
    obtain ⟨rfl, hst⟩ := hcut
    have K3 := Lib.hid hst
    clear hst K2 heqab hz1 hz3 hzw
    generalize wc = w3 at *
    go_upto_region 4 with fail
    go_cut [8, 9] (fun a b wx => ∃ g8 g9, a = .pointer (some ⟨g8, 0, none⟩) ∧ b = .pointer (some ⟨g9, 0, none⟩) ∧ St w [] [(g9, 23, tL y2 m2 dd2 h2 mi2 s2), (g8, 23, tL y m dd h mi s)] wx)
    case first =>
      have KU : Hid (St w [] [(g5, 59, ptL c0 c1 c2 c3 c4 c5 ++ ptL d0 d1 d2 d3 d4 d5)] w3) := Lib.hid ⟨K3.out.b, K3.out.t, K3.out.r, fun x hx => K3.out.k x (by simp only [List.mem_cons, List.not_mem_nil, or_false] at hx ⊢; exact .inl hx)⟩
      clear K3
      have K3 := KU
      clear KU
      have hdr : Hid (Below w3.heap.size w3 w3.drew) := Lib.hid (Below.refl _ _).drew
      have KD := kp K3 hdr
      clear K3 hdr
      refine wp_region_held_drew (S := fun W => Bk W g5 59 (ptL c0 c1 c2 c3 c4 c5 ++ ptL d0 d1 d2 d3 d4 d5)) (by kernel_rfl) (KD.out.k (g5, 59, ptL c0 c1 c2 c3 c4 c5 ++ ptL d0 d1 d2 d3 d4 d5) (by simp)) (fun hS => ?_)
      generalize w3.drew = w4 at *
      have K4 := KD
      clear KD
      refine wpAnyH_take (i := 0) (oi := ⟨some 57, _, _, _, _, _⟩) (v := .pointer (some ⟨g5, 0, none⟩)) rfl (by kernel_rfl) (by kernel_rfl) (by kernel_rfl) (fun _ _ _ h => h) (Or.inl ⟨by rfl, fun w hSw => by (try dsimp only at hSw); go_simp⟩) hS ?_
      simp only [Act.put, List.setIfInBounds_toArray, List.set_cons_zero, List.set_cons_succ]
      refine wpAnyH_take (i := 1) (oi := ⟨some 58, _, _, _, _, _⟩) (v := .agg (ptL c0 c1 c2 c3 c4 c5).toArray) rfl (by kernel_rfl) (by kernel_rfl) (by kernel_rfl) (fun _ _ _ h => h) (yieldsIf_load_mid (by rfl) 44 (.tmp 57) rfl g5 0 rfl (ptL c0 c1 c2 c3 c4 c5) _ (fun W h => rangeX h) Tryd.underlying44 rfl infoPt) hS ?_
      (try simp only [Act.put, List.setIfInBounds_toArray, List.set_cons_zero, List.set_cons_succ])
      refine wpAnyH_take (i := 3) (oi := ⟨some 60, _, _, _, _, _⟩) (v := .pointer (some ⟨g5, 6, none⟩)) rfl (by kernel_rfl) (by kernel_rfl) (by kernel_rfl) (fun _ _ _ h => h) (Or.inl ⟨by rfl, fun w hSw => by (try dsimp only at hSw); go_simp⟩) hS ?_
      simp only [Act.put, List.setIfInBounds_toArray, List.set_cons_zero, List.set_cons_succ]
      refine wpAnyH_take (i := 4) (oi := ⟨some 61, _, _, _, _, _⟩) (v := .agg (ptL d0 d1 d2 d3 d4 d5).toArray) rfl (by kernel_rfl) (by kernel_rfl) (by kernel_rfl) (fun _ _ _ h => h) (yieldsIf_load_mid (by rfl) 44 (.tmp 60) rfl g5 6 rfl (ptL d0 d1 d2 d3 d4 d5) _ (fun W h => rangeY rfl h) Tryd.underlying44 rfl infoPt) hS ?_
      (try simp only [Act.put, List.setIfInBounds_toArray, List.set_cons_zero, List.set_cons_succ])
      refine wpAnyH_ready (rs := [2, 6, 7]) (by kernel_rfl) (by simp) ?_
      refine AllReadyH.cons (o := _) rfl (fun K hK => ?_) (AllReadyH.cons (o := _) rfl (fun K hK => ?_) (AllReadyH.cons (o := _) rfl (fun K hK => ?_) AllReadyH.nil))
      · go_simp
        refine (tof_at w4 c0 c1 c2 c3 c4 c5 HR1.out y m dd h mi s HL1.out.1 HL1.out.2.1 HL1.out.2.2.1 HL1.out.2.2.2.1 HL1.out.2.2.2.2.1 HL1.out.2.2.2.2.2).mono ?_
        rintro e w5 ⟨rfl, hb⟩
        have K5 := kp K4 hb
        clear hb K4
        go_simp
        refine hK.out _ _ (K5.out.k (g5, 59, ptL c0 c1 c2 c3 c4 c5 ++ ptL d0 d1 d2 d3 d4 d5) (by simp)) (fun hS => ?_)
        clear hK K
        (try simp only [Act.put, List.setIfInBounds_toArray, List.set_cons_zero, List.set_cons_succ])
        refine wpAnyH_ready (rs := [5, 6, 7]) (by kernel_rfl) (by simp) ?_
        refine AllReadyH.cons (o := _) rfl (fun K hK => ?_) (AllReadyH.cons (o := _) rfl (fun K hK => ?_) (AllReadyH.cons (o := _) rfl (fun K hK => ?_) AllReadyH.nil))
        · go_simp
          refine (tof_at w5 d0 d1 d2 d3 d4 d5 HR2.out y2 m2 dd2 h2 mi2 s2 HL2.out.1 HL2.out.2.1 HL2.out.2.2.1 HL2.out.2.2.2.1 HL2.out.2.2.2.2.1 HL2.out.2.2.2.2.2).mono ?_
          rintro e w6 ⟨rfl, hb⟩
          have K6 := kp K5 hb
          clear hb K5
          go_simp
          refine hK.out _ _ (K6.out.k (g5, 59, ptL c0 c1 c2 c3 c4 c5 ++ ptL d0 d1 d2 d3 d4 d5) (by simp)) (fun hS => ?_)
          clear hK K
          (try simp only [Act.put, List.setIfInBounds_toArray, List.set_cons_zero, List.set_cons_succ])
          refine wpAnyH_ready (rs := [6, 7]) (by kernel_rfl) (by simp) ?_
          refine AllReadyH.cons (o := _) rfl (fun K hK => ?_) (AllReadyH.cons (o := _) rfl (fun K hK => ?_) AllReadyH.nil)
          · go_simp
            obtain ⟨g8, hg8⟩ : ∃ g, w6.heap.size = g := ⟨_, rfl⟩
            obtain ⟨w7, hw7⟩ : ∃ v, w6.alloc (.cells #[.int .i64 0, .int .i64 0, .int .i64 0, .int .i64 0, .int .i64 0, .int .i64 0] 23) = v := ⟨_, rfl⟩
            have hbk : Hid (Bk w7 g8 23 (tL 0 0 0 0 0 0)) := Lib.hid (by rw [← hw7, ← hg8]; exact Bk.new w6 _ (tL 0 0 0 0 0 0))
            have hb : Hid (Below w6.heap.size w6 w7) := Lib.hid (by rw [← hw7]; exact bel1 w6 _)
            have GE_g8 : Hid (w.heap.size ≤ g8) := Lib.hid (by rw [← hg8]; exact K6.out.b.size)
            rw [hw7, hg8]
            have LT_g5_g8 : Hid (g5 < g8) := Lib.hid (by rw [← hg8]; exact (K6.out.k (g5, 59, ptL c0 c1 c2 c3 c4 c5 ++ ptL d0 d1 d2 d3 d4 d5) (by simp)).lt)
            have K7 := kp K6 hb
            clear hb K6
            have Kn := kb K7 hbk
            clear hbk K7 hg8 hw7
            have K7 := Kn
            clear Kn
            refine hK.out _ _ (K7.out.k (g5, 59, ptL c0 c1 c2 c3 c4 c5 ++ ptL d0 d1 d2 d3 d4 d5) (by simp)) (fun hS => ?_)
            clear hK K
            (try simp only [Act.put, List.setIfInBounds_toArray, List.set_cons_zero, List.set_cons_succ])
            refine wpAnyH_ready (rs := [7]) (by kernel_rfl) (by simp) ?_
            refine AllReadyH.cons (o := _) rfl (fun K hK => ?_) AllReadyH.nil
            go_simp
            obtain ⟨g9, hg9⟩ : ∃ g, w7.heap.size = g := ⟨_, rfl⟩
            obtain ⟨w8, hw8⟩ : ∃ v, w7.alloc (.cells #[.int .i64 0, .int .i64 0, .int .i64 0, .int .i64 0, .int .i64 0, .int .i64 0] 23) = v := ⟨_, rfl⟩
            have hbk : Hid (Bk w8 g9 23 (tL 0 0 0 0 0 0)) := Lib.hid (by rw [← hw8, ← hg9]; exact Bk.new w7 _ (tL 0 0 0 0 0 0))
            have hb : Hid (Below w7.heap.size w7 w8) := Lib.hid (by rw [← hw8]; exact bel1 w7 _)
            have GE_g9 : Hid (w.heap.size ≤ g9) := Lib.hid (by rw [← hg9]; exact K7.out.b.size)
            rw [hw8, hg9]
            have LT_g8_g9 : Hid (g8 < g9) := Lib.hid (by rw [← hg9]; exact (K7.out.k (g8, 23, tL 0 0 0 0 0 0) (by simp)).lt)
            have LT_g5_g9 : Hid (g5 < g9) := Lib.hid (by rw [← hg9]; exact (K7.out.k (g5, 59, ptL c0 c1 c2 c3 c4 c5 ++ ptL d0 d1 d2 d3 d4 d5) (by simp)).lt)
            have K8 := kp K7 hb
            clear hb K7
            have Kn := kb K8 hbk
            clear hbk K8 hg9 hw8
            have K8 := Kn
            clear Kn
            refine hK.out _ _ (K8.out.k (g5, 59, ptL c0 c1 c2 c3 c4 c5 ++ ptL d0 d1 d2 d3 d4 d5) (by simp)) (fun hS => ?_)
            clear hK K
            (try simp only [Act.put, List.setIfInBounds_toArray, List.set_cons_zero, List.set_cons_succ])
            refine wpAnyH_ready (rs := [8]) (by kernel_rfl) (by simp) ?_
            refine AllReadyH.cons (o := _) rfl (fun K hK => ?_) (AllReadyH.nil)
            refine storeG_wp5 (.tmp 8) (.tmp 59) rfl rfl (ds := tL y m dd h mi s) rfl (K8.out.k (g8, 23, tL 0 0 0 0 0 0) (by simp)) infoTm rfl (tL_one _ _ _ _ _ _) ?_; intro w9 RZ hgz hzz; have KZ0 := Lib.hid (K8.out.put HT0.out GE_g8.out hgz); have KZ1 := kb KZ0 (Lib.hid ((K8.out.k (g5, 59, ptL c0 c1 c2 c3 c4 c5 ++ ptL d0 d1 d2 d3 d4 d5) (by simp)).only hgz (by intro e; injection e with e; have := LT_g5_g8.out; omega))); have KZ2 := kb KZ1 (Lib.hid RZ); have KZ3 := kb KZ2 (Lib.hid ((K8.out.k (g9, 23, tL 0 0 0 0 0 0) (by simp)).only hgz (by intro e; injection e with e; have := LT_g8_g9.out; omega))); have K9 := KZ3; clear hgz hzz RZ K8 KZ0 KZ1 KZ2 KZ3
            refine hK.out _ _ (K9.out.k (g5, 59, ptL c0 c1 c2 c3 c4 c5 ++ ptL d0 d1 d2 d3 d4 d5) (by simp)) (fun hS => ?_)
            clear hK K
            (try simp only [Act.put, List.setIfInBounds_toArray, List.set_cons_zero, List.set_cons_succ])
            refine wpAnyH_ready (rs := [9]) (by kernel_rfl) (by simp) ?_
            refine AllReadyH.cons (o := _) rfl (fun K hK => ?_) (AllReadyH.nil)
            refine storeG_wp5 (.tmp 9) (.tmp 62) rfl rfl (ds := tL y2 m2 dd2 h2 mi2 s2) rfl (K9.out.k (g9, 23, tL 0 0 0 0 0 0) (by simp)) infoTm rfl (tL_one _ _ _ _ _ _) ?_; intro w10 RZ hgz hzz; have KZ0 := Lib.hid (K9.out.put HT0.out GE_g9.out hgz); have KZ1 := kb KZ0 (Lib.hid ((K9.out.k (g5, 59, ptL c0 c1 c2 c3 c4 c5 ++ ptL d0 d1 d2 d3 d4 d5) (by simp)).only hgz (by intro e; injection e with e; have := LT_g5_g9.out; omega))); have KZ2 := kb KZ1 (Lib.hid ((K9.out.k (g8, 23, tL y m dd h mi s) (by simp)).only hgz (by intro e; injection e with e; have := LT_g8_g9.out; omega))); have KZ3 := kb KZ2 (Lib.hid RZ); have K10 := KZ3; clear hgz hzz RZ K9 KZ0 KZ1 KZ2 KZ3
            refine hK.out _ _ (K10.out.k (g5, 59, ptL c0 c1 c2 c3 c4 c5 ++ ptL d0 d1 d2 d3 d4 d5) (by simp)) (fun hS => ?_)
            clear hK K
            (try simp only [Act.put, List.setIfInBounds_toArray, List.set_cons_zero, List.set_cons_succ])
            refine wpAnyH_done (by kernel_rfl) ?_ _
            clear hS
            go_wp2_with fail
            go_meet
            exact ⟨g8, g9, rfl, rfl, K10.out.b, K10.out.t, fun _ h => absurd h (by simp), fun x hx => K10.out.k x (by simp only [List.mem_cons, List.not_mem_nil, or_false] at hx ⊢; rcases hx with h | h <;> simp [h])⟩
          · go_simp
            obtain ⟨g9, hg9⟩ : ∃ g, w6.heap.size = g := ⟨_, rfl⟩
            obtain ⟨w7, hw7⟩ : ∃ v, w6.alloc (.cells #[.int .i64 0, .int .i64 0, .int .i64 0, .int .i64 0, .int .i64 0, .int .i64 0] 23) = v := ⟨_, rfl⟩
            have hbk : Hid (Bk w7 g9 23 (tL 0 0 0 0 0 0)) := Lib.hid (by rw [← hw7, ← hg9]; exact Bk.new w6 _ (tL 0 0 0 0 0 0))
            have hb : Hid (Below w6.heap.size w6 w7) := Lib.hid (by rw [← hw7]; exact bel1 w6 _)
            have GE_g9 : Hid (w.heap.size ≤ g9) := Lib.hid (by rw [← hg9]; exact K6.out.b.size)
            rw [hw7, hg9]
            have LT_g5_g9 : Hid (g5 < g9) := Lib.hid (by rw [← hg9]; exact (K6.out.k (g5, 59, ptL c0 c1 c2 c3 c4 c5 ++ ptL d0 d1 d2 d3 d4 d5) (by simp)).lt)
            have K7 := kp K6 hb
            clear hb K6
            have Kn := kb K7 hbk
            clear hbk K7 hg9 hw7
            have K7 := Kn
            clear Kn
            refine hK.out _ _ (K7.out.k (g5, 59, ptL c0 c1 c2 c3 c4 c5 ++ ptL d0 d1 d2 d3 d4 d5) (by simp)) (fun hS => ?_)
            clear hK K
            (try simp only [Act.put, List.setIfInBounds_toArray, List.set_cons_zero, List.set_cons_succ])
            refine wpAnyH_ready (rs := [6]) (by kernel_rfl) (by simp) ?_
            refine AllReadyH.cons (o := _) rfl (fun K hK => ?_) AllReadyH.nil
            go_simp
            obtain ⟨g8, hg8⟩ : ∃ g, w7.heap.size = g := ⟨_, rfl⟩
            obtain ⟨w8, hw8⟩ : ∃ v, w7.alloc (.cells #[.int .i64 0, .int .i64 0, .int .i64 0, .int .i64 0, .int .i64 0, .int .i64 0] 23) = v := ⟨_, rfl⟩
            have hbk : Hid (Bk w8 g8 23 (tL 0 0 0 0 0 0)) := Lib.hid (by rw [← hw8, ← hg8]; exact Bk.new w7 _ (tL 0 0 0 0 0 0))
            have hb : Hid (Below w7.heap.size w7 w8) := Lib.hid (by rw [← hw8]; exact bel1 w7 _)
            have GE_g8 : Hid (w.heap.size ≤ g8) := Lib.hid (by rw [← hg8]; exact K7.out.b.size)
            rw [hw8, hg8]
            have LT_g9_g8 : Hid (g9 < g8) := Lib.hid (by rw [← hg8]; exact (K7.out.k (g9, 23, tL 0 0 0 0 0 0) (by simp)).lt)
            have LT_g5_g8 : Hid (g5 < g8) := Lib.hid (by rw [← hg8]; exact (K7.out.k (g5, 59, ptL c0 c1 c2 c3 c4 c5 ++ ptL d0 d1 d2 d3 d4 d5) (by simp)).lt)
            have K8 := kp K7 hb
            clear hb K7
            have Kn := kb K8 hbk
            clear hbk K8 hg8 hw8
            have K8 := Kn
            clear Kn
            refine hK.out _ _ (K8.out.k (g5, 59, ptL c0 c1 c2 c3 c4 c5 ++ ptL d0 d1 d2 d3 d4 d5) (by simp)) (fun hS => ?_)
            clear hK K
            (try simp only [Act.put, List.setIfInBounds_toArray, List.set_cons_zero, List.set_cons_succ])
            refine wpAnyH_ready (rs := [8]) (by kernel_rfl) (by simp) ?_
            refine AllReadyH.cons (o := _) rfl (fun K hK => ?_) (AllReadyH.nil)
            refine storeG_wp5 (.tmp 8) (.tmp 59) rfl rfl (ds := tL y m dd h mi s) rfl (K8.out.k (g8, 23, tL 0 0 0 0 0 0) (by simp)) infoTm rfl (tL_one _ _ _ _ _ _) ?_; intro w9 RZ hgz hzz; have KZ0 := Lib.hid (K8.out.put HT0.out GE_g8.out hgz); have KZ1 := kb KZ0 (Lib.hid ((K8.out.k (g5, 59, ptL c0 c1 c2 c3 c4 c5 ++ ptL d0 d1 d2 d3 d4 d5) (by simp)).only hgz (by intro e; injection e with e; have := LT_g5_g8.out; omega))); have KZ2 := kb KZ1 (Lib.hid ((K8.out.k (g9, 23, tL 0 0 0 0 0 0) (by simp)).only hgz (by intro e; injection e with e; have := LT_g9_g8.out; omega))); have KZ3 := kb KZ2 (Lib.hid RZ); have K9 := KZ3; clear hgz hzz RZ K8 KZ0 KZ1 KZ2 KZ3
            refine hK.out _ _ (K9.out.k (g5, 59, ptL c0 c1 c2 c3 c4 c5 ++ ptL d0 d1 d2 d3 d4 d5) (by simp)) (fun hS => ?_)
            clear hK K
            (try simp only [Act.put, List.setIfInBounds_toArray, List.set_cons_zero, List.set_cons_succ])
            refine wpAnyH_ready (rs := [9]) (by kernel_rfl) (by simp) ?_
            refine AllReadyH.cons (o := _) rfl (fun K hK => ?_) (AllReadyH.nil)
            refine storeG_wp5 (.tmp 9) (.tmp 62) rfl rfl (ds := tL y2 m2 dd2 h2 mi2 s2) rfl (K9.out.k (g9, 23, tL 0 0 0 0 0 0) (by simp)) infoTm rfl (tL_one _ _ _ _ _ _) ?_; intro w10 RZ hgz hzz; have KZ0 := Lib.hid (K9.out.put HT0.out GE_g9.out hgz); have KZ1 := kb KZ0 (Lib.hid ((K9.out.k (g5, 59, ptL c0 c1 c2 c3 c4 c5 ++ ptL d0 d1 d2 d3 d4 d5) (by simp)).only hgz (by intro e; injection e with e; have := LT_g5_g9.out; omega))); have KZ2 := kb KZ1 (Lib.hid RZ); have KZ3 := kb KZ2 (Lib.hid ((K9.out.k (g8, 23, tL y m dd h mi s) (by simp)).only hgz (by intro e; injection e with e; have := LT_g9_g8.out; omega))); have K10 := KZ3; clear hgz hzz RZ K9 KZ0 KZ1 KZ2 KZ3
            refine hK.out _ _ (K10.out.k (g5, 59, ptL c0 c1 c2 c3 c4 c5 ++ ptL d0 d1 d2 d3 d4 d5) (by simp)) (fun hS => ?_)
            clear hK K
            (try simp only [Act.put, List.setIfInBounds_toArray, List.set_cons_zero, List.set_cons_succ])
            refine wpAnyH_done (by kernel_rfl) ?_ _
            clear hS
            go_wp2_with fail
            go_meet
            exact ⟨g8, g9, rfl, rfl, K10.out.b, K10.out.t, fun _ h => absurd h (by simp), fun x hx => K10.out.k x (by simp only [List.mem_cons, List.not_mem_nil, or_false] at hx ⊢; rcases hx with h | h <;> simp [h])⟩
        · go_simp
          obtain ⟨g8, hg8⟩ : ∃ g, w5.heap.size = g := ⟨_, rfl⟩
          obtain ⟨w6, hw6⟩ : ∃ v, w5.alloc (.cells #[.int .i64 0, .int .i64 0, .int .i64 0, .int .i64 0, .int .i64 0, .int .i64 0] 23) = v := ⟨_, rfl⟩
          have hbk : Hid (Bk w6 g8 23 (tL 0 0 0 0 0 0)) := Lib.hid (by rw [← hw6, ← hg8]; exact Bk.new w5 _ (tL 0 0 0 0 0 0))
          have hb : Hid (Below w5.heap.size w5 w6) := Lib.hid (by rw [← hw6]; exact bel1 w5 _)
          have GE_g8 : Hid (w.heap.size ≤ g8) := Lib.hid (by rw [← hg8]; exact K5.out.b.size)
          rw [hw6, hg8]
          have LT_g5_g8 : Hid (g5 < g8) := Lib.hid (by rw [← hg8]; exact (K5.out.k (g5, 59, ptL c0 c1 c2 c3 c4 c5 ++ ptL d0 d1 d2 d3 d4 d5) (by simp)).lt)
          have K6 := kp K5 hb
          clear hb K5
          have Kn := kb K6 hbk
          clear hbk K6 hg8 hw6
          have K6 := Kn
          clear Kn
          refine hK.out _ _ (K6.out.k (g5, 59, ptL c0 c1 c2 c3 c4 c5 ++ ptL d0 d1 d2 d3 d4 d5) (by simp)) (fun hS => ?_)
          clear hK K
          (try simp only [Act.put, List.setIfInBounds_toArray, List.set_cons_zero, List.set_cons_succ])
          refine wpAnyH_ready (rs := [5, 7]) (by kernel_rfl) (by simp) ?_
          refine AllReadyH.cons (o := _) rfl (fun K hK => ?_) (AllReadyH.cons (o := _) rfl (fun K hK => ?_) AllReadyH.nil)
          · go_simp
            refine (tof_at w6 d0 d1 d2 d3 d4 d5 HR2.out y2 m2 dd2 h2 mi2 s2 HL2.out.1 HL2.out.2.1 HL2.out.2.2.1 HL2.out.2.2.2.1 HL2.out.2.2.2.2.1 HL2.out.2.2.2.2.2).mono ?_
            rintro e w7 ⟨rfl, hb⟩
            have K7 := kp K6 hb
            clear hb K6
            go_simp
            refine hK.out _ _ (K7.out.k (g5, 59, ptL c0 c1 c2 c3 c4 c5 ++ ptL d0 d1 d2 d3 d4 d5) (by simp)) (fun hS => ?_)
            clear hK K
            (try simp only [Act.put, List.setIfInBounds_toArray, List.set_cons_zero, List.set_cons_succ])
            refine wpAnyH_ready (rs := [7]) (by kernel_rfl) (by simp) ?_
            refine AllReadyH.cons (o := _) rfl (fun K hK => ?_) AllReadyH.nil
            go_simp
            obtain ⟨g9, hg9⟩ : ∃ g, w7.heap.size = g := ⟨_, rfl⟩
            obtain ⟨w8, hw8⟩ : ∃ v, w7.alloc (.cells #[.int .i64 0, .int .i64 0, .int .i64 0, .int .i64 0, .int .i64 0, .int .i64 0] 23) = v := ⟨_, rfl⟩
            have hbk : Hid (Bk w8 g9 23 (tL 0 0 0 0 0 0)) := Lib.hid (by rw [← hw8, ← hg9]; exact Bk.new w7 _ (tL 0 0 0 0 0 0))
            have hb : Hid (Below w7.heap.size w7 w8) := Lib.hid (by rw [← hw8]; exact bel1 w7 _)
            have GE_g9 : Hid (w.heap.size ≤ g9) := Lib.hid (by rw [← hg9]; exact K7.out.b.size)
            rw [hw8, hg9]
            have LT_g8_g9 : Hid (g8 < g9) := Lib.hid (by rw [← hg9]; exact (K7.out.k (g8, 23, tL 0 0 0 0 0 0) (by simp)).lt)
            have LT_g5_g9 : Hid (g5 < g9) := Lib.hid (by rw [← hg9]; exact (K7.out.k (g5, 59, ptL c0 c1 c2 c3 c4 c5 ++ ptL d0 d1 d2 d3 d4 d5) (by simp)).lt)
            have K8 := kp K7 hb
            clear hb K7
            have Kn := kb K8 hbk
            clear hbk K8 hg9 hw8
            have K8 := Kn
            clear Kn
            refine hK.out _ _ (K8.out.k (g5, 59, ptL c0 c1 c2 c3 c4 c5 ++ ptL d0 d1 d2 d3 d4 d5) (by simp)) (fun hS => ?_)
            clear hK K
            (try simp only [Act.put, List.setIfInBounds_toArray, List.set_cons_zero, List.set_cons_succ])
            refine wpAnyH_ready (rs := [8]) (by kernel_rfl) (by simp) ?_
            refine AllReadyH.cons (o := _) rfl (fun K hK => ?_) (AllReadyH.nil)
            refine storeG_wp5 (.tmp 8) (.tmp 59) rfl rfl (ds := tL y m dd h mi s) rfl (K8.out.k (g8, 23, tL 0 0 0 0 0 0) (by simp)) infoTm rfl (tL_one _ _ _ _ _ _) ?_; intro w9 RZ hgz hzz; have KZ0 := Lib.hid (K8.out.put HT0.out GE_g8.out hgz); have KZ1 := kb KZ0 (Lib.hid ((K8.out.k (g5, 59, ptL c0 c1 c2 c3 c4 c5 ++ ptL d0 d1 d2 d3 d4 d5) (by simp)).only hgz (by intro e; injection e with e; have := LT_g5_g8.out; omega))); have KZ2 := kb KZ1 (Lib.hid RZ); have KZ3 := kb KZ2 (Lib.hid ((K8.out.k (g9, 23, tL 0 0 0 0 0 0) (by simp)).only hgz (by intro e; injection e with e; have := LT_g8_g9.out; omega))); have K9 := KZ3; clear hgz hzz RZ K8 KZ0 KZ1 KZ2 KZ3
            refine hK.out _ _ (K9.out.k (g5, 59, ptL c0 c1 c2 c3 c4 c5 ++ ptL d0 d1 d2 d3 d4 d5) (by simp)) (fun hS => ?_)
            clear hK K
            (try simp only [Act.put, List.setIfInBounds_toArray, List.set_cons_zero, List.set_cons_succ])
            refine wpAnyH_ready (rs := [9]) (by kernel_rfl) (by simp) ?_
            refine AllReadyH.cons (o := _) rfl (fun K hK => ?_) (AllReadyH.nil)
            refine storeG_wp5 (.tmp 9) (.tmp 62) rfl rfl (ds := tL y2 m2 dd2 h2 mi2 s2) rfl (K9.out.k (g9, 23, tL 0 0 0 0 0 0) (by simp)) infoTm rfl (tL_one _ _ _ _ _ _) ?_; intro w10 RZ hgz hzz; have KZ0 := Lib.hid (K9.out.put HT0.out GE_g9.out hgz); have KZ1 := kb KZ0 (Lib.hid ((K9.out.k (g5, 59, ptL c0 c1 c2 c3 c4 c5 ++ ptL d0 d1 d2 d3 d4 d5) (by simp)).only hgz (by intro e; injection e with e; have := LT_g5_g9.out; omega))); have KZ2 := kb KZ1 (Lib.hid ((K9.out.k (g8, 23, tL y m dd h mi s) (by simp)).only hgz (by intro e; injection e with e; have := LT_g8_g9.out; omega))); have KZ3 := kb KZ2 (Lib.hid RZ); have K10 := KZ3; clear hgz hzz RZ K9 KZ0 KZ1 KZ2 KZ3
            refine hK.out _ _ (K10.out.k (g5, 59, ptL c0 c1 c2 c3 c4 c5 ++ ptL d0 d1 d2 d3 d4 d5) (by simp)) (fun hS => ?_)
            clear hK K
            (try simp only [Act.put, List.setIfInBounds_toArray, List.set_cons_zero, List.set_cons_succ])
            refine wpAnyH_done (by kernel_rfl) ?_ _
            clear hS
            go_wp2_with fail
            go_meet
            exact ⟨g8, g9, rfl, rfl, K10.out.b, K10.out.t, fun _ h => absurd h (by simp), fun x hx => K10.out.k x (by simp only [List.mem_cons, List.not_mem_nil, or_false] at hx ⊢; rcases hx with h | h <;> simp [h])⟩
          · go_simp
            obtain ⟨g9, hg9⟩ : ∃ g, w6.heap.size = g := ⟨_, rfl⟩
            obtain ⟨w7, hw7⟩ : ∃ v, w6.alloc (.cells #[.int .i64 0, .int .i64 0, .int .i64 0, .int .i64 0, .int .i64 0, .int .i64 0] 23) = v := ⟨_, rfl⟩
            have hbk : Hid (Bk w7 g9 23 (tL 0 0 0 0 0 0)) := Lib.hid (by rw [← hw7, ← hg9]; exact Bk.new w6 _ (tL 0 0 0 0 0 0))
            have hb : Hid (Below w6.heap.size w6 w7) := Lib.hid (by rw [← hw7]; exact bel1 w6 _)
            have GE_g9 : Hid (w.heap.size ≤ g9) := Lib.hid (by rw [← hg9]; exact K6.out.b.size)
            rw [hw7, hg9]
            have LT_g8_g9 : Hid (g8 < g9) := Lib.hid (by rw [← hg9]; exact (K6.out.k (g8, 23, tL 0 0 0 0 0 0) (by simp)).lt)
            have LT_g5_g9 : Hid (g5 < g9) := Lib.hid (by rw [← hg9]; exact (K6.out.k (g5, 59, ptL c0 c1 c2 c3 c4 c5 ++ ptL d0 d1 d2 d3 d4 d5) (by simp)).lt)
            have K7 := kp K6 hb
            clear hb K6
            have Kn := kb K7 hbk
            clear hbk K7 hg9 hw7
            have K7 := Kn
            clear Kn
            refine hK.out _ _ (K7.out.k (g5, 59, ptL c0 c1 c2 c3 c4 c5 ++ ptL d0 d1 d2 d3 d4 d5) (by simp)) (fun hS => ?_)
            clear hK K
            (try simp only [Act.put, List.setIfInBounds_toArray, List.set_cons_zero, List.set_cons_succ])
            refine wpAnyH_ready (rs := [5]) (by kernel_rfl) (by simp) ?_
            refine AllReadyH.cons (o := _) rfl (fun K hK => ?_) AllReadyH.nil
            go_simp
            refine (tof_at w7 d0 d1 d2 d3 d4 d5 HR2.out y2 m2 dd2 h2 mi2 s2 HL2.out.1 HL2.out.2.1 HL2.out.2.2.1 HL2.out.2.2.2.1 HL2.out.2.2.2.2.1 HL2.out.2.2.2.2.2).mono ?_
            rintro e w8 ⟨rfl, hb⟩
            have K8 := kp K7 hb
            clear hb K7
            go_simp
            refine hK.out _ _ (K8.out.k (g5, 59, ptL c0 c1 c2 c3 c4 c5 ++ ptL d0 d1 d2 d3 d4 d5) (by simp)) (fun hS => ?_)
            clear hK K
            (try simp only [Act.put, List.setIfInBounds_toArray, List.set_cons_zero, List.set_cons_succ])
            refine wpAnyH_ready (rs := [8]) (by kernel_rfl) (by simp) ?_
            refine AllReadyH.cons (o := _) rfl (fun K hK => ?_) (AllReadyH.nil)
            refine storeG_wp5 (.tmp 8) (.tmp 59) rfl rfl (ds := tL y m dd h mi s) rfl (K8.out.k (g8, 23, tL 0 0 0 0 0 0) (by simp)) infoTm rfl (tL_one _ _ _ _ _ _) ?_; intro w9 RZ hgz hzz; have KZ0 := Lib.hid (K8.out.put HT0.out GE_g8.out hgz); have KZ1 := kb KZ0 (Lib.hid ((K8.out.k (g5, 59, ptL c0 c1 c2 c3 c4 c5 ++ ptL d0 d1 d2 d3 d4 d5) (by simp)).only hgz (by intro e; injection e with e; have := LT_g5_g8.out; omega))); have KZ2 := kb KZ1 (Lib.hid RZ); have KZ3 := kb KZ2 (Lib.hid ((K8.out.k (g9, 23, tL 0 0 0 0 0 0) (by simp)).only hgz (by intro e; injection e with e; have := LT_g8_g9.out; omega))); have K9 := KZ3; clear hgz hzz RZ K8 KZ0 KZ1 KZ2 KZ3
            refine hK.out _ _ (K9.out.k (g5, 59, ptL c0 c1 c2 c3 c4 c5 ++ ptL d0 d1 d2 d3 d4 d5) (by simp)) (fun hS => ?_)
            clear hK K
            (try simp only [Act.put, List.setIfInBounds_toArray, List.set_cons_zero, List.set_cons_succ])
            refine wpAnyH_ready (rs := [9]) (by kernel_rfl) (by simp) ?_
            refine AllReadyH.cons (o := _) rfl (fun K hK => ?_) (AllReadyH.nil)
            refine storeG_wp5 (.tmp 9) (.tmp 62) rfl rfl (ds := tL y2 m2 dd2 h2 mi2 s2) rfl (K9.out.k (g9, 23, tL 0 0 0 0 0 0) (by simp)) infoTm rfl (tL_one _ _ _ _ _ _) ?_; intro w10 RZ hgz hzz; have KZ0 := Lib.hid (K9.out.put HT0.out GE_g9.out hgz); have KZ1 := kb KZ0 (Lib.hid ((K9.out.k (g5, 59, ptL c0 c1 c2 c3 c4 c5 ++ ptL d0 d1 d2 d3 d4 d5) (by simp)).only hgz (by intro e; injection e with e; have := LT_g5_g9.out; omega))); have KZ2 := kb KZ1 (Lib.hid ((K9.out.k (g8, 23, tL y m dd h mi s) (by simp)).only hgz (by intro e; injection e with e; have := LT_g8_g9.out; omega))); have KZ3 := kb KZ2 (Lib.hid RZ); have K10 := KZ3; clear hgz hzz RZ K9 KZ0 KZ1 KZ2 KZ3
            refine hK.out _ _ (K10.out.k (g5, 59, ptL c0 c1 c2 c3 c4 c5 ++ ptL d0 d1 d2 d3 d4 d5) (by simp)) (fun hS => ?_)
            clear hK K
            (try simp only [Act.put, List.setIfInBounds_toArray, List.set_cons_zero, List.set_cons_succ])
            refine wpAnyH_done (by kernel_rfl) ?_ _
            clear hS
            go_wp2_with fail
            go_meet
            exact ⟨g8, g9, rfl, rfl, K10.out.b, K10.out.t, fun _ h => absurd h (by simp), fun x hx => K10.out.k x (by simp only [List.mem_cons, List.not_mem_nil, or_false] at hx ⊢; rcases hx with h | h <;> simp [h])⟩
        · go_simp
          obtain ⟨g9, hg9⟩ : ∃ g, w5.heap.size = g := ⟨_, rfl⟩
          obtain ⟨w6, hw6⟩ : ∃ v, w5.alloc (.cells #[.int .i64 0, .int .i64 0, .int .i64 0, .int .i64 0, .int .i64 0, .int .i64 0] 23) = v := ⟨_, rfl⟩
          have hbk : Hid (Bk w6 g9 23 (tL 0 0 0 0 0 0)) := Lib.hid (by rw [← hw6, ← hg9]; exact Bk.new w5 _ (tL 0 0 0 0 0 0))
          have hb : Hid (Below w5.heap.size w5 w6) := Lib.hid (by rw [← hw6]; exact bel1 w5 _)
          have GE_g9 : Hid (w.heap.size ≤ g9) := Lib.hid (by rw [← hg9]; exact K5.out.b.size)
          rw [hw6, hg9]
          have LT_g5_g9 : Hid (g5 < g9) := Lib.hid (by rw [← hg9]; exact (K5.out.k (g5, 59, ptL c0 c1 c2 c3 c4 c5 ++ ptL d0 d1 d2 d3 d4 d5) (by simp)).lt)
          have K6 := kp K5 hb
          clear hb K5
          have Kn := kb K6 hbk
          clear hbk K6 hg9 hw6
          have K6 := Kn
          clear Kn
          refine hK.out _ _ (K6.out.k (g5, 59, ptL c0 c1 c2 c3 c4 c5 ++ ptL d0 d1 d2 d3 d4 d5) (by simp)) (fun hS => ?_)
          clear hK K
          (try simp only [Act.put, List.setIfInBounds_toArray, List.set_cons_zero, List.set_cons_succ])
          refine wpAnyH_ready (rs := [5, 6]) (by kernel_rfl) (by simp) ?_
          refine AllReadyH.cons (o := _) rfl (fun K hK => ?_) (AllReadyH.cons (o := _) rfl (fun K hK => ?_) AllReadyH.nil)
          · go_simp
            refine (tof_at w6 d0 d1 d2 d3 d4 d5 HR2.out y2 m2 dd2 h2 mi2 s2 HL2.out.1 HL2.out.2.1 HL2.out.2.2.1 HL2.out.2.2.2.1 HL2.out.2.2.2.2.1 HL2.out.2.2.2.2.2).mono ?_
            rintro e w7 ⟨rfl, hb⟩
            have K7 := kp K6 hb
            clear hb K6
            go_simp
            refine hK.out _ _ (K7.out.k (g5, 59, ptL c0 c1 c2 c3 c4 c5 ++ ptL d0 d1 d2 d3 d4 d5) (by simp)) (fun hS => ?_)
            clear hK K
            (try simp only [Act.put, List.setIfInBounds_toArray, List.set_cons_zero, List.set_cons_succ])
            refine wpAnyH_ready (rs := [6]) (by kernel_rfl) (by simp) ?_
            refine AllReadyH.cons (o := _) rfl (fun K hK => ?_) AllReadyH.nil
            go_simp
            obtain ⟨g8, hg8⟩ : ∃ g, w7.heap.size = g := ⟨_, rfl⟩
            obtain ⟨w8, hw8⟩ : ∃ v, w7.alloc (.cells #[.int .i64 0, .int .i64 0, .int .i64 0, .int .i64 0, .int .i64 0, .int .i64 0] 23) = v := ⟨_, rfl⟩
            have hbk : Hid (Bk w8 g8 23 (tL 0 0 0 0 0 0)) := Lib.hid (by rw [← hw8, ← hg8]; exact Bk.new w7 _ (tL 0 0 0 0 0 0))
            have hb : Hid (Below w7.heap.size w7 w8) := Lib.hid (by rw [← hw8]; exact bel1 w7 _)
            have GE_g8 : Hid (w.heap.size ≤ g8) := Lib.hid (by rw [← hg8]; exact K7.out.b.size)
            rw [hw8, hg8]
            have LT_g9_g8 : Hid (g9 < g8) := Lib.hid (by rw [← hg8]; exact (K7.out.k (g9, 23, tL 0 0 0 0 0 0) (by simp)).lt)
            have LT_g5_g8 : Hid (g5 < g8) := Lib.hid (by rw [← hg8]; exact (K7.out.k (g5, 59, ptL c0 c1 c2 c3 c4 c5 ++ ptL d0 d1 d2 d3 d4 d5) (by simp)).lt)
            have K8 := kp K7 hb
            clear hb K7
            have Kn := kb K8 hbk
            clear hbk K8 hg8 hw8
            have K8 := Kn
            clear Kn
            refine hK.out _ _ (K8.out.k (g5, 59, ptL c0 c1 c2 c3 c4 c5 ++ ptL d0 d1 d2 d3 d4 d5) (by simp)) (fun hS => ?_)
            clear hK K
            (try simp only [Act.put, List.setIfInBounds_toArray, List.set_cons_zero, List.set_cons_succ])
            refine wpAnyH_ready (rs := [8]) (by kernel_rfl) (by simp) ?_
            refine AllReadyH.cons (o := _) rfl (fun K hK => ?_) (AllReadyH.nil)
            refine storeG_wp5 (.tmp 8) (.tmp 59) rfl rfl (ds := tL y m dd h mi s) rfl (K8.out.k (g8, 23, tL 0 0 0 0 0 0) (by simp)) infoTm rfl (tL_one _ _ _ _ _ _) ?_; intro w9 RZ hgz hzz; have KZ0 := Lib.hid (K8.out.put HT0.out GE_g8.out hgz); have KZ1 := kb KZ0 (Lib.hid ((K8.out.k (g5, 59, ptL c0 c1 c2 c3 c4 c5 ++ ptL d0 d1 d2 d3 d4 d5) (by simp)).only hgz (by intro e; injection e with e; have := LT_g5_g8.out; omega))); have KZ2 := kb KZ1 (Lib.hid ((K8.out.k (g9, 23, tL 0 0 0 0 0 0) (by simp)).only hgz (by intro e; injection e with e; have := LT_g9_g8.out; omega))); have KZ3 := kb KZ2 (Lib.hid RZ); have K9 := KZ3; clear hgz hzz RZ K8 KZ0 KZ1 KZ2 KZ3
            refine hK.out _ _ (K9.out.k (g5, 59, ptL c0 c1 c2 c3 c4 c5 ++ ptL d0 d1 d2 d3 d4 d5) (by simp)) (fun hS => ?_)
            clear hK K
            (try simp only [Act.put, List.setIfInBounds_toArray, List.set_cons_zero, List.set_cons_succ])
            refine wpAnyH_ready (rs := [9]) (by kernel_rfl) (by simp) ?_
            refine AllReadyH.cons (o := _) rfl (fun K hK => ?_) (AllReadyH.nil)
            refine storeG_wp5 (.tmp 9) (.tmp 62) rfl rfl (ds := tL y2 m2 dd2 h2 mi2 s2) rfl (K9.out.k (g9, 23, tL 0 0 0 0 0 0) (by simp)) infoTm rfl (tL_one _ _ _ _ _ _) ?_; intro w10 RZ hgz hzz; have KZ0 := Lib.hid (K9.out.put HT0.out GE_g9.out hgz); have KZ1 := kb KZ0 (Lib.hid ((K9.out.k (g5, 59, ptL c0 c1 c2 c3 c4 c5 ++ ptL d0 d1 d2 d3 d4 d5) (by simp)).only hgz (by intro e; injection e with e; have := LT_g5_g9.out; omega))); have KZ2 := kb KZ1 (Lib.hid RZ); have KZ3 := kb KZ2 (Lib.hid ((K9.out.k (g8, 23, tL y m dd h mi s) (by simp)).only hgz (by intro e; injection e with e; have := LT_g9_g8.out; omega))); have K10 := KZ3; clear hgz hzz RZ K9 KZ0 KZ1 KZ2 KZ3
            refine hK.out _ _ (K10.out.k (g5, 59, ptL c0 c1 c2 c3 c4 c5 ++ ptL d0 d1 d2 d3 d4 d5) (by simp)) (fun hS => ?_)
            clear hK K
            (try simp only [Act.put, List.setIfInBounds_toArray, List.set_cons_zero, List.set_cons_succ])
            refine wpAnyH_done (by kernel_rfl) ?_ _
            clear hS
            go_wp2_with fail
            go_meet
            exact ⟨g8, g9, rfl, rfl, K10.out.b, K10.out.t, fun _ h => absurd h (by simp), fun x hx => K10.out.k x (by simp only [List.mem_cons, List.not_mem_nil, or_false] at hx ⊢; rcases hx with h | h <;> simp [h])⟩
          · go_simp
            obtain ⟨g8, hg8⟩ : ∃ g, w6.heap.size = g := ⟨_, rfl⟩
            obtain ⟨w7, hw7⟩ : ∃ v, w6.alloc (.cells #[.int .i64 0, .int .i64 0, .int .i64 0, .int .i64 0, .int .i64 0, .int .i64 0] 23) = v := ⟨_, rfl⟩
            have hbk : Hid (Bk w7 g8 23 (tL 0 0 0 0 0 0)) := Lib.hid (by rw [← hw7, ← hg8]; exact Bk.new w6 _ (tL 0 0 0 0 0 0))
            have hb : Hid (Below w6.heap.size w6 w7) := Lib.hid (by rw [← hw7]; exact bel1 w6 _)
            have GE_g8 : Hid (w.heap.size ≤ g8) := Lib.hid (by rw [← hg8]; exact K6.out.b.size)
            rw [hw7, hg8]
            have LT_g9_g8 : Hid (g9 < g8) := Lib.hid (by rw [← hg8]; exact (K6.out.k (g9, 23, tL 0 0 0 0 0 0) (by simp)).lt)
            have LT_g5_g8 : Hid (g5 < g8) := Lib.hid (by rw [← hg8]; exact (K6.out.k (g5, 59, ptL c0 c1 c2 c3 c4 c5 ++ ptL d0 d1 d2 d3 d4 d5) (by simp)).lt)
            have K7 := kp K6 hb
            clear hb K6
            have Kn := kb K7 hbk
            clear hbk K7 hg8 hw7
            have K7 := Kn
            clear Kn
            refine hK.out _ _ (K7.out.k (g5, 59, ptL c0 c1 c2 c3 c4 c5 ++ ptL d0 d1 d2 d3 d4 d5) (by simp)) (fun hS => ?_)
            clear hK K
            (try simp only [Act.put, List.setIfInBounds_toArray, List.set_cons_zero, List.set_cons_succ])
            refine wpAnyH_ready (rs := [5]) (by kernel_rfl) (by simp) ?_
            refine AllReadyH.cons (o := _) rfl (fun K hK => ?_) AllReadyH.nil
            go_simp
            refine (tof_at w7 d0 d1 d2 d3 d4 d5 HR2.out y2 m2 dd2 h2 mi2 s2 HL2.out.1 HL2.out.2.1 HL2.out.2.2.1 HL2.out.2.2.2.1 HL2.out.2.2.2.2.1 HL2.out.2.2.2.2.2).mono ?_
            rintro e w8 ⟨rfl, hb⟩
            have K8 := kp K7 hb
            clear hb K7
            go_simp
            refine hK.out _ _ (K8.out.k (g5, 59, ptL c0 c1 c2 c3 c4 c5 ++ ptL d0 d1 d2 d3 d4 d5) (by simp)) (fun hS => ?_)
            clear hK K
            (try simp only [Act.put, List.setIfInBounds_toArray, List.set_cons_zero, List.set_cons_succ])
            refine wpAnyH_ready (rs := [8]) (by kernel_rfl) (by simp) ?_
            refine AllReadyH.cons (o := _) rfl (fun K hK => ?_) (AllReadyH.nil)
            refine storeG_wp5 (.tmp 8) (.tmp 59) rfl rfl (ds := tL y m dd h mi s) rfl (K8.out.k (g8, 23, tL 0 0 0 0 0 0) (by simp)) infoTm rfl (tL_one _ _ _ _ _ _) ?_; intro w9 RZ hgz hzz; have KZ0 := Lib.hid (K8.out.put HT0.out GE_g8.out hgz); have KZ1 := kb KZ0 (Lib.hid ((K8.out.k (g5, 59, ptL c0 c1 c2 c3 c4 c5 ++ ptL d0 d1 d2 d3 d4 d5) (by simp)).only hgz (by intro e; injection e with e; have := LT_g5_g8.out; omega))); have KZ2 := kb KZ1 (Lib.hid ((K8.out.k (g9, 23, tL 0 0 0 0 0 0) (by simp)).only hgz (by intro e; injection e with e; have := LT_g9_g8.out; omega))); have KZ3 := kb KZ2 (Lib.hid RZ); have K9 := KZ3; clear hgz hzz RZ K8 KZ0 KZ1 KZ2 KZ3
            refine hK.out _ _ (K9.out.k (g5, 59, ptL c0 c1 c2 c3 c4 c5 ++ ptL d0 d1 d2 d3 d4 d5) (by simp)) (fun hS => ?_)
            clear hK K
            (try simp only [Act.put, List.setIfInBounds_toArray, List.set_cons_zero, List.set_cons_succ])
            refine wpAnyH_ready (rs := [9]) (by kernel_rfl) (by simp) ?_
            refine AllReadyH.cons (o := _) rfl (fun K hK => ?_) (AllReadyH.nil)
            refine storeG_wp5 (.tmp 9) (.tmp 62) rfl rfl (ds := tL y2 m2 dd2 h2 mi2 s2) rfl (K9.out.k (g9, 23, tL 0 0 0 0 0 0) (by simp)) infoTm rfl (tL_one _ _ _ _ _ _) ?_; intro w10 RZ hgz hzz; have KZ0 := Lib.hid (K9.out.put HT0.out GE_g9.out hgz); have KZ1 := kb KZ0 (Lib.hid ((K9.out.k (g5, 59, ptL c0 c1 c2 c3 c4 c5 ++ ptL d0 d1 d2 d3 d4 d5) (by simp)).only hgz (by intro e; injection e with e; have := LT_g5_g9.out; omega))); have KZ2 := kb KZ1 (Lib.hid RZ); have KZ3 := kb KZ2 (Lib.hid ((K9.out.k (g8, 23, tL y m dd h mi s) (by simp)).only hgz (by intro e; injection e with e; have := LT_g9_g8.out; omega))); have K10 := KZ3; clear hgz hzz RZ K9 KZ0 KZ1 KZ2 KZ3
            refine hK.out _ _ (K10.out.k (g5, 59, ptL c0 c1 c2 c3 c4 c5 ++ ptL d0 d1 d2 d3 d4 d5) (by simp)) (fun hS => ?_)
            clear hK K
            (try simp only [Act.put, List.setIfInBounds_toArray, List.set_cons_zero, List.set_cons_succ])
            refine wpAnyH_done (by kernel_rfl) ?_ _
            clear hS
            go_wp2_with fail
            go_meet
            exact ⟨g8, g9, rfl, rfl, K10.out.b, K10.out.t, fun _ h => absurd h (by simp), fun x hx => K10.out.k x (by simp only [List.mem_cons, List.not_mem_nil, or_false] at hx ⊢; rcases hx with h | h <;> simp [h])⟩
      · go_simp
        obtain ⟨g8, hg8⟩ : ∃ g, w4.heap.size = g := ⟨_, rfl⟩
        obtain ⟨w5, hw5⟩ : ∃ v, w4.alloc (.cells #[.int .i64 0, .int .i64 0, .int .i64 0, .int .i64 0, .int .i64 0, .int .i64 0] 23) = v := ⟨_, rfl⟩
        have hbk : Hid (Bk w5 g8 23 (tL 0 0 0 0 0 0)) := Lib.hid (by rw [← hw5, ← hg8]; exact Bk.new w4 _ (tL 0 0 0 0 0 0))
        have hb : Hid (Below w4.heap.size w4 w5) := Lib.hid (by rw [← hw5]; exact bel1 w4 _)
        have GE_g8 : Hid (w.heap.size ≤ g8) := Lib.hid (by rw [← hg8]; exact K4.out.b.size)
        rw [hw5, hg8]
        have LT_g5_g8 : Hid (g5 < g8) := Lib.hid (by rw [← hg8]; exact (K4.out.k (g5, 59, ptL c0 c1 c2 c3 c4 c5 ++ ptL d0 d1 d2 d3 d4 d5) (by simp)).lt)
        have K5 := kp K4 hb
        clear hb K4
        have Kn := kb K5 hbk
        clear hbk K5 hg8 hw5
        have K5 := Kn
        clear Kn
        refine hK.out _ _ (K5.out.k (g5, 59, ptL c0 c1 c2 c3 c4 c5 ++ ptL d0 d1 d2 d3 d4 d5) (by simp)) (fun hS => ?_)
        clear hK K
        (try simp only [Act.put, List.setIfInBounds_toArray, List.set_cons_zero, List.set_cons_succ])
        refine wpAnyH_ready (rs := [2, 7]) (by kernel_rfl) (by simp) ?_
        refine AllReadyH.cons (o := _) rfl (fun K hK => ?_) (AllReadyH.cons (o := _) rfl (fun K hK => ?_) AllReadyH.nil)
        · go_simp
          refine (tof_at w5 c0 c1 c2 c3 c4 c5 HR1.out y m dd h mi s HL1.out.1 HL1.out.2.1 HL1.out.2.2.1 HL1.out.2.2.2.1 HL1.out.2.2.2.2.1 HL1.out.2.2.2.2.2).mono ?_
          rintro e w6 ⟨rfl, hb⟩
          have K6 := kp K5 hb
          clear hb K5
          go_simp
          refine hK.out _ _ (K6.out.k (g5, 59, ptL c0 c1 c2 c3 c4 c5 ++ ptL d0 d1 d2 d3 d4 d5) (by simp)) (fun hS => ?_)
          clear hK K
          (try simp only [Act.put, List.setIfInBounds_toArray, List.set_cons_zero, List.set_cons_succ])
          refine wpAnyH_ready (rs := [5, 7]) (by kernel_rfl) (by simp) ?_
          refine AllReadyH.cons (o := _) rfl (fun K hK => ?_) (AllReadyH.cons (o := _) rfl (fun K hK => ?_) AllReadyH.nil)
          · go_simp
            refine (tof_at w6 d0 d1 d2 d3 d4 d5 HR2.out y2 m2 dd2 h2 mi2 s2 HL2.out.1 HL2.out.2.1 HL2.out.2.2.1 HL2.out.2.2.2.1 HL2.out.2.2.2.2.1 HL2.out.2.2.2.2.2).mono ?_
            rintro e w7 ⟨rfl, hb⟩
            have K7 := kp K6 hb
            clear hb K6
            go_simp
            refine hK.out _ _ (K7.out.k (g5, 59, ptL c0 c1 c2 c3 c4 c5 ++ ptL d0 d1 d2 d3 d4 d5) (by simp)) (fun hS => ?_)
            clear hK K
            (try simp only [Act.put, List.setIfInBounds_toArray, List.set_cons_zero, List.set_cons_succ])
            refine wpAnyH_ready (rs := [7]) (by kernel_rfl) (by simp) ?_
            refine AllReadyH.cons (o := _) rfl (fun K hK => ?_) AllReadyH.nil
            go_simp
            obtain ⟨g9, hg9⟩ : ∃ g, w7.heap.size = g := ⟨_, rfl⟩
            obtain ⟨w8, hw8⟩ : ∃ v, w7.alloc (.cells #[.int .i64 0, .int .i64 0, .int .i64 0, .int .i64 0, .int .i64 0, .int .i64 0] 23) = v := ⟨_, rfl⟩
            have hbk : Hid (Bk w8 g9 23 (tL 0 0 0 0 0 0)) := Lib.hid (by rw [← hw8, ← hg9]; exact Bk.new w7 _ (tL 0 0 0 0 0 0))
            have hb : Hid (Below w7.heap.size w7 w8) := Lib.hid (by rw [← hw8]; exact bel1 w7 _)
            have GE_g9 : Hid (w.heap.size ≤ g9) := Lib.hid (by rw [← hg9]; exact K7.out.b.size)
            rw [hw8, hg9]
            have LT_g8_g9 : Hid (g8 < g9) := Lib.hid (by rw [← hg9]; exact (K7.out.k (g8, 23, tL 0 0 0 0 0 0) (by simp)).lt)
            have LT_g5_g9 : Hid (g5 < g9) := Lib.hid (by rw [← hg9]; exact (K7.out.k (g5, 59, ptL c0 c1 c2 c3 c4 c5 ++ ptL d0 d1 d2 d3 d4 d5) (by simp)).lt)
            have K8 := kp K7 hb
            clear hb K7
            have Kn := kb K8 hbk
            clear hbk K8 hg9 hw8
            have K8 := Kn
            clear Kn
            refine hK.out _ _ (K8.out.k (g5, 59, ptL c0 c1 c2 c3 c4 c5 ++ ptL d0 d1 d2 d3 d4 d5) (by simp)) (fun hS => ?_)
            clear hK K
            (try simp only [Act.put, List.setIfInBounds_toArray, List.set_cons_zero, List.set_cons_succ])
            refine wpAnyH_ready (rs := [8]) (by kernel_rfl) (by simp) ?_
            refine AllReadyH.cons (o := _) rfl (fun K hK => ?_) (AllReadyH.nil)
            refine storeG_wp5 (.tmp 8) (.tmp 59) rfl rfl (ds := tL y m dd h mi s) rfl (K8.out.k (g8, 23, tL 0 0 0 0 0 0) (by simp)) infoTm rfl (tL_one _ _ _ _ _ _) ?_; intro w9 RZ hgz hzz; have KZ0 := Lib.hid (K8.out.put HT0.out GE_g8.out hgz); have KZ1 := kb KZ0 (Lib.hid ((K8.out.k (g5, 59, ptL c0 c1 c2 c3 c4 c5 ++ ptL d0 d1 d2 d3 d4 d5) (by simp)).only hgz (by intro e; injection e with e; have := LT_g5_g8.out; omega))); have KZ2 := kb KZ1 (Lib.hid RZ); have KZ3 := kb KZ2 (Lib.hid ((K8.out.k (g9, 23, tL 0 0 0 0 0 0) (by simp)).only hgz (by intro e; injection e with e; have := LT_g8_g9.out; omega))); have K9 := KZ3; clear hgz hzz RZ K8 KZ0 KZ1 KZ2 KZ3
            refine hK.out _ _ (K9.out.k (g5, 59, ptL c0 c1 c2 c3 c4 c5 ++ ptL d0 d1 d2 d3 d4 d5) (by simp)) (fun hS => ?_)
            clear hK K
            (try simp only [Act.put, List.setIfInBounds_toArray, List.set_cons_zero, List.set_cons_succ])
            refine wpAnyH_ready (rs := [9]) (by kernel_rfl) (by simp) ?_
            refine AllReadyH.cons (o := _) rfl (fun K hK => ?_) (AllReadyH.nil)
            refine storeG_wp5 (.tmp 9) (.tmp 62) rfl rfl (ds := tL y2 m2 dd2 h2 mi2 s2) rfl (K9.out.k (g9, 23, tL 0 0 0 0 0 0) (by simp)) infoTm rfl (tL_one _ _ _ _ _ _) ?_; intro w10 RZ hgz hzz; have KZ0 := Lib.hid (K9.out.put HT0.out GE_g9.out hgz); have KZ1 := kb KZ0 (Lib.hid ((K9.out.k (g5, 59, ptL c0 c1 c2 c3 c4 c5 ++ ptL d0 d1 d2 d3 d4 d5) (by simp)).only hgz (by intro e; injection e with e; have := LT_g5_g9.out; omega))); have KZ2 := kb KZ1 (Lib.hid ((K9.out.k (g8, 23, tL y m dd h mi s) (by simp)).only hgz (by intro e; injection e with e; have := LT_g8_g9.out; omega))); have KZ3 := kb KZ2 (Lib.hid RZ); have K10 := KZ3; clear hgz hzz RZ K9 KZ0 KZ1 KZ2 KZ3
            refine hK.out _ _ (K10.out.k (g5, 59, ptL c0 c1 c2 c3 c4 c5 ++ ptL d0 d1 d2 d3 d4 d5) (by simp)) (fun hS => ?_)
            clear hK K
            (try simp only [Act.put, List.setIfInBounds_toArray, List.set_cons_zero, List.set_cons_succ])
            refine wpAnyH_done (by kernel_rfl) ?_ _
            clear hS
            go_wp2_with fail
            go_meet
            exact ⟨g8, g9, rfl, rfl, K10.out.b, K10.out.t, fun _ h => absurd h (by simp), fun x hx => K10.out.k x (by simp only [List.mem_cons, List.not_mem_nil, or_false] at hx ⊢; rcases hx with h | h <;> simp [h])⟩
          · go_simp
            obtain ⟨g9, hg9⟩ : ∃ g, w6.heap.size = g := ⟨_, rfl⟩
            obtain ⟨w7, hw7⟩ : ∃ v, w6.alloc (.cells #[.int .i64 0, .int .i64 0, .int .i64 0, .int .i64 0, .int .i64 0, .int .i64 0] 23) = v := ⟨_, rfl⟩
            have hbk : Hid (Bk w7 g9 23 (tL 0 0 0 0 0 0)) := Lib.hid (by rw [← hw7, ← hg9]; exact Bk.new w6 _ (tL 0 0 0 0 0 0))
            have hb : Hid (Below w6.heap.size w6 w7) := Lib.hid (by rw [← hw7]; exact bel1 w6 _)
            have GE_g9 : Hid (w.heap.size ≤ g9) := Lib.hid (by rw [← hg9]; exact K6.out.b.size)
            rw [hw7, hg9]
            have LT_g8_g9 : Hid (g8 < g9) := Lib.hid (by rw [← hg9]; exact (K6.out.k (g8, 23, tL 0 0 0 0 0 0) (by simp)).lt)
            have LT_g5_g9 : Hid (g5 < g9) := Lib.hid (by rw [← hg9]; exact (K6.out.k (g5, 59, ptL c0 c1 c2 c3 c4 c5 ++ ptL d0 d1 d2 d3 d4 d5) (by simp)).lt)
            have K7 := kp K6 hb
            clear hb K6
            have Kn := kb K7 hbk
            clear hbk K7 hg9 hw7
            have K7 := Kn
            clear Kn
            refine hK.out _ _ (K7.out.k (g5, 59, ptL c0 c1 c2 c3 c4 c5 ++ ptL d0 d1 d2 d3 d4 d5) (by simp)) (fun hS => ?_)
            clear hK K
            (try simp only [Act.put, List.setIfInBounds_toArray, List.set_cons_zero, List.set_cons_succ])
            refine wpAnyH_ready (rs := [5]) (by kernel_rfl) (by simp) ?_
            refine AllReadyH.cons (o := _) rfl (fun K hK => ?_) AllReadyH.nil
            go_simp
            refine (tof_at w7 d0 d1 d2 d3 d4 d5 HR2.out y2 m2 dd2 h2 mi2 s2 HL2.out.1 HL2.out.2.1 HL2.out.2.2.1 HL2.out.2.2.2.1 HL2.out.2.2.2.2.1 HL2.out.2.2.2.2.2).mono ?_
            rintro e w8 ⟨rfl, hb⟩
            have K8 := kp K7 hb
            clear hb K7
            go_simp
            refine hK.out _ _ (K8.out.k (g5, 59, ptL c0 c1 c2 c3 c4 c5 ++ ptL d0 d1 d2 d3 d4 d5) (by simp)) (fun hS => ?_)
            clear hK K
            (try simp only [Act.put, List.setIfInBounds_toArray, List.set_cons_zero, List.set_cons_succ])
            refine wpAnyH_ready (rs := [8]) (by kernel_rfl) (by simp) ?_
            refine AllReadyH.cons (o := _) rfl (fun K hK => ?_) (AllReadyH.nil)
            refine storeG_wp5 (.tmp 8) (.tmp 59) rfl rfl (ds := tL y m dd h mi s) rfl (K8.out.k (g8, 23, tL 0 0 0 0 0 0) (by simp)) infoTm rfl (tL_one _ _ _ _ _ _) ?_; intro w9 RZ hgz hzz; have KZ0 := Lib.hid (K8.out.put HT0.out GE_g8.out hgz); have KZ1 := kb KZ0 (Lib.hid ((K8.out.k (g5, 59, ptL c0 c1 c2 c3 c4 c5 ++ ptL d0 d1 d2 d3 d4 d5) (by simp)).only hgz (by intro e; injection e with e; have := LT_g5_g8.out; omega))); have KZ2 := kb KZ1 (Lib.hid RZ); have KZ3 := kb KZ2 (Lib.hid ((K8.out.k (g9, 23, tL 0 0 0 0 0 0) (by simp)).only hgz (by intro e; injection e with e; have := LT_g8_g9.out; omega))); have K9 := KZ3; clear hgz hzz RZ K8 KZ0 KZ1 KZ2 KZ3
            refine hK.out _ _ (K9.out.k (g5, 59, ptL c0 c1 c2 c3 c4 c5 ++ ptL d0 d1 d2 d3 d4 d5) (by simp)) (fun hS => ?_)
            clear hK K
            (try simp only [Act.put, List.setIfInBounds_toArray, List.set_cons_zero, List.set_cons_succ])
            refine wpAnyH_ready (rs := [9]) (by kernel_rfl) (by simp) ?_
            refine AllReadyH.cons (o := _) rfl (fun K hK => ?_) (AllReadyH.nil)
            refine storeG_wp5 (.tmp 9) (.tmp 62) rfl rfl (ds := tL y2 m2 dd2 h2 mi2 s2) rfl (K9.out.k (g9, 23, tL 0 0 0 0 0 0) (by simp)) infoTm rfl (tL_one _ _ _ _ _ _) ?_; intro w10 RZ hgz hzz; have KZ0 := Lib.hid (K9.out.put HT0.out GE_g9.out hgz); have KZ1 := kb KZ0 (Lib.hid ((K9.out.k (g5, 59, ptL c0 c1 c2 c3 c4 c5 ++ ptL d0 d1 d2 d3 d4 d5) (by simp)).only hgz (by intro e; injection e with e; have := LT_g5_g9.out; omega))); have KZ2 := kb KZ1 (Lib.hid ((K9.out.k (g8, 23, tL y m dd h mi s) (by simp)).only hgz (by intro e; injection e with e; have := LT_g8_g9.out; omega))); have KZ3 := kb KZ2 (Lib.hid RZ); have K10 := KZ3; clear hgz hzz RZ K9 KZ0 KZ1 KZ2 KZ3
            refine hK.out _ _ (K10.out.k (g5, 59, ptL c0 c1 c2 c3 c4 c5 ++ ptL d0 d1 d2 d3 d4 d5) (by simp)) (fun hS => ?_)
            clear hK K
            (try simp only [Act.put, List.setIfInBounds_toArray, List.set_cons_zero, List.set_cons_succ])
            refine wpAnyH_done (by kernel_rfl) ?_ _
            clear hS
            go_wp2_with fail
            go_meet
            exact ⟨g8, g9, rfl, rfl, K10.out.b, K10.out.t, fun _ h => absurd h (by simp), fun x hx => K10.out.k x (by simp only [List.mem_cons, List.not_mem_nil, or_false] at hx ⊢; rcases hx with h | h <;> simp [h])⟩
        · go_simp
          obtain ⟨g9, hg9⟩ : ∃ g, w5.heap.size = g := ⟨_, rfl⟩
          obtain ⟨w6, hw6⟩ : ∃ v, w5.alloc (.cells #[.int .i64 0, .int .i64 0, .int .i64 0, .int .i64 0, .int .i64 0, .int .i64 0] 23) = v := ⟨_, rfl⟩
          have hbk : Hid (Bk w6 g9 23 (tL 0 0 0 0 0 0)) := Lib.hid (by rw [← hw6, ← hg9]; exact Bk.new w5 _ (tL 0 0 0 0 0 0))
          have hb : Hid (Below w5.heap.size w5 w6) := Lib.hid (by rw [← hw6]; exact bel1 w5 _)
          have GE_g9 : Hid (w.heap.size ≤ g9) := Lib.hid (by rw [← hg9]; exact K5.out.b.size)
          rw [hw6, hg9]
          have LT_g8_g9 : Hid (g8 < g9) := Lib.hid (by rw [← hg9]; exact (K5.out.k (g8, 23, tL 0 0 0 0 0 0) (by simp)).lt)
          have LT_g5_g9 : Hid (g5 < g9) := Lib.hid (by rw [← hg9]; exact (K5.out.k (g5, 59, ptL c0 c1 c2 c3 c4 c5 ++ ptL d0 d1 d2 d3 d4 d5) (by simp)).lt)
          have K6 := kp K5 hb
          clear hb K5
          have Kn := kb K6 hbk
          clear hbk K6 hg9 hw6
          have K6 := Kn
          clear Kn
          refine hK.out _ _ (K6.out.k (g5, 59, ptL c0 c1 c2 c3 c4 c5 ++ ptL d0 d1 d2 d3 d4 d5) (by simp)) (fun hS => ?_)
          clear hK K
          (try simp only [Act.put, List.setIfInBounds_toArray, List.set_cons_zero, List.set_cons_succ])
          refine wpAnyH_ready (rs := [2]) (by kernel_rfl) (by simp) ?_
          refine AllReadyH.cons (o := _) rfl (fun K hK => ?_) AllReadyH.nil
          go_simp
          refine (tof_at w6 c0 c1 c2 c3 c4 c5 HR1.out y m dd h mi s HL1.out.1 HL1.out.2.1 HL1.out.2.2.1 HL1.out.2.2.2.1 HL1.out.2.2.2.2.1 HL1.out.2.2.2.2.2).mono ?_
          rintro e w7 ⟨rfl, hb⟩
          have K7 := kp K6 hb
          clear hb K6
          go_simp
          refine hK.out _ _ (K7.out.k (g5, 59, ptL c0 c1 c2 c3 c4 c5 ++ ptL d0 d1 d2 d3 d4 d5) (by simp)) (fun hS => ?_)
          clear hK K
          (try simp only [Act.put, List.setIfInBounds_toArray, List.set_cons_zero, List.set_cons_succ])
          refine wpAnyH_ready (rs := [5]) (by kernel_rfl) (by simp) ?_
          refine AllReadyH.cons (o := _) rfl (fun K hK => ?_) AllReadyH.nil
          go_simp
          refine (tof_at w7 d0 d1 d2 d3 d4 d5 HR2.out y2 m2 dd2 h2 mi2 s2 HL2.out.1 HL2.out.2.1 HL2.out.2.2.1 HL2.out.2.2.2.1 HL2.out.2.2.2.2.1 HL2.out.2.2.2.2.2).mono ?_
          rintro e w8 ⟨rfl, hb⟩
          have K8 := kp K7 hb
          clear hb K7
          go_simp
          refine hK.out _ _ (K8.out.k (g5, 59, ptL c0 c1 c2 c3 c4 c5 ++ ptL d0 d1 d2 d3 d4 d5) (by simp)) (fun hS => ?_)
          clear hK K
          (try simp only [Act.put, List.setIfInBounds_toArray, List.set_cons_zero, List.set_cons_succ])
          refine wpAnyH_ready (rs := [8]) (by kernel_rfl) (by simp) ?_
          refine AllReadyH.cons (o := _) rfl (fun K hK => ?_) (AllReadyH.nil)
          refine storeG_wp5 (.tmp 8) (.tmp 59) rfl rfl (ds := tL y m dd h mi s) rfl (K8.out.k (g8, 23, tL 0 0 0 0 0 0) (by simp)) infoTm rfl (tL_one _ _ _ _ _ _) ?_; intro w9 RZ hgz hzz; have KZ0 := Lib.hid (K8.out.put HT0.out GE_g8.out hgz); have KZ1 := kb KZ0 (Lib.hid ((K8.out.k (g5, 59, ptL c0 c1 c2 c3 c4 c5 ++ ptL d0 d1 d2 d3 d4 d5) (by simp)).only hgz (by intro e; injection e with e; have := LT_g5_g8.out; omega))); have KZ2 := kb KZ1 (Lib.hid RZ); have KZ3 := kb KZ2 (Lib.hid ((K8.out.k (g9, 23, tL 0 0 0 0 0 0) (by simp)).only hgz (by intro e; injection e with e; have := LT_g8_g9.out; omega))); have K9 := KZ3; clear hgz hzz RZ K8 KZ0 KZ1 KZ2 KZ3
          refine hK.out _ _ (K9.out.k (g5, 59, ptL c0 c1 c2 c3 c4 c5 ++ ptL d0 d1 d2 d3 d4 d5) (by simp)) (fun hS => ?_)
          clear hK K
          (try simp only [Act.put, List.setIfInBounds_toArray, List.set_cons_zero, List.set_cons_succ])
          refine wpAnyH_ready (rs := [9]) (by kernel_rfl) (by simp) ?_
          refine AllReadyH.cons (o := _) rfl (fun K hK => ?_) (AllReadyH.nil)
          refine storeG_wp5 (.tmp 9) (.tmp 62) rfl rfl (ds := tL y2 m2 dd2 h2 mi2 s2) rfl (K9.out.k (g9, 23, tL 0 0 0 0 0 0) (by simp)) infoTm rfl (tL_one _ _ _ _ _ _) ?_; intro w10 RZ hgz hzz; have KZ0 := Lib.hid (K9.out.put HT0.out GE_g9.out hgz); have KZ1 := kb KZ0 (Lib.hid ((K9.out.k (g5, 59, ptL c0 c1 c2 c3 c4 c5 ++ ptL d0 d1 d2 d3 d4 d5) (by simp)).only hgz (by intro e; injection e with e; have := LT_g5_g9.out; omega))); have KZ2 := kb KZ1 (Lib.hid ((K9.out.k (g8, 23, tL y m dd h mi s) (by simp)).only hgz (by intro e; injection e with e; have := LT_g8_g9.out; omega))); have KZ3 := kb KZ2 (Lib.hid RZ); have K10 := KZ3; clear hgz hzz RZ K9 KZ0 KZ1 KZ2 KZ3
          refine hK.out _ _ (K10.out.k (g5, 59, ptL c0 c1 c2 c3 c4 c5 ++ ptL d0 d1 d2 d3 d4 d5) (by simp)) (fun hS => ?_)
          clear hK K
          (try simp only [Act.put, List.setIfInBounds_toArray, List.set_cons_zero, List.set_cons_succ])
          refine wpAnyH_done (by kernel_rfl) ?_ _
          clear hS
          go_wp2_with fail
          go_meet
          exact ⟨g8, g9, rfl, rfl, K10.out.b, K10.out.t, fun _ h => absurd h (by simp), fun x hx => K10.out.k x (by simp only [List.mem_cons, List.not_mem_nil, or_false] at hx ⊢; rcases hx with h | h <;> simp [h])⟩
      · go_simp
        obtain ⟨g9, hg9⟩ : ∃ g, w4.heap.size = g := ⟨_, rfl⟩
        obtain ⟨w5, hw5⟩ : ∃ v, w4.alloc (.cells #[.int .i64 0, .int .i64 0, .int .i64 0, .int .i64 0, .int .i64 0, .int .i64 0] 23) = v := ⟨_, rfl⟩
        have hbk : Hid (Bk w5 g9 23 (tL 0 0 0 0 0 0)) := Lib.hid (by rw [← hw5, ← hg9]; exact Bk.new w4 _ (tL 0 0 0 0 0 0))
        have hb : Hid (Below w4.heap.size w4 w5) := Lib.hid (by rw [← hw5]; exact bel1 w4 _)
        have GE_g9 : Hid (w.heap.size ≤ g9) := Lib.hid (by rw [← hg9]; exact K4.out.b.size)
        rw [hw5, hg9]
        have LT_g5_g9 : Hid (g5 < g9) := Lib.hid (by rw [← hg9]; exact (K4.out.k (g5, 59, ptL c0 c1 c2 c3 c4 c5 ++ ptL d0 d1 d2 d3 d4 d5) (by simp)).lt)
        have K5 := kp K4 hb
        clear hb K4
        have Kn := kb K5 hbk
        clear hbk K5 hg9 hw5
        have K5 := Kn
        clear Kn
        refine hK.out _ _ (K5.out.k (g5, 59, ptL c0 c1 c2 c3 c4 c5 ++ ptL d0 d1 d2 d3 d4 d5) (by simp)) (fun hS => ?_)
        clear hK K
        (try simp only [Act.put, List.setIfInBounds_toArray, List.set_cons_zero, List.set_cons_succ])
        refine wpAnyH_ready (rs := [2, 6]) (by kernel_rfl) (by simp) ?_
        refine AllReadyH.cons (o := _) rfl (fun K hK => ?_) (AllReadyH.cons (o := _) rfl (fun K hK => ?_) AllReadyH.nil)
        · go_simp
          refine (tof_at w5 c0 c1 c2 c3 c4 c5 HR1.out y m dd h mi s HL1.out.1 HL1.out.2.1 HL1.out.2.2.1 HL1.out.2.2.2.1 HL1.out.2.2.2.2.1 HL1.out.2.2.2.2.2).mono ?_
          rintro e w6 ⟨rfl, hb⟩
          have K6 := kp K5 hb
          clear hb K5
          go_simp
          refine hK.out _ _ (K6.out.k (g5, 59, ptL c0 c1 c2 c3 c4 c5 ++ ptL d0 d1 d2 d3 d4 d5) (by simp)) (fun hS => ?_)
          clear hK K
          (try simp only [Act.put, List.setIfInBounds_toArray, List.set_cons_zero, List.set_cons_succ])
          refine wpAnyH_ready (rs := [5, 6]) (by kernel_rfl) (by simp) ?_
          refine AllReadyH.cons (o := _) rfl (fun K hK => ?_) (AllReadyH.cons (o := _) rfl (fun K hK => ?_) AllReadyH.nil)
          · go_simp
            refine (tof_at w6 d0 d1 d2 d3 d4 d5 HR2.out y2 m2 dd2 h2 mi2 s2 HL2.out.1 HL2.out.2.1 HL2.out.2.2.1 HL2.out.2.2.2.1 HL2.out.2.2.2.2.1 HL2.out.2.2.2.2.2).mono ?_
            rintro e w7 ⟨rfl, hb⟩
            have K7 := kp K6 hb
            clear hb K6
            go_simp
            refine hK.out _ _ (K7.out.k (g5, 59, ptL c0 c1 c2 c3 c4 c5 ++ ptL d0 d1 d2 d3 d4 d5) (by simp)) (fun hS => ?_)
            clear hK K
            (try simp only [Act.put, List.setIfInBounds_toArray, List.set_cons_zero, List.set_cons_succ])
            refine wpAnyH_ready (rs := [6]) (by kernel_rfl) (by simp) ?_
            refine AllReadyH.cons (o := _) rfl (fun K hK => ?_) AllReadyH.nil
            go_simp
            obtain ⟨g8, hg8⟩ : ∃ g, w7.heap.size = g := ⟨_, rfl⟩
            obtain ⟨w8, hw8⟩ : ∃ v, w7.alloc (.cells #[.int .i64 0, .int .i64 0, .int .i64 0, .int .i64 0, .int .i64 0, .int .i64 0] 23) = v := ⟨_, rfl⟩
            have hbk : Hid (Bk w8 g8 23 (tL 0 0 0 0 0 0)) := Lib.hid (by rw [← hw8, ← hg8]; exact Bk.new w7 _ (tL 0 0 0 0 0 0))
            have hb : Hid (Below w7.heap.size w7 w8) := Lib.hid (by rw [← hw8]; exact bel1 w7 _)
            have GE_g8 : Hid (w.heap.size ≤ g8) := Lib.hid (by rw [← hg8]; exact K7.out.b.size)
            rw [hw8, hg8]
            have LT_g9_g8 : Hid (g9 < g8) := Lib.hid (by rw [← hg8]; exact (K7.out.k (g9, 23, tL 0 0 0 0 0 0) (by simp)).lt)
            have LT_g5_g8 : Hid (g5 < g8) := Lib.hid (by rw [← hg8]; exact (K7.out.k (g5, 59, ptL c0 c1 c2 c3 c4 c5 ++ ptL d0 d1 d2 d3 d4 d5) (by simp)).lt)
            have K8 := kp K7 hb
            clear hb K7
            have Kn := kb K8 hbk
            clear hbk K8 hg8 hw8
            have K8 := Kn
            clear Kn
            refine hK.out _ _ (K8.out.k (g5, 59, ptL c0 c1 c2 c3 c4 c5 ++ ptL d0 d1 d2 d3 d4 d5) (by simp)) (fun hS => ?_)
            clear hK K
            (try simp only [Act.put, List.setIfInBounds_toArray, List.set_cons_zero, List.set_cons_succ])
            refine wpAnyH_ready (rs := [8]) (by kernel_rfl) (by simp) ?_
            refine AllReadyH.cons (o := _) rfl (fun K hK => ?_) (AllReadyH.nil)
            refine storeG_wp5 (.tmp 8) (.tmp 59) rfl rfl (ds := tL y m dd h mi s) rfl (K8.out.k (g8, 23, tL 0 0 0 0 0 0) (by simp)) infoTm rfl (tL_one _ _ _ _ _ _) ?_; intro w9 RZ hgz hzz; have KZ0 := Lib.hid (K8.out.put HT0.out GE_g8.out hgz); have KZ1 := kb KZ0 (Lib.hid ((K8.out.k (g5, 59, ptL c0 c1 c2 c3 c4 c5 ++ ptL d0 d1 d2 d3 d4 d5) (by simp)).only hgz (by intro e; injection e with e; have := LT_g5_g8.out; omega))); have KZ2 := kb KZ1 (Lib.hid ((K8.out.k (g9, 23, tL 0 0 0 0 0 0) (by simp)).only hgz (by intro e; injection e with e; have := LT_g9_g8.out; omega))); have KZ3 := kb KZ2 (Lib.hid RZ); have K9 := KZ3; clear hgz hzz RZ K8 KZ0 KZ1 KZ2 KZ3
            refine hK.out _ _ (K9.out.k (g5, 59, ptL c0 c1 c2 c3 c4 c5 ++ ptL d0 d1 d2 d3 d4 d5) (by simp)) (fun hS => ?_)
            clear hK K
            (try simp only [Act.put, List.setIfInBounds_toArray, List.set_cons_zero, List.set_cons_succ])
            refine wpAnyH_ready (rs := [9]) (by kernel_rfl) (by simp) ?_
            refine AllReadyH.cons (o := _) rfl (fun K hK => ?_) (AllReadyH.nil)
            refine storeG_wp5 (.tmp 9) (.tmp 62) rfl rfl (ds := tL y2 m2 dd2 h2 mi2 s2) rfl (K9.out.k (g9, 23, tL 0 0 0 0 0 0) (by simp)) infoTm rfl (tL_one _ _ _ _ _ _) ?_; intro w10 RZ hgz hzz; have KZ0 := Lib.hid (K9.out.put HT0.out GE_g9.out hgz); have KZ1 := kb KZ0 (Lib.hid ((K9.out.k (g5, 59, ptL c0 c1 c2 c3 c4 c5 ++ ptL d0 d1 d2 d3 d4 d5) (by simp)).only hgz (by intro e; injection e with e; have := LT_g5_g9.out; omega))); have KZ2 := kb KZ1 (Lib.hid RZ); have KZ3 := kb KZ2 (Lib.hid ((K9.out.k (g8, 23, tL y m dd h mi s) (by simp)).only hgz (by intro e; injection e with e; have := LT_g9_g8.out; omega))); have K10 := KZ3; clear hgz hzz RZ K9 KZ0 KZ1 KZ2 KZ3
            refine hK.out _ _ (K10.out.k (g5, 59, ptL c0 c1 c2 c3 c4 c5 ++ ptL d0 d1 d2 d3 d4 d5) (by simp)) (fun hS => ?_)
            clear hK K
            (try simp only [Act.put, List.setIfInBounds_toArray, List.set_cons_zero, List.set_cons_succ])
            refine wpAnyH_done (by kernel_rfl) ?_ _
            clear hS
            go_wp2_with fail
            go_meet
            exact ⟨g8, g9, rfl, rfl, K10.out.b, K10.out.t, fun _ h => absurd h (by simp), fun x hx => K10.out.k x (by simp only [List.mem_cons, List.not_mem_nil, or_false] at hx ⊢; rcases hx with h | h <;> simp [h])⟩
          · go_simp
            obtain ⟨g8, hg8⟩ : ∃ g, w6.heap.size = g := ⟨_, rfl⟩
            obtain ⟨w7, hw7⟩ : ∃ v, w6.alloc (.cells #[.int .i64 0, .int .i64 0, .int .i64 0, .int .i64 0, .int .i64 0, .int .i64 0] 23) = v := ⟨_, rfl⟩
            have hbk : Hid (Bk w7 g8 23 (tL 0 0 0 0 0 0)) := Lib.hid (by rw [← hw7, ← hg8]; exact Bk.new w6 _ (tL 0 0 0 0 0 0))
            have hb : Hid (Below w6.heap.size w6 w7) := Lib.hid (by rw [← hw7]; exact bel1 w6 _)
            have GE_g8 : Hid (w.heap.size ≤ g8) := Lib.hid (by rw [← hg8]; exact K6.out.b.size)
            rw [hw7, hg8]
            have LT_g9_g8 : Hid (g9 < g8) := Lib.hid (by rw [← hg8]; exact (K6.out.k (g9, 23, tL 0 0 0 0 0 0) (by simp)).lt)
            have LT_g5_g8 : Hid (g5 < g8) := Lib.hid (by rw [← hg8]; exact (K6.out.k (g5, 59, ptL c0 c1 c2 c3 c4 c5 ++ ptL d0 d1 d2 d3 d4 d5) (by simp)).lt)
            have K7 := kp K6 hb
            clear hb K6
            have Kn := kb K7 hbk
            clear hbk K7 hg8 hw7
            have K7 := Kn
            clear Kn
            refine hK.out _ _ (K7.out.k (g5, 59, ptL c0 c1 c2 c3 c4 c5 ++ ptL d0 d1 d2 d3 d4 d5) (by simp)) (fun hS => ?_)
            clear hK K
            (try simp only [Act.put, List.setIfInBounds_toArray, List.set_cons_zero, List.set_cons_succ])
            refine wpAnyH_ready (rs := [5]) (by kernel_rfl) (by simp) ?_
            refine AllReadyH.cons (o := _) rfl (fun K hK => ?_) AllReadyH.nil
            go_simp
            refine (tof_at w7 d0 d1 d2 d3 d4 d5 HR2.out y2 m2 dd2 h2 mi2 s2 HL2.out.1 HL2.out.2.1 HL2.out.2.2.1 HL2.out.2.2.2.1 HL2.out.2.2.2.2.1 HL2.out.2.2.2.2.2).mono ?_
            rintro e w8 ⟨rfl, hb⟩
            have K8 := kp K7 hb
            clear hb K7
            go_simp
            refine hK.out _ _ (K8.out.k (g5, 59, ptL c0 c1 c2 c3 c4 c5 ++ ptL d0 d1 d2 d3 d4 d5) (by simp)) (fun hS => ?_)
            clear hK K
            (try simp only [Act.put, List.setIfInBounds_toArray, List.set_cons_zero, List.set_cons_succ])
            refine wpAnyH_ready (rs := [8]) (by kernel_rfl) (by simp) ?_
            refine AllReadyH.cons (o := _) rfl (fun K hK => ?_) (AllReadyH.nil)
            refine storeG_wp5 (.tmp 8) (.tmp 59) rfl rfl (ds := tL y m dd h mi s) rfl (K8.out.k (g8, 23, tL 0 0 0 0 0 0) (by simp)) infoTm rfl (tL_one _ _ _ _ _ _) ?_; intro w9 RZ hgz hzz; have KZ0 := Lib.hid (K8.out.put HT0.out GE_g8.out hgz); have KZ1 := kb KZ0 (Lib.hid ((K8.out.k (g5, 59, ptL c0 c1 c2 c3 c4 c5 ++ ptL d0 d1 d2 d3 d4 d5) (by simp)).only hgz (by intro e; injection e with e; have := LT_g5_g8.out; omega))); have KZ2 := kb KZ1 (Lib.hid ((K8.out.k (g9, 23, tL 0 0 0 0 0 0) (by simp)).only hgz (by intro e; injection e with e; have := LT_g9_g8.out; omega))); have KZ3 := kb KZ2 (Lib.hid RZ); have K9 := KZ3; clear hgz hzz RZ K8 KZ0 KZ1 KZ2 KZ3
            refine hK.out _ _ (K9.out.k (g5, 59, ptL c0 c1 c2 c3 c4 c5 ++ ptL d0 d1 d2 d3 d4 d5) (by simp)) (fun hS => ?_)
            clear hK K
            (try simp only [Act.put, List.setIfInBounds_toArray, List.set_cons_zero, List.set_cons_succ])
            refine wpAnyH_ready (rs := [9]) (by kernel_rfl) (by simp) ?_
            refine AllReadyH.cons (o := _) rfl (fun K hK => ?_) (AllReadyH.nil)
            refine storeG_wp5 (.tmp 9) (.tmp 62) rfl rfl (ds := tL y2 m2 dd2 h2 mi2 s2) rfl (K9.out.k (g9, 23, tL 0 0 0 0 0 0) (by simp)) infoTm rfl (tL_one _ _ _ _ _ _) ?_; intro w10 RZ hgz hzz; have KZ0 := Lib.hid (K9.out.put HT0.out GE_g9.out hgz); have KZ1 := kb KZ0 (Lib.hid ((K9.out.k (g5, 59, ptL c0 c1 c2 c3 c4 c5 ++ ptL d0 d1 d2 d3 d4 d5) (by simp)).only hgz (by intro e; injection e with e; have := LT_g5_g9.out; omega))); have KZ2 := kb KZ1 (Lib.hid RZ); have KZ3 := kb KZ2 (Lib.hid ((K9.out.k (g8, 23, tL y m dd h mi s) (by simp)).only hgz (by intro e; injection e with e; have := LT_g9_g8.out; omega))); have K10 := KZ3; clear hgz hzz RZ K9 KZ0 KZ1 KZ2 KZ3
            refine hK.out _ _ (K10.out.k (g5, 59, ptL c0 c1 c2 c3 c4 c5 ++ ptL d0 d1 d2 d3 d4 d5) (by simp)) (fun hS => ?_)
            clear hK K
            (try simp only [Act.put, List.setIfInBounds_toArray, List.set_cons_zero, List.set_cons_succ])
            refine wpAnyH_done (by kernel_rfl) ?_ _
            clear hS
            go_wp2_with fail
            go_meet
            exact ⟨g8, g9, rfl, rfl, K10.out.b, K10.out.t, fun _ h => absurd h (by simp), fun x hx => K10.out.k x (by simp only [List.mem_cons, List.not_mem_nil, or_false] at hx ⊢; rcases hx with h | h <;> simp [h])⟩
        · go_simp
          obtain ⟨g8, hg8⟩ : ∃ g, w5.heap.size = g := ⟨_, rfl⟩
          obtain ⟨w6, hw6⟩ : ∃ v, w5.alloc (.cells #[.int .i64 0, .int .i64 0, .int .i64 0, .int .i64 0, .int .i64 0, .int .i64 0] 23) = v := ⟨_, rfl⟩
          have hbk : Hid (Bk w6 g8 23 (tL 0 0 0 0 0 0)) := Lib.hid (by rw [← hw6, ← hg8]; exact Bk.new w5 _ (tL 0 0 0 0 0 0))
          have hb : Hid (Below w5.heap.size w5 w6) := Lib.hid (by rw [← hw6]; exact bel1 w5 _)
          have GE_g8 : Hid (w.heap.size ≤ g8) := Lib.hid (by rw [← hg8]; exact K5.out.b.size)
          rw [hw6, hg8]
          have LT_g9_g8 : Hid (g9 < g8) := Lib.hid (by rw [← hg8]; exact (K5.out.k (g9, 23, tL 0 0 0 0 0 0) (by simp)).lt)
          have LT_g5_g8 : Hid (g5 < g8) := Lib.hid (by rw [← hg8]; exact (K5.out.k (g5, 59, ptL c0 c1 c2 c3 c4 c5 ++ ptL d0 d1 d2 d3 d4 d5) (by simp)).lt)
          have K6 := kp K5 hb
          clear hb K5
          have Kn := kb K6 hbk
          clear hbk K6 hg8 hw6
          have K6 := Kn
          clear Kn
          refine hK.out _ _ (K6.out.k (g5, 59, ptL c0 c1 c2 c3 c4 c5 ++ ptL d0 d1 d2 d3 d4 d5) (by simp)) (fun hS => ?_)
          clear hK K
          (try simp only [Act.put, List.setIfInBounds_toArray, List.set_cons_zero, List.set_cons_succ])
          refine wpAnyH_ready (rs := [2]) (by kernel_rfl) (by simp) ?_
          refine AllReadyH.cons (o := _) rfl (fun K hK => ?_) AllReadyH.nil
          go_simp
          refine (tof_at w6 c0 c1 c2 c3 c4 c5 HR1.out y m dd h mi s HL1.out.1 HL1.out.2.1 HL1.out.2.2.1 HL1.out.2.2.2.1 HL1.out.2.2.2.2.1 HL1.out.2.2.2.2.2).mono ?_
          rintro e w7 ⟨rfl, hb⟩
          have K7 := kp K6 hb
          clear hb K6
          go_simp
          refine hK.out _ _ (K7.out.k (g5, 59, ptL c0 c1 c2 c3 c4 c5 ++ ptL d0 d1 d2 d3 d4 d5) (by simp)) (fun hS => ?_)
          clear hK K
          (try simp only [Act.put, List.setIfInBounds_toArray, List.set_cons_zero, List.set_cons_succ])
          refine wpAnyH_ready (rs := [5]) (by kernel_rfl) (by simp) ?_
          refine AllReadyH.cons (o := _) rfl (fun K hK => ?_) AllReadyH.nil
          go_simp
          refine (tof_at w7 d0 d1 d2 d3 d4 d5 HR2.out y2 m2 dd2 h2 mi2 s2 HL2.out.1 HL2.out.2.1 HL2.out.2.2.1 HL2.out.2.2.2.1 HL2.out.2.2.2.2.1 HL2.out.2.2.2.2.2).mono ?_
          rintro e w8 ⟨rfl, hb⟩
          have K8 := kp K7 hb
          clear hb K7
          go_simp
          refine hK.out _ _ (K8.out.k (g5, 59, ptL c0 c1 c2 c3 c4 c5 ++ ptL d0 d1 d2 d3 d4 d5) (by simp)) (fun hS => ?_)
          clear hK K
          (try simp only [Act.put, List.setIfInBounds_toArray, List.set_cons_zero, List.set_cons_succ])
          refine wpAnyH_ready (rs := [8]) (by kernel_rfl) (by simp) ?_
          refine AllReadyH.cons (o := _) rfl (fun K hK => ?_) (AllReadyH.nil)
          refine storeG_wp5 (.tmp 8) (.tmp 59) rfl rfl (ds := tL y m dd h mi s) rfl (K8.out.k (g8, 23, tL 0 0 0 0 0 0) (by simp)) infoTm rfl (tL_one _ _ _ _ _ _) ?_; intro w9 RZ hgz hzz; have KZ0 := Lib.hid (K8.out.put HT0.out GE_g8.out hgz); have KZ1 := kb KZ0 (Lib.hid ((K8.out.k (g5, 59, ptL c0 c1 c2 c3 c4 c5 ++ ptL d0 d1 d2 d3 d4 d5) (by simp)).only hgz (by intro e; injection e with e; have := LT_g5_g8.out; omega))); have KZ2 := kb KZ1 (Lib.hid ((K8.out.k (g9, 23, tL 0 0 0 0 0 0) (by simp)).only hgz (by intro e; injection e with e; have := LT_g9_g8.out; omega))); have KZ3 := kb KZ2 (Lib.hid RZ); have K9 := KZ3; clear hgz hzz RZ K8 KZ0 KZ1 KZ2 KZ3
          refine hK.out _ _ (K9.out.k (g5, 59, ptL c0 c1 c2 c3 c4 c5 ++ ptL d0 d1 d2 d3 d4 d5) (by simp)) (fun hS => ?_)
          clear hK K
          (try simp only [Act.put, List.setIfInBounds_toArray, List.set_cons_zero, List.set_cons_succ])
          refine wpAnyH_ready (rs := [9]) (by kernel_rfl) (by simp) ?_
          refine AllReadyH.cons (o := _) rfl (fun K hK => ?_) (AllReadyH.nil)
          refine storeG_wp5 (.tmp 9) (.tmp 62) rfl rfl (ds := tL y2 m2 dd2 h2 mi2 s2) rfl (K9.out.k (g9, 23, tL 0 0 0 0 0 0) (by simp)) infoTm rfl (tL_one _ _ _ _ _ _) ?_; intro w10 RZ hgz hzz; have KZ0 := Lib.hid (K9.out.put HT0.out GE_g9.out hgz); have KZ1 := kb KZ0 (Lib.hid ((K9.out.k (g5, 59, ptL c0 c1 c2 c3 c4 c5 ++ ptL d0 d1 d2 d3 d4 d5) (by simp)).only hgz (by intro e; injection e with e; have := LT_g5_g9.out; omega))); have KZ2 := kb KZ1 (Lib.hid RZ); have KZ3 := kb KZ2 (Lib.hid ((K9.out.k (g8, 23, tL y m dd h mi s) (by simp)).only hgz (by intro e; injection e with e; have := LT_g9_g8.out; omega))); have K10 := KZ3; clear hgz hzz RZ K9 KZ0 KZ1 KZ2 KZ3
          refine hK.out _ _ (K10.out.k (g5, 59, ptL c0 c1 c2 c3 c4 c5 ++ ptL d0 d1 d2 d3 d4 d5) (by simp)) (fun hS => ?_)
          clear hK K
          (try simp only [Act.put, List.setIfInBounds_toArray, List.set_cons_zero, List.set_cons_succ])
          refine wpAnyH_done (by kernel_rfl) ?_ _
          clear hS
          go_wp2_with fail
          go_meet
          exact ⟨g8, g9, rfl, rfl, K10.out.b, K10.out.t, fun _ h => absurd h (by simp), fun x hx => K10.out.k x (by simp only [List.mem_cons, List.not_mem_nil, or_false] at hx ⊢; rcases hx with h | h <;> simp [h])⟩
    case rest =>
      obtain ⟨g8, g9, rfl, rfl, hst⟩ := hcut
      have K4 := Lib.hid hst
      clear hst K3
      generalize wc = w4 at *
      go_upto_region 5 with fail
      have hdr : Hid (Below w4.heap.size w4 w4.drew) := Lib.hid (Below.refl _ _).drew
      have KD := kp K4 hdr
      clear K4 hdr
      refine wp_region_held_drew (S := fun W => Bk W g8 23 (tL y m dd h mi s) ∧ Bk W g9 23 (tL y2 m2 dd2 h2 mi2 s2)) (by kernel_rfl) (⟨KD.out.k (g8, 23, tL y m dd h mi s) (by simp), KD.out.k (g9, 23, tL y2 m2 dd2 h2 mi2 s2) (by simp)⟩) (fun hS => ?_)
      generalize w4.drew = w5 at *
      have K5 := KD
      clear KD
      refine wpAnyH_take (i := 0) (oi := ⟨some 63, _, _, _, _, _⟩) (v := .agg (tL y m dd h mi s).toArray) rfl (by kernel_rfl) (by kernel_rfl) (by kernel_rfl) (fun _ _ _ h => h) (yieldsIf_load_mid (by rfl) 23 (.tmp 8) rfl g8 0 rfl (tL y m dd h mi s) _ (fun W h => rangeB h.1) Tryd.underlying23 rfl infoTm) hS ?_
      (try simp only [Act.put, List.setIfInBounds_toArray, List.set_cons_zero, List.set_cons_succ])
      refine wpAnyH_take (i := 2) (oi := ⟨some 65, _, _, _, _, _⟩) (v := .agg (tL y2 m2 dd2 h2 mi2 s2).toArray) rfl (by kernel_rfl) (by kernel_rfl) (by kernel_rfl) (fun _ _ _ h => h) (yieldsIf_load_mid (by rfl) 23 (.tmp 9) rfl g9 0 rfl (tL y2 m2 dd2 h2 mi2 s2) _ (fun W h => rangeB h.2) Tryd.underlying23 rfl infoTm) hS ?_
      (try simp only [Act.put, List.setIfInBounds_toArray, List.set_cons_zero, List.set_cons_succ])
      refine wpAnyH_ready (rs := [1]) (by kernel_rfl) (by simp) ?_
      refine AllReadyH.cons (o := _) rfl (fun K hK => ?_) (AllReadyH.nil)
      go_simp
      refine (secs_at w5 y m dd h mi s HC1.out n1 HN1.out K5.out.t).mono ?_
      rintro e w6 ⟨rfl, hb⟩
      have K6 := kp K5 hb
      clear hb K5
      go_simp
      refine hK.out _ _ (⟨K6.out.k (g8, 23, tL y m dd h mi s) (by simp), K6.out.k (g9, 23, tL y2 m2 dd2 h2 mi2 s2) (by simp)⟩) (fun hS => ?_)
      clear hK K
      (try simp only [Act.put, List.setIfInBounds_toArray, List.set_cons_zero, List.set_cons_succ])
      refine wpAnyH_ready (rs := [3]) (by kernel_rfl) (by simp) ?_
      refine AllReadyH.cons (o := _) rfl (fun K hK => ?_) (AllReadyH.nil)
      go_simp
      refine (secs_at w6 y2 m2 dd2 h2 mi2 s2 HC2.out n2 HN2.out K6.out.t).mono ?_
      rintro e w7 ⟨rfl, hb⟩
      have K7 := kp K6 hb
      clear hb K6
      go_simp
      refine hK.out _ _ (⟨K7.out.k (g8, 23, tL y m dd h mi s) (by simp), K7.out.k (g9, 23, tL y2 m2 dd2 h2 mi2 s2) (by simp)⟩) (fun hS => ?_)
      clear hK K
      (try simp only [Act.put, List.setIfInBounds_toArray, List.set_cons_zero, List.set_cons_succ])
      refine wpAnyH_take (i := 4) (oi := ⟨some 10, _, _, _, _, _⟩) (v := .int .i64 (n1 : Int)) rfl (by kernel_rfl) (by kernel_rfl) (by kernel_rfl) (fun _ _ _ h => h) (Or.inl ⟨by rfl, fun w hSw => by (try dsimp only at hSw); go_simp⟩) hS ?_
      simp only [Act.put, List.setIfInBounds_toArray, List.set_cons_zero, List.set_cons_succ]
      refine wpAnyH_take (i := 5) (oi := ⟨some 11, _, _, _, _, _⟩) (v := .int .i64 (n2 : Int)) rfl (by kernel_rfl) (by kernel_rfl) (by kernel_rfl) (fun _ _ _ h => h) (Or.inl ⟨by rfl, fun w hSw => by (try dsimp only at hSw); go_simp⟩) hS ?_
      simp only [Act.put, List.setIfInBounds_toArray, List.set_cons_zero, List.set_cons_succ]
      refine wpAnyH_done (by kernel_rfl) ?_ _
      clear hS
      go_upto_region 6 with fail
      have hdr : Hid (Below w7.heap.size w7 w7.drew) := Lib.hid (Below.refl _ _).drew
      have KD := kp K7 hdr
      clear K7 hdr
      refine wp_region_held_drew (S := fun W => Bk W g8 23 (tL y m dd h mi s) ∧ Bk W g9 23 (tL y2 m2 dd2 h2 mi2 s2)) (by kernel_rfl) (⟨KD.out.k (g8, 23, tL y m dd h mi s) (by simp), KD.out.k (g9, 23, tL y2 m2 dd2 h2 mi2 s2) (by simp)⟩) (fun hS => ?_)
      generalize w7.drew = w8 at *
      have K8 := KD
      clear KD
      refine wpAnyH_take (i := 0) (oi := ⟨some 67, _, _, _, _, _⟩) (v := .agg (tL y m dd h mi s).toArray) rfl (by kernel_rfl) (by kernel_rfl) (by kernel_rfl) (fun _ _ _ h => h) (yieldsIf_load_mid (by rfl) 23 (.tmp 8) rfl g8 0 rfl (tL y m dd h mi s) _ (fun W h => rangeB h.1) Tryd.underlying23 rfl infoTm) hS ?_
      (try simp only [Act.put, List.setIfInBounds_toArray, List.set_cons_zero, List.set_cons_succ])
      refine wpAnyH_take (i := 2) (oi := ⟨some 69, _, _, _, _, _⟩) (v := .agg (tL y2 m2 dd2 h2 mi2 s2).toArray) rfl (by kernel_rfl) (by kernel_rfl) (by kernel_rfl) (fun _ _ _ h => h) (yieldsIf_load_mid (by rfl) 23 (.tmp 9) rfl g9 0 rfl (tL y2 m2 dd2 h2 mi2 s2) _ (fun W h => rangeB h.2) Tryd.underlying23 rfl infoTm) hS ?_
      (try simp only [Act.put, List.setIfInBounds_toArray, List.set_cons_zero, List.set_cons_succ])
      refine wpAnyH_ready (rs := [1]) (by kernel_rfl) (by simp) ?_
      refine AllReadyH.cons (o := _) rfl (fun K hK => ?_) (AllReadyH.nil)
      go_simp
      refine (text_at w8 y m dd h mi s HC1.out S1 HS1.out K8.out.t).mono ?_
      rintro e w9 ⟨rfl, hb⟩
      have K9 := kp K8 hb
      clear hb K8
      go_simp
      refine hK.out _ _ (⟨K9.out.k (g8, 23, tL y m dd h mi s) (by simp), K9.out.k (g9, 23, tL y2 m2 dd2 h2 mi2 s2) (by simp)⟩) (fun hS => ?_)
      clear hK K
      (try simp only [Act.put, List.setIfInBounds_toArray, List.set_cons_zero, List.set_cons_succ])
      refine wpAnyH_ready (rs := [3]) (by kernel_rfl) (by simp) ?_
      refine AllReadyH.cons (o := _) rfl (fun K hK => ?_) (AllReadyH.nil)
      go_simp
      refine (text_at w9 y2 m2 dd2 h2 mi2 s2 HC2.out S2 HS2.out K9.out.t).mono ?_
      rintro e w10 ⟨rfl, hb⟩
      have K10 := kp K9 hb
      clear hb K9
      go_simp
      refine hK.out _ _ (⟨K10.out.k (g8, 23, tL y m dd h mi s) (by simp), K10.out.k (g9, 23, tL y2 m2 dd2 h2 mi2 s2) (by simp)⟩) (fun hS => ?_)
      clear hK K
      (try simp only [Act.put, List.setIfInBounds_toArray, List.set_cons_zero, List.set_cons_succ])
      refine wpAnyH_take (i := 4) (oi := ⟨some 12, _, _, _, _, _⟩) (v := .string S1) rfl (by kernel_rfl) (by kernel_rfl) (by kernel_rfl) (fun _ _ _ h => h) (Or.inl ⟨by rfl, fun w hSw => by (try dsimp only at hSw); go_simp⟩) hS ?_
      simp only [Act.put, List.setIfInBounds_toArray, List.set_cons_zero, List.set_cons_succ]
      refine wpAnyH_take (i := 5) (oi := ⟨some 13, _, _, _, _, _⟩) (v := .string S2) rfl (by kernel_rfl) (by kernel_rfl) (by kernel_rfl) (fun _ _ _ h => h) (Or.inl ⟨by rfl, fun w hSw => by (try dsimp only at hSw); go_simp⟩) hS ?_
      simp only [Act.put, List.setIfInBounds_toArray, List.set_cons_zero, List.set_cons_succ]
      refine wpAnyH_done (by kernel_rfl) ?_ _
      clear hS
      have hl1 := HLS.out.1
      have hl2 := HLS.out.2.1
      have hl3 := HLS.out.2.2
      have hzn := HZN.out
      rcases (show n1 < n2 ∨ n2 < n1 ∨ n1 = n2 by omega) with hlt | hlt | hlt
      · have ez : z2 = -1 := by rw [← hzn]; exact cmpI_lt (by omega)
        rw [ez] at hl1 hl2 hl3
        have HZ3 : Hid (cmpT y m dd h mi s y2 m2 dd2 h2 mi2 s2 = -1) := Lib.hid (by rw [HZ2.out, ez])
        clear hzn ez
        have q1 : Op.bytesLess S1.toList S2.toList = true := by rw [hl1]; decide
        have q2 : Op.bytesLess S2.toList S1.toList = false := by rw [hl2]; decide
        have q3 : (S1.toList == S2.toList) = false := by rw [hl3]; decide
        have q3n : (!S1.toList == S2.toList) = true := by rw [q3]; rfl
        have f1 : decide ((n1 : Int) < (n2 : Int)) = true := by rw [decide_eq_true_eq]; omega
        have f2 : decide ((n2 : Int) < (n1 : Int)) = false := by rw [decide_eq_false_iff_not]; omega
        have e1 : decide (n1 < n2) = true := by rw [decide_eq_true_eq]; omega
        have e2 : decide (n2 < n1) = false := by rw [decide_eq_false_iff_not]; omega
        have hgt := fun W => gtr_str S1 S2 false (by rw [q1, q3]; rfl) W
        clear hl1 hl2 hl3 hlt
        go_upto_region 8 with fail
        have hdr : Hid (Below w10.heap.size w10 w10.drew) := Lib.hid (Below.refl _ _).drew
        have KD := kp K10 hdr
        clear K10 hdr
        refine wp_region_held_drew (S := fun W => Bk W g8 23 (tL y m dd h mi s) ∧ Bk W g9 23 (tL y2 m2 dd2 h2 mi2 s2)) (by kernel_rfl) (⟨KD.out.k (g8, 23, tL y m dd h mi s) (by simp), KD.out.k (g9, 23, tL y2 m2 dd2 h2 mi2 s2) (by simp)⟩) (fun hS => ?_)
        generalize w10.drew = w11 at *
        have K11 := KD
        clear KD
        refine wpAnyH_take (i := 0) (oi := ⟨some 71, _, _, _, _, _⟩) (v := .agg (tL y m dd h mi s).toArray) rfl (by kernel_rfl) (by kernel_rfl) (by kernel_rfl) (fun _ _ _ h => h) (yieldsIf_load_mid (by rfl) 23 (.tmp 8) rfl g8 0 rfl (tL y m dd h mi s) _ (fun W h => rangeB h.1) Tryd.underlying23 rfl infoTm) hS ?_
        (try simp only [Act.put, List.setIfInBounds_toArray, List.set_cons_zero, List.set_cons_succ])
        refine wpAnyH_take (i := 2) (oi := ⟨some 73, _, _, _, _, _⟩) (v := .agg (tL y2 m2 dd2 h2 mi2 s2).toArray) rfl (by kernel_rfl) (by kernel_rfl) (by kernel_rfl) (fun _ _ _ h => h) (yieldsIf_load_mid (by rfl) 23 (.tmp 9) rfl g9 0 rfl (tL y2 m2 dd2 h2 mi2 s2) _ (fun W h => rangeB h.2) Tryd.underlying23 rfl infoTm) hS ?_
        (try simp only [Act.put, List.setIfInBounds_toArray, List.set_cons_zero, List.set_cons_succ])
        refine wpAnyH_ready (rs := [1]) (by kernel_rfl) (by simp) ?_
        refine AllReadyH.cons (o := _) rfl (fun K hK => ?_) (AllReadyH.nil)
        go_simp
        refine (rsecs_at w11 y m dd h mi s HC1.out n1 HN1.out).mono ?_
        rintro e w12 ⟨rfl, hb⟩
        have K12 := kp K11 hb
        clear hb K11
        go_simp
        refine hK.out _ _ (⟨K12.out.k (g8, 23, tL y m dd h mi s) (by simp), K12.out.k (g9, 23, tL y2 m2 dd2 h2 mi2 s2) (by simp)⟩) (fun hS => ?_)
        clear hK K
        (try simp only [Act.put, List.setIfInBounds_toArray, List.set_cons_zero, List.set_cons_succ])
        refine wpAnyH_ready (rs := [3]) (by kernel_rfl) (by simp) ?_
        refine AllReadyH.cons (o := _) rfl (fun K hK => ?_) (AllReadyH.nil)
        go_simp
        refine (rsecs_at w12 y2 m2 dd2 h2 mi2 s2 HC2.out n2 HN2.out).mono ?_
        rintro e w13 ⟨rfl, hb⟩
        have K13 := kp K12 hb
        clear hb K12
        go_simp
        refine hK.out _ _ (⟨K13.out.k (g8, 23, tL y m dd h mi s) (by simp), K13.out.k (g9, 23, tL y2 m2 dd2 h2 mi2 s2) (by simp)⟩) (fun hS => ?_)
        clear hK K
        (try simp only [Act.put, List.setIfInBounds_toArray, List.set_cons_zero, List.set_cons_succ])
        refine wpAnyH_take (i := 4) (oi := ⟨some 75, _, _, _, _, _⟩) (v := .bool true) rfl (by kernel_rfl) (by kernel_rfl) (by kernel_rfl) (fun _ _ _ h => h) (Or.inl ⟨by rfl, fun w hSw => by (try dsimp only at hSw); go_simp⟩) hS ?_
        simp only [Act.put, List.setIfInBounds_toArray, List.set_cons_zero, List.set_cons_succ]
        refine wpAnyH_done (by kernel_rfl) ?_ _
        clear hS
        go_upto_region 10 with fail
        have hdr : Hid (Below w13.heap.size w13 w13.drew) := Lib.hid (Below.refl _ _).drew
        have KD := kp K13 hdr
        clear K13 hdr
        refine wp_region_held_drew (S := fun W => Bk W g8 23 (tL y m dd h mi s) ∧ Bk W g9 23 (tL y2 m2 dd2 h2 mi2 s2)) (by kernel_rfl) (⟨KD.out.k (g8, 23, tL y m dd h mi s) (by simp), KD.out.k (g9, 23, tL y2 m2 dd2 h2 mi2 s2) (by simp)⟩) (fun hS => ?_)
        generalize w13.drew = w14 at *
        have K14 := KD
        clear KD
        refine wpAnyH_take (i := 0) (oi := ⟨some 76, _, _, _, _, _⟩) (v := .agg (tL y m dd h mi s).toArray) rfl (by kernel_rfl) (by kernel_rfl) (by kernel_rfl) (fun _ _ _ h => h) (yieldsIf_load_mid (by rfl) 23 (.tmp 8) rfl g8 0 rfl (tL y m dd h mi s) _ (fun W h => rangeB h.1) Tryd.underlying23 rfl infoTm) hS ?_
        (try simp only [Act.put, List.setIfInBounds_toArray, List.set_cons_zero, List.set_cons_succ])
        refine wpAnyH_take (i := 2) (oi := ⟨some 78, _, _, _, _, _⟩) (v := .agg (tL y2 m2 dd2 h2 mi2 s2).toArray) rfl (by kernel_rfl) (by kernel_rfl) (by kernel_rfl) (fun _ _ _ h => h) (yieldsIf_load_mid (by rfl) 23 (.tmp 9) rfl g9 0 rfl (tL y2 m2 dd2 h2 mi2 s2) _ (fun W h => rangeB h.2) Tryd.underlying23 rfl infoTm) hS ?_
        (try simp only [Act.put, List.setIfInBounds_toArray, List.set_cons_zero, List.set_cons_succ])
        refine wpAnyH_ready (rs := [1]) (by kernel_rfl) (by simp) ?_
        refine AllReadyH.cons (o := _) rfl (fun K hK => ?_) (AllReadyH.nil)
        go_simp
        refine (rsecs_at w14 y m dd h mi s HC1.out n1 HN1.out).mono ?_
        rintro e w15 ⟨rfl, hb⟩
        have K15 := kp K14 hb
        clear hb K14
        go_simp
        refine hK.out _ _ (⟨K15.out.k (g8, 23, tL y m dd h mi s) (by simp), K15.out.k (g9, 23, tL y2 m2 dd2 h2 mi2 s2) (by simp)⟩) (fun hS => ?_)
        clear hK K
        (try simp only [Act.put, List.setIfInBounds_toArray, List.set_cons_zero, List.set_cons_succ])
        refine wpAnyH_ready (rs := [3]) (by kernel_rfl) (by simp) ?_
        refine AllReadyH.cons (o := _) rfl (fun K hK => ?_) (AllReadyH.nil)
        go_simp
        refine (rsecs_at w15 y2 m2 dd2 h2 mi2 s2 HC2.out n2 HN2.out).mono ?_
        rintro e w16 ⟨rfl, hb⟩
        have K16 := kp K15 hb
        clear hb K15
        go_simp
        refine hK.out _ _ (⟨K16.out.k (g8, 23, tL y m dd h mi s) (by simp), K16.out.k (g9, 23, tL y2 m2 dd2 h2 mi2 s2) (by simp)⟩) (fun hS => ?_)
        clear hK K
        (try simp only [Act.put, List.setIfInBounds_toArray, List.set_cons_zero, List.set_cons_succ])
        refine wpAnyH_take (i := 4) (oi := ⟨some 80, _, _, _, _, _⟩) (v := .bool false) rfl (by kernel_rfl) (by kernel_rfl) (by kernel_rfl) (fun _ _ _ h => h) (Or.inl ⟨by rfl, fun w hSw => by (try dsimp only at hSw); go_simp⟩) hS ?_
        simp only [Act.put, List.setIfInBounds_toArray, List.set_cons_zero, List.set_cons_succ]
        refine wpAnyH_done (by kernel_rfl) ?_ _
        clear hS
        go_upto_region 12 with fail
        go_wp2_with (first | (refine wpList_loadGg (by rfl) (.tmp 8) rfl rfl (rangeB (K16.out.k (g8, 23, tL y m dd h mi s) (by simp))) Tryd.underlying23 rfl infoTm ?_) | (refine wpList_loadGg (by rfl) (.tmp 9) rfl rfl (rangeB (K16.out.k (g9, 23, tL y2 m2 dd2 h2 mi2 s2) (by simp))) Tryd.underlying23 rfl infoTm ?_))
        refine (cmp_at w16 y m dd h mi s y2 m2 dd2 h2 mi2 s2 (-1) HZ3.out).mono ?_
        rintro e w17 ⟨rfl, hb⟩
        have K17 := kp K16 hb
        clear hb K16
        go_wp2_with fail
        refine (lives_at w17 K17.out.t).mono ?_
        rintro e w18 ⟨rfl, hb⟩
        have K18 := kp K17 hb
        clear hb K17
        go_wp2_with fail
        go_ret
        exact ⟨rfl, K18.out.b⟩
      · have ez : z2 = 1 := by rw [← hzn]; exact cmpI_gt (by omega)
        rw [ez] at hl1 hl2 hl3
        have HZ3 : Hid (cmpT y m dd h mi s y2 m2 dd2 h2 mi2 s2 = 1) := Lib.hid (by rw [HZ2.out, ez])
        clear hzn ez
        have q1 : Op.bytesLess S1.toList S2.toList = false := by rw [hl1]; decide
        have q2 : Op.bytesLess S2.toList S1.toList = true := by rw [hl2]; decide
        have q3 : (S1.toList == S2.toList) = false := by rw [hl3]; decide
        have q3n : (!S1.toList == S2.toList) = true := by rw [q3]; rfl
        have f1 : decide ((n1 : Int) < (n2 : Int)) = false := by rw [decide_eq_false_iff_not]; omega
        have f2 : decide ((n2 : Int) < (n1 : Int)) = true := by rw [decide_eq_true_eq]; omega
        have e1 : decide (n1 < n2) = false := by rw [decide_eq_false_iff_not]; omega
        have e2 : decide (n2 < n1) = true := by rw [decide_eq_true_eq]; omega
        have hgt := fun W => gtr_str S1 S2 true (by rw [q1, q3]; rfl) W
        clear hl1 hl2 hl3 hlt
        go_upto_region 8 with fail
        have hdr : Hid (Below w10.heap.size w10 w10.drew) := Lib.hid (Below.refl _ _).drew
        have KD := kp K10 hdr
        clear K10 hdr
        refine wp_region_held_drew (S := fun W => Bk W g8 23 (tL y m dd h mi s) ∧ Bk W g9 23 (tL y2 m2 dd2 h2 mi2 s2)) (by kernel_rfl) (⟨KD.out.k (g8, 23, tL y m dd h mi s) (by simp), KD.out.k (g9, 23, tL y2 m2 dd2 h2 mi2 s2) (by simp)⟩) (fun hS => ?_)
        generalize w10.drew = w11 at *
        have K11 := KD
        clear KD
        refine wpAnyH_take (i := 0) (oi := ⟨some 71, _, _, _, _, _⟩) (v := .agg (tL y m dd h mi s).toArray) rfl (by kernel_rfl) (by kernel_rfl) (by kernel_rfl) (fun _ _ _ h => h) (yieldsIf_load_mid (by rfl) 23 (.tmp 8) rfl g8 0 rfl (tL y m dd h mi s) _ (fun W h => rangeB h.1) Tryd.underlying23 rfl infoTm) hS ?_
        (try simp only [Act.put, List.setIfInBounds_toArray, List.set_cons_zero, List.set_cons_succ])
        refine wpAnyH_take (i := 2) (oi := ⟨some 73, _, _, _, _, _⟩) (v := .agg (tL y2 m2 dd2 h2 mi2 s2).toArray) rfl (by kernel_rfl) (by kernel_rfl) (by kernel_rfl) (fun _ _ _ h => h) (yieldsIf_load_mid (by rfl) 23 (.tmp 9) rfl g9 0 rfl (tL y2 m2 dd2 h2 mi2 s2) _ (fun W h => rangeB h.2) Tryd.underlying23 rfl infoTm) hS ?_
        (try simp only [Act.put, List.setIfInBounds_toArray, List.set_cons_zero, List.set_cons_succ])
        refine wpAnyH_ready (rs := [1]) (by kernel_rfl) (by simp) ?_
        refine AllReadyH.cons (o := _) rfl (fun K hK => ?_) (AllReadyH.nil)
        go_simp
        refine (rsecs_at w11 y m dd h mi s HC1.out n1 HN1.out).mono ?_
        rintro e w12 ⟨rfl, hb⟩
        have K12 := kp K11 hb
        clear hb K11
        go_simp
        refine hK.out _ _ (⟨K12.out.k (g8, 23, tL y m dd h mi s) (by simp), K12.out.k (g9, 23, tL y2 m2 dd2 h2 mi2 s2) (by simp)⟩) (fun hS => ?_)
        clear hK K
        (try simp only [Act.put, List.setIfInBounds_toArray, List.set_cons_zero, List.set_cons_succ])
        refine wpAnyH_ready (rs := [3]) (by kernel_rfl) (by simp) ?_
        refine AllReadyH.cons (o := _) rfl (fun K hK => ?_) (AllReadyH.nil)
        go_simp
        refine (rsecs_at w12 y2 m2 dd2 h2 mi2 s2 HC2.out n2 HN2.out).mono ?_
        rintro e w13 ⟨rfl, hb⟩
        have K13 := kp K12 hb
        clear hb K12
        go_simp
        refine hK.out _ _ (⟨K13.out.k (g8, 23, tL y m dd h mi s) (by simp), K13.out.k (g9, 23, tL y2 m2 dd2 h2 mi2 s2) (by simp)⟩) (fun hS => ?_)
        clear hK K
        (try simp only [Act.put, List.setIfInBounds_toArray, List.set_cons_zero, List.set_cons_succ])
        refine wpAnyH_take (i := 4) (oi := ⟨some 75, _, _, _, _, _⟩) (v := .bool false) rfl (by kernel_rfl) (by kernel_rfl) (by kernel_rfl) (fun _ _ _ h => h) (Or.inl ⟨by rfl, fun w hSw => by (try dsimp only at hSw); go_simp⟩) hS ?_
        simp only [Act.put, List.setIfInBounds_toArray, List.set_cons_zero, List.set_cons_succ]
        refine wpAnyH_done (by kernel_rfl) ?_ _
        clear hS
        go_upto_region 10 with fail
        have hdr : Hid (Below w13.heap.size w13 w13.drew) := Lib.hid (Below.refl _ _).drew
        have KD := kp K13 hdr
        clear K13 hdr
        refine wp_region_held_drew (S := fun W => Bk W g8 23 (tL y m dd h mi s) ∧ Bk W g9 23 (tL y2 m2 dd2 h2 mi2 s2)) (by kernel_rfl) (⟨KD.out.k (g8, 23, tL y m dd h mi s) (by simp), KD.out.k (g9, 23, tL y2 m2 dd2 h2 mi2 s2) (by simp)⟩) (fun hS => ?_)
        generalize w13.drew = w14 at *
        have K14 := KD
        clear KD
        refine wpAnyH_take (i := 0) (oi := ⟨some 76, _, _, _, _, _⟩) (v := .agg (tL y m dd h mi s).toArray) rfl (by kernel_rfl) (by kernel_rfl) (by kernel_rfl) (fun _ _ _ h => h) (yieldsIf_load_mid (by rfl) 23 (.tmp 8) rfl g8 0 rfl (tL y m dd h mi s) _ (fun W h => rangeB h.1) Tryd.underlying23 rfl infoTm) hS ?_
        (try simp only [Act.put, List.setIfInBounds_toArray, List.set_cons_zero, List.set_cons_succ])
        refine wpAnyH_take (i := 2) (oi := ⟨some 78, _, _, _, _, _⟩) (v := .agg (tL y2 m2 dd2 h2 mi2 s2).toArray) rfl (by kernel_rfl) (by kernel_rfl) (by kernel_rfl) (fun _ _ _ h => h) (yieldsIf_load_mid (by rfl) 23 (.tmp 9) rfl g9 0 rfl (tL y2 m2 dd2 h2 mi2 s2) _ (fun W h => rangeB h.2) Tryd.underlying23 rfl infoTm) hS ?_
        (try simp only [Act.put, List.setIfInBounds_toArray, List.set_cons_zero, List.set_cons_succ])
        refine wpAnyH_ready (rs := [1]) (by kernel_rfl) (by simp) ?_
        refine AllReadyH.cons (o := _) rfl (fun K hK => ?_) (AllReadyH.nil)
        go_simp
        refine (rsecs_at w14 y m dd h mi s HC1.out n1 HN1.out).mono ?_
        rintro e w15 ⟨rfl, hb⟩
        have K15 := kp K14 hb
        clear hb K14
        go_simp
        refine hK.out _ _ (⟨K15.out.k (g8, 23, tL y m dd h mi s) (by simp), K15.out.k (g9, 23, tL y2 m2 dd2 h2 mi2 s2) (by simp)⟩) (fun hS => ?_)
        clear hK K
        (try simp only [Act.put, List.setIfInBounds_toArray, List.set_cons_zero, List.set_cons_succ])
        refine wpAnyH_ready (rs := [3]) (by kernel_rfl) (by simp) ?_
        refine AllReadyH.cons (o := _) rfl (fun K hK => ?_) (AllReadyH.nil)
        go_simp
        refine (rsecs_at w15 y2 m2 dd2 h2 mi2 s2 HC2.out n2 HN2.out).mono ?_
        rintro e w16 ⟨rfl, hb⟩
        have K16 := kp K15 hb
        clear hb K15
        go_simp
        refine hK.out _ _ (⟨K16.out.k (g8, 23, tL y m dd h mi s) (by simp), K16.out.k (g9, 23, tL y2 m2 dd2 h2 mi2 s2) (by simp)⟩) (fun hS => ?_)
        clear hK K
        (try simp only [Act.put, List.setIfInBounds_toArray, List.set_cons_zero, List.set_cons_succ])
        refine wpAnyH_take (i := 4) (oi := ⟨some 80, _, _, _, _, _⟩) (v := .bool true) rfl (by kernel_rfl) (by kernel_rfl) (by kernel_rfl) (fun _ _ _ h => h) (Or.inl ⟨by rfl, fun w hSw => by (try dsimp only at hSw); go_simp⟩) hS ?_
        simp only [Act.put, List.setIfInBounds_toArray, List.set_cons_zero, List.set_cons_succ]
        refine wpAnyH_done (by kernel_rfl) ?_ _
        clear hS
        go_upto_region 12 with fail
        go_wp2_with (first | (refine wpList_loadGg (by rfl) (.tmp 8) rfl rfl (rangeB (K16.out.k (g8, 23, tL y m dd h mi s) (by simp))) Tryd.underlying23 rfl infoTm ?_) | (refine wpList_loadGg (by rfl) (.tmp 9) rfl rfl (rangeB (K16.out.k (g9, 23, tL y2 m2 dd2 h2 mi2 s2) (by simp))) Tryd.underlying23 rfl infoTm ?_))
        refine (cmp_at w16 y m dd h mi s y2 m2 dd2 h2 mi2 s2 (1) HZ3.out).mono ?_
        rintro e w17 ⟨rfl, hb⟩
        have K17 := kp K16 hb
        clear hb K16
        go_wp2_with fail
        refine (lives_at w17 K17.out.t).mono ?_
        rintro e w18 ⟨rfl, hb⟩
        have K18 := kp K17 hb
        clear hb K17
        go_wp2_with fail
        go_ret
        exact ⟨rfl, K18.out.b⟩
      · have ez : z2 = 0 := by rw [← hzn]; rw [hlt]; exact cmpI_eq _
        rw [ez] at hl1 hl2 hl3
        have HZ3 : Hid (cmpT y m dd h mi s y2 m2 dd2 h2 mi2 s2 = 0) := Lib.hid (by rw [HZ2.out, ez])
        clear hzn ez
        have q1 : Op.bytesLess S1.toList S2.toList = false := by rw [hl1]; decide
        have q2 : Op.bytesLess S2.toList S1.toList = false := by rw [hl2]; decide
        have q3 : (S1.toList == S2.toList) = true := by rw [hl3]; decide
        have q3n : (!S1.toList == S2.toList) = false := by rw [q3]; rfl
        have f1 : decide ((n1 : Int) < (n2 : Int)) = false := by rw [decide_eq_false_iff_not]; omega
        have f2 : decide ((n2 : Int) < (n1 : Int)) = false := by rw [decide_eq_false_iff_not]; omega
        have e1 : decide (n1 < n2) = false := by rw [decide_eq_false_iff_not]; omega
        have e2 : decide (n2 < n1) = false := by rw [decide_eq_false_iff_not]; omega
        have hgt := fun W => gtr_str S1 S2 false (by rw [q1, q3]; rfl) W
        clear hl1 hl2 hl3 hlt
        go_upto_region 8 with fail
        have hdr : Hid (Below w10.heap.size w10 w10.drew) := Lib.hid (Below.refl _ _).drew
        have KD := kp K10 hdr
        clear K10 hdr
        refine wp_region_held_drew (S := fun W => Bk W g8 23 (tL y m dd h mi s) ∧ Bk W g9 23 (tL y2 m2 dd2 h2 mi2 s2)) (by kernel_rfl) (⟨KD.out.k (g8, 23, tL y m dd h mi s) (by simp), KD.out.k (g9, 23, tL y2 m2 dd2 h2 mi2 s2) (by simp)⟩) (fun hS => ?_)
        generalize w10.drew = w11 at *
        have K11 := KD
        clear KD
        refine wpAnyH_take (i := 0) (oi := ⟨some 71, _, _, _, _, _⟩) (v := .agg (tL y m dd h mi s).toArray) rfl (by kernel_rfl) (by kernel_rfl) (by kernel_rfl) (fun _ _ _ h => h) (yieldsIf_load_mid (by rfl) 23 (.tmp 8) rfl g8 0 rfl (tL y m dd h mi s) _ (fun W h => rangeB h.1) Tryd.underlying23 rfl infoTm) hS ?_
        (try simp only [Act.put, List.setIfInBounds_toArray, List.set_cons_zero, List.set_cons_succ])
        refine wpAnyH_take (i := 2) (oi := ⟨some 73, _, _, _, _, _⟩) (v := .agg (tL y2 m2 dd2 h2 mi2 s2).toArray) rfl (by kernel_rfl) (by kernel_rfl) (by kernel_rfl) (fun _ _ _ h => h) (yieldsIf_load_mid (by rfl) 23 (.tmp 9) rfl g9 0 rfl (tL y2 m2 dd2 h2 mi2 s2) _ (fun W h => rangeB h.2) Tryd.underlying23 rfl infoTm) hS ?_
        (try simp only [Act.put, List.setIfInBounds_toArray, List.set_cons_zero, List.set_cons_succ])
        refine wpAnyH_ready (rs := [1]) (by kernel_rfl) (by simp) ?_
        refine AllReadyH.cons (o := _) rfl (fun K hK => ?_) (AllReadyH.nil)
        go_simp
        refine (rsecs_at w11 y m dd h mi s HC1.out n1 HN1.out).mono ?_
        rintro e w12 ⟨rfl, hb⟩
        have K12 := kp K11 hb
        clear hb K11
        go_simp
        refine hK.out _ _ (⟨K12.out.k (g8, 23, tL y m dd h mi s) (by simp), K12.out.k (g9, 23, tL y2 m2 dd2 h2 mi2 s2) (by simp)⟩) (fun hS => ?_)
        clear hK K
        (try simp only [Act.put, List.setIfInBounds_toArray, List.set_cons_zero, List.set_cons_succ])
        refine wpAnyH_ready (rs := [3]) (by kernel_rfl) (by simp) ?_
        refine AllReadyH.cons (o := _) rfl (fun K hK => ?_) (AllReadyH.nil)
        go_simp
        refine (rsecs_at w12 y2 m2 dd2 h2 mi2 s2 HC2.out n2 HN2.out).mono ?_
        rintro e w13 ⟨rfl, hb⟩
        have K13 := kp K12 hb
        clear hb K12
        go_simp
        refine hK.out _ _ (⟨K13.out.k (g8, 23, tL y m dd h mi s) (by simp), K13.out.k (g9, 23, tL y2 m2 dd2 h2 mi2 s2) (by simp)⟩) (fun hS => ?_)
        clear hK K
        (try simp only [Act.put, List.setIfInBounds_toArray, List.set_cons_zero, List.set_cons_succ])
        refine wpAnyH_take (i := 4) (oi := ⟨some 75, _, _, _, _, _⟩) (v := .bool false) rfl (by kernel_rfl) (by kernel_rfl) (by kernel_rfl) (fun _ _ _ h => h) (Or.inl ⟨by rfl, fun w hSw => by (try dsimp only at hSw); go_simp⟩) hS ?_
        simp only [Act.put, List.setIfInBounds_toArray, List.set_cons_zero, List.set_cons_succ]
        refine wpAnyH_done (by kernel_rfl) ?_ _
        clear hS
        go_upto_region 10 with fail
        have hdr : Hid (Below w13.heap.size w13 w13.drew) := Lib.hid (Below.refl _ _).drew
        have KD := kp K13 hdr
        clear K13 hdr
        refine wp_region_held_drew (S := fun W => Bk W g8 23 (tL y m dd h mi s) ∧ Bk W g9 23 (tL y2 m2 dd2 h2 mi2 s2)) (by kernel_rfl) (⟨KD.out.k (g8, 23, tL y m dd h mi s) (by simp), KD.out.k (g9, 23, tL y2 m2 dd2 h2 mi2 s2) (by simp)⟩) (fun hS => ?_)
        generalize w13.drew = w14 at *
        have K14 := KD
        clear KD
        refine wpAnyH_take (i := 0) (oi := ⟨some 76, _, _, _, _, _⟩) (v := .agg (tL y m dd h mi s).toArray) rfl (by kernel_rfl) (by kernel_rfl) (by kernel_rfl) (fun _ _ _ h => h) (yieldsIf_load_mid (by rfl) 23 (.tmp 8) rfl g8 0 rfl (tL y m dd h mi s) _ (fun W h => rangeB h.1) Tryd.underlying23 rfl infoTm) hS ?_
        (try simp only [Act.put, List.setIfInBounds_toArray, List.set_cons_zero, List.set_cons_succ])
        refine wpAnyH_take (i := 2) (oi := ⟨some 78, _, _, _, _, _⟩) (v := .agg (tL y2 m2 dd2 h2 mi2 s2).toArray) rfl (by kernel_rfl) (by kernel_rfl) (by kernel_rfl) (fun _ _ _ h => h) (yieldsIf_load_mid (by rfl) 23 (.tmp 9) rfl g9 0 rfl (tL y2 m2 dd2 h2 mi2 s2) _ (fun W h => rangeB h.2) Tryd.underlying23 rfl infoTm) hS ?_
        (try simp only [Act.put, List.setIfInBounds_toArray, List.set_cons_zero, List.set_cons_succ])
        refine wpAnyH_ready (rs := [1]) (by kernel_rfl) (by simp) ?_
        refine AllReadyH.cons (o := _) rfl (fun K hK => ?_) (AllReadyH.nil)
        go_simp
        refine (rsecs_at w14 y m dd h mi s HC1.out n1 HN1.out).mono ?_
        rintro e w15 ⟨rfl, hb⟩
        have K15 := kp K14 hb
        clear hb K14
        go_simp
        refine hK.out _ _ (⟨K15.out.k (g8, 23, tL y m dd h mi s) (by simp), K15.out.k (g9, 23, tL y2 m2 dd2 h2 mi2 s2) (by simp)⟩) (fun hS => ?_)
        clear hK K
        (try simp only [Act.put, List.setIfInBounds_toArray, List.set_cons_zero, List.set_cons_succ])
        refine wpAnyH_ready (rs := [3]) (by kernel_rfl) (by simp) ?_
        refine AllReadyH.cons (o := _) rfl (fun K hK => ?_) (AllReadyH.nil)
        go_simp
        refine (rsecs_at w15 y2 m2 dd2 h2 mi2 s2 HC2.out n2 HN2.out).mono ?_
        rintro e w16 ⟨rfl, hb⟩
        have K16 := kp K15 hb
        clear hb K15
        go_simp
        refine hK.out _ _ (⟨K16.out.k (g8, 23, tL y m dd h mi s) (by simp), K16.out.k (g9, 23, tL y2 m2 dd2 h2 mi2 s2) (by simp)⟩) (fun hS => ?_)
        clear hK K
        (try simp only [Act.put, List.setIfInBounds_toArray, List.set_cons_zero, List.set_cons_succ])
        refine wpAnyH_take (i := 4) (oi := ⟨some 80, _, _, _, _, _⟩) (v := .bool false) rfl (by kernel_rfl) (by kernel_rfl) (by kernel_rfl) (fun _ _ _ h => h) (Or.inl ⟨by rfl, fun w hSw => by (try dsimp only at hSw); go_simp⟩) hS ?_
        simp only [Act.put, List.setIfInBounds_toArray, List.set_cons_zero, List.set_cons_succ]
        refine wpAnyH_done (by kernel_rfl) ?_ _
        clear hS
        go_upto_region 12 with fail
        go_wp2_with (first | (refine wpList_loadGg (by rfl) (.tmp 8) rfl rfl (rangeB (K16.out.k (g8, 23, tL y m dd h mi s) (by simp))) Tryd.underlying23 rfl infoTm ?_) | (refine wpList_loadGg (by rfl) (.tmp 9) rfl rfl (rangeB (K16.out.k (g9, 23, tL y2 m2 dd2 h2 mi2 s2) (by simp))) Tryd.underlying23 rfl infoTm ?_))
        refine (cmp_at w16 y m dd h mi s y2 m2 dd2 h2 mi2 s2 (0) HZ3.out).mono ?_
        rintro e w17 ⟨rfl, hb⟩
        have K17 := kp K16 hb
        clear hb K16
        go_wp2_with fail
        refine (lives_at w17 K17.out.t).mono ?_
        rintro e w18 ⟨rfl, hb⟩
        have K18 := kp K17 hb
        clear hb K17
        go_wp2_with fail
        go_ret
        exact ⟨rfl, K18.out.b⟩

open Go.ChangeShapes Go.WideShapes Go.ChangeAt Go.WideMaps Go.WideElems
set_option maxRecDepth 100000 in
theorem timesOrder_lifted (os : Os) (started : os.Started) (H : Type) (enc : TypeId × Value → H) :
    ReturnsInHanded {} Tryd.checked os 7 .any (fun w args => (Rows.timesOrderSpec.pre enc Tryd.prog Tryd.f7 [] false w args ∧ laidMetH Tryd.prog laidL w) ∧ sizedMet enc Tryd.prog Tryd.f7 (OpenSpec.ofChange Rows.timesOrderSpec) false w args)
      (Rows.timesOrderSpec.post enc Tryd.prog Tryd.f7 false true false false) := by
  refine returnsInHanded_of_change_and (C := Tryd.checked) (X := fun w _ => laidMetH Tryd.prog laidL w) (fun _ _ _ hh h => h.of_heap hh) x_own started (by kernel_rfl) Tryd.func7
    (ChangeSpec.witness_shaped (enc := enc) (C := Tryd.checked) (os := os) (X := fun w _ => laidMetH Tryd.prog laidL w) false (World.laidAll Tryd.prog os laidL) #[.agg #[.int .i64 0, .int .i64 0, .int .i64 0, .int .i64 0, .int .i64 0, .int .i64 0], .agg #[.int .i64 0, .int .i64 0, .int .i64 0, .int .i64 0, .int .i64 0, .int .i64 0], .agg #[.int .u16 0, .int .u8 0, .int .u8 0, .int .u8 0, .int .u8 0, .int .u8 0, .int .u16 0, .int .u8 0, .int .u8 0, .int .u8 0, .int .u8 0, .int .u8 0]] 8 (World.laidAll_os _ _ _) (World.shaped_of_ZipB (by kernel_rfl) (by kernel_rfl)) (by kernel_rfl) (by kernel_rfl) (by kernel_rfl) (door_met os _)) ?_
  intro W base args ds gs before hval0 hW _ _ hL _
  have hval : ∀ (j : Nat) t v, Tryd.f7.params[j]? = some t → args[j]? = some v → Value.okWide Tryd.prog W .any base t v := hval0
  have hW' := hW
  obtain ⟨p, q, hA0, hV, rfl, hfz, hnd⟩ := hW
  have hA : DataW.TrodAll enc Tryd.prog W 0 (fun _ => true) true Tryd.f7.params.toList args.toList ds p := hA0
  rw [Tryd.params7] at hA hval
  obtain ⟨v0, v1, v2, d0, d1, d2, p0, p1, p2, rfl, rfl, rfl, h0, h1, h2⟩ := trodAll_three hA
  obtain ⟨rfl, rfl⟩ := trodVars_none hV
  obtain ⟨a0, a1, a2, a3, a4, a5, rfl, -, -, -, -, -, -⟩ := open_time (hval 0 _ v0 rfl rfl) h0
  obtain ⟨b0, b1, b2, b3, b4, b5, rfl, -, -, -, -, -, -⟩ := open_time (hval 1 _ v1 rfl rfl) h1
  obtain ⟨c0, c1, c2, c3, c4, c5, d0, d1, d2, d3, d4, d5, rfl, hr1, hr2⟩ := open_T2 (hval 2 _ v2 rfl rfl) h2
  have hE := of_laid hL
  clear hA0 hval0
  simp only [List.append_nil] at hW'
  refine (order_walk a0 a1 a2 a3 a4 a5 b0 b1 b2 b3 b4 b5 c0 c1 c2 c3 c4 c5 d0 d1 d2 d3 d4 d5 hr1 hr2 W hE).mono fun e W' ⟨he, hb⟩ => ?_
  subst he
  exact ⟨_, rfl, law_post (tb := 4) x_laid (by decide +kernel) rfl rfl (by kernel_rfl) Tryd.underlying4 hW' hb⟩

/-- The row's statement. -/
theorem timesOrder_row : Rows.TimesOrderSaid :=
  OpenClaim.holds_of_wide 7 Tryd.f7 rfl rfl rfl rfl rfl rfl rfl ⟨rfl, rfl, rfl, rfl, rfl⟩ rfl rfl rfl rfl rfl (by kernel_rfl) Tryd.func7 (by kernel_rfl)
    (of_decide_eq_true (by kernel_rfl)) (by unfold Func.isWrapper; first | (rw [if_pos (by decide +kernel)]; kernel_rfl) | (rw [if_neg (by decide +kernel)]; exact ⟨rfl, rfl⟩))
    (fun os started H enc _ => timesOrder_lifted os started H enc)

/-- The statement: the card. -/
theorem timesOrder_holds : Rows.TimesOrderCardSaid :=
  Claim7.holds_tied_plain_at .later [] [.data] true Rows.timesOrderCard.stood.harness Rows.timesOrderCard.stood.looks
    timesOrder_row (fun _ h => by cases h) (by kernel_rfl) (fun _ h => by cases h) timesOrder_row_tie rfl ⟨rfl, rfl⟩ (by kernel_rfl) rfl
    (fun f fn hf hfn => by
      obtain rfl : f = 7 := Option.some.inj ((show Tryd.prog.funcNamed "vidimus/vidimuslaw10.TimesOrder" = some 7 by kernel_rfl).symm.trans hf) |>.symm
      obtain rfl : fn = Tryd.f7 := (Option.some.inj (Tryd.func7.symm.trans hfn)).symm
      exact ⟨by kernel_rfl, fun j t ht => by
        rw [Tryd.params7] at ht
        have hm : t ∈ Tryd.f7.params.toList := by rw [Tryd.params7]; exact Array.mem_toList_iff.2 (Array.mem_of_getElem? ht)
        have hall : (Tryd.f7.params.toList.all fun u => !Tryd.prog.wantsStandIn u) = true := by kernel_rfl
        exact (show Tryd.prog.wantsStandIn t = false by simpa using List.all_eq_true.1 hall t hm)⟩)
    (by kernel_rfl)
end Go.Proofs.YtecmgkmonehmfaaDoor.Tim
