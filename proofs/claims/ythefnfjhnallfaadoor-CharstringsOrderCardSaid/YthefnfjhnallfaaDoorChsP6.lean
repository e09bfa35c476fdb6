/-
  Layer 9, the statement CharstringsOrder: Compare is the order of the characters, then of the kinds; it is antisymmetric, and 0 only for equal character strings; the examples hold.
  Conditions: the package-level variables that the row lists hold what the program's text lays (the card ties them).
-/
import Derived.Test.YthefnfjhnallfaaDoorChsLi
import Derived.Deep.DeepCutAuto
import Derived.Deep.CutBlock
namespace Go.Proofs.YthefnfjhnallfaaDoor.Chs
open Go.RowKit Go.Shelf

theorem storeG_wp6 {t t' : TypeId} {o : Oper} {a : Act} {w : World} {K : Act → World → Prop} {Q : Exit → Act → World → Prop} (x v : Operand) (ho : o.op = .store t x v)
    {g : Nat} {ds cs : List Value} (hx : a.eval x = .pointer (some ⟨g, 0, none⟩)) (hv : a.eval v = .agg ds.toArray) (hg : Bk w g t' cs) (hi : (Tryd.prog.info? t).map (·.size) = some ds.length) (hc : cs.length = ds.length) (h1 : ds.all (·.oneCell') = true)
    (h : ∀ w', Bk w' g t' ds → w.grownBy w' (some g) → w'.heap.size = w.heap.size → K (a.put o.dst undef) w') : o.wp Tryd.prog a w K Q := by
  have hs := run_storeVar_row (P := Tryd.prog) w g t' t cs.toArray ds.toArray hg (by rw [List.size_toArray]; exact hi) (by simp [hc]) (by rw [List.all_toArray]; exact h1)
  have hK' := h (w.setRow g ds.toArray) (setRow_heap w g _ _ _ _ hg) ⟨rfl, rfl, rfl, by simp [World.setRow], fun k hk hne => setRow_other w g k _ (fun e => hne (by rw [e]))⟩ (by simp [World.setRow])
  unfold Oper.wp execOp
  simp only [ho, hx, hv, Instr.storeAt, Instr.sureAddr, Sem.run_bind, Sem.run_pure, Result.andThen_ok, hs]
  exact hK'
theorem rd_i64 {w : World} {A : Option Addr} {l : List Nat} (h : Rd w A (csI l)) {j : Nat} (hj : j < l.length) : ∃ b off, A = some ⟨b, off, none⟩ ∧ b < w.heap.size ∧ w.cell? ⟨b, off + j, none⟩ = some (.int .i64 (l[j] : Int)) := Ri.at_ h hj
theorem range22 {w : World} {g : Nat} {ty : TypeId} {a b c d : Value} (h : Bk w g ty [a, b, c, d]) : w.rangeAt g 2 [c, d] := fun i u hu => by
  match i, hu with
  | 0, hu => have := rangeB h 2 u (by simpa using hu); simpa using this
  | 1, hu => have := rangeB h 3 u (by simpa using hu); simpa using this
  | i + 2, hu => simp at hu
theorem range20 {w : World} {g : Nat} {ty : TypeId} {a b c d : Value} (h : Bk w g ty [a, b, c, d]) : w.rangeAt g 0 [a, b] := fun i u hu => by
  match i, hu with
  | 0, hu => have := rangeB h 0 u (by simpa using hu); simpa using this
  | 1, hu => have := rangeB h 1 u (by simpa using hu); simpa using this
  | i + 2, hu => simp at hu
theorem cmp_next {l m : List Nat} {j : Nat} (h1 : j < l.length) (h2 : j < m.length) : cmpL (l.drop j) (m.drop j) = if l[j] < m[j] then -1 else if m[j] < l[j] then 1 else cmpL (l.drop (j + 1)) (m.drop (j + 1)) := by
  rw [List.drop_eq_getElem_cons h1, List.drop_eq_getElem_cons h2, cmpL]
theorem cmp_less {l m : List Nat} {j : Nat} (h1 : l.length ≤ j) (h2 : j < m.length) : cmpL (l.drop j) (m.drop j) = -1 := by
  rw [List.drop_of_length_le h1, List.drop_eq_getElem_cons h2]; rfl
theorem cmp_more {l m : List Nat} {j : Nat} (h1 : j < l.length) (h2 : m.length ≤ j) : cmpL (l.drop j) (m.drop j) = 1 := by
  rw [List.drop_of_length_le h2, List.drop_eq_getElem_cons h1]; rfl
theorem cmp_done {l m : List Nat} {j : Nat} (h1 : l.length ≤ j) (h2 : m.length ≤ j) : cmpL (l.drop j) (m.drop j) = 0 := by
  rw [List.drop_of_length_le h1, List.drop_of_length_le h2]; rfl
set_option linter.unusedSimpArgs false in
set_option linter.unusedVariables false in
set_option maxHeartbeats 6400000 in
set_option maxRecDepth 100000 in
theorem order_walk (d0 : Nat) (hd0 : d0 < 256) (A0 : Option Addr) (x0 : List Nat) (n0 c0 : Nat) (d1 : Nat) (hd1 : d1 < 256) (A1 : Option Addr) (x1 : List Nat) (n1 c1 : Nat) (kx : Nat) (hka : kx < 4294967296) (la : List Nat) (ha8 : All8 la) (hla : la.length ≤ maxLen) (kc : Nat) (hkc : kc < 4294967296) (lc : List Nat) (hc8 : All8 lc) (hlc : lc.length ≤ maxLen) (w : World)
    (hA0 : Rd w A0 (cs32 x0)) (hx0 : ∀ y ∈ x0, y < 4294967296) (hN0 : x0.length = n0) (hm0 : n0 ≤ maxLen) (hA1 : Rd w A1 (cs32 x1)) (hx1 : ∀ y ∈ x1, y < 4294967296) (hN1 : x1.length = n1) (hm1 : n1 ≤ maxLen) (hT : Tab w) :
    Calls Tryd.prog 8 #[.agg #[.int .u8 (d0 : Int), .slice A0 n0 c0, .int .u8 (d1 : Int), .slice A1 n1 c1], chV kx (bstr la), chV kc (bstr lc)] w fun e w' => e = .returned (.bool true) ∧ Below w.heap.size w w' := by
  have K0 := Chs.ka (Chs.ka (Lib.hid (St.start hT)) (Lib.hid hA0)) (Lib.hid hA1)
  have HT0 := Lib.hid hT
  obtain ⟨Sz, hSz⟩ : ∃ s, S0 = s := ⟨_, rfl⟩
  have HSZ0 := Lib.hid hSz
  have HSZ : Hid (bstr [] = Sz) := Lib.hid (by rw [← hSz]; rfl)
  have hz : ∀ w : World, (zeroValue 24).run Tryd.prog w = .ok (.agg #[.int .u32 0, .string Sz]) w := by rw [← hSz]; exact zeroCh
  clear hSz
  obtain ⟨Sa, hSa⟩ : ∃ T, bstr la = T := ⟨_, rfl⟩
  have hsza : Sa.size = la.length := by rw [← hSa]; exact size_bstr la
  obtain ⟨Sc, hSc⟩ : ∃ T, bstr lc = T := ⟨_, rfl⟩
  have hszc : Sc.size = lc.length := by rw [← hSc]; exact size_bstr lc
  have HSA := Lib.hid hSa
  have HSC := Lib.hid hSc
  have HX0 := Lib.hid hx0
  have HN0 := Lib.hid hN0
  have HM0 := Lib.hid hm0
  have HX1 := Lib.hid hx1
  have HN1 := Lib.hid hN1
  have HM1 := Lib.hid hm1
  obtain ⟨z, hz⟩ : ∃ z, cmpC kx la kc lc = z := ⟨_, rfl⟩
  have hor := cmpC_or (k := kx) (k2 := kc) ha8 hc8
  have hsw : cmpC kc lc kx la = -z := by rw [← hz]; exact cmpC_swap ha8 hc8
  have hze := cmpC_zero (k := kx) (k2 := kc) ha8 hc8
  rw [hz] at hor hze
  obtain ⟨v, hv⟩ : ∃ v, (z == 0) = v := ⟨_, rfl⟩
  have heqab : ∀ W, (binOp .eql 24 (.agg (chL kx Sa).toArray) (.agg (chL kc Sc).toArray)).run Tryd.prog W = .ok (.bool v) W := fun W => by
    rw [eqlC, ← hv, ← hSa, ← hSc]
    congr 2
    rw [Bool.eq_iff_iff, Bool.and_eq_true, decide_eq_true_eq, beq_iff_eq, beq_iff_eq, hze]
    constructor
    · rintro ⟨h1, h2⟩
      refine ⟨h1, ?_⟩
      by_cases he : la = lc
      · exact he
      · have := bstr_ne ha8 hc8 he
        rw [h2] at this
        simp at this
    · rintro ⟨h1, h2⟩
      exact ⟨h1, by rw [h2]⟩
  have HZ := Lib.hid hz
  have HSW := Lib.hid hsw
  have hz1 : decide (z < -1) = false := by rw [decide_eq_false_iff_not]; omega
  have hz2 : decide (1 < z) = false := by rw [decide_eq_false_iff_not]; omega
  have hzw : IntKind.i64.wrap (-z) = -z := by rw [IntKind.wrap_i64]; omega
  rw [hSa, hSc]
  obtain ⟨na, hna⟩ : ∃ n, la.length = n := ⟨_, rfl⟩
  rw [hna] at hsza hla
  obtain ⟨nc, hnc⟩ : ∃ n, lc.length = n := ⟨_, rfl⟩
  rw [hnc] at hszc hlc
  clear hA0 hx0 hN0 hm0 hA1 hx1 hN1 hm1 hT ha8 hc8 hSa hSc hz hsw hze hor hna hnc
  obtain ⟨g3, hg3⟩ : ∃ g, w.heap.size = g := ⟨_, rfl⟩
  obtain ⟨g4, hg4⟩ : ∃ g, g3 + 1 = g := ⟨_, rfl⟩
  obtain ⟨g5, hg5⟩ : ∃ g, g4 + 1 = g := ⟨_, rfl⟩
  obtain ⟨w1, hw1⟩ : ∃ v, ((w.alloc (.cells ([.int .u8 (d0 : Int), .slice A0 n0 c0, .int .u8 (d1 : Int), .slice A1 n1 c1]).toArray 64)).alloc (.cells #[.int .u32 (kx : Int), .string Sa] 24)).alloc (.cells #[.int .u32 (kc : Int), .string Sc] 24) = v := ⟨_, rfl⟩
  have hb : Hid (Below w.heap.size w w1) := Lib.hid (by rw [← hw1]; exact ((bel1 w (.cells ([.int .u8 (d0 : Int), .slice A0 n0 c0, .int .u8 (d1 : Int), .slice A1 n1 c1]).toArray 64)).alloc (by simp) _).alloc (by simp; omega) _)
  have hk3 : Hid (Bk w1 g3 64 ([.int .u8 (d0 : Int), .slice A0 n0 c0, .int .u8 (d1 : Int), .slice A1 n1 c1])) := Lib.hid (by rw [← hw1, ← hg3]; exact ((Bk.new w 64 ([.int .u8 (d0 : Int), .slice A0 n0 c0, .int .u8 (d1 : Int), .slice A1 n1 c1])).alloc _).alloc _)
  have hk4 : Hid (Bk w1 g4 24 (chL kx Sa)) := Lib.hid (by
    rw [← hw1, ← hg4, ← hg3]
    have := (Bk.new (w.alloc (.cells ([.int .u8 (d0 : Int), .slice A0 n0 c0, .int .u8 (d1 : Int), .slice A1 n1 c1]).toArray 64)) 24 (chL kx Sa)).alloc (.cells #[.int .u32 (kc : Int), .string Sc] 24)
    rwa [World.size_alloc] at this)
  have hk5 : Hid (Bk w1 g5 24 (chL kc Sc)) := Lib.hid (by
    rw [← hw1, ← hg5, ← hg4, ← hg3]
    have := Bk.new ((w.alloc (.cells ([.int .u8 (d0 : Int), .slice A0 n0 c0, .int .u8 (d1 : Int), .slice A1 n1 c1]).toArray 64)).alloc (.cells #[.int .u32 (kx : Int), .string Sa] 24)) 24 (chL kc Sc)
    rwa [World.size_alloc, World.size_alloc] at this)
  have K1 := kb (kb (kb (kp K0 hb) hk3) hk4) hk5
  have HW1 := Lib.hid hw1
  have HG3 := Lib.hid hg3
  have HG4 := Lib.hid hg4
  have HG5 := Lib.hid hg5
  clear hb hk3 hk4 hk5 hw1 hg3 hg4 hg5 K0
  go_enter Tryd.func8, Tryd.ntmps8
  go_upto_region 1 with fail
  rw [HW1.out, HG3.out, HG4.out, HG5.out]
  have c_g4_1 : w1.cell? ⟨g4, 1, none⟩ = some (.string Sa) := by rw [(K1.out.k (g4, 24, chL kx Sa) (by simp)).cell]; rfl
  have c_g5_1 : w1.cell? ⟨g5, 1, none⟩ = some (.string Sc) := by rw [(K1.out.k (g5, 24, chL kc Sc) (by simp)).cell]; rfl
  by_cases hla1 : 100 < na
  · have hi : (100 : Int) < (na : Int) := by omega
    clear hla1 hla hlc
    go_wp2_with fail
    refine (lives_at w1 K1.out.t).mono ?_
    rintro e w2 ⟨rfl, hb⟩
    have K2 := kp K1 hb
    clear hb K1
    go_wp2_with fail
    go_ret
    exact ⟨rfl, K2.out.b⟩
  · have hi : ¬ (100 : Int) < (na : Int) := by omega
    by_cases hlc1 : 100 < nc
    · have hi2 : (100 : Int) < (nc : Int) := by omega
      clear hla1 hla hlc1 hlc
      go_wp2_with fail
      refine (lives_at w1 K1.out.t).mono ?_
      rintro e w2 ⟨rfl, hb⟩
      have K2 := kp K1 hb
      clear hb K1
      go_wp2_with fail
      go_ret
      exact ⟨rfl, K2.out.b⟩
    · have hi2 : ¬ (100 : Int) < (nc : Int) := by omega
      obtain ⟨p0, hp0⟩ : ∃ p, d0 % 5 = p := ⟨_, rfl⟩
      obtain ⟨p1, hp1⟩ : ∃ p, d1 % 5 = p := ⟨_, rfl⟩
      have hp05 : p0 < 5 := by omega
      have hp15 : p1 < 5 := by omega
      obtain ⟨q0, hq0⟩ : ∃ q, kN p0 = q := ⟨_, rfl⟩
      obtain ⟨q1, hq1⟩ : ∃ q, kN p1 = q := ⟨_, rfl⟩
      obtain ⟨s0, hs0⟩ : ∃ s, ofC q0 x0 = s := ⟨_, rfl⟩
      obtain ⟨s1, hs1⟩ : ∃ s, ofC q1 x1 = s := ⟨_, rfl⟩
      obtain ⟨l0, hl0⟩ : ∃ l, encS s0 = l := ⟨_, rfl⟩
      obtain ⟨l1, hl1⟩ : ∃ l, encS s1 = l := ⟨_, rfl⟩
      obtain ⟨S0', hS0⟩ : ∃ S, bstr l0 = S := ⟨_, rfl⟩
      obtain ⟨S1', hS1⟩ : ∃ S, bstr l1 = S := ⟨_, rfl⟩
      have hc0 : ∀ c ∈ s0, scal c = true := by rw [← hs0]; exact ofC_scal
      have hc1' : ∀ c ∈ s1, scal c = true := by rw [← hs1]; exact ofC_scal
      have h80 : All8 l0 := by rw [← hl0]; exact encS_all hc0
      have h81 : All8 l1 := by rw [← hl1]; exact encS_all hc1'
      have hl160 : l0.length ≤ 160 := by rw [← hl0, ← hs0]; exact ofC_enc q0 x0
      have hl161 : l1.length ≤ 160 := by rw [← hl1, ← hs1]; exact ofC_enc q1 x1
      have hd0' : decS l0 = some s0 := by rw [← hl0]; exact decS_enc hc0
      have hd1' : decS l1 = some s1 := by rw [← hl1]; exact decS_enc hc1'
      obtain ⟨Z, hZ⟩ : ∃ Z, cmpL s0 s1 = Z := ⟨_, rfl⟩
      obtain ⟨M0, hM0⟩ : ∃ n, s0.length = n := ⟨_, rfl⟩
      obtain ⟨M1, hM1⟩ : ∃ n, s1.length = n := ⟨_, rfl⟩
      have hMM : M0 ≤ 40 ∧ M1 ≤ 40 := ⟨by rw [← hM0, ← hs0]; exact ofC_len q0 x0, by rw [← hM1, ← hs1]; exact ofC_len q1 x1⟩
      have HRES : Hid (cmpC q0 l0 q1 l1 = or2 Z (cmpN q0 q1)) := Lib.hid (by rw [cmpC_eq q0 q1 h80 h81, ← hl0, ← hl1, cmp_enc s0 s1 hc0 hc1', hZ])
      have HP0 := Lib.hid hp0
      have HP1 := Lib.hid hp1
      have HQ0 := Lib.hid hq0
      have HQ1 := Lib.hid hq1
      have HSS0 : Hid (bstr (encS (ofC q0 x0)) = S0') := Lib.hid (by rw [hs0, hl0, hS0])
      have HSS1 : Hid (bstr (encS (ofC q1 x1)) = S1') := Lib.hid (by rw [hs1, hl1, hS1])
      have HS0 := Lib.hid hS0
      have HS1 := Lib.hid hS1
      have H80 := Lib.hid h80
      have H81 := Lib.hid h81
      have HL0 : Hid (l0.length ≤ 1000000) := Lib.hid (by omega)
      have HL1 : Hid (l1.length ≤ 1000000) := Lib.hid (by omega)
      have HD0 := Lib.hid hd0'
      have HD1 := Lib.hid hd1'
      have HZZ := Lib.hid hZ
      have HLM0 := Lib.hid hM0
      have HLM1 := Lib.hid hM1
      have HMM := Lib.hid hMM
      clear hla1 hla hlc1 hlc hp0 hp1 hp05 hp15 hq0 hq1 hs0 hs1 hl0 hl1 hS0 hS1 hc0 hc1' h80 h81 hl160 hl161 hd0' hd1' hZ hM0 hM1 hMM
      go_wp2_with (first | (refine wpList_loadGg (by rfl) (.tmp 4) rfl rfl (rangeB (K1.out.k (g4, 24, chL kx Sa) (by simp))) Tryd.underlying24 rfl infoCh ?_) | (refine wpList_loadGg (by rfl) (.tmp 5) rfl rfl (rangeB (K1.out.k (g5, 24, chL kc Sc) (by simp))) Tryd.underlying24 rfl infoCh ?_))
      clear c_g4_1 c_g5_1
      refine (cmp_at w1 kx la Sa HSA.out kc lc Sc HSC.out z HZ.out).mono ?_
      rintro e w2 ⟨rfl, hb⟩
      have K2 := kp K1 hb
      clear hb K1
      go_wp2_with (first | (refine wpList_loadGg (by rfl) (.tmp 5) rfl rfl (rangeB (K2.out.k (g5, 24, chL kc Sc) (by simp))) Tryd.underlying24 rfl infoCh ?_) | (refine wpList_loadGg (by rfl) (.tmp 4) rfl rfl (rangeB (K2.out.k (g4, 24, chL kx Sa) (by simp))) Tryd.underlying24 rfl infoCh ?_))
      refine (cmp_at w2 kc lc Sc HSC.out kx la Sa HSA.out (-z) HSW.out).mono ?_
      rintro e w3 ⟨rfl, hb⟩
      have K3 := kp K2 hb
      clear hb K2
      go_upto_region 6 with (first | (refine wpList_loadGg (by rfl) (.tmp 47) rfl rfl (rangeB (K3.out.k (g4, 24, chL kx Sa) (by simp))) Tryd.underlying24 rfl infoCh ?_) | (refine wpList_loadGg (by rfl) (.tmp 4) rfl rfl (rangeB (K3.out.k (g4, 24, chL kx Sa) (by simp))) Tryd.underlying24 rfl infoCh ?_) | (refine wpList_loadGg (by rfl) (.tmp 5) rfl rfl (rangeB (K3.out.k (g5, 24, chL kc Sc) (by simp))) Tryd.underlying24 rfl infoCh ?_))
      go_cut [8, 9] (fun a b wx => ∃ g8 g9, a = .pointer (some ⟨g8, 0, none⟩) ∧ b = .pointer (some ⟨g9, 0, none⟩) ∧ St w [] [(g9, 24, chL q1 S1'), (g8, 24, chL q0 S0')] wx)
      case first =>
        have KU : Hid (St w [(A1, cs32 x1), (A0, cs32 x0)] [(g3, 64, [.int .u8 (d0 : Int), .slice A0 n0 c0, .int .u8 (d1 : Int), .slice A1 n1 c1])] w3) := Lib.hid ⟨K3.out.b, K3.out.t, K3.out.r, fun x hx => K3.out.k x (by simp only [List.mem_cons, List.not_mem_nil, or_false] at hx ⊢; exact .inr (.inr hx))⟩
        clear K3
        have K3 := KU
        clear KU
        have LT_g3 := K3.out.k (g3, 64, [.int .u8 (d0 : Int), .slice A0 n0 c0, .int .u8 (d1 : Int), .slice A1 n1 c1]) (by simp)
        clear LT_g3
        have hdr : Hid (Below w3.heap.size w3 w3.drew) := Lib.hid (Below.refl _ _).drew
        have KD := kp K3 hdr
        clear K3 hdr
        refine wp_region_held_drew (S := fun W => Bk W g3 64 ([.int .u8 (d0 : Int), .slice A0 n0 c0, .int .u8 (d1 : Int), .slice A1 n1 c1])) (by kernel_rfl) (KD.out.k (g3, 64, [.int .u8 (d0 : Int), .slice A0 n0 c0, .int .u8 (d1 : Int), .slice A1 n1 c1]) (by simp)) (fun hS => ?_)
        generalize w3.drew = w4 at *
        have K4 := KD
        clear KD
        refine wpAnyH_take (i := 0) (oi := ⟨some 52, _, _, _, _, _⟩) (v := .pointer (some ⟨g3, 0, none⟩)) rfl (by kernel_rfl) (by kernel_rfl) (by kernel_rfl) (fun _ _ _ h => h) (Or.inl ⟨by rfl, fun w hSw => by (try dsimp only at hSw); go_simp⟩) hS ?_
        simp only [Act.put, List.setIfInBounds_toArray, List.set_cons_zero, List.set_cons_succ]
        refine wpAnyH_take (i := 1) (oi := ⟨some 53, _, _, _, _, _⟩) (v := cV d0 A0 n0 c0) rfl (by kernel_rfl) (by kernel_rfl) (by kernel_rfl) (fun _ _ _ h => h) (yieldsIf_load_mid (by rfl) 47 (.tmp 52) rfl g3 0 rfl [.int .u8 (d0 : Int), .slice A0 n0 c0] _ (fun W h => range20 h) Tryd.underlying47 rfl infoC) hS ?_
        (try simp only [Act.put, List.setIfInBounds_toArray, List.set_cons_zero, List.set_cons_succ])
        refine wpAnyH_take (i := 3) (oi := ⟨some 55, _, _, _, _, _⟩) (v := .pointer (some ⟨g3, 2, none⟩)) rfl (by kernel_rfl) (by kernel_rfl) (by kernel_rfl) (fun _ _ _ h => h) (Or.inl ⟨by rfl, fun w hSw => by (try dsimp only at hSw); go_simp⟩) hS ?_
        simp only [Act.put, List.setIfInBounds_toArray, List.set_cons_zero, List.set_cons_succ]
        refine wpAnyH_take (i := 4) (oi := ⟨some 56, _, _, _, _, _⟩) (v := cV d1 A1 n1 c1) rfl (by kernel_rfl) (by kernel_rfl) (by kernel_rfl) (fun _ _ _ h => h) (yieldsIf_load_mid (by rfl) 47 (.tmp 55) rfl g3 2 rfl [.int .u8 (d1 : Int), .slice A1 n1 c1] _ (fun W h => range22 h) Tryd.underlying47 rfl infoC) hS ?_
        (try simp only [Act.put, List.setIfInBounds_toArray, List.set_cons_zero, List.set_cons_succ])
        refine wpAnyH_ready (rs := [2, 6, 7]) (by kernel_rfl) (by simp) ?_
        refine AllReadyH.cons (o := _) rfl (fun K hK => ?_) (AllReadyH.cons (o := _) rfl (fun K hK => ?_) (AllReadyH.cons (o := _) rfl (fun K hK => ?_) AllReadyH.nil))
        · go_simp
          refine (cof_at w4 d0 p0 hd0 HP0.out A0 x0 n0 c0 HN0.out HM0.out HX0.out (K4.out.r (A0, cs32 x0) (by simp)) q0 HQ0.out S0' HSS0.out).mono ?_
          rintro e w5 ⟨rfl, hb⟩
          have K5 := kp K4 hb
          clear hb K4
          go_simp
          refine hK.out _ _ (K5.out.k (g3, 64, [.int .u8 (d0 : Int), .slice A0 n0 c0, .int .u8 (d1 : Int), .slice A1 n1 c1]) (by simp)) (fun hS => ?_)
          clear hK K
          (try simp only [Act.put, List.setIfInBounds_toArray, List.set_cons_zero, List.set_cons_succ])
          refine wpAnyH_ready (rs := [5, 6, 7]) (by kernel_rfl) (by simp) ?_
          refine AllReadyH.cons (o := _) rfl (fun K hK => ?_) (AllReadyH.cons (o := _) rfl (fun K hK => ?_) (AllReadyH.cons (o := _) rfl (fun K hK => ?_) AllReadyH.nil))
          · go_simp
            refine (cof_at w5 d1 p1 hd1 HP1.out A1 x1 n1 c1 HN1.out HM1.out HX1.out (K5.out.r (A1, cs32 x1) (by simp)) q1 HQ1.out S1' HSS1.out).mono ?_
            rintro e w6 ⟨rfl, hb⟩
            have K6 := kp K5 hb
            clear hb K5
            go_simp
            refine hK.out _ _ (K6.out.k (g3, 64, [.int .u8 (d0 : Int), .slice A0 n0 c0, .int .u8 (d1 : Int), .slice A1 n1 c1]) (by simp)) (fun hS => ?_)
            clear hK K
            (try simp only [Act.put, List.setIfInBounds_toArray, List.set_cons_zero, List.set_cons_succ])
            refine wpAnyH_ready (rs := [6, 7]) (by kernel_rfl) (by simp) ?_
            refine AllReadyH.cons (o := _) rfl (fun K hK => ?_) (AllReadyH.cons (o := _) rfl (fun K hK => ?_) AllReadyH.nil)
            · go_simp
              obtain ⟨g8, hg8⟩ : ∃ g, w6.heap.size = g := ⟨_, rfl⟩
              obtain ⟨w7, hw7⟩ : ∃ v, w6.alloc (.cells #[.int .u32 0, .string Sz] 24) = v := ⟨_, rfl⟩
              have hbk : Hid (Bk w7 g8 24 (chL 0 Sz)) := Lib.hid (by rw [← hw7, ← hg8]; exact Bk.new w6 _ (chL 0 Sz))
              have hb : Hid (Below w6.heap.size w6 w7) := Lib.hid (by rw [← hw7]; exact bel1 w6 _)
              have GE_g8 : Hid (w.heap.size ≤ g8) := Lib.hid (by rw [← hg8]; exact K6.out.b.size)
              rw [hw7, hg8]
              have LT_g3_g8 : Hid (g3 < g8) := Lib.hid (by rw [← hg8]; exact (K6.out.k (g3, 64, [.int .u8 (d0 : Int), .slice A0 n0 c0, .int .u8 (d1 : Int), .slice A1 n1 c1]) (by simp)).lt)
              have K7 := kp K6 hb
              clear hb K6
              have Kn := kb K7 hbk
              clear hbk K7 hg8 hw7
              have K7 := Kn
              clear Kn
              refine hK.out _ _ (K7.out.k (g3, 64, [.int .u8 (d0 : Int), .slice A0 n0 c0, .int .u8 (d1 : Int), .slice A1 n1 c1]) (by simp)) (fun hS => ?_)
              clear hK K
              (try simp only [Act.put, List.setIfInBounds_toArray, List.set_cons_zero, List.set_cons_succ])
              refine wpAnyH_ready (rs := [7]) (by kernel_rfl) (by simp) ?_
              refine AllReadyH.cons (o := _) rfl (fun K hK => ?_) AllReadyH.nil
              go_simp
              obtain ⟨g9, hg9⟩ : ∃ g, w7.heap.size = g := ⟨_, rfl⟩
              obtain ⟨w8, hw8⟩ : ∃ v, w7.alloc (.cells #[.int .u32 0, .string Sz] 24) = v := ⟨_, rfl⟩
              have hbk : Hid (Bk w8 g9 24 (chL 0 Sz)) := Lib.hid (by rw [← hw8, ← hg9]; exact Bk.new w7 _ (chL 0 Sz))
              have hb : Hid (Below w7.heap.size w7 w8) := Lib.hid (by rw [← hw8]; exact bel1 w7 _)
              have GE_g9 : Hid (w.heap.size ≤ g9) := Lib.hid (by rw [← hg9]; exact K7.out.b.size)
              rw [hw8, hg9]
              have LT_g8_g9 : Hid (g8 < g9) := Lib.hid (by rw [← hg9]; exact (K7.out.k (g8, 24, chL 0 Sz) (by simp)).lt)
              have LT_g3_g9 : Hid (g3 < g9) := Lib.hid (by rw [← hg9]; exact (K7.out.k (g3, 64, [.int .u8 (d0 : Int), .slice A0 n0 c0, .int .u8 (d1 : Int), .slice A1 n1 c1]) (by simp)).lt)
              have K8 := kp K7 hb
              clear hb K7
              have Kn := kb K8 hbk
              clear hbk K8 hg9 hw8
              have K8 := Kn
              clear Kn
              refine hK.out _ _ (K8.out.k (g3, 64, [.int .u8 (d0 : Int), .slice A0 n0 c0, .int .u8 (d1 : Int), .slice A1 n1 c1]) (by simp)) (fun hS => ?_)
              clear hK K
              (try simp only [Act.put, List.setIfInBounds_toArray, List.set_cons_zero, List.set_cons_succ])
              refine wpAnyH_ready (rs := [8]) (by kernel_rfl) (by simp) ?_
              refine AllReadyH.cons (o := _) rfl (fun K hK => ?_) (AllReadyH.nil)
              refine storeG_wp6 (.tmp 8) (.tmp 54) rfl rfl (ds := chL q0 S0') rfl (K8.out.k (g8, 24, chL 0 Sz) (by simp)) infoCh rfl (chL_one _ _) ?_; intro w9 RZ hgz hzz; have KZ0 := Lib.hid (K8.out.put HT0.out GE_g8.out hgz); have KZ1 := kb KZ0 (Lib.hid ((K8.out.k (g3, 64, [.int .u8 (d0 : Int), .slice A0 n0 c0, .int .u8 (d1 : Int), .slice A1 n1 c1]) (by simp)).only hgz (by intro e; injection e with e; have := LT_g3_g8.out; omega))); have KZ2 := kb KZ1 (Lib.hid RZ); have KZ3 := kb KZ2 (Lib.hid ((K8.out.k (g9, 24, chL 0 Sz) (by simp)).only hgz (by intro e; injection e with e; have := LT_g8_g9.out; omega))); have K9 := KZ3; clear hgz hzz RZ K8 KZ0 KZ1 KZ2 KZ3
              refine hK.out _ _ (K9.out.k (g3, 64, [.int .u8 (d0 : Int), .slice A0 n0 c0, .int .u8 (d1 : Int), .slice A1 n1 c1]) (by simp)) (fun hS => ?_)
              clear hK K
              (try simp only [Act.put, List.setIfInBounds_toArray, List.set_cons_zero, List.set_cons_succ])
              refine wpAnyH_ready (rs := [9]) (by kernel_rfl) (by simp) ?_
              refine AllReadyH.cons (o := _) rfl (fun K hK => ?_) (AllReadyH.nil)
              refine storeG_wp6 (.tmp 9) (.tmp 57) rfl rfl (ds := chL q1 S1') rfl (K9.out.k (g9, 24, chL 0 Sz) (by simp)) infoCh rfl (chL_one _ _) ?_; intro w10 RZ hgz hzz; have KZ0 := Lib.hid (K9.out.put HT0.out GE_g9.out hgz); have KZ1 := kb KZ0 (Lib.hid ((K9.out.k (g3, 64, [.int .u8 (d0 : Int), .slice A0 n0 c0, .int .u8 (d1 : Int), .slice A1 n1 c1]) (by simp)).only hgz (by intro e; injection e with e; have := LT_g3_g9.out; omega))); have KZ2 := kb KZ1 (Lib.hid ((K9.out.k (g8, 24, chL q0 S0') (by simp)).only hgz (by intro e; injection e with e; have := LT_g8_g9.out; omega))); have KZ3 := kb KZ2 (Lib.hid RZ); have K10 := KZ3; clear hgz hzz RZ K9 KZ0 KZ1 KZ2 KZ3
              refine hK.out _ _ (K10.out.k (g3, 64, [.int .u8 (d0 : Int), .slice A0 n0 c0, .int .u8 (d1 : Int), .slice A1 n1 c1]) (by simp)) (fun hS => ?_)
              clear hK K
              (try simp only [Act.put, List.setIfInBounds_toArray, List.set_cons_zero, List.set_cons_succ])
              refine wpAnyH_done (by kernel_rfl) ?_ _
              clear hS
              go_wp2_with fail
              go_meet
              exact ⟨g8, g9, rfl, rfl, K10.out.b, K10.out.t, fun _ h => absurd h (by simp), fun x hx => K10.out.k x (by simp only [List.mem_cons, List.not_mem_nil, or_false] at hx ⊢; rcases hx with h | h <;> simp [h])⟩
            · go_simp
              obtain ⟨g9, hg9⟩ : ∃ g, w6.heap.size = g := ⟨_, rfl⟩
              obtain ⟨w7, hw7⟩ : ∃ v, w6.alloc (.cells #[.int .u32 0, .string Sz] 24) = v := ⟨_, rfl⟩
              have hbk : Hid (Bk w7 g9 24 (chL 0 Sz)) := Lib.hid (by rw [← hw7, ← hg9]; exact Bk.new w6 _ (chL 0 Sz))
              have hb : Hid (Below w6.heap.size w6 w7) := Lib.hid (by rw [← hw7]; exact bel1 w6 _)
              have GE_g9 : Hid (w.heap.size ≤ g9) := Lib.hid (by rw [← hg9]; exact K6.out.b.size)
              rw [hw7, hg9]
              have LT_g3_g9 : Hid (g3 < g9) := Lib.hid (by rw [← hg9]; exact (K6.out.k (g3, 64, [.int .u8 (d0 : Int), .slice A0 n0 c0, .int .u8 (d1 : Int), .slice A1 n1 c1]) (by simp)).lt)
              have K7 := kp K6 hb
              clear hb K6
              have Kn := kb K7 hbk
              clear hbk K7 hg9 hw7
              have K7 := Kn
              clear Kn
              refine hK.out _ _ (K7.out.k (g3, 64, [.int .u8 (d0 : Int), .slice A0 n0 c0, .int .u8 (d1 : Int), .slice A1 n1 c1]) (by simp)) (fun hS => ?_)
              clear hK K
              (try simp only [Act.put, List.setIfInBounds_toArray, List.set_cons_zero, List.set_cons_succ])
              refine wpAnyH_ready (rs := [6]) (by kernel_rfl) (by simp) ?_
              refine AllReadyH.cons (o := _) rfl (fun K hK => ?_) AllReadyH.nil
              go_simp
              obtain ⟨g8, hg8⟩ : ∃ g, w7.heap.size = g := ⟨_, rfl⟩
              obtain ⟨w8, hw8⟩ : ∃ v, w7.alloc (.cells #[.int .u32 0, .string Sz] 24) = v := ⟨_, rfl⟩
              have hbk : Hid (Bk w8 g8 24 (chL 0 Sz)) := Lib.hid (by rw [← hw8, ← hg8]; exact Bk.new w7 _ (chL 0 Sz))
              have hb : Hid (Below w7.heap.size w7 w8) := Lib.hid (by rw [← hw8]; exact bel1 w7 _)
              have GE_g8 : Hid (w.heap.size ≤ g8) := Lib.hid (by rw [← hg8]; exact K7.out.b.size)
              rw [hw8, hg8]
              have LT_g9_g8 : Hid (g9 < g8) := Lib.hid (by rw [← hg8]; exact (K7.out.k (g9, 24, chL 0 Sz) (by simp)).lt)
              have LT_g3_g8 : Hid (g3 < g8) := Lib.hid (by rw [← hg8]; exact (K7.out.k (g3, 64, [.int .u8 (d0 : Int), .slice A0 n0 c0, .int .u8 (d1 : Int), .slice A1 n1 c1]) (by simp)).lt)
              have K8 := kp K7 hb
              clear hb K7
              have Kn := kb K8 hbk
              clear hbk K8 hg8 hw8
              have K8 := Kn
              clear Kn
              refine hK.out _ _ (K8.out.k (g3, 64, [.int .u8 (d0 : Int), .slice A0 n0 c0, .int .u8 (d1 : Int), .slice A1 n1 c1]) (by simp)) (fun hS => ?_)
              clear hK K
              (try simp only [Act.put, List.setIfInBounds_toArray, List.set_cons_zero, List.set_cons_succ])
              refine wpAnyH_ready (rs := [8]) (by kernel_rfl) (by simp) ?_
              refine AllReadyH.cons (o := _) rfl (fun K hK => ?_) (AllReadyH.nil)
              refine storeG_wp6 (.tmp 8) (.tmp 54) rfl rfl (ds := chL q0 S0') rfl (K8.out.k (g8, 24, chL 0 Sz) (by simp)) infoCh rfl (chL_one _ _) ?_; intro w9 RZ hgz hzz; have KZ0 := Lib.hid (K8.out.put HT0.out GE_g8.out hgz); have KZ1 := kb KZ0 (Lib.hid ((K8.out.k (g3, 64, [.int .u8 (d0 : Int), .slice A0 n0 c0, .int .u8 (d1 : Int), .slice A1 n1 c1]) (by simp)).only hgz (by intro e; injection e with e; have := LT_g3_g8.out; omega))); have KZ2 := kb KZ1 (Lib.hid ((K8.out.k (g9, 24, chL 0 Sz) (by simp)).only hgz (by intro e; injection e with e; have := LT_g9_g8.out; omega))); have KZ3 := kb KZ2 (Lib.hid RZ); have K9 := KZ3; clear hgz hzz RZ K8 KZ0 KZ1 KZ2 KZ3
              refine hK.out _ _ (K9.out.k (g3, 64, [.int .u8 (d0 : Int), .slice A0 n0 c0, .int .u8 (d1 : Int), .slice A1 n1 c1]) (by simp)) (fun hS => ?_)
              clear hK K
              (try simp only [Act.put, List.setIfInBounds_toArray, List.set_cons_zero, List.set_cons_succ])
              refine wpAnyH_ready (rs := [9]) (by kernel_rfl) (by simp) ?_
              refine AllReadyH.cons (o := _) rfl (fun K hK => ?_) (AllReadyH.nil)
              refine storeG_wp6 (.tmp 9) (.tmp 57) rfl rfl (ds := chL q1 S1') rfl (K9.out.k (g9, 24, chL 0 Sz) (by simp)) infoCh rfl (chL_one _ _) ?_; intro w10 RZ hgz hzz; have KZ0 := Lib.hid (K9.out.put HT0.out GE_g9.out hgz); have KZ1 := kb KZ0 (Lib.hid ((K9.out.k (g3, 64, [.int .u8 (d0 : Int), .slice A0 n0 c0, .int .u8 (d1 : Int), .slice A1 n1 c1]) (by simp)).only hgz (by intro e; injection e with e; have := LT_g3_g9.out; omega))); have KZ2 := kb KZ1 (Lib.hid RZ); have KZ3 := kb KZ2 (Lib.hid ((K9.out.k (g8, 24, chL q0 S0') (by simp)).only hgz (by intro e; injection e with e; have := LT_g9_g8.out; omega))); have K10 := KZ3; clear hgz hzz RZ K9 KZ0 KZ1 KZ2 KZ3
              refine hK.out _ _ (K10.out.k (g3, 64, [.int .u8 (d0 : Int), .slice A0 n0 c0, .int .u8 (d1 : Int), .slice A1 n1 c1]) (by simp)) (fun hS => ?_)
              clear hK K
              (try simp only [Act.put, List.setIfInBounds_toArray, List.set_cons_zero, List.set_cons_succ])
              refine wpAnyH_done (by kernel_rfl) ?_ _
              clear hS
              go_wp2_with fail
              go_meet
              exact ⟨g8, g9, rfl, rfl, K10.out.b, K10.out.t, fun _ h => absurd h (by simp), fun x hx => K10.out.k x (by simp only [List.mem_cons, List.not_mem_nil, or_false] at hx ⊢; rcases hx with h | h <;> simp [h])⟩
          · go_simp
            obtain ⟨g8, hg8⟩ : ∃ g, w5.heap.size = g := ⟨_, rfl⟩
            obtain ⟨w6, hw6⟩ : ∃ v, w5.alloc (.cells #[.int .u32 0, .string Sz] 24) = v := ⟨_, rfl⟩
            have hbk : Hid (Bk w6 g8 24 (chL 0 Sz)) := Lib.hid (by rw [← hw6, ← hg8]; exact Bk.new w5 _ (chL 0 Sz))
            have hb : Hid (Below w5.heap.size w5 w6) := Lib.hid (by rw [← hw6]; exact bel1 w5 _)
            have GE_g8 : Hid (w.heap.size ≤ g8) := Lib.hid (by rw [← hg8]; exact K5.out.b.size)
            rw [hw6, hg8]
            have LT_g3_g8 : Hid (g3 < g8) := Lib.hid (by rw [← hg8]; exact (K5.out.k (g3, 64, [.int .u8 (d0 : Int), .slice A0 n0 c0, .int .u8 (d1 : Int), .slice A1 n1 c1]) (by simp)).lt)
            have K6 := kp K5 hb
            clear hb K5
            have Kn := kb K6 hbk
            clear hbk K6 hg8 hw6
            have K6 := Kn
            clear Kn
            refine hK.out _ _ (K6.out.k (g3, 64, [.int .u8 (d0 : Int), .slice A0 n0 c0, .int .u8 (d1 : Int), .slice A1 n1 c1]) (by simp)) (fun hS => ?_)
            clear hK K
            (try simp only [Act.put, List.setIfInBounds_toArray, List.set_cons_zero, List.set_cons_succ])
            refine wpAnyH_ready (rs := [5, 7]) (by kernel_rfl) (by simp) ?_
            refine AllReadyH.cons (o := _) rfl (fun K hK => ?_) (AllReadyH.cons (o := _) rfl (fun K hK => ?_) AllReadyH.nil)
            · go_simp
              refine (cof_at w6 d1 p1 hd1 HP1.out A1 x1 n1 c1 HN1.out HM1.out HX1.out (K6.out.r (A1, cs32 x1) (by simp)) q1 HQ1.out S1' HSS1.out).mono ?_
              rintro e w7 ⟨rfl, hb⟩
              have K7 := kp K6 hb
              clear hb K6
              go_simp
              refine hK.out _ _ (K7.out.k (g3, 64, [.int .u8 (d0 : Int), .slice A0 n0 c0, .int .u8 (d1 : Int), .slice A1 n1 c1]) (by simp)) (fun hS => ?_)
              clear hK K
              (try simp only [Act.put, List.setIfInBounds_toArray, List.set_cons_zero, List.set_cons_succ])
              refine wpAnyH_ready (rs := [7]) (by kernel_rfl) (by simp) ?_
              refine AllReadyH.cons (o := _) rfl (fun K hK => ?_) AllReadyH.nil
              go_simp
              obtain ⟨g9, hg9⟩ : ∃ g, w7.heap.size = g := ⟨_, rfl⟩
              obtain ⟨w8, hw8⟩ : ∃ v, w7.alloc (.cells #[.int .u32 0, .string Sz] 24) = v := ⟨_, rfl⟩
              have hbk : Hid (Bk w8 g9 24 (chL 0 Sz)) := Lib.hid (by rw [← hw8, ← hg9]; exact Bk.new w7 _ (chL 0 Sz))
              have hb : Hid (Below w7.heap.size w7 w8) := Lib.hid (by rw [← hw8]; exact bel1 w7 _)
              have GE_g9 : Hid (w.heap.size ≤ g9) := Lib.hid (by rw [← hg9]; exact K7.out.b.size)
              rw [hw8, hg9]
              have LT_g8_g9 : Hid (g8 < g9) := Lib.hid (by rw [← hg9]; exact (K7.out.k (g8, 24, chL 0 Sz) (by simp)).lt)
              have LT_g3_g9 : Hid (g3 < g9) := Lib.hid (by rw [← hg9]; exact (K7.out.k (g3, 64, [.int .u8 (d0 : Int), .slice A0 n0 c0, .int .u8 (d1 : Int), .slice A1 n1 c1]) (by simp)).lt)
              have K8 := kp K7 hb
              clear hb K7
              have Kn := kb K8 hbk
              clear hbk K8 hg9 hw8
              have K8 := Kn
              clear Kn
              refine hK.out _ _ (K8.out.k (g3, 64, [.int .u8 (d0 : Int), .slice A0 n0 c0, .int .u8 (d1 : Int), .slice A1 n1 c1]) (by simp)) (fun hS => ?_)
              clear hK K
              (try simp only [Act.put, List.setIfInBounds_toArray, List.set_cons_zero, List.set_cons_succ])
              refine wpAnyH_ready (rs := [8]) (by kernel_rfl) (by simp) ?_
              refine AllReadyH.cons (o := _) rfl (fun K hK => ?_) (AllReadyH.nil)
              refine storeG_wp6 (.tmp 8) (.tmp 54) rfl rfl (ds := chL q0 S0') rfl (K8.out.k (g8, 24, chL 0 Sz) (by simp)) infoCh rfl (chL_one _ _) ?_; intro w9 RZ hgz hzz; have KZ0 := Lib.hid (K8.out.put HT0.out GE_g8.out hgz); have KZ1 := kb KZ0 (Lib.hid ((K8.out.k (g3, 64, [.int .u8 (d0 : Int), .slice A0 n0 c0, .int .u8 (d1 : Int), .slice A1 n1 c1]) (by simp)).only hgz (by intro e; injection e with e; have := LT_g3_g8.out; omega))); have KZ2 := kb KZ1 (Lib.hid RZ); have KZ3 := kb KZ2 (Lib.hid ((K8.out.k (g9, 24, chL 0 Sz) (by simp)).only hgz (by intro e; injection e with e; have := LT_g8_g9.out; omega))); have K9 := KZ3; clear hgz hzz RZ K8 KZ0 KZ1 KZ2 KZ3
              refine hK.out _ _ (K9.out.k (g3, 64, [.int .u8 (d0 : Int), .slice A0 n0 c0, .int .u8 (d1 : Int), .slice A1 n1 c1]) (by simp)) (fun hS => ?_)
              clear hK K
              (try simp only [Act.put, List.setIfInBounds_toArray, List.set_cons_zero, List.set_cons_succ])
              refine wpAnyH_ready (rs := [9]) (by kernel_rfl) (by simp) ?_
              refine AllReadyH.cons (o := _) rfl (fun K hK => ?_) (AllReadyH.nil)
              refine storeG_wp6 (.tmp 9) (.tmp 57) rfl rfl (ds := chL q1 S1') rfl (K9.out.k (g9, 24, chL 0 Sz) (by simp)) infoCh rfl (chL_one _ _) ?_; intro w10 RZ hgz hzz; have KZ0 := Lib.hid (K9.out.put HT0.out GE_g9.out hgz); have KZ1 := kb KZ0 (Lib.hid ((K9.out.k (g3, 64, [.int .u8 (d0 : Int), .slice A0 n0 c0, .int .u8 (d1 : Int), .slice A1 n1 c1]) (by simp)).only hgz (by intro e; injection e with e; have := LT_g3_g9.out; omega))); have KZ2 := kb KZ1 (Lib.hid ((K9.out.k (g8, 24, chL q0 S0') (by simp)).only hgz (by intro e; injection e with e; have := LT_g8_g9.out; omega))); have KZ3 := kb KZ2 (Lib.hid RZ); have K10 := KZ3; clear hgz hzz RZ K9 KZ0 KZ1 KZ2 KZ3
              refine hK.out _ _ (K10.out.k (g3, 64, [.int .u8 (d0 : Int), .slice A0 n0 c0, .int .u8 (d1 : Int), .slice A1 n1 c1]) (by simp)) (fun hS => ?_)
              clear hK K
              (try simp only [Act.put, List.setIfInBounds_toArray, List.set_cons_zero, List.set_cons_succ])
              refine wpAnyH_done (by kernel_rfl) ?_ _
              clear hS
              go_wp2_with fail
              go_meet
              exact ⟨g8, g9, rfl, rfl, K10.out.b, K10.out.t, fun _ h => absurd h (by simp), fun x hx => K10.out.k x (by simp only [List.mem_cons, List.not_mem_nil, or_false] at hx ⊢; rcases hx with h | h <;> simp [h])⟩
            · go_simp
              obtain ⟨g9, hg9⟩ : ∃ g, w6.heap.size = g := ⟨_, rfl⟩
              obtain ⟨w7, hw7⟩ : ∃ v, w6.alloc (.cells #[.int .u32 0, .string Sz] 24) = v := ⟨_, rfl⟩
              have hbk : Hid (Bk w7 g9 24 (chL 0 Sz)) := Lib.hid (by rw [← hw7, ← hg9]; exact Bk.new w6 _ (chL 0 Sz))
              have hb : Hid (Below w6.heap.size w6 w7) := Lib.hid (by rw [← hw7]; exact bel1 w6 _)
              have GE_g9 : Hid (w.heap.size ≤ g9) := Lib.hid (by rw [← hg9]; exact K6.out.b.size)
              rw [hw7, hg9]
              have LT_g8_g9 : Hid (g8 < g9) := Lib.hid (by rw [← hg9]; exact (K6.out.k (g8, 24, chL 0 Sz) (by simp)).lt)
              have LT_g3_g9 : Hid (g3 < g9) := Lib.hid (by rw [← hg9]; exact (K6.out.k (g3, 64, [.int .u8 (d0 : Int), .slice A0 n0 c0, .int .u8 (d1 : Int), .slice A1 n1 c1]) (by simp)).lt)
              have K7 := kp K6 hb
              clear hb K6
              have Kn := kb K7 hbk
              clear hbk K7 hg9 hw7
              have K7 := Kn
              clear Kn
              refine hK.out _ _ (K7.out.k (g3, 64, [.int .u8 (d0 : Int), .slice A0 n0 c0, .int .u8 (d1 : Int), .slice A1 n1 c1]) (by simp)) (fun hS => ?_)
              clear hK K
              (try simp only [Act.put, List.setIfInBounds_toArray, List.set_cons_zero, List.set_cons_succ])
              refine wpAnyH_ready (rs := [5]) (by kernel_rfl) (by simp) ?_
              refine AllReadyH.cons (o := _) rfl (fun K hK => ?_) AllReadyH.nil
              go_simp
              refine (cof_at w7 d1 p1 hd1 HP1.out A1 x1 n1 c1 HN1.out HM1.out HX1.out (K7.out.r (A1, cs32 x1) (by simp)) q1 HQ1.out S1' HSS1.out).mono ?_
              rintro e w8 ⟨rfl, hb⟩
              have K8 := kp K7 hb
              clear hb K7
              go_simp
              refine hK.out _ _ (K8.out.k (g3, 64, [.int .u8 (d0 : Int), .slice A0 n0 c0, .int .u8 (d1 : Int), .slice A1 n1 c1]) (by simp)) (fun hS => ?_)
              clear hK K
              (try simp only [Act.put, List.setIfInBounds_toArray, List.set_cons_zero, List.set_cons_succ])
              refine wpAnyH_ready (rs := [8]) (by kernel_rfl) (by simp) ?_
              refine AllReadyH.cons (o := _) rfl (fun K hK => ?_) (AllReadyH.nil)
              refine storeG_wp6 (.tmp 8) (.tmp 54) rfl rfl (ds := chL q0 S0') rfl (K8.out.k (g8, 24, chL 0 Sz) (by simp)) infoCh rfl (chL_one _ _) ?_; intro w9 RZ hgz hzz; have KZ0 := Lib.hid (K8.out.put HT0.out GE_g8.out hgz); have KZ1 := kb KZ0 (Lib.hid ((K8.out.k (g3, 64, [.int .u8 (d0 : Int), .slice A0 n0 c0, .int .u8 (d1 : Int), .slice A1 n1 c1]) (by simp)).only hgz (by intro e; injection e with e; have := LT_g3_g8.out; omega))); have KZ2 := kb KZ1 (Lib.hid RZ); have KZ3 := kb KZ2 (Lib.hid ((K8.out.k (g9, 24, chL 0 Sz) (by simp)).only hgz (by intro e; injection e with e; have := LT_g8_g9.out; omega))); have K9 := KZ3; clear hgz hzz RZ K8 KZ0 KZ1 KZ2 KZ3
              refine hK.out _ _ (K9.out.k (g3, 64, [.int .u8 (d0 : Int), .slice A0 n0 c0, .int .u8 (d1 : Int), .slice A1 n1 c1]) (by simp)) (fun hS => ?_)
              clear hK K
              (try simp only [Act.put, List.setIfInBounds_toArray, List.set_cons_zero, List.set_cons_succ])
              refine wpAnyH_ready (rs := [9]) (by kernel_rfl) (by simp) ?_
              refine AllReadyH.cons (o := _) rfl (fun K hK => ?_) (AllReadyH.nil)
              refine storeG_wp6 (.tmp 9) (.tmp 57) rfl rfl (ds := chL q1 S1') rfl (K9.out.k (g9, 24, chL 0 Sz) (by simp)) infoCh rfl (chL_one _ _) ?_; intro w10 RZ hgz hzz; have KZ0 := Lib.hid (K9.out.put HT0.out GE_g9.out hgz); have KZ1 := kb KZ0 (Lib.hid ((K9.out.k (g3, 64, [.int .u8 (d0 : Int), .slice A0 n0 c0, .int .u8 (d1 : Int), .slice A1 n1 c1]) (by simp)).only hgz (by intro e; injection e with e; have := LT_g3_g9.out; omega))); have KZ2 := kb KZ1 (Lib.hid ((K9.out.k (g8, 24, chL q0 S0') (by simp)).only hgz (by intro e; injection e with e; have := LT_g8_g9.out; omega))); have KZ3 := kb KZ2 (Lib.hid RZ); have K10 := KZ3; clear hgz hzz RZ K9 KZ0 KZ1 KZ2 KZ3
              refine hK.out _ _ (K10.out.k (g3, 64, [.int .u8 (d0 : Int), .slice A0 n0 c0, .int .u8 (d1 : Int), .slice A1 n1 c1]) (by simp)) (fun hS => ?_)
              clear hK K
              (try simp only [Act.put, List.setIfInBounds_toArray, List.set_cons_zero, List.set_cons_succ])
              refine wpAnyH_done (by kernel_rfl) ?_ _
              clear hS
              go_wp2_with fail
              go_meet
              exact ⟨g8, g9, rfl, rfl, K10.out.b, K10.out.t, fun _ h => absurd h (by simp), fun x hx => K10.out.k x (by simp only [List.mem_cons, List.not_mem_nil, or_false] at hx ⊢; rcases hx with h | h <;> simp [h])⟩
          · go_simp
            obtain ⟨g9, hg9⟩ : ∃ g, w5.heap.size = g := ⟨_, rfl⟩
            obtain ⟨w6, hw6⟩ : ∃ v, w5.alloc (.cells #[.int .u32 0, .string Sz] 24) = v := ⟨_, rfl⟩
            have hbk : Hid (Bk w6 g9 24 (chL 0 Sz)) := Lib.hid (by rw [← hw6, ← hg9]; exact Bk.new w5 _ (chL 0 Sz))
            have hb : Hid (Below w5.heap.size w5 w6) := Lib.hid (by rw [← hw6]; exact bel1 w5 _)
            have GE_g9 : Hid (w.heap.size ≤ g9) := Lib.hid (by rw [← hg9]; exact K5.out.b.size)
            rw [hw6, hg9]
            have LT_g3_g9 : Hid (g3 < g9) := Lib.hid (by rw [← hg9]; exact (K5.out.k (g3, 64, [.int .u8 (d0 : Int), .slice A0 n0 c0, .int .u8 (d1 : Int), .slice A1 n1 c1]) (by simp)).lt)
            have K6 := kp K5 hb
            clear hb K5
            have Kn := kb K6 hbk
            clear hbk K6 hg9 hw6
            have K6 := Kn
            clear Kn
            refine hK.out _ _ (K6.out.k (g3, 64, [.int .u8 (d0 : Int), .slice A0 n0 c0, .int .u8 (d1 : Int), .slice A1 n1 c1]) (by simp)) (fun hS => ?_)
            clear hK K
            (try simp only [Act.put, List.setIfInBounds_toArray, List.set_cons_zero, List.set_cons_succ])
            refine wpAnyH_ready (rs := [5, 6]) (by kernel_rfl) (by simp) ?_
            refine AllReadyH.cons (o := _) rfl (fun K hK => ?_) (AllReadyH.cons (o := _) rfl (fun K hK => ?_) AllReadyH.nil)
            · go_simp
              refine (cof_at w6 d1 p1 hd1 HP1.out A1 x1 n1 c1 HN1.out HM1.out HX1.out (K6.out.r (A1, cs32 x1) (by simp)) q1 HQ1.out S1' HSS1.out).mono ?_
              rintro e w7 ⟨rfl, hb⟩
              have K7 := kp K6 hb
              clear hb K6
              go_simp
              refine hK.out _ _ (K7.out.k (g3, 64, [.int .u8 (d0 : Int), .slice A0 n0 c0, .int .u8 (d1 : Int), .slice A1 n1 c1]) (by simp)) (fun hS => ?_)
              clear hK K
              (try simp only [Act.put, List.setIfInBounds_toArray, List.set_cons_zero, List.set_cons_succ])
              refine wpAnyH_ready (rs := [6]) (by kernel_rfl) (by simp) ?_
              refine AllReadyH.cons (o := _) rfl (fun K hK => ?_) AllReadyH.nil
              go_simp
              obtain ⟨g8, hg8⟩ : ∃ g, w7.heap.size = g := ⟨_, rfl⟩
              obtain ⟨w8, hw8⟩ : ∃ v, w7.alloc (.cells #[.int .u32 0, .string Sz] 24) = v := ⟨_, rfl⟩
              have hbk : Hid (Bk w8 g8 24 (chL 0 Sz)) := Lib.hid (by rw [← hw8, ← hg8]; exact Bk.new w7 _ (chL 0 Sz))
              have hb : Hid (Below w7.heap.size w7 w8) := Lib.hid (by rw [← hw8]; exact bel1 w7 _)
              have GE_g8 : Hid (w.heap.size ≤ g8) := Lib.hid (by rw [← hg8]; exact K7.out.b.size)
              rw [hw8, hg8]
              have LT_g9_g8 : Hid (g9 < g8) := Lib.hid (by rw [← hg8]; exact (K7.out.k (g9, 24, chL 0 Sz) (by simp)).lt)
              have LT_g3_g8 : Hid (g3 < g8) := Lib.hid (by rw [← hg8]; exact (K7.out.k (g3, 64, [.int .u8 (d0 : Int), .slice A0 n0 c0, .int .u8 (d1 : Int), .slice A1 n1 c1]) (by simp)).lt)
              have K8 := kp K7 hb
              clear hb K7
              have Kn := kb K8 hbk
              clear hbk K8 hg8 hw8
              have K8 := Kn
              clear Kn
              refine hK.out _ _ (K8.out.k (g3, 64, [.int .u8 (d0 : Int), .slice A0 n0 c0, .int .u8 (d1 : Int), .slice A1 n1 c1]) (by simp)) (fun hS => ?_)
              clear hK K
              (try simp only [Act.put, List.setIfInBounds_toArray, List.set_cons_zero, List.set_cons_succ])
              refine wpAnyH_ready (rs := [8]) (by kernel_rfl) (by simp) ?_
              refine AllReadyH.cons (o := _) rfl (fun K hK => ?_) (AllReadyH.nil)
              refine storeG_wp6 (.tmp 8) (.tmp 54) rfl rfl (ds := chL q0 S0') rfl (K8.out.k (g8, 24, chL 0 Sz) (by simp)) infoCh rfl (chL_one _ _) ?_; intro w9 RZ hgz hzz; have KZ0 := Lib.hid (K8.out.put HT0.out GE_g8.out hgz); have KZ1 := kb KZ0 (Lib.hid ((K8.out.k (g3, 64, [.int .u8 (d0 : Int), .slice A0 n0 c0, .int .u8 (d1 : Int), .slice A1 n1 c1]) (by simp)).only hgz (by intro e; injection e with e; have := LT_g3_g8.out; omega))); have KZ2 := kb KZ1 (Lib.hid ((K8.out.k (g9, 24, chL 0 Sz) (by simp)).only hgz (by intro e; injection e with e; have := LT_g9_g8.out; omega))); have KZ3 := kb KZ2 (Lib.hid RZ); have K9 := KZ3; clear hgz hzz RZ K8 KZ0 KZ1 KZ2 KZ3
              refine hK.out _ _ (K9.out.k (g3, 64, [.int .u8 (d0 : Int), .slice A0 n0 c0, .int .u8 (d1 : Int), .slice A1 n1 c1]) (by simp)) (fun hS => ?_)
              clear hK K
              (try simp only [Act.put, List.setIfInBounds_toArray, List.set_cons_zero, List.set_cons_succ])
              refine wpAnyH_ready (rs := [9]) (by kernel_rfl) (by simp) ?_
              refine AllReadyH.cons (o := _) rfl (fun K hK => ?_) (AllReadyH.nil)
              refine storeG_wp6 (.tmp 9) (.tmp 57) rfl rfl (ds := chL q1 S1') rfl (K9.out.k (g9, 24, chL 0 Sz) (by simp)) infoCh rfl (chL_one _ _) ?_; intro w10 RZ hgz hzz; have KZ0 := Lib.hid (K9.out.put HT0.out GE_g9.out hgz); have KZ1 := kb KZ0 (Lib.hid ((K9.out.k (g3, 64, [.int .u8 (d0 : Int), .slice A0 n0 c0, .int .u8 (d1 : Int), .slice A1 n1 c1]) (by simp)).only hgz (by intro e; injection e with e; have := LT_g3_g9.out; omega))); have KZ2 := kb KZ1 (Lib.hid RZ); have KZ3 := kb KZ2 (Lib.hid ((K9.out.k (g8, 24, chL q0 S0') (by simp)).only hgz (by intro e; injection e with e; have := LT_g9_g8.out; omega))); have K10 := KZ3; clear hgz hzz RZ K9 KZ0 KZ1 KZ2 KZ3
              refine hK.out _ _ (K10.out.k (g3, 64, [.int .u8 (d0 : Int), .slice A0 n0 c0, .int .u8 (d1 : Int), .slice A1 n1 c1]) (by simp)) (fun hS => ?_)
              clear hK K
              (try simp only [Act.put, List.setIfInBounds_toArray, List.set_cons_zero, List.set_cons_succ])
              refine wpAnyH_done (by kernel_rfl) ?_ _
              clear hS
              go_wp2_with fail
              go_meet
              exact ⟨g8, g9, rfl, rfl, K10.out.b, K10.out.t, fun _ h => absurd h (by simp), fun x hx => K10.out.k x (by simp only [List.mem_cons, List.not_mem_nil, or_false] at hx ⊢; rcases hx with h | h <;> simp [h])⟩
            · go_simp
              obtain ⟨g8, hg8⟩ : ∃ g, w6.heap.size = g := ⟨_, rfl⟩
              obtain ⟨w7, hw7⟩ : ∃ v, w6.alloc (.cells #[.int .u32 0, .string Sz] 24) = v := ⟨_, rfl⟩
              have hbk : Hid (Bk w7 g8 24 (chL 0 Sz)) := Lib.hid (by rw [← hw7, ← hg8]; exact Bk.new w6 _ (chL 0 Sz))
              have hb : Hid (Below w6.heap.size w6 w7) := Lib.hid (by rw [← hw7]; exact bel1 w6 _)
              have GE_g8 : Hid (w.heap.size ≤ g8) := Lib.hid (by rw [← hg8]; exact K6.out.b.size)
              rw [hw7, hg8]
              have LT_g9_g8 : Hid (g9 < g8) := Lib.hid (by rw [← hg8]; exact (K6.out.k (g9, 24, chL 0 Sz) (by simp)).lt)
              have LT_g3_g8 : Hid (g3 < g8) := Lib.hid (by rw [← hg8]; exact (K6.out.k (g3, 64, [.int .u8 (d0 : Int), .slice A0 n0 c0, .int .u8 (d1 : Int), .slice A1 n1 c1]) (by simp)).lt)
              have K7 := kp K6 hb
              clear hb K6
              have Kn := kb K7 hbk
              clear hbk K7 hg8 hw7
              have K7 := Kn
              clear Kn
              refine hK.out _ _ (K7.out.k (g3, 64, [.int .u8 (d0 : Int), .slice A0 n0 c0, .int .u8 (d1 : Int), .slice A1 n1 c1]) (by simp)) (fun hS => ?_)
              clear hK K
              (try simp only [Act.put, List.setIfInBounds_toArray, List.set_cons_zero, List.set_cons_succ])
              refine wpAnyH_ready (rs := [5]) (by kernel_rfl) (by simp) ?_
              refine AllReadyH.cons (o := _) rfl (fun K hK => ?_) AllReadyH.nil
              go_simp
              refine (cof_at w7 d1 p1 hd1 HP1.out A1 x1 n1 c1 HN1.out HM1.out HX1.out (K7.out.r (A1, cs32 x1) (by simp)) q1 HQ1.out S1' HSS1.out).mono ?_
              rintro e w8 ⟨rfl, hb⟩
              have K8 := kp K7 hb
              clear hb K7
              go_simp
              refine hK.out _ _ (K8.out.k (g3, 64, [.int .u8 (d0 : Int), .slice A0 n0 c0, .int .u8 (d1 : Int), .slice A1 n1 c1]) (by simp)) (fun hS => ?_)
              clear hK K
              (try simp only [Act.put, List.setIfInBounds_toArray, List.set_cons_zero, List.set_cons_succ])
              refine wpAnyH_ready (rs := [8]) (by kernel_rfl) (by simp) ?_
              refine AllReadyH.cons (o := _) rfl (fun K hK => ?_) (AllReadyH.nil)
              refine storeG_wp6 (.tmp 8) (.tmp 54) rfl rfl (ds := chL q0 S0') rfl (K8.out.k (g8, 24, chL 0 Sz) (by simp)) infoCh rfl (chL_one _ _) ?_; intro w9 RZ hgz hzz; have KZ0 := Lib.hid (K8.out.put HT0.out GE_g8.out hgz); have KZ1 := kb KZ0 (Lib.hid ((K8.out.k (g3, 64, [.int .u8 (d0 : Int), .slice A0 n0 c0, .int .u8 (d1 : Int), .slice A1 n1 c1]) (by simp)).only hgz (by intro e; injection e with e; have := LT_g3_g8.out; omega))); have KZ2 := kb KZ1 (Lib.hid ((K8.out.k (g9, 24, chL 0 Sz) (by simp)).only hgz (by intro e; injection e with e; have := LT_g9_g8.out; omega))); have KZ3 := kb KZ2 (Lib.hid RZ); have K9 := KZ3; clear hgz hzz RZ K8 KZ0 KZ1 KZ2 KZ3
              refine hK.out _ _ (K9.out.k (g3, 64, [.int .u8 (d0 : Int), .slice A0 n0 c0, .int .u8 (d1 : Int), .slice A1 n1 c1]) (by simp)) (fun hS => ?_)
              clear hK K
              (try simp only [Act.put, List.setIfInBounds_toArray, List.set_cons_zero, List.set_cons_succ])
              refine wpAnyH_ready (rs := [9]) (by kernel_rfl) (by simp) ?_
              refine AllReadyH.cons (o := _) rfl (fun K hK => ?_) (AllReadyH.nil)
              refine storeG_wp6 (.tmp 9) (.tmp 57) rfl rfl (ds := chL q1 S1') rfl (K9.out.k (g9, 24, chL 0 Sz) (by simp)) infoCh rfl (chL_one _ _) ?_; intro w10 RZ hgz hzz; have KZ0 := Lib.hid (K9.out.put HT0.out GE_g9.out hgz); have KZ1 := kb KZ0 (Lib.hid ((K9.out.k (g3, 64, [.int .u8 (d0 : Int), .slice A0 n0 c0, .int .u8 (d1 : Int), .slice A1 n1 c1]) (by simp)).only hgz (by intro e; injection e with e; have := LT_g3_g9.out; omega))); have KZ2 := kb KZ1 (Lib.hid RZ); have KZ3 := kb KZ2 (Lib.hid ((K9.out.k (g8, 24, chL q0 S0') (by simp)).only hgz (by intro e; injection e with e; have := LT_g9_g8.out; omega))); have K10 := KZ3; clear hgz hzz RZ K9 KZ0 KZ1 KZ2 KZ3
              refine hK.out _ _ (K10.out.k (g3, 64, [.int .u8 (d0 : Int), .slice A0 n0 c0, .int .u8 (d1 : Int), .slice A1 n1 c1]) (by simp)) (fun hS => ?_)
              clear hK K
              (try simp only [Act.put, List.setIfInBounds_toArray, List.set_cons_zero, List.set_cons_succ])
              refine wpAnyH_done (by kernel_rfl) ?_ _
              clear hS
              go_wp2_with fail
              go_meet
              exact ⟨g8, g9, rfl, rfl, K10.out.b, K10.out.t, fun _ h => absurd h (by simp), fun x hx => K10.out.k x (by simp only [List.mem_cons, List.not_mem_nil, or_false] at hx ⊢; rcases hx with h | h <;> simp [h])⟩
        · go_simp
          obtain ⟨g8, hg8⟩ : ∃ g, w4.heap.size = g := ⟨_, rfl⟩
          obtain ⟨w5, hw5⟩ : ∃ v, w4.alloc (.cells #[.int .u32 0, .string Sz] 24) = v := ⟨_, rfl⟩
          have hbk : Hid (Bk w5 g8 24 (chL 0 Sz)) := Lib.hid (by rw [← hw5, ← hg8]; exact Bk.new w4 _ (chL 0 Sz))
          have hb : Hid (Below w4.heap.size w4 w5) := Lib.hid (by rw [← hw5]; exact bel1 w4 _)
          have GE_g8 : Hid (w.heap.size ≤ g8) := Lib.hid (by rw [← hg8]; exact K4.out.b.size)
          rw [hw5, hg8]
          have LT_g3_g8 : Hid (g3 < g8) := Lib.hid (by rw [← hg8]; exact (K4.out.k (g3, 64, [.int .u8 (d0 : Int), .slice A0 n0 c0, .int .u8 (d1 : Int), .slice A1 n1 c1]) (by simp)).lt)
          have K5 := kp K4 hb
          clear hb K4
          have Kn := kb K5 hbk
          clear hbk K5 hg8 hw5
          have K5 := Kn
          clear Kn
          refine hK.out _ _ (K5.out.k (g3, 64, [.int .u8 (d0 : Int), .slice A0 n0 c0, .int .u8 (d1 : Int), .slice A1 n1 c1]) (by simp)) (fun hS => ?_)
          clear hK K
          (try simp only [Act.put, List.setIfInBounds_toArray, List.set_cons_zero, List.set_cons_succ])
          refine wpAnyH_ready (rs := [2, 7]) (by kernel_rfl) (by simp) ?_
          refine AllReadyH.cons (o := _) rfl (fun K hK => ?_) (AllReadyH.cons (o := _) rfl (fun K hK => ?_) AllReadyH.nil)
          · go_simp
            refine (cof_at w5 d0 p0 hd0 HP0.out A0 x0 n0 c0 HN0.out HM0.out HX0.out (K5.out.r (A0, cs32 x0) (by simp)) q0 HQ0.out S0' HSS0.out).mono ?_
            rintro e w6 ⟨rfl, hb⟩
            have K6 := kp K5 hb
            clear hb K5
            go_simp
            refine hK.out _ _ (K6.out.k (g3, 64, [.int .u8 (d0 : Int), .slice A0 n0 c0, .int .u8 (d1 : Int), .slice A1 n1 c1]) (by simp)) (fun hS => ?_)
            clear hK K
            (try simp only [Act.put, List.setIfInBounds_toArray, List.set_cons_zero, List.set_cons_succ])
            refine wpAnyH_ready (rs := [5, 7]) (by kernel_rfl) (by simp) ?_
            refine AllReadyH.cons (o := _) rfl (fun K hK => ?_) (AllReadyH.cons (o := _) rfl (fun K hK => ?_) AllReadyH.nil)
            · go_simp
              refine (cof_at w6 d1 p1 hd1 HP1.out A1 x1 n1 c1 HN1.out HM1.out HX1.out (K6.out.r (A1, cs32 x1) (by simp)) q1 HQ1.out S1' HSS1.out).mono ?_
              rintro e w7 ⟨rfl, hb⟩
              have K7 := kp K6 hb
              clear hb K6
              go_simp
              refine hK.out _ _ (K7.out.k (g3, 64, [.int .u8 (d0 : Int), .slice A0 n0 c0, .int .u8 (d1 : Int), .slice A1 n1 c1]) (by simp)) (fun hS => ?_)
              clear hK K
              (try simp only [Act.put, List.setIfInBounds_toArray, List.set_cons_zero, List.set_cons_succ])
              refine wpAnyH_ready (rs := [7]) (by kernel_rfl) (by simp) ?_
              refine AllReadyH.cons (o := _) rfl (fun K hK => ?_) AllReadyH.nil
              go_simp
              obtain ⟨g9, hg9⟩ : ∃ g, w7.heap.size = g := ⟨_, rfl⟩
              obtain ⟨w8, hw8⟩ : ∃ v, w7.alloc (.cells #[.int .u32 0, .string Sz] 24) = v := ⟨_, rfl⟩
              have hbk : Hid (Bk w8 g9 24 (chL 0 Sz)) := Lib.hid (by rw [← hw8, ← hg9]; exact Bk.new w7 _ (chL 0 Sz))
              have hb : Hid (Below w7.heap.size w7 w8) := Lib.hid (by rw [← hw8]; exact bel1 w7 _)
              have GE_g9 : Hid (w.heap.size ≤ g9) := Lib.hid (by rw [← hg9]; exact K7.out.b.size)
              rw [hw8, hg9]
              have LT_g8_g9 : Hid (g8 < g9) := Lib.hid (by rw [← hg9]; exact (K7.out.k (g8, 24, chL 0 Sz) (by simp)).lt)
              have LT_g3_g9 : Hid (g3 < g9) := Lib.hid (by rw [← hg9]; exact (K7.out.k (g3, 64, [.int .u8 (d0 : Int), .slice A0 n0 c0, .int .u8 (d1 : Int), .slice A1 n1 c1]) (by simp)).lt)
              have K8 := kp K7 hb
              clear hb K7
              have Kn := kb K8 hbk
              clear hbk K8 hg9 hw8
              have K8 := Kn
              clear Kn
              refine hK.out _ _ (K8.out.k (g3, 64, [.int .u8 (d0 : Int), .slice A0 n0 c0, .int .u8 (d1 : Int), .slice A1 n1 c1]) (by simp)) (fun hS => ?_)
              clear hK K
              (try simp only [Act.put, List.setIfInBounds_toArray, List.set_cons_zero, List.set_cons_succ])
              refine wpAnyH_ready (rs := [8]) (by kernel_rfl) (by simp) ?_
              refine AllReadyH.cons (o := _) rfl (fun K hK => ?_) (AllReadyH.nil)
              refine storeG_wp6 (.tmp 8) (.tmp 54) rfl rfl (ds := chL q0 S0') rfl (K8.out.k (g8, 24, chL 0 Sz) (by simp)) infoCh rfl (chL_one _ _) ?_; intro w9 RZ hgz hzz; have KZ0 := Lib.hid (K8.out.put HT0.out GE_g8.out hgz); have KZ1 := kb KZ0 (Lib.hid ((K8.out.k (g3, 64, [.int .u8 (d0 : Int), .slice A0 n0 c0, .int .u8 (d1 : Int), .slice A1 n1 c1]) (by simp)).only hgz (by intro e; injection e with e; have := LT_g3_g8.out; omega))); have KZ2 := kb KZ1 (Lib.hid RZ); have KZ3 := kb KZ2 (Lib.hid ((K8.out.k (g9, 24, chL 0 Sz) (by simp)).only hgz (by intro e; injection e with e; have := LT_g8_g9.out; omega))); have K9 := KZ3; clear hgz hzz RZ K8 KZ0 KZ1 KZ2 KZ3
              refine hK.out _ _ (K9.out.k (g3, 64, [.int .u8 (d0 : Int), .slice A0 n0 c0, .int .u8 (d1 : Int), .slice A1 n1 c1]) (by simp)) (fun hS => ?_)
              clear hK K
              (try simp only [Act.put, List.setIfInBounds_toArray, List.set_cons_zero, List.set_cons_succ])
              refine wpAnyH_ready (rs := [9]) (by kernel_rfl) (by simp) ?_
              refine AllReadyH.cons (o := _) rfl (fun K hK => ?_) (AllReadyH.nil)
              refine storeG_wp6 (.tmp 9) (.tmp 57) rfl rfl (ds := chL q1 S1') rfl (K9.out.k (g9, 24, chL 0 Sz) (by simp)) infoCh rfl (chL_one _ _) ?_; intro w10 RZ hgz hzz; have KZ0 := Lib.hid (K9.out.put HT0.out GE_g9.out hgz); have KZ1 := kb KZ0 (Lib.hid ((K9.out.k (g3, 64, [.int .u8 (d0 : Int), .slice A0 n0 c0, .int .u8 (d1 : Int), .slice A1 n1 c1]) (by simp)).only hgz (by intro e; injection e with e; have := LT_g3_g9.out; omega))); have KZ2 := kb KZ1 (Lib.hid ((K9.out.k (g8, 24, chL q0 S0') (by simp)).only hgz (by intro e; injection e with e; have := LT_g8_g9.out; omega))); have KZ3 := kb KZ2 (Lib.hid RZ); have K10 := KZ3; clear hgz hzz RZ K9 KZ0 KZ1 KZ2 KZ3
              refine hK.out _ _ (K10.out.k (g3, 64, [.int .u8 (d0 : Int), .slice A0 n0 c0, .int .u8 (d1 : Int), .slice A1 n1 c1]) (by simp)) (fun hS => ?_)
              clear hK K
              (try simp only [Act.put, List.setIfInBounds_toArray, List.set_cons_zero, List.set_cons_succ])
              refine wpAnyH_done (by kernel_rfl) ?_ _
              clear hS
              go_wp2_with fail
              go_meet
              exact ⟨g8, g9, rfl, rfl, K10.out.b, K10.out.t, fun _ h => absurd h (by simp), fun x hx => K10.out.k x (by simp only [List.mem_cons, List.not_mem_nil, or_false] at hx ⊢; rcases hx with h | h <;> simp [h])⟩
            · go_simp
              obtain ⟨g9, hg9⟩ : ∃ g, w6.heap.size = g := ⟨_, rfl⟩
              obtain ⟨w7, hw7⟩ : ∃ v, w6.alloc (.cells #[.int .u32 0, .string Sz] 24) = v := ⟨_, rfl⟩
              have hbk : Hid (Bk w7 g9 24 (chL 0 Sz)) := Lib.hid (by rw [← hw7, ← hg9]; exact Bk.new w6 _ (chL 0 Sz))
              have hb : Hid (Below w6.heap.size w6 w7) := Lib.hid (by rw [← hw7]; exact bel1 w6 _)
              have GE_g9 : Hid (w.heap.size ≤ g9) := Lib.hid (by rw [← hg9]; exact K6.out.b.size)
              rw [hw7, hg9]
              have LT_g8_g9 : Hid (g8 < g9) := Lib.hid (by rw [← hg9]; exact (K6.out.k (g8, 24, chL 0 Sz) (by simp)).lt)
              have LT_g3_g9 : Hid (g3 < g9) := Lib.hid (by rw [← hg9]; exact (K6.out.k (g3, 64, [.int .u8 (d0 : Int), .slice A0 n0 c0, .int .u8 (d1 : Int), .slice A1 n1 c1]) (by simp)).lt)
              have K7 := kp K6 hb
              clear hb K6
              have Kn := kb K7 hbk
              clear hbk K7 hg9 hw7
              have K7 := Kn
              clear Kn
              refine hK.out _ _ (K7.out.k (g3, 64, [.int .u8 (d0 : Int), .slice A0 n0 c0, .int .u8 (d1 : Int), .slice A1 n1 c1]) (by simp)) (fun hS => ?_)
              clear hK K
              (try simp only [Act.put, List.setIfInBounds_toArray, List.set_cons_zero, List.set_cons_succ])
              refine wpAnyH_ready (rs := [5]) (by kernel_rfl) (by simp) ?_
              refine AllReadyH.cons (o := _) rfl (fun K hK => ?_) AllReadyH.nil
              go_simp
              refine (cof_at w7 d1 p1 hd1 HP1.out A1 x1 n1 c1 HN1.out HM1.out HX1.out (K7.out.r (A1, cs32 x1) (by simp)) q1 HQ1.out S1' HSS1.out).mono ?_
              rintro e w8 ⟨rfl, hb⟩
              have K8 := kp K7 hb
              clear hb K7
              go_simp
              refine hK.out _ _ (K8.out.k (g3, 64, [.int .u8 (d0 : Int), .slice A0 n0 c0, .int .u8 (d1 : Int), .slice A1 n1 c1]) (by simp)) (fun hS => ?_)
              clear hK K
              (try simp only [Act.put, List.setIfInBounds_toArray, List.set_cons_zero, List.set_cons_succ])
              refine wpAnyH_ready (rs := [8]) (by kernel_rfl) (by simp) ?_
              refine AllReadyH.cons (o := _) rfl (fun K hK => ?_) (AllReadyH.nil)
              refine storeG_wp6 (.tmp 8) (.tmp 54) rfl rfl (ds := chL q0 S0') rfl (K8.out.k (g8, 24, chL 0 Sz) (by simp)) infoCh rfl (chL_one _ _) ?_; intro w9 RZ hgz hzz; have KZ0 := Lib.hid (K8.out.put HT0.out GE_g8.out hgz); have KZ1 := kb KZ0 (Lib.hid ((K8.out.k (g3, 64, [.int .u8 (d0 : Int), .slice A0 n0 c0, .int .u8 (d1 : Int), .slice A1 n1 c1]) (by simp)).only hgz (by intro e; injection e with e; have := LT_g3_g8.out; omega))); have KZ2 := kb KZ1 (Lib.hid RZ); have KZ3 := kb KZ2 (Lib.hid ((K8.out.k (g9, 24, chL 0 Sz) (by simp)).only hgz (by intro e; injection e with e; have := LT_g8_g9.out; omega))); have K9 := KZ3; clear hgz hzz RZ K8 KZ0 KZ1 KZ2 KZ3
              refine hK.out _ _ (K9.out.k (g3, 64, [.int .u8 (d0 : Int), .slice A0 n0 c0, .int .u8 (d1 : Int), .slice A1 n1 c1]) (by simp)) (fun hS => ?_)
              clear hK K
              (try simp only [Act.put, List.setIfInBounds_toArray, List.set_cons_zero, List.set_cons_succ])
              refine wpAnyH_ready (rs := [9]) (by kernel_rfl) (by simp) ?_
              refine AllReadyH.cons (o := _) rfl (fun K hK => ?_) (AllReadyH.nil)
              refine storeG_wp6 (.tmp 9) (.tmp 57) rfl rfl (ds := chL q1 S1') rfl (K9.out.k (g9, 24, chL 0 Sz) (by simp)) infoCh rfl (chL_one _ _) ?_; intro w10 RZ hgz hzz; have KZ0 := Lib.hid (K9.out.put HT0.out GE_g9.out hgz); have KZ1 := kb KZ0 (Lib.hid ((K9.out.k (g3, 64, [.int .u8 (d0 : Int), .slice A0 n0 c0, .int .u8 (d1 : Int), .slice A1 n1 c1]) (by simp)).only hgz (by intro e; injection e with e; have := LT_g3_g9.out; omega))); have KZ2 := kb KZ1 (Lib.hid ((K9.out.k (g8, 24, chL q0 S0') (by simp)).only hgz (by intro e; injection e with e; have := LT_g8_g9.out; omega))); have KZ3 := kb KZ2 (Lib.hid RZ); have K10 := KZ3; clear hgz hzz RZ K9 KZ0 KZ1 KZ2 KZ3
              refine hK.out _ _ (K10.out.k (g3, 64, [.int .u8 (d0 : Int), .slice A0 n0 c0, .int .u8 (d1 : Int), .slice A1 n1 c1]) (by simp)) (fun hS => ?_)
              clear hK K
              (try simp only [Act.put, List.setIfInBounds_toArray, List.set_cons_zero, List.set_cons_succ])
              refine wpAnyH_done (by kernel_rfl) ?_ _
              clear hS
              go_wp2_with fail
              go_meet
              exact ⟨g8, g9, rfl, rfl, K10.out.b, K10.out.t, fun _ h => absurd h (by simp), fun x hx => K10.out.k x (by simp only [List.mem_cons, List.not_mem_nil, or_false] at hx ⊢; rcases hx with h | h <;> simp [h])⟩
          · go_simp
            obtain ⟨g9, hg9⟩ : ∃ g, w5.heap.size = g := ⟨_, rfl⟩
            obtain ⟨w6, hw6⟩ : ∃ v, w5.alloc (.cells #[.int .u32 0, .string Sz] 24) = v := ⟨_, rfl⟩
            have hbk : Hid (Bk w6 g9 24 (chL 0 Sz)) := Lib.hid (by rw [← hw6, ← hg9]; exact Bk.new w5 _ (chL 0 Sz))
            have hb : Hid (Below w5.heap.size w5 w6) := Lib.hid (by rw [← hw6]; exact bel1 w5 _)
            have GE_g9 : Hid (w.heap.size ≤ g9) := Lib.hid (by rw [← hg9]; exact K5.out.b.size)
            rw [hw6, hg9]
            have LT_g8_g9 : Hid (g8 < g9) := Lib.hid (by rw [← hg9]; exact (K5.out.k (g8, 24, chL 0 Sz) (by simp)).lt)
            have LT_g3_g9 : Hid (g3 < g9) := Lib.hid (by rw [← hg9]; exact (K5.out.k (g3, 64, [.int .u8 (d0 : Int), .slice A0 n0 c0, .int .u8 (d1 : Int), .slice A1 n1 c1]) (by simp)).lt)
            have K6 := kp K5 hb
            clear hb K5
            have Kn := kb K6 hbk
            clear hbk K6 hg9 hw6
            have K6 := Kn
            clear Kn
            refine hK.out _ _ (K6.out.k (g3, 64, [.int .u8 (d0 : Int), .slice A0 n0 c0, .int .u8 (d1 : Int), .slice A1 n1 c1]) (by simp)) (fun hS => ?_)
            clear hK K
            (try simp only [Act.put, List.setIfInBounds_toArray, List.set_cons_zero, List.set_cons_succ])
            refine wpAnyH_ready (rs := [2]) (by kernel_rfl) (by simp) ?_
            refine AllReadyH.cons (o := _) rfl (fun K hK => ?_) AllReadyH.nil
            go_simp
            refine (cof_at w6 d0 p0 hd0 HP0.out A0 x0 n0 c0 HN0.out HM0.out HX0.out (K6.out.r (A0, cs32 x0) (by simp)) q0 HQ0.out S0' HSS0.out).mono ?_
            rintro e w7 ⟨rfl, hb⟩
            have K7 := kp K6 hb
            clear hb K6
            go_simp
            refine hK.out _ _ (K7.out.k (g3, 64, [.int .u8 (d0 : Int), .slice A0 n0 c0, .int .u8 (d1 : Int), .slice A1 n1 c1]) (by simp)) (fun hS => ?_)
            clear hK K
            (try simp only [Act.put, List.setIfInBounds_toArray, List.set_cons_zero, List.set_cons_succ])
            refine wpAnyH_ready (rs := [5]) (by kernel_rfl) (by simp) ?_
            refine AllReadyH.cons (o := _) rfl (fun K hK => ?_) AllReadyH.nil
            go_simp
            refine (cof_at w7 d1 p1 hd1 HP1.out A1 x1 n1 c1 HN1.out HM1.out HX1.out (K7.out.r (A1, cs32 x1) (by simp)) q1 HQ1.out S1' HSS1.out).mono ?_
            rintro e w8 ⟨rfl, hb⟩
            have K8 := kp K7 hb
            clear hb K7
            go_simp
            refine hK.out _ _ (K8.out.k (g3, 64, [.int .u8 (d0 : Int), .slice A0 n0 c0, .int .u8 (d1 : Int), .slice A1 n1 c1]) (by simp)) (fun hS => ?_)
            clear hK K
            (try simp only [Act.put, List.setIfInBounds_toArray, List.set_cons_zero, List.set_cons_succ])
            refine wpAnyH_ready (rs := [8]) (by kernel_rfl) (by simp) ?_
            refine AllReadyH.cons (o := _) rfl (fun K hK => ?_) (AllReadyH.nil)
            refine storeG_wp6 (.tmp 8) (.tmp 54) rfl rfl (ds := chL q0 S0') rfl (K8.out.k (g8, 24, chL 0 Sz) (by simp)) infoCh rfl (chL_one _ _) ?_; intro w9 RZ hgz hzz; have KZ0 := Lib.hid (K8.out.put HT0.out GE_g8.out hgz); have KZ1 := kb KZ0 (Lib.hid ((K8.out.k (g3, 64, [.int .u8 (d0 : Int), .slice A0 n0 c0, .int .u8 (d1 : Int), .slice A1 n1 c1]) (by simp)).only hgz (by intro e; injection e with e; have := LT_g3_g8.out; omega))); have KZ2 := kb KZ1 (Lib.hid RZ); have KZ3 := kb KZ2 (Lib.hid ((K8.out.k (g9, 24, chL 0 Sz) (by simp)).only hgz (by intro e; injection e with e; have := LT_g8_g9.out; omega))); have K9 := KZ3; clear hgz hzz RZ K8 KZ0 KZ1 KZ2 KZ3
            refine hK.out _ _ (K9.out.k (g3, 64, [.int .u8 (d0 : Int), .slice A0 n0 c0, .int .u8 (d1 : Int), .slice A1 n1 c1]) (by simp)) (fun hS => ?_)
            clear hK K
            (try simp only [Act.put, List.setIfInBounds_toArray, List.set_cons_zero, List.set_cons_succ])
            refine wpAnyH_ready (rs := [9]) (by kernel_rfl) (by simp) ?_
            refine AllReadyH.cons (o := _) rfl (fun K hK => ?_) (AllReadyH.nil)
            refine storeG_wp6 (.tmp 9) (.tmp 57) rfl rfl (ds := chL q1 S1') rfl (K9.out.k (g9, 24, chL 0 Sz) (by simp)) infoCh rfl (chL_one _ _) ?_; intro w10 RZ hgz hzz; have KZ0 := Lib.hid (K9.out.put HT0.out GE_g9.out hgz); have KZ1 := kb KZ0 (Lib.hid ((K9.out.k (g3, 64, [.int .u8 (d0 : Int), .slice A0 n0 c0, .int .u8 (d1 : Int), .slice A1 n1 c1]) (by simp)).only hgz (by intro e; injection e with e; have := LT_g3_g9.out; omega))); have KZ2 := kb KZ1 (Lib.hid ((K9.out.k (g8, 24, chL q0 S0') (by simp)).only hgz (by intro e; injection e with e; have := LT_g8_g9.out; omega))); have KZ3 := kb KZ2 (Lib.hid RZ); have K10 := KZ3; clear hgz hzz RZ K9 KZ0 KZ1 KZ2 KZ3
            refine hK.out _ _ (K10.out.k (g3, 64, [.int .u8 (d0 : Int), .slice A0 n0 c0, .int .u8 (d1 : Int), .slice A1 n1 c1]) (by simp)) (fun hS => ?_)
            clear hK K
            (try simp only [Act.put, List.setIfInBounds_toArray, List.set_cons_zero, List.set_cons_succ])
            refine wpAnyH_done (by kernel_rfl) ?_ _
            clear hS
            go_wp2_with fail
            go_meet
            exact ⟨g8, g9, rfl, rfl, K10.out.b, K10.out.t, fun _ h => absurd h (by simp), fun x hx => K10.out.k x (by simp only [List.mem_cons, List.not_mem_nil, or_false] at hx ⊢; rcases hx with h | h <;> simp [h])⟩
        · go_simp
          obtain ⟨g9, hg9⟩ : ∃ g, w4.heap.size = g := ⟨_, rfl⟩
          obtain ⟨w5, hw5⟩ : ∃ v, w4.alloc (.cells #[.int .u32 0, .string Sz] 24) = v := ⟨_, rfl⟩
          have hbk : Hid (Bk w5 g9 24 (chL 0 Sz)) := Lib.hid (by rw [← hw5, ← hg9]; exact Bk.new w4 _ (chL 0 Sz))
          have hb : Hid (Below w4.heap.size w4 w5) := Lib.hid (by rw [← hw5]; exact bel1 w4 _)
          have GE_g9 : Hid (w.heap.size ≤ g9) := Lib.hid (by rw [← hg9]; exact K4.out.b.size)
          rw [hw5, hg9]
          have LT_g3_g9 : Hid (g3 < g9) := Lib.hid (by rw [← hg9]; exact (K4.out.k (g3, 64, [.int .u8 (d0 : Int), .slice A0 n0 c0, .int .u8 (d1 : Int), .slice A1 n1 c1]) (by simp)).lt)
          have K5 := kp K4 hb
          clear hb K4
          have Kn := kb K5 hbk
          clear hbk K5 hg9 hw5
          have K5 := Kn
          clear Kn
          refine hK.out _ _ (K5.out.k (g3, 64, [.int .u8 (d0 : Int), .slice A0 n0 c0, .int .u8 (d1 : Int), .slice A1 n1 c1]) (by simp)) (fun hS => ?_)
          clear hK K
          (try simp only [Act.put, List.setIfInBounds_toArray, List.set_cons_zero, List.set_cons_succ])
          refine wpAnyH_ready (rs := [2, 6]) (by kernel_rfl) (by simp) ?_
          refine AllReadyH.cons (o := _) rfl (fun K hK => ?_) (AllReadyH.cons (o := _) rfl (fun K hK => ?_) AllReadyH.nil)
          · go_simp
            refine (cof_at w5 d0 p0 hd0 HP0.out A0 x0 n0 c0 HN0.out HM0.out HX0.out (K5.out.r (A0, cs32 x0) (by simp)) q0 HQ0.out S0' HSS0.out).mono ?_
            rintro e w6 ⟨rfl, hb⟩
            have K6 := kp K5 hb
            clear hb K5
            go_simp
            refine hK.out _ _ (K6.out.k (g3, 64, [.int .u8 (d0 : Int), .slice A0 n0 c0, .int .u8 (d1 : Int), .slice A1 n1 c1]) (by simp)) (fun hS => ?_)
            clear hK K
            (try simp only [Act.put, List.setIfInBounds_toArray, List.set_cons_zero, List.set_cons_succ])
            refine wpAnyH_ready (rs := [5, 6]) (by kernel_rfl) (by simp) ?_
            refine AllReadyH.cons (o := _) rfl (fun K hK => ?_) (AllReadyH.cons (o := _) rfl (fun K hK => ?_) AllReadyH.nil)
            · go_simp
              refine (cof_at w6 d1 p1 hd1 HP1.out A1 x1 n1 c1 HN1.out HM1.out HX1.out (K6.out.r (A1, cs32 x1) (by simp)) q1 HQ1.out S1' HSS1.out).mono ?_
              rintro e w7 ⟨rfl, hb⟩
              have K7 := kp K6 hb
              clear hb K6
              go_simp
              refine hK.out _ _ (K7.out.k (g3, 64, [.int .u8 (d0 : Int), .slice A0 n0 c0, .int .u8 (d1 : Int), .slice A1 n1 c1]) (by simp)) (fun hS => ?_)
              clear hK K
              (try simp only [Act.put, List.setIfInBounds_toArray, List.set_cons_zero, List.set_cons_succ])
              refine wpAnyH_ready (rs := [6]) (by kernel_rfl) (by simp) ?_
              refine AllReadyH.cons (o := _) rfl (fun K hK => ?_) AllReadyH.nil
              go_simp
              obtain ⟨g8, hg8⟩ : ∃ g, w7.heap.size = g := ⟨_, rfl⟩
              obtain ⟨w8, hw8⟩ : ∃ v, w7.alloc (.cells #[.int .u32 0, .string Sz] 24) = v := ⟨_, rfl⟩
              have hbk : Hid (Bk w8 g8 24 (chL 0 Sz)) := Lib.hid (by rw [← hw8, ← hg8]; exact Bk.new w7 _ (chL 0 Sz))
              have hb : Hid (Below w7.heap.size w7 w8) := Lib.hid (by rw [← hw8]; exact bel1 w7 _)
              have GE_g8 : Hid (w.heap.size ≤ g8) := Lib.hid (by rw [← hg8]; exact K7.out.b.size)
              rw [hw8, hg8]
              have LT_g9_g8 : Hid (g9 < g8) := Lib.hid (by rw [← hg8]; exact (K7.out.k (g9, 24, chL 0 Sz) (by simp)).lt)
              have LT_g3_g8 : Hid (g3 < g8) := Lib.hid (by rw [← hg8]; exact (K7.out.k (g3, 64, [.int .u8 (d0 : Int), .slice A0 n0 c0, .int .u8 (d1 : Int), .slice A1 n1 c1]) (by simp)).lt)
              have K8 := kp K7 hb
              clear hb K7
              have Kn := kb K8 hbk
              clear hbk K8 hg8 hw8
              have K8 := Kn
              clear Kn
              refine hK.out _ _ (K8.out.k (g3, 64, [.int .u8 (d0 : Int), .slice A0 n0 c0, .int .u8 (d1 : Int), .slice A1 n1 c1]) (by simp)) (fun hS => ?_)
              clear hK K
              (try simp only [Act.put, List.setIfInBounds_toArray, List.set_cons_zero, List.set_cons_succ])
              refine wpAnyH_ready (rs := [8]) (by kernel_rfl) (by simp) ?_
              refine AllReadyH.cons (o := _) rfl (fun K hK => ?_) (AllReadyH.nil)
              refine storeG_wp6 (.tmp 8) (.tmp 54) rfl rfl (ds := chL q0 S0') rfl (K8.out.k (g8, 24, chL 0 Sz) (by simp)) infoCh rfl (chL_one _ _) ?_; intro w9 RZ hgz hzz; have KZ0 := Lib.hid (K8.out.put HT0.out GE_g8.out hgz); have KZ1 := kb KZ0 (Lib.hid ((K8.out.k (g3, 64, [.int .u8 (d0 : Int), .slice A0 n0 c0, .int .u8 (d1 : Int), .slice A1 n1 c1]) (by simp)).only hgz (by intro e; injection e with e; have := LT_g3_g8.out; omega))); have KZ2 := kb KZ1 (Lib.hid ((K8.out.k (g9, 24, chL 0 Sz) (by simp)).only hgz (by intro e; injection e with e; have := LT_g9_g8.out; omega))); have KZ3 := kb KZ2 (Lib.hid RZ); have K9 := KZ3; clear hgz hzz RZ K8 KZ0 KZ1 KZ2 KZ3
              refine hK.out _ _ (K9.out.k (g3, 64, [.int .u8 (d0 : Int), .slice A0 n0 c0, .int .u8 (d1 : Int), .slice A1 n1 c1]) (by simp)) (fun hS => ?_)
              clear hK K
              (try simp only [Act.put, List.setIfInBounds_toArray, List.set_cons_zero, List.set_cons_succ])
              refine wpAnyH_ready (rs := [9]) (by kernel_rfl) (by simp) ?_
              refine AllReadyH.cons (o := _) rfl (fun K hK => ?_) (AllReadyH.nil)
              refine storeG_wp6 (.tmp 9) (.tmp 57) rfl rfl (ds := chL q1 S1') rfl (K9.out.k (g9, 24, chL 0 Sz) (by simp)) infoCh rfl (chL_one _ _) ?_; intro w10 RZ hgz hzz; have KZ0 := Lib.hid (K9.out.put HT0.out GE_g9.out hgz); have KZ1 := kb KZ0 (Lib.hid ((K9.out.k (g3, 64, [.int .u8 (d0 : Int), .slice A0 n0 c0, .int .u8 (d1 : Int), .slice A1 n1 c1]) (by simp)).only hgz (by intro e; injection e with e; have := LT_g3_g9.out; omega))); have KZ2 := kb KZ1 (Lib.hid RZ); have KZ3 := kb KZ2 (Lib.hid ((K9.out.k (g8, 24, chL q0 S0') (by simp)).only hgz (by intro e; injection e with e; have := LT_g9_g8.out; omega))); have K10 := KZ3; clear hgz hzz RZ K9 KZ0 KZ1 KZ2 KZ3
              refine hK.out _ _ (K10.out.k (g3, 64, [.int .u8 (d0 : Int), .slice A0 n0 c0, .int .u8 (d1 : Int), .slice A1 n1 c1]) (by simp)) (fun hS => ?_)
              clear hK K
              (try simp only [Act.put, List.setIfInBounds_toArray, List.set_cons_zero, List.set_cons_succ])
              refine wpAnyH_done (by kernel_rfl) ?_ _
              clear hS
              go_wp2_with fail
              go_meet
              exact ⟨g8, g9, rfl, rfl, K10.out.b, K10.out.t, fun _ h => absurd h (by simp), fun x hx => K10.out.k x (by simp only [List.mem_cons, List.not_mem_nil, or_false] at hx ⊢; rcases hx with h | h <;> simp [h])⟩
            · go_simp
              obtain ⟨g8, hg8⟩ : ∃ g, w6.heap.size = g := ⟨_, rfl⟩
              obtain ⟨w7, hw7⟩ : ∃ v, w6.alloc (.cells #[.int .u32 0, .string Sz] 24) = v := ⟨_, rfl⟩
              have hbk : Hid (Bk w7 g8 24 (chL 0 Sz)) := Lib.hid (by rw [← hw7, ← hg8]; exact Bk.new w6 _ (chL 0 Sz))
              have hb : Hid (Below w6.heap.size w6 w7) := Lib.hid (by rw [← hw7]; exact bel1 w6 _)
              have GE_g8 : Hid (w.heap.size ≤ g8) := Lib.hid (by rw [← hg8]; exact K6.out.b.size)
              rw [hw7, hg8]
              have LT_g9_g8 : Hid (g9 < g8) := Lib.hid (by rw [← hg8]; exact (K6.out.k (g9, 24, chL 0 Sz) (by simp)).lt)
              have LT_g3_g8 : Hid (g3 < g8) := Lib.hid (by rw [← hg8]; exact (K6.out.k (g3, 64, [.int .u8 (d0 : Int), .slice A0 n0 c0, .int .u8 (d1 : Int), .slice A1 n1 c1]) (by simp)).lt)
              have K7 := kp K6 hb
              clear hb K6
              have Kn := kb K7 hbk
              clear hbk K7 hg8 hw7
              have K7 := Kn
              clear Kn
              refine hK.out _ _ (K7.out.k (g3, 64, [.int .u8 (d0 : Int), .slice A0 n0 c0, .int .u8 (d1 : Int), .slice A1 n1 c1]) (by simp)) (fun hS => ?_)
              clear hK K
              (try simp only [Act.put, List.setIfInBounds_toArray, List.set_cons_zero, List.set_cons_succ])
              refine wpAnyH_ready (rs := [5]) (by kernel_rfl) (by simp) ?_
              refine AllReadyH.cons (o := _) rfl (fun K hK => ?_) AllReadyH.nil
              go_simp
              refine (cof_at w7 d1 p1 hd1 HP1.out A1 x1 n1 c1 HN1.out HM1.out HX1.out (K7.out.r (A1, cs32 x1) (by simp)) q1 HQ1.out S1' HSS1.out).mono ?_
              rintro e w8 ⟨rfl, hb⟩
              have K8 := kp K7 hb
              clear hb K7
              go_simp
              refine hK.out _ _ (K8.out.k (g3, 64, [.int .u8 (d0 : Int), .slice A0 n0 c0, .int .u8 (d1 : Int), .slice A1 n1 c1]) (by simp)) (fun hS => ?_)
              clear hK K
              (try simp only [Act.put, List.setIfInBounds_toArray, List.set_cons_zero, List.set_cons_succ])
              refine wpAnyH_ready (rs := [8]) (by kernel_rfl) (by simp) ?_
              refine AllReadyH.cons (o := _) rfl (fun K hK => ?_) (AllReadyH.nil)
              refine storeG_wp6 (.tmp 8) (.tmp 54) rfl rfl (ds := chL q0 S0') rfl (K8.out.k (g8, 24, chL 0 Sz) (by simp)) infoCh rfl (chL_one _ _) ?_; intro w9 RZ hgz hzz; have KZ0 := Lib.hid (K8.out.put HT0.out GE_g8.out hgz); have KZ1 := kb KZ0 (Lib.hid ((K8.out.k (g3, 64, [.int .u8 (d0 : Int), .slice A0 n0 c0, .int .u8 (d1 : Int), .slice A1 n1 c1]) (by simp)).only hgz (by intro e; injection e with e; have := LT_g3_g8.out; omega))); have KZ2 := kb KZ1 (Lib.hid ((K8.out.k (g9, 24, chL 0 Sz) (by simp)).only hgz (by intro e; injection e with e; have := LT_g9_g8.out; omega))); have KZ3 := kb KZ2 (Lib.hid RZ); have K9 := KZ3; clear hgz hzz RZ K8 KZ0 KZ1 KZ2 KZ3
              refine hK.out _ _ (K9.out.k (g3, 64, [.int .u8 (d0 : Int), .slice A0 n0 c0, .int .u8 (d1 : Int), .slice A1 n1 c1]) (by simp)) (fun hS => ?_)
              clear hK K
              (try simp only [Act.put, List.setIfInBounds_toArray, List.set_cons_zero, List.set_cons_succ])
              refine wpAnyH_ready (rs := [9]) (by kernel_rfl) (by simp) ?_
              refine AllReadyH.cons (o := _) rfl (fun K hK => ?_) (AllReadyH.nil)
              refine storeG_wp6 (.tmp 9) (.tmp 57) rfl rfl (ds := chL q1 S1') rfl (K9.out.k (g9, 24, chL 0 Sz) (by simp)) infoCh rfl (chL_one _ _) ?_; intro w10 RZ hgz hzz; have KZ0 := Lib.hid (K9.out.put HT0.out GE_g9.out hgz); have KZ1 := kb KZ0 (Lib.hid ((K9.out.k (g3, 64, [.int .u8 (d0 : Int), .slice A0 n0 c0, .int .u8 (d1 : Int), .slice A1 n1 c1]) (by simp)).only hgz (by intro e; injection e with e; have := LT_g3_g9.out; omega))); have KZ2 := kb KZ1 (Lib.hid RZ); have KZ3 := kb KZ2 (Lib.hid ((K9.out.k (g8, 24, chL q0 S0') (by simp)).only hgz (by intro e; injection e with e; have := LT_g9_g8.out; omega))); have K10 := KZ3; clear hgz hzz RZ K9 KZ0 KZ1 KZ2 KZ3
              refine hK.out _ _ (K10.out.k (g3, 64, [.int .u8 (d0 : Int), .slice A0 n0 c0, .int .u8 (d1 : Int), .slice A1 n1 c1]) (by simp)) (fun hS => ?_)
              clear hK K
              (try simp only [Act.put, List.setIfInBounds_toArray, List.set_cons_zero, List.set_cons_succ])
              refine wpAnyH_done (by kernel_rfl) ?_ _
              clear hS
              go_wp2_with fail
              go_meet
              exact ⟨g8, g9, rfl, rfl, K10.out.b, K10.out.t, fun _ h => absurd h (by simp), fun x hx => K10.out.k x (by simp only [List.mem_cons, List.not_mem_nil, or_false] at hx ⊢; rcases hx with h | h <;> simp [h])⟩
          · go_simp
            obtain ⟨g8, hg8⟩ : ∃ g, w5.heap.size = g := ⟨_, rfl⟩
            obtain ⟨w6, hw6⟩ : ∃ v, w5.alloc (.cells #[.int .u32 0, .string Sz] 24) = v := ⟨_, rfl⟩
            have hbk : Hid (Bk w6 g8 24 (chL 0 Sz)) := Lib.hid (by rw [← hw6, ← hg8]; exact Bk.new w5 _ (chL 0 Sz))
            have hb : Hid (Below w5.heap.size w5 w6) := Lib.hid (by rw [← hw6]; exact bel1 w5 _)
            have GE_g8 : Hid (w.heap.size ≤ g8) := Lib.hid (by rw [← hg8]; exact K5.out.b.size)
            rw [hw6, hg8]
            have LT_g9_g8 : Hid (g9 < g8) := Lib.hid (by rw [← hg8]; exact (K5.out.k (g9, 24, chL 0 Sz) (by simp)).lt)
            have LT_g3_g8 : Hid (g3 < g8) := Lib.hid (by rw [← hg8]; exact (K5.out.k (g3, 64, [.int .u8 (d0 : Int), .slice A0 n0 c0, .int .u8 (d1 : Int), .slice A1 n1 c1]) (by simp)).lt)
            have K6 := kp K5 hb
            clear hb K5
            have Kn := kb K6 hbk
            clear hbk K6 hg8 hw6
            have K6 := Kn
            clear Kn
            refine hK.out _ _ (K6.out.k (g3, 64, [.int .u8 (d0 : Int), .slice A0 n0 c0, .int .u8 (d1 : Int), .slice A1 n1 c1]) (by simp)) (fun hS => ?_)
            clear hK K
            (try simp only [Act.put, List.setIfInBounds_toArray, List.set_cons_zero, List.set_cons_succ])
            refine wpAnyH_ready (rs := [2]) (by kernel_rfl) (by simp) ?_
            refine AllReadyH.cons (o := _) rfl (fun K hK => ?_) AllReadyH.nil
            go_simp
            refine (cof_at w6 d0 p0 hd0 HP0.out A0 x0 n0 c0 HN0.out HM0.out HX0.out (K6.out.r (A0, cs32 x0) (by simp)) q0 HQ0.out S0' HSS0.out).mono ?_
            rintro e w7 ⟨rfl, hb⟩
            have K7 := kp K6 hb
            clear hb K6
            go_simp
            refine hK.out _ _ (K7.out.k (g3, 64, [.int .u8 (d0 : Int), .slice A0 n0 c0, .int .u8 (d1 : Int), .slice A1 n1 c1]) (by simp)) (fun hS => ?_)
            clear hK K
            (try simp only [Act.put, List.setIfInBounds_toArray, List.set_cons_zero, List.set_cons_succ])
            refine wpAnyH_ready (rs := [5]) (by kernel_rfl) (by simp) ?_
            refine AllReadyH.cons (o := _) rfl (fun K hK => ?_) AllReadyH.nil
            go_simp
            refine (cof_at w7 d1 p1 hd1 HP1.out A1 x1 n1 c1 HN1.out HM1.out HX1.out (K7.out.r (A1, cs32 x1) (by simp)) q1 HQ1.out S1' HSS1.out).mono ?_
            rintro e w8 ⟨rfl, hb⟩
            have K8 := kp K7 hb
            clear hb K7
            go_simp
            refine hK.out _ _ (K8.out.k (g3, 64, [.int .u8 (d0 : Int), .slice A0 n0 c0, .int .u8 (d1 : Int), .slice A1 n1 c1]) (by simp)) (fun hS => ?_)
            clear hK K
            (try simp only [Act.put, List.setIfInBounds_toArray, List.set_cons_zero, List.set_cons_succ])
            refine wpAnyH_ready (rs := [8]) (by kernel_rfl) (by simp) ?_
            refine AllReadyH.cons (o := _) rfl (fun K hK => ?_) (AllReadyH.nil)
            refine storeG_wp6 (.tmp 8) (.tmp 54) rfl rfl (ds := chL q0 S0') rfl (K8.out.k (g8, 24, chL 0 Sz) (by simp)) infoCh rfl (chL_one _ _) ?_; intro w9 RZ hgz hzz; have KZ0 := Lib.hid (K8.out.put HT0.out GE_g8.out hgz); have KZ1 := kb KZ0 (Lib.hid ((K8.out.k (g3, 64, [.int .u8 (d0 : Int), .slice A0 n0 c0, .int .u8 (d1 : Int), .slice A1 n1 c1]) (by simp)).only hgz (by intro e; injection e with e; have := LT_g3_g8.out; omega))); have KZ2 := kb KZ1 (Lib.hid ((K8.out.k (g9, 24, chL 0 Sz) (by simp)).only hgz (by intro e; injection e with e; have := LT_g9_g8.out; omega))); have KZ3 := kb KZ2 (Lib.hid RZ); have K9 := KZ3; clear hgz hzz RZ K8 KZ0 KZ1 KZ2 KZ3
            refine hK.out _ _ (K9.out.k (g3, 64, [.int .u8 (d0 : Int), .slice A0 n0 c0, .int .u8 (d1 : Int), .slice A1 n1 c1]) (by simp)) (fun hS => ?_)
            clear hK K
            (try simp only [Act.put, List.setIfInBounds_toArray, List.set_cons_zero, List.set_cons_succ])
            refine wpAnyH_ready (rs := [9]) (by kernel_rfl) (by simp) ?_
            refine AllReadyH.cons (o := _) rfl (fun K hK => ?_) (AllReadyH.nil)
            refine storeG_wp6 (.tmp 9) (.tmp 57) rfl rfl (ds := chL q1 S1') rfl (K9.out.k (g9, 24, chL 0 Sz) (by simp)) infoCh rfl (chL_one _ _) ?_; intro w10 RZ hgz hzz; have KZ0 := Lib.hid (K9.out.put HT0.out GE_g9.out hgz); have KZ1 := kb KZ0 (Lib.hid ((K9.out.k (g3, 64, [.int .u8 (d0 : Int), .slice A0 n0 c0, .int .u8 (d1 : Int), .slice A1 n1 c1]) (by simp)).only hgz (by intro e; injection e with e; have := LT_g3_g9.out; omega))); have KZ2 := kb KZ1 (Lib.hid RZ); have KZ3 := kb KZ2 (Lib.hid ((K9.out.k (g8, 24, chL q0 S0') (by simp)).only hgz (by intro e; injection e with e; have := LT_g9_g8.out; omega))); have K10 := KZ3; clear hgz hzz RZ K9 KZ0 KZ1 KZ2 KZ3
            refine hK.out _ _ (K10.out.k (g3, 64, [.int .u8 (d0 : Int), .slice A0 n0 c0, .int .u8 (d1 : Int), .slice A1 n1 c1]) (by simp)) (fun hS => ?_)
            clear hK K
            (try simp only [Act.put, List.setIfInBounds_toArray, List.set_cons_zero, List.set_cons_succ])
            refine wpAnyH_done (by kernel_rfl) ?_ _
            clear hS
            go_wp2_with fail
            go_meet
            exact ⟨g8, g9, rfl, rfl, K10.out.b, K10.out.t, fun _ h => absurd h (by simp), fun x hx => K10.out.k x (by simp only [List.mem_cons, List.not_mem_nil, or_false] at hx ⊢; rcases hx with h | h <;> simp [h])⟩
      case rest =>
        obtain ⟨g8, g9, rfl, rfl, hst⟩ := hcut
        have K4 := Lib.hid hst
        clear hst K3 heqab
        generalize wc = w4 at *
        have c_g8_1 : w4.cell? ⟨g8, 1, none⟩ = some (.string S0') := by rw [(K4.out.k (g8, 24, chL q0 S0') (by simp)).cell]; rfl
        go_wp2_with fail
        clear c_g8_1
        refine (rdec_at w4 l0 H80.out S0' HS0.out HL0.out s0 M0 HD0.out HLM0.out).mono ?_
        rintro e w5 ⟨A2, c2, rfl, hr, hb⟩
        have K5 := kp K4 hb
        clear hb K4
        have Kn := ka K5 hr
        clear hr K5
        have K5 := Kn
        clear Kn
        have c_g9_1 : w5.cell? ⟨g9, 1, none⟩ = some (.string S1') := by rw [(K5.out.k (g9, 24, chL q1 S1') (by simp)).cell]; rfl
        go_wp2_with fail
        clear c_g9_1
        refine (rdec_at w5 l1 H81.out S1' HS1.out HL1.out s1 M1 HD1.out HLM1.out).mono ?_
        rintro e w6 ⟨A3, c3, rfl, hr, hb⟩
        have K6 := kp K5 hb
        clear hb K5
        have Kn := ka K6 hr
        clear hr K6
        have K6 := Kn
        clear Kn
        have hm0 := HMM.out.1
        have hm1 := HMM.out.2
        go_upto_block 0 with fail
        go_cut [14] (fun v wx => v = .int .i64 Z ∧ St w [(A3, csI s1), (A2, csI s0)] [(g9, 24, chL q1 S1'), (g8, 24, chL q0 S0')] wx)
        case first =>
          go_wp2_with fail
          go_loopw [14, 15] (fun a i wr => ∃ (j : Nat) (y : Int), i = .int .i64 (j : Int) ∧ a = .int .i64 y ∧ ((y = 0 ∧ j ≤ M0 ∧ j ≤ M1 ∧ Z = cmpL (s0.drop j) (s1.drop j)) ∨ (y = Z ∧ y ≠ 0 ∧ j ≤ 41)) ∧ St w [(A3, csI s1), (A2, csI s0)] [(g9, 24, chL q1 S1'), (g8, 24, chL q0 S0')] wr) (fun _ i _ => 42 - (intOf i).toNat)
          case atStart => exact ⟨0, 0, rfl, rfl, .inl ⟨rfl, Nat.zero_le _, Nat.zero_le _, by rw [List.drop_zero, List.drop_zero, HZZ.out]⟩, K6.out⟩
          case round =>
            obtain ⟨j, y, rfl, rfl, hinv, hst⟩ := hrel
            have K500 := Lib.hid hst
            clear hst K6
            generalize wr = w500 at *
            rcases hinv with ⟨rfl, hj0, hj1, hzz⟩ | ⟨rfl, hne, hj41⟩
            · have HZJ := Lib.hid hzz
              clear hzz
              by_cases h0 : j < M0
              · have h0l : j < s0.length := by rw [HLM0.out]; exact h0
                have e0 : decide ((j : Int) < (M0 : Int)) = true := by rw [decide_eq_true_eq]; omega
                have e0n : decide (j < M0) = true := by rw [decide_eq_true_eq]; omega
                have f0 : decide ((M0 : Int) ≤ (j : Int)) = false := by rw [decide_eq_false_iff_not]; omega
                have f0n : decide (M0 ≤ j) = false := by rw [decide_eq_false_iff_not]; omega
                have h0i : (j : Int) < (M0 : Int) := by omega
                by_cases h1 : j < M1
                · have e1 : decide ((j : Int) < (M1 : Int)) = true := by rw [decide_eq_true_eq]; omega
                  have e1n : decide (j < M1) = true := by rw [decide_eq_true_eq]; omega
                  have f1 : decide ((M1 : Int) ≤ (j : Int)) = false := by rw [decide_eq_false_iff_not]; omega
                  have f1n : decide (M1 ≤ j) = false := by rw [decide_eq_false_iff_not]; omega
                  have h1i : (j : Int) < (M1 : Int) := by omega
                  have h1l : j < s1.length := by rw [HLM1.out]; exact h1
                  obtain ⟨a, ao, ea, ha, hca⟩ := rd_i64 (K500.out.r (A2, csI s0) (by simp)) h0l
                  obtain ⟨b, bo, eb, hb, hcb⟩ := rd_i64 (K500.out.r (A3, csI s1) (by simp)) h1l
                  dsimp only at ea eb
                  subst ea eb
                  have HZN := Lib.hid (HZJ.out.trans (cmp_next h0l h1l))
                  generalize s0[j] = x at *
                  generalize s1[j] = y at *
                  clear h0l h1l ha hb
                  by_cases hxy : x < y
                  · have HE : Hid ((-1 : Int) = Z) := Lib.hid (by rw [HZN.out, if_pos hxy])
                    have ex : decide ((x : Int) < (y : Int)) = true := by rw [decide_eq_true_eq]; omega
                    have exn : decide (x < y) = true := by rw [decide_eq_true_eq]; omega
                    clear hxy HZN HZJ
                    go_upto_region 13 with fail
                    have hca1 : w500.drew.cell? ⟨a, ao + j, none⟩ = some (.int .i64 (x : Int)) := hca
                    have hcb1 : w500.drew.cell? ⟨b, bo + j, none⟩ = some (.int .i64 (y : Int)) := hcb
                    have hdr : Hid (Below w500.heap.size w500 w500.drew) := Lib.hid (Below.refl _ _).drew
                    have KD := kp K500 hdr
                    clear K500 hdr
                    refine wp_region_held_drew (S := fun W => W.cell? ⟨a, ao + j, none⟩ = some (.int .i64 (x : Int)) ∧ W.cell? ⟨b, bo + j, none⟩ = some (.int .i64 (y : Int))) (by kernel_rfl) (⟨hca, hcb⟩) (fun hS => ?_)
                    generalize w500.drew = w501 at *
                    have K501 := KD
                    clear KD
                    refine wpAnyH_take (i := 0) (oi := ⟨some 87, _, _, _, _, _⟩) (v := .int .i64 (j : Int)) rfl (by kernel_rfl) (by kernel_rfl) (by kernel_rfl) (fun _ _ _ h => h) (Or.inl ⟨by rfl, fun w hSw => by (try dsimp only at hSw); go_simp⟩) hS ?_
                    simp only [Act.put, List.setIfInBounds_toArray, List.set_cons_zero, List.set_cons_succ]
                    refine wpAnyH_take (i := 1) (oi := ⟨some 88, _, _, _, _, _⟩) (v := .slice (some ⟨a, ao, none⟩) M0 c2) rfl (by kernel_rfl) (by kernel_rfl) (by kernel_rfl) (fun _ _ _ h => h) (Or.inl ⟨by rfl, fun w hSw => by (try dsimp only at hSw); go_simp⟩) hS ?_
                    simp only [Act.put, List.setIfInBounds_toArray, List.set_cons_zero, List.set_cons_succ]
                    refine wpAnyH_take (i := 2) (oi := ⟨some 89, _, _, _, _, _⟩) (v := .int .i64 (M0 : Int)) rfl (by kernel_rfl) (by kernel_rfl) (by kernel_rfl) (fun _ _ _ h => h) (Or.inl ⟨by rfl, fun w hSw => by (try dsimp only at hSw); go_simp⟩) hS ?_
                    simp only [Act.put, List.setIfInBounds_toArray, List.set_cons_zero, List.set_cons_succ]
                    refine wpAnyH_take (i := 3) (oi := ⟨some 90, _, _, _, _, _⟩) (v := .bool false) rfl (by kernel_rfl) (by kernel_rfl) (by kernel_rfl) (fun _ _ _ h => h) (Or.inl ⟨by rfl, fun w hSw => by (try dsimp only at hSw); go_simp⟩) hS ?_
                    simp only [Act.put, List.setIfInBounds_toArray, List.set_cons_zero, List.set_cons_succ]
                    refine wpAnyH_take (i := 4) (oi := ⟨some 91, _, _, _, _, _⟩) (v := .bool false) rfl (by kernel_rfl) (by kernel_rfl) (by kernel_rfl) (fun _ _ _ h => h) (Or.inl ⟨by rfl, fun w hSw => by (try dsimp only at hSw); go_simp⟩) hS ?_
                    simp only [Act.put, List.setIfInBounds_toArray, List.set_cons_zero, List.set_cons_succ]
                    refine wpAnyH_take (i := 5) (oi := ⟨some 92, _, _, _, _, _⟩) (v := .int .i64 (j : Int)) rfl (by kernel_rfl) (by kernel_rfl) (by kernel_rfl) (fun _ _ _ h => h) (Or.inl ⟨by rfl, fun w hSw => by (try dsimp only at hSw); go_simp⟩) hS ?_
                    simp only [Act.put, List.setIfInBounds_toArray, List.set_cons_zero, List.set_cons_succ]
                    refine wpAnyH_take (i := 6) (oi := ⟨some 93, _, _, _, _, _⟩) (v := .slice (some ⟨b, bo, none⟩) M1 c3) rfl (by kernel_rfl) (by kernel_rfl) (by kernel_rfl) (fun _ _ _ h => h) (Or.inl ⟨by rfl, fun w hSw => by (try dsimp only at hSw); go_simp⟩) hS ?_
                    simp only [Act.put, List.setIfInBounds_toArray, List.set_cons_zero, List.set_cons_succ]
                    refine wpAnyH_take (i := 7) (oi := ⟨some 94, _, _, _, _, _⟩) (v := .int .i64 (M1 : Int)) rfl (by kernel_rfl) (by kernel_rfl) (by kernel_rfl) (fun _ _ _ h => h) (Or.inl ⟨by rfl, fun w hSw => by (try dsimp only at hSw); go_simp⟩) hS ?_
                    simp only [Act.put, List.setIfInBounds_toArray, List.set_cons_zero, List.set_cons_succ]
                    refine wpAnyH_take (i := 8) (oi := ⟨some 95, _, _, _, _, _⟩) (v := .bool true) rfl (by kernel_rfl) (by kernel_rfl) (by kernel_rfl) (fun _ _ _ h => h) (Or.inl ⟨by rfl, fun w hSw => by (try dsimp only at hSw); go_simp⟩) hS ?_
                    simp only [Act.put, List.setIfInBounds_toArray, List.set_cons_zero, List.set_cons_succ]
                    refine wpAnyH_take (i := 9) (oi := ⟨some 96, _, _, _, _, _⟩) (v := .bool true) rfl (by kernel_rfl) (by kernel_rfl) (by kernel_rfl) (fun _ _ _ h => h) (Or.inl ⟨by rfl, fun w hSw => by (try dsimp only at hSw); go_simp⟩) hS ?_
                    simp only [Act.put, List.setIfInBounds_toArray, List.set_cons_zero, List.set_cons_succ]
                    refine wpAnyH_take (i := 10) (oi := ⟨some 97, _, _, _, _, _⟩) (v := .slice (some ⟨a, ao, none⟩) M0 c2) rfl (by kernel_rfl) (by kernel_rfl) (by kernel_rfl) (fun _ _ _ h => h) (Or.inl ⟨by rfl, fun w hSw => by (try dsimp only at hSw); go_simp⟩) hS ?_
                    simp only [Act.put, List.setIfInBounds_toArray, List.set_cons_zero, List.set_cons_succ]
                    refine wpAnyH_take (i := 11) (oi := ⟨some 98, _, _, _, _, _⟩) (v := .int .i64 (j : Int)) rfl (by kernel_rfl) (by kernel_rfl) (by kernel_rfl) (fun _ _ _ h => h) (Or.inl ⟨by rfl, fun w hSw => by (try dsimp only at hSw); go_simp⟩) hS ?_
                    simp only [Act.put, List.setIfInBounds_toArray, List.set_cons_zero, List.set_cons_succ]
                    refine wpAnyH_take (i := 12) (oi := ⟨some 99, _, _, _, _, _⟩) (v := .pointer (some ⟨a, ao + j, none⟩)) rfl (by kernel_rfl) (by kernel_rfl) (by kernel_rfl) (fun _ _ _ h => h) (Or.inl ⟨by rfl, fun w hSw => by (try dsimp only at hSw); go_simp⟩) hS ?_
                    simp only [Act.put, List.setIfInBounds_toArray, List.set_cons_zero, List.set_cons_succ]
                    refine wpAnyH_take (i := 13) (oi := ⟨some 100, _, _, _, _, _⟩) (v := .int .i64 (x : Int)) rfl (by kernel_rfl) (by kernel_rfl) (by kernel_rfl) (fun _ _ _ h => h) (Or.inl ⟨by rfl, fun w hSw => by (try dsimp only at hSw); go_simp⟩) hS ?_
                    simp only [Act.put, List.setIfInBounds_toArray, List.set_cons_zero, List.set_cons_succ]
                    refine wpAnyH_take (i := 14) (oi := ⟨some 101, _, _, _, _, _⟩) (v := .slice (some ⟨b, bo, none⟩) M1 c3) rfl (by kernel_rfl) (by kernel_rfl) (by kernel_rfl) (fun _ _ _ h => h) (Or.inl ⟨by rfl, fun w hSw => by (try dsimp only at hSw); go_simp⟩) hS ?_
                    simp only [Act.put, List.setIfInBounds_toArray, List.set_cons_zero, List.set_cons_succ]
                    refine wpAnyH_take (i := 15) (oi := ⟨some 102, _, _, _, _, _⟩) (v := .int .i64 (j : Int)) rfl (by kernel_rfl) (by kernel_rfl) (by kernel_rfl) (fun _ _ _ h => h) (Or.inl ⟨by rfl, fun w hSw => by (try dsimp only at hSw); go_simp⟩) hS ?_
                    simp only [Act.put, List.setIfInBounds_toArray, List.set_cons_zero, List.set_cons_succ]
                    refine wpAnyH_take (i := 16) (oi := ⟨some 103, _, _, _, _, _⟩) (v := .pointer (some ⟨b, bo + j, none⟩)) rfl (by kernel_rfl) (by kernel_rfl) (by kernel_rfl) (fun _ _ _ h => h) (Or.inl ⟨by rfl, fun w hSw => by (try dsimp only at hSw); go_simp⟩) hS ?_
                    simp only [Act.put, List.setIfInBounds_toArray, List.set_cons_zero, List.set_cons_succ]
                    refine wpAnyH_take (i := 17) (oi := ⟨some 104, _, _, _, _, _⟩) (v := .int .i64 (y : Int)) rfl (by kernel_rfl) (by kernel_rfl) (by kernel_rfl) (fun _ _ _ h => h) (Or.inl ⟨by rfl, fun w hSw => by (try dsimp only at hSw); go_simp⟩) hS ?_
                    simp only [Act.put, List.setIfInBounds_toArray, List.set_cons_zero, List.set_cons_succ]
                    refine wpAnyH_take (i := 18) (oi := ⟨some 105, _, _, _, _, _⟩) (v := .bool true) rfl (by kernel_rfl) (by kernel_rfl) (by kernel_rfl) (fun _ _ _ h => h) (Or.inl ⟨by rfl, fun w hSw => by (try dsimp only at hSw); go_simp⟩) hS ?_
                    simp only [Act.put, List.setIfInBounds_toArray, List.set_cons_zero, List.set_cons_succ]
                    refine wpAnyH_take (i := 19) (oi := ⟨some 106, _, _, _, _, _⟩) (v := .bool true) rfl (by kernel_rfl) (by kernel_rfl) (by kernel_rfl) (fun _ _ _ h => h) (Or.inl ⟨by rfl, fun w hSw => by (try dsimp only at hSw); go_simp⟩) hS ?_
                    simp only [Act.put, List.setIfInBounds_toArray, List.set_cons_zero, List.set_cons_succ]
                    refine wpAnyH_take (i := 20) (oi := ⟨some 107, _, _, _, _, _⟩) (v := .bool true) rfl (by kernel_rfl) (by kernel_rfl) (by kernel_rfl) (fun _ _ _ h => h) (Or.inl ⟨by rfl, fun w hSw => by (try dsimp only at hSw); go_simp⟩) hS ?_
                    simp only [Act.put, List.setIfInBounds_toArray, List.set_cons_zero, List.set_cons_succ]
                    refine wpAnyH_take (i := 21) (oi := ⟨some 86, _, _, _, _, _⟩) (v := .bool true) rfl (by kernel_rfl) (by kernel_rfl) (by kernel_rfl) (fun _ _ _ h => h) (Or.inl ⟨by rfl, fun w hSw => by (try dsimp only at hSw); go_simp⟩) hS ?_
                    simp only [Act.put, List.setIfInBounds_toArray, List.set_cons_zero, List.set_cons_succ]
                    refine wpAnyH_done (by kernel_rfl) ?_ _
                    clear hS
                    go_wp2_with fail
                    exact ⟨⟨j + 1, -1, by go_num, rfl, .inr ⟨HE.out, by decide, by omega⟩, K501.out⟩, by simp [intOf]; omega⟩
                  · by_cases hyx : y < x
                    · have HE : Hid ((1 : Int) = Z) := Lib.hid (by rw [HZN.out, if_neg hxy, if_pos hyx])
                      have ex : decide ((x : Int) < (y : Int)) = false := by rw [decide_eq_false_iff_not]; omega
                      have exn : decide (x < y) = false := by rw [decide_eq_false_iff_not]; omega
                      have ey : decide ((y : Int) < (x : Int)) = true := by rw [decide_eq_true_eq]; omega
                      have eyn : decide (y < x) = true := by rw [decide_eq_true_eq]; omega
                      clear hxy hyx HZN HZJ
                      go_upto_region 13 with fail
                      have hca1 : w500.drew.cell? ⟨a, ao + j, none⟩ = some (.int .i64 (x : Int)) := hca
                      have hcb1 : w500.drew.cell? ⟨b, bo + j, none⟩ = some (.int .i64 (y : Int)) := hcb
                      have hdr : Hid (Below w500.heap.size w500 w500.drew) := Lib.hid (Below.refl _ _).drew
                      have KD := kp K500 hdr
                      clear K500 hdr
                      refine wp_region_held_drew (S := fun W => W.cell? ⟨a, ao + j, none⟩ = some (.int .i64 (x : Int)) ∧ W.cell? ⟨b, bo + j, none⟩ = some (.int .i64 (y : Int))) (by kernel_rfl) (⟨hca, hcb⟩) (fun hS => ?_)
                      generalize w500.drew = w501 at *
                      have K501 := KD
                      clear KD
                      refine wpAnyH_take (i := 0) (oi := ⟨some 87, _, _, _, _, _⟩) (v := .int .i64 (j : Int)) rfl (by kernel_rfl) (by kernel_rfl) (by kernel_rfl) (fun _ _ _ h => h) (Or.inl ⟨by rfl, fun w hSw => by (try dsimp only at hSw); go_simp⟩) hS ?_
                      simp only [Act.put, List.setIfInBounds_toArray, List.set_cons_zero, List.set_cons_succ]
                      refine wpAnyH_take (i := 1) (oi := ⟨some 88, _, _, _, _, _⟩) (v := .slice (some ⟨a, ao, none⟩) M0 c2) rfl (by kernel_rfl) (by kernel_rfl) (by kernel_rfl) (fun _ _ _ h => h) (Or.inl ⟨by rfl, fun w hSw => by (try dsimp only at hSw); go_simp⟩) hS ?_
                      simp only [Act.put, List.setIfInBounds_toArray, List.set_cons_zero, List.set_cons_succ]
                      refine wpAnyH_take (i := 2) (oi := ⟨some 89, _, _, _, _, _⟩) (v := .int .i64 (M0 : Int)) rfl (by kernel_rfl) (by kernel_rfl) (by kernel_rfl) (fun _ _ _ h => h) (Or.inl ⟨by rfl, fun w hSw => by (try dsimp only at hSw); go_simp⟩) hS ?_
                      simp only [Act.put, List.setIfInBounds_toArray, List.set_cons_zero, List.set_cons_succ]
                      refine wpAnyH_take (i := 3) (oi := ⟨some 90, _, _, _, _, _⟩) (v := .bool false) rfl (by kernel_rfl) (by kernel_rfl) (by kernel_rfl) (fun _ _ _ h => h) (Or.inl ⟨by rfl, fun w hSw => by (try dsimp only at hSw); go_simp⟩) hS ?_
                      simp only [Act.put, List.setIfInBounds_toArray, List.set_cons_zero, List.set_cons_succ]
                      refine wpAnyH_take (i := 4) (oi := ⟨some 91, _, _, _, _, _⟩) (v := .bool false) rfl (by kernel_rfl) (by kernel_rfl) (by kernel_rfl) (fun _ _ _ h => h) (Or.inl ⟨by rfl, fun w hSw => by (try dsimp only at hSw); go_simp⟩) hS ?_
                      simp only [Act.put, List.setIfInBounds_toArray, List.set_cons_zero, List.set_cons_succ]
                      refine wpAnyH_take (i := 5) (oi := ⟨some 92, _, _, _, _, _⟩) (v := .int .i64 (j : Int)) rfl (by kernel_rfl) (by kernel_rfl) (by kernel_rfl) (fun _ _ _ h => h) (Or.inl ⟨by rfl, fun w hSw => by (try dsimp only at hSw); go_simp⟩) hS ?_
                      simp only [Act.put, List.setIfInBounds_toArray, List.set_cons_zero, List.set_cons_succ]
                      refine wpAnyH_take (i := 6) (oi := ⟨some 93, _, _, _, _, _⟩) (v := .slice (some ⟨b, bo, none⟩) M1 c3) rfl (by kernel_rfl) (by kernel_rfl) (by kernel_rfl) (fun _ _ _ h => h) (Or.inl ⟨by rfl, fun w hSw => by (try dsimp only at hSw); go_simp⟩) hS ?_
                      simp only [Act.put, List.setIfInBounds_toArray, List.set_cons_zero, List.set_cons_succ]
                      refine wpAnyH_take (i := 7) (oi := ⟨some 94, _, _, _, _, _⟩) (v := .int .i64 (M1 : Int)) rfl (by kernel_rfl) (by kernel_rfl) (by kernel_rfl) (fun _ _ _ h => h) (Or.inl ⟨by rfl, fun w hSw => by (try dsimp only at hSw); go_simp⟩) hS ?_
                      simp only [Act.put, List.setIfInBounds_toArray, List.set_cons_zero, List.set_cons_succ]
                      refine wpAnyH_take (i := 8) (oi := ⟨some 95, _, _, _, _, _⟩) (v := .bool true) rfl (by kernel_rfl) (by kernel_rfl) (by kernel_rfl) (fun _ _ _ h => h) (Or.inl ⟨by rfl, fun w hSw => by (try dsimp only at hSw); go_simp⟩) hS ?_
                      simp only [Act.put, List.setIfInBounds_toArray, List.set_cons_zero, List.set_cons_succ]
                      refine wpAnyH_take (i := 9) (oi := ⟨some 96, _, _, _, _, _⟩) (v := .bool true) rfl (by kernel_rfl) (by kernel_rfl) (by kernel_rfl) (fun _ _ _ h => h) (Or.inl ⟨by rfl, fun w hSw => by (try dsimp only at hSw); go_simp⟩) hS ?_
                      simp only [Act.put, List.setIfInBounds_toArray, List.set_cons_zero, List.set_cons_succ]
                      refine wpAnyH_take (i := 10) (oi := ⟨some 97, _, _, _, _, _⟩) (v := .slice (some ⟨a, ao, none⟩) M0 c2) rfl (by kernel_rfl) (by kernel_rfl) (by kernel_rfl) (fun _ _ _ h => h) (Or.inl ⟨by rfl, fun w hSw => by (try dsimp only at hSw); go_simp⟩) hS ?_
                      simp only [Act.put, List.setIfInBounds_toArray, List.set_cons_zero, List.set_cons_succ]
                      refine wpAnyH_take (i := 11) (oi := ⟨some 98, _, _, _, _, _⟩) (v := .int .i64 (j : Int)) rfl (by kernel_rfl) (by kernel_rfl) (by kernel_rfl) (fun _ _ _ h => h) (Or.inl ⟨by rfl, fun w hSw => by (try dsimp only at hSw); go_simp⟩) hS ?_
                      simp only [Act.put, List.setIfInBounds_toArray, List.set_cons_zero, List.set_cons_succ]
                      refine wpAnyH_take (i := 12) (oi := ⟨some 99, _, _, _, _, _⟩) (v := .pointer (some ⟨a, ao + j, none⟩)) rfl (by kernel_rfl) (by kernel_rfl) (by kernel_rfl) (fun _ _ _ h => h) (Or.inl ⟨by rfl, fun w hSw => by (try dsimp only at hSw); go_simp⟩) hS ?_
                      simp only [Act.put, List.setIfInBounds_toArray, List.set_cons_zero, List.set_cons_succ]
                      refine wpAnyH_take (i := 13) (oi := ⟨some 100, _, _, _, _, _⟩) (v := .int .i64 (x : Int)) rfl (by kernel_rfl) (by kernel_rfl) (by kernel_rfl) (fun _ _ _ h => h) (Or.inl ⟨by rfl, fun w hSw => by (try dsimp only at hSw); go_simp⟩) hS ?_
                      simp only [Act.put, List.setIfInBounds_toArray, List.set_cons_zero, List.set_cons_succ]
                      refine wpAnyH_take (i := 14) (oi := ⟨some 101, _, _, _, _, _⟩) (v := .slice (some ⟨b, bo, none⟩) M1 c3) rfl (by kernel_rfl) (by kernel_rfl) (by kernel_rfl) (fun _ _ _ h => h) (Or.inl ⟨by rfl, fun w hSw => by (try dsimp only at hSw); go_simp⟩) hS ?_
                      simp only [Act.put, List.setIfInBounds_toArray, List.set_cons_zero, List.set_cons_succ]
                      refine wpAnyH_take (i := 15) (oi := ⟨some 102, _, _, _, _, _⟩) (v := .int .i64 (j : Int)) rfl (by kernel_rfl) (by kernel_rfl) (by kernel_rfl) (fun _ _ _ h => h) (Or.inl ⟨by rfl, fun w hSw => by (try dsimp only at hSw); go_simp⟩) hS ?_
                      simp only [Act.put, List.setIfInBounds_toArray, List.set_cons_zero, List.set_cons_succ]
                      refine wpAnyH_take (i := 16) (oi := ⟨some 103, _, _, _, _, _⟩) (v := .pointer (some ⟨b, bo + j, none⟩)) rfl (by kernel_rfl) (by kernel_rfl) (by kernel_rfl) (fun _ _ _ h => h) (Or.inl ⟨by rfl, fun w hSw => by (try dsimp only at hSw); go_simp⟩) hS ?_
                      simp only [Act.put, List.setIfInBounds_toArray, List.set_cons_zero, List.set_cons_succ]
                      refine wpAnyH_take (i := 17) (oi := ⟨some 104, _, _, _, _, _⟩) (v := .int .i64 (y : Int)) rfl (by kernel_rfl) (by kernel_rfl) (by kernel_rfl) (fun _ _ _ h => h) (Or.inl ⟨by rfl, fun w hSw => by (try dsimp only at hSw); go_simp⟩) hS ?_
                      simp only [Act.put, List.setIfInBounds_toArray, List.set_cons_zero, List.set_cons_succ]
                      refine wpAnyH_take (i := 18) (oi := ⟨some 105, _, _, _, _, _⟩) (v := .bool false) rfl (by kernel_rfl) (by kernel_rfl) (by kernel_rfl) (fun _ _ _ h => h) (Or.inl ⟨by rfl, fun w hSw => by (try dsimp only at hSw); go_simp⟩) hS ?_
                      simp only [Act.put, List.setIfInBounds_toArray, List.set_cons_zero, List.set_cons_succ]
                      refine wpAnyH_take (i := 19) (oi := ⟨some 106, _, _, _, _, _⟩) (v := .bool false) rfl (by kernel_rfl) (by kernel_rfl) (by kernel_rfl) (fun _ _ _ h => h) (Or.inl ⟨by rfl, fun w hSw => by (try dsimp only at hSw); go_simp⟩) hS ?_
                      simp only [Act.put, List.setIfInBounds_toArray, List.set_cons_zero, List.set_cons_succ]
                      refine wpAnyH_take (i := 20) (oi := ⟨some 107, _, _, _, _, _⟩) (v := .bool false) rfl (by kernel_rfl) (by kernel_rfl) (by kernel_rfl) (fun _ _ _ h => h) (Or.inl ⟨by rfl, fun w hSw => by (try dsimp only at hSw); go_simp⟩) hS ?_
                      simp only [Act.put, List.setIfInBounds_toArray, List.set_cons_zero, List.set_cons_succ]
                      refine wpAnyH_take (i := 21) (oi := ⟨some 86, _, _, _, _, _⟩) (v := .bool false) rfl (by kernel_rfl) (by kernel_rfl) (by kernel_rfl) (fun _ _ _ h => h) (Or.inl ⟨by rfl, fun w hSw => by (try dsimp only at hSw); go_simp⟩) hS ?_
                      simp only [Act.put, List.setIfInBounds_toArray, List.set_cons_zero, List.set_cons_succ]
                      refine wpAnyH_done (by kernel_rfl) ?_ _
                      clear hS
                      go_upto_region 15 with fail
                      have hdr : Hid (Below w501.heap.size w501 w501.drew) := Lib.hid (Below.refl _ _).drew
                      have KD := kp K501 hdr
                      clear K501 hdr
                      refine wp_region_held_drew (S := fun W => W.cell? ⟨a, ao + j, none⟩ = some (.int .i64 (x : Int)) ∧ W.cell? ⟨b, bo + j, none⟩ = some (.int .i64 (y : Int))) (by kernel_rfl) (⟨hca1, hcb1⟩) (fun hS => ?_)
                      generalize w501.drew = w502 at *
                      have K502 := KD
                      clear KD
                      refine wpAnyH_take (i := 0) (oi := ⟨some 109, _, _, _, _, _⟩) (v := .int .i64 (j : Int)) rfl (by kernel_rfl) (by kernel_rfl) (by kernel_rfl) (fun _ _ _ h => h) (Or.inl ⟨by rfl, fun w hSw => by (try dsimp only at hSw); go_simp⟩) hS ?_
                      simp only [Act.put, List.setIfInBounds_toArray, List.set_cons_zero, List.set_cons_succ]
                      refine wpAnyH_take (i := 1) (oi := ⟨some 110, _, _, _, _, _⟩) (v := .slice (some ⟨b, bo, none⟩) M1 c3) rfl (by kernel_rfl) (by kernel_rfl) (by kernel_rfl) (fun _ _ _ h => h) (Or.inl ⟨by rfl, fun w hSw => by (try dsimp only at hSw); go_simp⟩) hS ?_
                      simp only [Act.put, List.setIfInBounds_toArray, List.set_cons_zero, List.set_cons_succ]
                      refine wpAnyH_take (i := 2) (oi := ⟨some 111, _, _, _, _, _⟩) (v := .int .i64 (M1 : Int)) rfl (by kernel_rfl) (by kernel_rfl) (by kernel_rfl) (fun _ _ _ h => h) (Or.inl ⟨by rfl, fun w hSw => by (try dsimp only at hSw); go_simp⟩) hS ?_
                      simp only [Act.put, List.setIfInBounds_toArray, List.set_cons_zero, List.set_cons_succ]
                      refine wpAnyH_take (i := 3) (oi := ⟨some 112, _, _, _, _, _⟩) (v := .bool false) rfl (by kernel_rfl) (by kernel_rfl) (by kernel_rfl) (fun _ _ _ h => h) (Or.inl ⟨by rfl, fun w hSw => by (try dsimp only at hSw); go_simp⟩) hS ?_
                      simp only [Act.put, List.setIfInBounds_toArray, List.set_cons_zero, List.set_cons_succ]
                      refine wpAnyH_take (i := 4) (oi := ⟨some 113, _, _, _, _, _⟩) (v := .bool false) rfl (by kernel_rfl) (by kernel_rfl) (by kernel_rfl) (fun _ _ _ h => h) (Or.inl ⟨by rfl, fun w hSw => by (try dsimp only at hSw); go_simp⟩) hS ?_
                      simp only [Act.put, List.setIfInBounds_toArray, List.set_cons_zero, List.set_cons_succ]
                      refine wpAnyH_take (i := 5) (oi := ⟨some 114, _, _, _, _, _⟩) (v := .slice (some ⟨a, ao, none⟩) M0 c2) rfl (by kernel_rfl) (by kernel_rfl) (by kernel_rfl) (fun _ _ _ h => h) (Or.inl ⟨by rfl, fun w hSw => by (try dsimp only at hSw); go_simp⟩) hS ?_
                      simp only [Act.put, List.setIfInBounds_toArray, List.set_cons_zero, List.set_cons_succ]
                      refine wpAnyH_take (i := 6) (oi := ⟨some 115, _, _, _, _, _⟩) (v := .int .i64 (j : Int)) rfl (by kernel_rfl) (by kernel_rfl) (by kernel_rfl) (fun _ _ _ h => h) (Or.inl ⟨by rfl, fun w hSw => by (try dsimp only at hSw); go_simp⟩) hS ?_
                      simp only [Act.put, List.setIfInBounds_toArray, List.set_cons_zero, List.set_cons_succ]
                      refine wpAnyH_take (i := 7) (oi := ⟨some 116, _, _, _, _, _⟩) (v := .pointer (some ⟨a, ao + j, none⟩)) rfl (by kernel_rfl) (by kernel_rfl) (by kernel_rfl) (fun _ _ _ h => h) (Or.inl ⟨by rfl, fun w hSw => by (try dsimp only at hSw); go_simp⟩) hS ?_
                      simp only [Act.put, List.setIfInBounds_toArray, List.set_cons_zero, List.set_cons_succ]
                      refine wpAnyH_take (i := 8) (oi := ⟨some 117, _, _, _, _, _⟩) (v := .int .i64 (x : Int)) rfl (by kernel_rfl) (by kernel_rfl) (by kernel_rfl) (fun _ _ _ h => h) (Or.inl ⟨by rfl, fun w hSw => by (try dsimp only at hSw); go_simp⟩) hS ?_
                      simp only [Act.put, List.setIfInBounds_toArray, List.set_cons_zero, List.set_cons_succ]
                      refine wpAnyH_take (i := 9) (oi := ⟨some 118, _, _, _, _, _⟩) (v := .slice (some ⟨b, bo, none⟩) M1 c3) rfl (by kernel_rfl) (by kernel_rfl) (by kernel_rfl) (fun _ _ _ h => h) (Or.inl ⟨by rfl, fun w hSw => by (try dsimp only at hSw); go_simp⟩) hS ?_
                      simp only [Act.put, List.setIfInBounds_toArray, List.set_cons_zero, List.set_cons_succ]
                      refine wpAnyH_take (i := 10) (oi := ⟨some 119, _, _, _, _, _⟩) (v := .int .i64 (j : Int)) rfl (by kernel_rfl) (by kernel_rfl) (by kernel_rfl) (fun _ _ _ h => h) (Or.inl ⟨by rfl, fun w hSw => by (try dsimp only at hSw); go_simp⟩) hS ?_
                      simp only [Act.put, List.setIfInBounds_toArray, List.set_cons_zero, List.set_cons_succ]
                      refine wpAnyH_take (i := 11) (oi := ⟨some 120, _, _, _, _, _⟩) (v := .pointer (some ⟨b, bo + j, none⟩)) rfl (by kernel_rfl) (by kernel_rfl) (by kernel_rfl) (fun _ _ _ h => h) (Or.inl ⟨by rfl, fun w hSw => by (try dsimp only at hSw); go_simp⟩) hS ?_
                      simp only [Act.put, List.setIfInBounds_toArray, List.set_cons_zero, List.set_cons_succ]
                      refine wpAnyH_take (i := 12) (oi := ⟨some 121, _, _, _, _, _⟩) (v := .int .i64 (y : Int)) rfl (by kernel_rfl) (by kernel_rfl) (by kernel_rfl) (fun _ _ _ h => h) (Or.inl ⟨by rfl, fun w hSw => by (try dsimp only at hSw); go_simp⟩) hS ?_
                      simp only [Act.put, List.setIfInBounds_toArray, List.set_cons_zero, List.set_cons_succ]
                      refine wpAnyH_take (i := 13) (oi := ⟨some 122, _, _, _, _, _⟩) (v := .bool true) rfl (by kernel_rfl) (by kernel_rfl) (by kernel_rfl) (fun _ _ _ h => h) (Or.inl ⟨by rfl, fun w hSw => by (try dsimp only at hSw); go_simp⟩) hS ?_
                      simp only [Act.put, List.setIfInBounds_toArray, List.set_cons_zero, List.set_cons_succ]
                      refine wpAnyH_take (i := 14) (oi := ⟨some 123, _, _, _, _, _⟩) (v := .bool true) rfl (by kernel_rfl) (by kernel_rfl) (by kernel_rfl) (fun _ _ _ h => h) (Or.inl ⟨by rfl, fun w hSw => by (try dsimp only at hSw); go_simp⟩) hS ?_
                      simp only [Act.put, List.setIfInBounds_toArray, List.set_cons_zero, List.set_cons_succ]
                      refine wpAnyH_take (i := 15) (oi := ⟨some 108, _, _, _, _, _⟩) (v := .bool true) rfl (by kernel_rfl) (by kernel_rfl) (by kernel_rfl) (fun _ _ _ h => h) (Or.inl ⟨by rfl, fun w hSw => by (try dsimp only at hSw); go_simp⟩) hS ?_
                      simp only [Act.put, List.setIfInBounds_toArray, List.set_cons_zero, List.set_cons_succ]
                      refine wpAnyH_done (by kernel_rfl) ?_ _
                      clear hS
                      go_wp2_with fail
                      exact ⟨⟨j + 1, 1, by go_num, rfl, .inr ⟨HE.out, by decide, by omega⟩, K502.out⟩, by simp [intOf]; omega⟩
                    · have HE : Hid (Z = cmpL (s0.drop (j + 1)) (s1.drop (j + 1))) := Lib.hid (by rw [HZN.out, if_neg hxy, if_neg hyx])
                      have ex : decide ((x : Int) < (y : Int)) = false := by rw [decide_eq_false_iff_not]; omega
                      have exn : decide (x < y) = false := by rw [decide_eq_false_iff_not]; omega
                      have ey : decide ((y : Int) < (x : Int)) = false := by rw [decide_eq_false_iff_not]; omega
                      have eyn : decide (y < x) = false := by rw [decide_eq_false_iff_not]; omega
                      clear hxy hyx HZN HZJ
                      go_upto_region 13 with fail
                      have hca1 : w500.drew.cell? ⟨a, ao + j, none⟩ = some (.int .i64 (x : Int)) := hca
                      have hcb1 : w500.drew.cell? ⟨b, bo + j, none⟩ = some (.int .i64 (y : Int)) := hcb
                      have hdr : Hid (Below w500.heap.size w500 w500.drew) := Lib.hid (Below.refl _ _).drew
                      have KD := kp K500 hdr
                      clear K500 hdr
                      refine wp_region_held_drew (S := fun W => W.cell? ⟨a, ao + j, none⟩ = some (.int .i64 (x : Int)) ∧ W.cell? ⟨b, bo + j, none⟩ = some (.int .i64 (y : Int))) (by kernel_rfl) (⟨hca, hcb⟩) (fun hS => ?_)
                      generalize w500.drew = w501 at *
                      have K501 := KD
                      clear KD
                      refine wpAnyH_take (i := 0) (oi := ⟨some 87, _, _, _, _, _⟩) (v := .int .i64 (j : Int)) rfl (by kernel_rfl) (by kernel_rfl) (by kernel_rfl) (fun _ _ _ h => h) (Or.inl ⟨by rfl, fun w hSw => by (try dsimp only at hSw); go_simp⟩) hS ?_
                      simp only [Act.put, List.setIfInBounds_toArray, List.set_cons_zero, List.set_cons_succ]
                      refine wpAnyH_take (i := 1) (oi := ⟨some 88, _, _, _, _, _⟩) (v := .slice (some ⟨a, ao, none⟩) M0 c2) rfl (by kernel_rfl) (by kernel_rfl) (by kernel_rfl) (fun _ _ _ h => h) (Or.inl ⟨by rfl, fun w hSw => by (try dsimp only at hSw); go_simp⟩) hS ?_
                      simp only [Act.put, List.setIfInBounds_toArray, List.set_cons_zero, List.set_cons_succ]
                      refine wpAnyH_take (i := 2) (oi := ⟨some 89, _, _, _, _, _⟩) (v := .int .i64 (M0 : Int)) rfl (by kernel_rfl) (by kernel_rfl) (by kernel_rfl) (fun _ _ _ h => h) (Or.inl ⟨by rfl, fun w hSw => by (try dsimp only at hSw); go_simp⟩) hS ?_
                      simp only [Act.put, List.setIfInBounds_toArray, List.set_cons_zero, List.set_cons_succ]
                      refine wpAnyH_take (i := 3) (oi := ⟨some 90, _, _, _, _, _⟩) (v := .bool false) rfl (by kernel_rfl) (by kernel_rfl) (by kernel_rfl) (fun _ _ _ h => h) (Or.inl ⟨by rfl, fun w hSw => by (try dsimp only at hSw); go_simp⟩) hS ?_
                      simp only [Act.put, List.setIfInBounds_toArray, List.set_cons_zero, List.set_cons_succ]
                      refine wpAnyH_take (i := 4) (oi := ⟨some 91, _, _, _, _, _⟩) (v := .bool false) rfl (by kernel_rfl) (by kernel_rfl) (by kernel_rfl) (fun _ _ _ h => h) (Or.inl ⟨by rfl, fun w hSw => by (try dsimp only at hSw); go_simp⟩) hS ?_
                      simp only [Act.put, List.setIfInBounds_toArray, List.set_cons_zero, List.set_cons_succ]
                      refine wpAnyH_take (i := 5) (oi := ⟨some 92, _, _, _, _, _⟩) (v := .int .i64 (j : Int)) rfl (by kernel_rfl) (by kernel_rfl) (by kernel_rfl) (fun _ _ _ h => h) (Or.inl ⟨by rfl, fun w hSw => by (try dsimp only at hSw); go_simp⟩) hS ?_
                      simp only [Act.put, List.setIfInBounds_toArray, List.set_cons_zero, List.set_cons_succ]
                      refine wpAnyH_take (i := 6) (oi := ⟨some 93, _, _, _, _, _⟩) (v := .slice (some ⟨b, bo, none⟩) M1 c3) rfl (by kernel_rfl) (by kernel_rfl) (by kernel_rfl) (fun _ _ _ h => h) (Or.inl ⟨by rfl, fun w hSw => by (try dsimp only at hSw); go_simp⟩) hS ?_
                      simp only [Act.put, List.setIfInBounds_toArray, List.set_cons_zero, List.set_cons_succ]
                      refine wpAnyH_take (i := 7) (oi := ⟨some 94, _, _, _, _, _⟩) (v := .int .i64 (M1 : Int)) rfl (by kernel_rfl) (by kernel_rfl) (by kernel_rfl) (fun _ _ _ h => h) (Or.inl ⟨by rfl, fun w hSw => by (try dsimp only at hSw); go_simp⟩) hS ?_
                      simp only [Act.put, List.setIfInBounds_toArray, List.set_cons_zero, List.set_cons_succ]
                      refine wpAnyH_take (i := 8) (oi := ⟨some 95, _, _, _, _, _⟩) (v := .bool true) rfl (by kernel_rfl) (by kernel_rfl) (by kernel_rfl) (fun _ _ _ h => h) (Or.inl ⟨by rfl, fun w hSw => by (try dsimp only at hSw); go_simp⟩) hS ?_
                      simp only [Act.put, List.setIfInBounds_toArray, List.set_cons_zero, List.set_cons_succ]
                      refine wpAnyH_take (i := 9) (oi := ⟨some 96, _, _, _, _, _⟩) (v := .bool true) rfl (by kernel_rfl) (by kernel_rfl) (by kernel_rfl) (fun _ _ _ h => h) (Or.inl ⟨by rfl, fun w hSw => by (try dsimp only at hSw); go_simp⟩) hS ?_
                      simp only [Act.put, List.setIfInBounds_toArray, List.set_cons_zero, List.set_cons_succ]
                      refine wpAnyH_take (i := 10) (oi := ⟨some 97, _, _, _, _, _⟩) (v := .slice (some ⟨a, ao, none⟩) M0 c2) rfl (by kernel_rfl) (by kernel_rfl) (by kernel_rfl) (fun _ _ _ h => h) (Or.inl ⟨by rfl, fun w hSw => by (try dsimp only at hSw); go_simp⟩) hS ?_
                      simp only [Act.put, List.setIfInBounds_toArray, List.set_cons_zero, List.set_cons_succ]
                      refine wpAnyH_take (i := 11) (oi := ⟨some 98, _, _, _, _, _⟩) (v := .int .i64 (j : Int)) rfl (by kernel_rfl) (by kernel_rfl) (by kernel_rfl) (fun _ _ _ h => h) (Or.inl ⟨by rfl, fun w hSw => by (try dsimp only at hSw); go_simp⟩) hS ?_
                      simp only [Act.put, List.setIfInBounds_toArray, List.set_cons_zero, List.set_cons_succ]
                      refine wpAnyH_take (i := 12) (oi := ⟨some 99, _, _, _, _, _⟩) (v := .pointer (some ⟨a, ao + j, none⟩)) rfl (by kernel_rfl) (by kernel_rfl) (by kernel_rfl) (fun _ _ _ h => h) (Or.inl ⟨by rfl, fun w hSw => by (try dsimp only at hSw); go_simp⟩) hS ?_
                      simp only [Act.put, List.setIfInBounds_toArray, List.set_cons_zero, List.set_cons_succ]
                      refine wpAnyH_take (i := 13) (oi := ⟨some 100, _, _, _, _, _⟩) (v := .int .i64 (x : Int)) rfl (by kernel_rfl) (by kernel_rfl) (by kernel_rfl) (fun _ _ _ h => h) (Or.inl ⟨by rfl, fun w hSw => by (try dsimp only at hSw); go_simp⟩) hS ?_
                      simp only [Act.put, List.setIfInBounds_toArray, List.set_cons_zero, List.set_cons_succ]
                      refine wpAnyH_take (i := 14) (oi := ⟨some 101, _, _, _, _, _⟩) (v := .slice (some ⟨b, bo, none⟩) M1 c3) rfl (by kernel_rfl) (by kernel_rfl) (by kernel_rfl) (fun _ _ _ h => h) (Or.inl ⟨by rfl, fun w hSw => by (try dsimp only at hSw); go_simp⟩) hS ?_
                      simp only [Act.put, List.setIfInBounds_toArray, List.set_cons_zero, List.set_cons_succ]
                      refine wpAnyH_take (i := 15) (oi := ⟨some 102, _, _, _, _, _⟩) (v := .int .i64 (j : Int)) rfl (by kernel_rfl) (by kernel_rfl) (by kernel_rfl) (fun _ _ _ h => h) (Or.inl ⟨by rfl, fun w hSw => by (try dsimp only at hSw); go_simp⟩) hS ?_
                      simp only [Act.put, List.setIfInBounds_toArray, List.set_cons_zero, List.set_cons_succ]
                      refine wpAnyH_take (i := 16) (oi := ⟨some 103, _, _, _, _, _⟩) (v := .pointer (some ⟨b, bo + j, none⟩)) rfl (by kernel_rfl) (by kernel_rfl) (by kernel_rfl) (fun _ _ _ h => h) (Or.inl ⟨by rfl, fun w hSw => by (try dsimp only at hSw); go_simp⟩) hS ?_
                      simp only [Act.put, List.setIfInBounds_toArray, List.set_cons_zero, List.set_cons_succ]
                      refine wpAnyH_take (i := 17) (oi := ⟨some 104, _, _, _, _, _⟩) (v := .int .i64 (y : Int)) rfl (by kernel_rfl) (by kernel_rfl) (by kernel_rfl) (fun _ _ _ h => h) (Or.inl ⟨by rfl, fun w hSw => by (try dsimp only at hSw); go_simp⟩) hS ?_
                      simp only [Act.put, List.setIfInBounds_toArray, List.set_cons_zero, List.set_cons_succ]
                      refine wpAnyH_take (i := 18) (oi := ⟨some 105, _, _, _, _, _⟩) (v := .bool false) rfl (by kernel_rfl) (by kernel_rfl) (by kernel_rfl) (fun _ _ _ h => h) (Or.inl ⟨by rfl, fun w hSw => by (try dsimp only at hSw); go_simp⟩) hS ?_
                      simp only [Act.put, List.setIfInBounds_toArray, List.set_cons_zero, List.set_cons_succ]
                      refine wpAnyH_take (i := 19) (oi := ⟨some 106, _, _, _, _, _⟩) (v := .bool false) rfl (by kernel_rfl) (by kernel_rfl) (by kernel_rfl) (fun _ _ _ h => h) (Or.inl ⟨by rfl, fun w hSw => by (try dsimp only at hSw); go_simp⟩) hS ?_
                      simp only [Act.put, List.setIfInBounds_toArray, List.set_cons_zero, List.set_cons_succ]
                      refine wpAnyH_take (i := 20) (oi := ⟨some 107, _, _, _, _, _⟩) (v := .bool false) rfl (by kernel_rfl) (by kernel_rfl) (by kernel_rfl) (fun _ _ _ h => h) (Or.inl ⟨by rfl, fun w hSw => by (try dsimp only at hSw); go_simp⟩) hS ?_
                      simp only [Act.put, List.setIfInBounds_toArray, List.set_cons_zero, List.set_cons_succ]
                      refine wpAnyH_take (i := 21) (oi := ⟨some 86, _, _, _, _, _⟩) (v := .bool false) rfl (by kernel_rfl) (by kernel_rfl) (by kernel_rfl) (fun _ _ _ h => h) (Or.inl ⟨by rfl, fun w hSw => by (try dsimp only at hSw); go_simp⟩) hS ?_
                      simp only [Act.put, List.setIfInBounds_toArray, List.set_cons_zero, List.set_cons_succ]
                      refine wpAnyH_done (by kernel_rfl) ?_ _
                      clear hS
                      go_upto_region 15 with fail
                      have hdr : Hid (Below w501.heap.size w501 w501.drew) := Lib.hid (Below.refl _ _).drew
                      have KD := kp K501 hdr
                      clear K501 hdr
                      refine wp_region_held_drew (S := fun W => W.cell? ⟨a, ao + j, none⟩ = some (.int .i64 (x : Int)) ∧ W.cell? ⟨b, bo + j, none⟩ = some (.int .i64 (y : Int))) (by kernel_rfl) (⟨hca1, hcb1⟩) (fun hS => ?_)
                      generalize w501.drew = w502 at *
                      have K502 := KD
                      clear KD
                      refine wpAnyH_take (i := 0) (oi := ⟨some 109, _, _, _, _, _⟩) (v := .int .i64 (j : Int)) rfl (by kernel_rfl) (by kernel_rfl) (by kernel_rfl) (fun _ _ _ h => h) (Or.inl ⟨by rfl, fun w hSw => by (try dsimp only at hSw); go_simp⟩) hS ?_
                      simp only [Act.put, List.setIfInBounds_toArray, List.set_cons_zero, List.set_cons_succ]
                      refine wpAnyH_take (i := 1) (oi := ⟨some 110, _, _, _, _, _⟩) (v := .slice (some ⟨b, bo, none⟩) M1 c3) rfl (by kernel_rfl) (by kernel_rfl) (by kernel_rfl) (fun _ _ _ h => h) (Or.inl ⟨by rfl, fun w hSw => by (try dsimp only at hSw); go_simp⟩) hS ?_
                      simp only [Act.put, List.setIfInBounds_toArray, List.set_cons_zero, List.set_cons_succ]
                      refine wpAnyH_take (i := 2) (oi := ⟨some 111, _, _, _, _, _⟩) (v := .int .i64 (M1 : Int)) rfl (by kernel_rfl) (by kernel_rfl) (by kernel_rfl) (fun _ _ _ h => h) (Or.inl ⟨by rfl, fun w hSw => by (try dsimp only at hSw); go_simp⟩) hS ?_
                      simp only [Act.put, List.setIfInBounds_toArray, List.set_cons_zero, List.set_cons_succ]
                      refine wpAnyH_take (i := 3) (oi := ⟨some 112, _, _, _, _, _⟩) (v := .bool false) rfl (by kernel_rfl) (by kernel_rfl) (by kernel_rfl) (fun _ _ _ h => h) (Or.inl ⟨by rfl, fun w hSw => by (try dsimp only at hSw); go_simp⟩) hS ?_
                      simp only [Act.put, List.setIfInBounds_toArray, List.set_cons_zero, List.set_cons_succ]
                      refine wpAnyH_take (i := 4) (oi := ⟨some 113, _, _, _, _, _⟩) (v := .bool false) rfl (by kernel_rfl) (by kernel_rfl) (by kernel_rfl) (fun _ _ _ h => h) (Or.inl ⟨by rfl, fun w hSw => by (try dsimp only at hSw); go_simp⟩) hS ?_
                      simp only [Act.put, List.setIfInBounds_toArray, List.set_cons_zero, List.set_cons_succ]
                      refine wpAnyH_take (i := 5) (oi := ⟨some 114, _, _, _, _, _⟩) (v := .slice (some ⟨a, ao, none⟩) M0 c2) rfl (by kernel_rfl) (by kernel_rfl) (by kernel_rfl) (fun _ _ _ h => h) (Or.inl ⟨by rfl, fun w hSw => by (try dsimp only at hSw); go_simp⟩) hS ?_
                      simp only [Act.put, List.setIfInBounds_toArray, List.set_cons_zero, List.set_cons_succ]
                      refine wpAnyH_take (i := 6) (oi := ⟨some 115, _, _, _, _, _⟩) (v := .int .i64 (j : Int)) rfl (by kernel_rfl) (by kernel_rfl) (by kernel_rfl) (fun _ _ _ h => h) (Or.inl ⟨by rfl, fun w hSw => by (try dsimp only at hSw); go_simp⟩) hS ?_
                      simp only [Act.put, List.setIfInBounds_toArray, List.set_cons_zero, List.set_cons_succ]
                      refine wpAnyH_take (i := 7) (oi := ⟨some 116, _, _, _, _, _⟩) (v := .pointer (some ⟨a, ao + j, none⟩)) rfl (by kernel_rfl) (by kernel_rfl) (by kernel_rfl) (fun _ _ _ h => h) (Or.inl ⟨by rfl, fun w hSw => by (try dsimp only at hSw); go_simp⟩) hS ?_
                      simp only [Act.put, List.setIfInBounds_toArray, List.set_cons_zero, List.set_cons_succ]
                      refine wpAnyH_take (i := 8) (oi := ⟨some 117, _, _, _, _, _⟩) (v := .int .i64 (x : Int)) rfl (by kernel_rfl) (by kernel_rfl) (by kernel_rfl) (fun _ _ _ h => h) (Or.inl ⟨by rfl, fun w hSw => by (try dsimp only at hSw); go_simp⟩) hS ?_
                      simp only [Act.put, List.setIfInBounds_toArray, List.set_cons_zero, List.set_cons_succ]
                      refine wpAnyH_take (i := 9) (oi := ⟨some 118, _, _, _, _, _⟩) (v := .slice (some ⟨b, bo, none⟩) M1 c3) rfl (by kernel_rfl) (by kernel_rfl) (by kernel_rfl) (fun _ _ _ h => h) (Or.inl ⟨by rfl, fun w hSw => by (try dsimp only at hSw); go_simp⟩) hS ?_
                      simp only [Act.put, List.setIfInBounds_toArray, List.set_cons_zero, List.set_cons_succ]
                      refine wpAnyH_take (i := 10) (oi := ⟨some 119, _, _, _, _, _⟩) (v := .int .i64 (j : Int)) rfl (by kernel_rfl) (by kernel_rfl) (by kernel_rfl) (fun _ _ _ h => h) (Or.inl ⟨by rfl, fun w hSw => by (try dsimp only at hSw); go_simp⟩) hS ?_
                      simp only [Act.put, List.setIfInBounds_toArray, List.set_cons_zero, List.set_cons_succ]
                      refine wpAnyH_take (i := 11) (oi := ⟨some 120, _, _, _, _, _⟩) (v := .pointer (some ⟨b, bo + j, none⟩)) rfl (by kernel_rfl) (by kernel_rfl) (by kernel_rfl) (fun _ _ _ h => h) (Or.inl ⟨by rfl, fun w hSw => by (try dsimp only at hSw); go_simp⟩) hS ?_
                      simp only [Act.put, List.setIfInBounds_toArray, List.set_cons_zero, List.set_cons_succ]
                      refine wpAnyH_take (i := 12) (oi := ⟨some 121, _, _, _, _, _⟩) (v := .int .i64 (y : Int)) rfl (by kernel_rfl) (by kernel_rfl) (by kernel_rfl) (fun _ _ _ h => h) (Or.inl ⟨by rfl, fun w hSw => by (try dsimp only at hSw); go_simp⟩) hS ?_
                      simp only [Act.put, List.setIfInBounds_toArray, List.set_cons_zero, List.set_cons_succ]
                      refine wpAnyH_take (i := 13) (oi := ⟨some 122, _, _, _, _, _⟩) (v := .bool false) rfl (by kernel_rfl) (by kernel_rfl) (by kernel_rfl) (fun _ _ _ h => h) (Or.inl ⟨by rfl, fun w hSw => by (try dsimp only at hSw); go_simp⟩) hS ?_
                      simp only [Act.put, List.setIfInBounds_toArray, List.set_cons_zero, List.set_cons_succ]
                      refine wpAnyH_take (i := 14) (oi := ⟨some 123, _, _, _, _, _⟩) (v := .bool false) rfl (by kernel_rfl) (by kernel_rfl) (by kernel_rfl) (fun _ _ _ h => h) (Or.inl ⟨by rfl, fun w hSw => by (try dsimp only at hSw); go_simp⟩) hS ?_
                      simp only [Act.put, List.setIfInBounds_toArray, List.set_cons_zero, List.set_cons_succ]
                      refine wpAnyH_take (i := 15) (oi := ⟨some 108, _, _, _, _, _⟩) (v := .bool false) rfl (by kernel_rfl) (by kernel_rfl) (by kernel_rfl) (fun _ _ _ h => h) (Or.inl ⟨by rfl, fun w hSw => by (try dsimp only at hSw); go_simp⟩) hS ?_
                      simp only [Act.put, List.setIfInBounds_toArray, List.set_cons_zero, List.set_cons_succ]
                      refine wpAnyH_done (by kernel_rfl) ?_ _
                      clear hS
                      go_wp2_with fail
                      exact ⟨⟨j + 1, 0, by go_num, rfl, .inl ⟨rfl, by omega, by omega, HE.out⟩, K502.out⟩, by simp [intOf]; omega⟩
                · have e1 : decide ((j : Int) < (M1 : Int)) = false := by rw [decide_eq_false_iff_not]; omega
                  have e1n : decide (j < M1) = false := by rw [decide_eq_false_iff_not]; omega
                  have f1 : decide ((M1 : Int) ≤ (j : Int)) = true := by rw [decide_eq_true_eq]; omega
                  have f1n : decide (M1 ≤ j) = true := by rw [decide_eq_true_eq]; omega
                  have HE : Hid ((1 : Int) = Z) := Lib.hid (by rw [HZJ.out, cmp_more h0l (by rw [HLM1.out]; omega)])
                  have h1i : ¬ (j : Int) < (M1 : Int) := by omega
                  clear HZJ h0l
                  go_upto_region 13 with fail
                  have hdr : Hid (Below w500.heap.size w500 w500.drew) := Lib.hid (Below.refl _ _).drew
                  have KD := kp K500 hdr
                  clear K500 hdr
                  refine wp_region_held_drew (S := fun _ => True) (by kernel_rfl) (trivial) (fun hS => ?_)
                  generalize w500.drew = w501 at *
                  have K501 := KD
                  clear KD
                  refine wpAnyH_take (i := 0) (oi := ⟨some 87, _, _, _, _, _⟩) (v := .int .i64 (j : Int)) rfl (by kernel_rfl) (by kernel_rfl) (by kernel_rfl) (fun _ _ _ h => h) (Or.inl ⟨by rfl, fun w hSw => by (try dsimp only at hSw); go_simp⟩) hS ?_
                  simp only [Act.put, List.setIfInBounds_toArray, List.set_cons_zero, List.set_cons_succ]
                  refine wpAnyH_take (i := 1) (oi := ⟨some 88, _, _, _, _, _⟩) (v := .slice A2 M0 c2) rfl (by kernel_rfl) (by kernel_rfl) (by kernel_rfl) (fun _ _ _ h => h) (Or.inl ⟨by rfl, fun w hSw => by (try dsimp only at hSw); go_simp⟩) hS ?_
                  simp only [Act.put, List.setIfInBounds_toArray, List.set_cons_zero, List.set_cons_succ]
                  refine wpAnyH_take (i := 2) (oi := ⟨some 89, _, _, _, _, _⟩) (v := .int .i64 (M0 : Int)) rfl (by kernel_rfl) (by kernel_rfl) (by kernel_rfl) (fun _ _ _ h => h) (Or.inl ⟨by rfl, fun w hSw => by (try dsimp only at hSw); go_simp⟩) hS ?_
                  simp only [Act.put, List.setIfInBounds_toArray, List.set_cons_zero, List.set_cons_succ]
                  refine wpAnyH_take (i := 3) (oi := ⟨some 90, _, _, _, _, _⟩) (v := .bool false) rfl (by kernel_rfl) (by kernel_rfl) (by kernel_rfl) (fun _ _ _ h => h) (Or.inl ⟨by rfl, fun w hSw => by (try dsimp only at hSw); go_simp⟩) hS ?_
                  simp only [Act.put, List.setIfInBounds_toArray, List.set_cons_zero, List.set_cons_succ]
                  refine wpAnyH_take (i := 4) (oi := ⟨some 91, _, _, _, _, _⟩) (v := .bool false) rfl (by kernel_rfl) (by kernel_rfl) (by kernel_rfl) (fun _ _ _ h => h) (Or.inl ⟨by rfl, fun w hSw => by (try dsimp only at hSw); go_simp⟩) hS ?_
                  simp only [Act.put, List.setIfInBounds_toArray, List.set_cons_zero, List.set_cons_succ]
                  refine wpAnyH_take (i := 5) (oi := ⟨some 92, _, _, _, _, _⟩) (v := .int .i64 (j : Int)) rfl (by kernel_rfl) (by kernel_rfl) (by kernel_rfl) (fun _ _ _ h => h) (Or.inl ⟨by rfl, fun w hSw => by (try dsimp only at hSw); go_simp⟩) hS ?_
                  simp only [Act.put, List.setIfInBounds_toArray, List.set_cons_zero, List.set_cons_succ]
                  refine wpAnyH_take (i := 6) (oi := ⟨some 93, _, _, _, _, _⟩) (v := .slice A3 M1 c3) rfl (by kernel_rfl) (by kernel_rfl) (by kernel_rfl) (fun _ _ _ h => h) (Or.inl ⟨by rfl, fun w hSw => by (try dsimp only at hSw); go_simp⟩) hS ?_
                  simp only [Act.put, List.setIfInBounds_toArray, List.set_cons_zero, List.set_cons_succ]
                  refine wpAnyH_take (i := 7) (oi := ⟨some 94, _, _, _, _, _⟩) (v := .int .i64 (M1 : Int)) rfl (by kernel_rfl) (by kernel_rfl) (by kernel_rfl) (fun _ _ _ h => h) (Or.inl ⟨by rfl, fun w hSw => by (try dsimp only at hSw); go_simp⟩) hS ?_
                  simp only [Act.put, List.setIfInBounds_toArray, List.set_cons_zero, List.set_cons_succ]
                  refine wpAnyH_take (i := 8) (oi := ⟨some 95, _, _, _, _, _⟩) (v := .bool false) rfl (by kernel_rfl) (by kernel_rfl) (by kernel_rfl) (fun _ _ _ h => h) (Or.inl ⟨by rfl, fun w hSw => by (try dsimp only at hSw); go_simp⟩) hS ?_
                  simp only [Act.put, List.setIfInBounds_toArray, List.set_cons_zero, List.set_cons_succ]
                  refine wpAnyH_take (i := 9) (oi := ⟨some 96, _, _, _, _, _⟩) (v := .bool false) rfl (by kernel_rfl) (by kernel_rfl) (by kernel_rfl) (fun _ _ _ h => h) (Or.inl ⟨by rfl, fun w hSw => by (try dsimp only at hSw); go_simp⟩) hS ?_
                  simp only [Act.put, List.setIfInBounds_toArray, List.set_cons_zero, List.set_cons_succ]
                  refine wpAnyH_take (i := 10) (oi := ⟨some 97, _, _, _, _, _⟩) (v := undef) rfl (by kernel_rfl) (by kernel_rfl) (by kernel_rfl) (fun _ _ _ h => h) (Or.inr ⟨by rfl, rfl⟩) hS ?_
                  simp only [Act.put, List.setIfInBounds_toArray, List.set_cons_zero, List.set_cons_succ]
                  refine wpAnyH_take (i := 11) (oi := ⟨some 98, _, _, _, _, _⟩) (v := undef) rfl (by kernel_rfl) (by kernel_rfl) (by kernel_rfl) (fun _ _ _ h => h) (Or.inr ⟨by rfl, rfl⟩) hS ?_
                  simp only [Act.put, List.setIfInBounds_toArray, List.set_cons_zero, List.set_cons_succ]
                  refine wpAnyH_take (i := 12) (oi := ⟨some 99, _, _, _, _, _⟩) (v := undef) rfl (by kernel_rfl) (by kernel_rfl) (by kernel_rfl) (fun _ _ _ h => h) (Or.inr ⟨by rfl, rfl⟩) hS ?_
                  simp only [Act.put, List.setIfInBounds_toArray, List.set_cons_zero, List.set_cons_succ]
                  refine wpAnyH_take (i := 13) (oi := ⟨some 100, _, _, _, _, _⟩) (v := undef) rfl (by kernel_rfl) (by kernel_rfl) (by kernel_rfl) (fun _ _ _ h => h) (Or.inr ⟨by rfl, rfl⟩) hS ?_
                  simp only [Act.put, List.setIfInBounds_toArray, List.set_cons_zero, List.set_cons_succ]
                  refine wpAnyH_take (i := 14) (oi := ⟨some 101, _, _, _, _, _⟩) (v := undef) rfl (by kernel_rfl) (by kernel_rfl) (by kernel_rfl) (fun _ _ _ h => h) (Or.inr ⟨by rfl, rfl⟩) hS ?_
                  simp only [Act.put, List.setIfInBounds_toArray, List.set_cons_zero, List.set_cons_succ]
                  refine wpAnyH_take (i := 15) (oi := ⟨some 102, _, _, _, _, _⟩) (v := undef) rfl (by kernel_rfl) (by kernel_rfl) (by kernel_rfl) (fun _ _ _ h => h) (Or.inr ⟨by rfl, rfl⟩) hS ?_
                  simp only [Act.put, List.setIfInBounds_toArray, List.set_cons_zero, List.set_cons_succ]
                  refine wpAnyH_take (i := 16) (oi := ⟨some 103, _, _, _, _, _⟩) (v := undef) rfl (by kernel_rfl) (by kernel_rfl) (by kernel_rfl) (fun _ _ _ h => h) (Or.inr ⟨by rfl, rfl⟩) hS ?_
                  simp only [Act.put, List.setIfInBounds_toArray, List.set_cons_zero, List.set_cons_succ]
                  refine wpAnyH_take (i := 17) (oi := ⟨some 104, _, _, _, _, _⟩) (v := undef) rfl (by kernel_rfl) (by kernel_rfl) (by kernel_rfl) (fun _ _ _ h => h) (Or.inr ⟨by rfl, rfl⟩) hS ?_
                  simp only [Act.put, List.setIfInBounds_toArray, List.set_cons_zero, List.set_cons_succ]
                  refine wpAnyH_take (i := 18) (oi := ⟨some 105, _, _, _, _, _⟩) (v := undef) rfl (by kernel_rfl) (by kernel_rfl) (by kernel_rfl) (fun _ _ _ h => h) (Or.inr ⟨by rfl, rfl⟩) hS ?_
                  simp only [Act.put, List.setIfInBounds_toArray, List.set_cons_zero, List.set_cons_succ]
                  refine wpAnyH_take (i := 19) (oi := ⟨some 106, _, _, _, _, _⟩) (v := .bool false) rfl (by kernel_rfl) (by kernel_rfl) (by kernel_rfl) (fun _ _ _ h => h) (Or.inl ⟨by rfl, fun w hSw => by (try dsimp only at hSw); go_simp⟩) hS ?_
                  simp only [Act.put, List.setIfInBounds_toArray, List.set_cons_zero, List.set_cons_succ]
                  refine wpAnyH_take (i := 20) (oi := ⟨some 107, _, _, _, _, _⟩) (v := .bool false) rfl (by kernel_rfl) (by kernel_rfl) (by kernel_rfl) (fun _ _ _ h => h) (Or.inl ⟨by rfl, fun w hSw => by (try dsimp only at hSw); go_simp⟩) hS ?_
                  simp only [Act.put, List.setIfInBounds_toArray, List.set_cons_zero, List.set_cons_succ]
                  refine wpAnyH_take (i := 21) (oi := ⟨some 86, _, _, _, _, _⟩) (v := .bool false) rfl (by kernel_rfl) (by kernel_rfl) (by kernel_rfl) (fun _ _ _ h => h) (Or.inl ⟨by rfl, fun w hSw => by (try dsimp only at hSw); go_simp⟩) hS ?_
                  simp only [Act.put, List.setIfInBounds_toArray, List.set_cons_zero, List.set_cons_succ]
                  refine wpAnyH_done (by kernel_rfl) ?_ _
                  clear hS
                  go_upto_region 15 with fail
                  have hdr : Hid (Below w501.heap.size w501 w501.drew) := Lib.hid (Below.refl _ _).drew
                  have KD := kp K501 hdr
                  clear K501 hdr
                  refine wp_region_held_drew (S := fun _ => True) (by kernel_rfl) (trivial) (fun hS => ?_)
                  generalize w501.drew = w502 at *
                  have K502 := KD
                  clear KD
                  refine wpAnyH_take (i := 0) (oi := ⟨some 109, _, _, _, _, _⟩) (v := .int .i64 (j : Int)) rfl (by kernel_rfl) (by kernel_rfl) (by kernel_rfl) (fun _ _ _ h => h) (Or.inl ⟨by rfl, fun w hSw => by (try dsimp only at hSw); go_simp⟩) hS ?_
                  simp only [Act.put, List.setIfInBounds_toArray, List.set_cons_zero, List.set_cons_succ]
                  refine wpAnyH_take (i := 1) (oi := ⟨some 110, _, _, _, _, _⟩) (v := .slice A3 M1 c3) rfl (by kernel_rfl) (by kernel_rfl) (by kernel_rfl) (fun _ _ _ h => h) (Or.inl ⟨by rfl, fun w hSw => by (try dsimp only at hSw); go_simp⟩) hS ?_
                  simp only [Act.put, List.setIfInBounds_toArray, List.set_cons_zero, List.set_cons_succ]
                  refine wpAnyH_take (i := 2) (oi := ⟨some 111, _, _, _, _, _⟩) (v := .int .i64 (M1 : Int)) rfl (by kernel_rfl) (by kernel_rfl) (by kernel_rfl) (fun _ _ _ h => h) (Or.inl ⟨by rfl, fun w hSw => by (try dsimp only at hSw); go_simp⟩) hS ?_
                  simp only [Act.put, List.setIfInBounds_toArray, List.set_cons_zero, List.set_cons_succ]
                  refine wpAnyH_take (i := 3) (oi := ⟨some 112, _, _, _, _, _⟩) (v := .bool true) rfl (by kernel_rfl) (by kernel_rfl) (by kernel_rfl) (fun _ _ _ h => h) (Or.inl ⟨by rfl, fun w hSw => by (try dsimp only at hSw); go_simp⟩) hS ?_
                  simp only [Act.put, List.setIfInBounds_toArray, List.set_cons_zero, List.set_cons_succ]
                  refine wpAnyH_take (i := 4) (oi := ⟨some 113, _, _, _, _, _⟩) (v := .bool true) rfl (by kernel_rfl) (by kernel_rfl) (by kernel_rfl) (fun _ _ _ h => h) (Or.inl ⟨by rfl, fun w hSw => by (try dsimp only at hSw); go_simp⟩) hS ?_
                  simp only [Act.put, List.setIfInBounds_toArray, List.set_cons_zero, List.set_cons_succ]
                  refine wpAnyH_take (i := 5) (oi := ⟨some 114, _, _, _, _, _⟩) (v := undef) rfl (by kernel_rfl) (by kernel_rfl) (by kernel_rfl) (fun _ _ _ h => h) (Or.inr ⟨by rfl, rfl⟩) hS ?_
                  simp only [Act.put, List.setIfInBounds_toArray, List.set_cons_zero, List.set_cons_succ]
                  refine wpAnyH_take (i := 6) (oi := ⟨some 115, _, _, _, _, _⟩) (v := undef) rfl (by kernel_rfl) (by kernel_rfl) (by kernel_rfl) (fun _ _ _ h => h) (Or.inr ⟨by rfl, rfl⟩) hS ?_
                  simp only [Act.put, List.setIfInBounds_toArray, List.set_cons_zero, List.set_cons_succ]
                  refine wpAnyH_take (i := 7) (oi := ⟨some 116, _, _, _, _, _⟩) (v := undef) rfl (by kernel_rfl) (by kernel_rfl) (by kernel_rfl) (fun _ _ _ h => h) (Or.inr ⟨by rfl, rfl⟩) hS ?_
                  simp only [Act.put, List.setIfInBounds_toArray, List.set_cons_zero, List.set_cons_succ]
                  refine wpAnyH_take (i := 8) (oi := ⟨some 117, _, _, _, _, _⟩) (v := undef) rfl (by kernel_rfl) (by kernel_rfl) (by kernel_rfl) (fun _ _ _ h => h) (Or.inr ⟨by rfl, rfl⟩) hS ?_
                  simp only [Act.put, List.setIfInBounds_toArray, List.set_cons_zero, List.set_cons_succ]
                  refine wpAnyH_take (i := 9) (oi := ⟨some 118, _, _, _, _, _⟩) (v := undef) rfl (by kernel_rfl) (by kernel_rfl) (by kernel_rfl) (fun _ _ _ h => h) (Or.inr ⟨by rfl, rfl⟩) hS ?_
                  simp only [Act.put, List.setIfInBounds_toArray, List.set_cons_zero, List.set_cons_succ]
                  refine wpAnyH_take (i := 10) (oi := ⟨some 119, _, _, _, _, _⟩) (v := undef) rfl (by kernel_rfl) (by kernel_rfl) (by kernel_rfl) (fun _ _ _ h => h) (Or.inr ⟨by rfl, rfl⟩) hS ?_
                  simp only [Act.put, List.setIfInBounds_toArray, List.set_cons_zero, List.set_cons_succ]
                  refine wpAnyH_take (i := 11) (oi := ⟨some 120, _, _, _, _, _⟩) (v := undef) rfl (by kernel_rfl) (by kernel_rfl) (by kernel_rfl) (fun _ _ _ h => h) (Or.inr ⟨by rfl, rfl⟩) hS ?_
                  simp only [Act.put, List.setIfInBounds_toArray, List.set_cons_zero, List.set_cons_succ]
                  refine wpAnyH_take (i := 12) (oi := ⟨some 121, _, _, _, _, _⟩) (v := undef) rfl (by kernel_rfl) (by kernel_rfl) (by kernel_rfl) (fun _ _ _ h => h) (Or.inr ⟨by rfl, rfl⟩) hS ?_
                  simp only [Act.put, List.setIfInBounds_toArray, List.set_cons_zero, List.set_cons_succ]
                  refine wpAnyH_take (i := 13) (oi := ⟨some 122, _, _, _, _, _⟩) (v := undef) rfl (by kernel_rfl) (by kernel_rfl) (by kernel_rfl) (fun _ _ _ h => h) (Or.inr ⟨by rfl, rfl⟩) hS ?_
                  simp only [Act.put, List.setIfInBounds_toArray, List.set_cons_zero, List.set_cons_succ]
                  refine wpAnyH_take (i := 14) (oi := ⟨some 123, _, _, _, _, _⟩) (v := .bool true) rfl (by kernel_rfl) (by kernel_rfl) (by kernel_rfl) (fun _ _ _ h => h) (Or.inl ⟨by rfl, fun w hSw => by (try dsimp only at hSw); go_simp⟩) hS ?_
                  simp only [Act.put, List.setIfInBounds_toArray, List.set_cons_zero, List.set_cons_succ]
                  refine wpAnyH_take (i := 15) (oi := ⟨some 108, _, _, _, _, _⟩) (v := .bool true) rfl (by kernel_rfl) (by kernel_rfl) (by kernel_rfl) (fun _ _ _ h => h) (Or.inl ⟨by rfl, fun w hSw => by (try dsimp only at hSw); go_simp⟩) hS ?_
                  simp only [Act.put, List.setIfInBounds_toArray, List.set_cons_zero, List.set_cons_succ]
                  refine wpAnyH_done (by kernel_rfl) ?_ _
                  clear hS
                  go_wp2_with fail
                  exact ⟨⟨j + 1, 1, by go_num, rfl, .inr ⟨HE.out, by decide, by omega⟩, K502.out⟩, by simp [intOf]; omega⟩
              · have e0 : decide ((j : Int) < (M0 : Int)) = false := by rw [decide_eq_false_iff_not]; omega
                have e0n : decide (j < M0) = false := by rw [decide_eq_false_iff_not]; omega
                have f0 : decide ((M0 : Int) ≤ (j : Int)) = true := by rw [decide_eq_true_eq]; omega
                have f0n : decide (M0 ≤ j) = true := by rw [decide_eq_true_eq]; omega
                have h0i : ¬ (j : Int) < (M0 : Int) := by omega
                by_cases h1 : j < M1
                · have e1 : decide ((j : Int) < (M1 : Int)) = true := by rw [decide_eq_true_eq]; omega
                  have e1n : decide (j < M1) = true := by rw [decide_eq_true_eq]; omega
                  have f1 : decide ((M1 : Int) ≤ (j : Int)) = false := by rw [decide_eq_false_iff_not]; omega
                  have f1n : decide (M1 ≤ j) = false := by rw [decide_eq_false_iff_not]; omega
                  have h1i : (j : Int) < (M1 : Int) := by omega
                  have HE : Hid ((-1 : Int) = Z) := Lib.hid (by rw [HZJ.out, cmp_less (by rw [HLM0.out]; omega) (by rw [HLM1.out]; exact h1)])
                  clear HZJ
                  go_upto_region 13 with fail
                  have hdr : Hid (Below w500.heap.size w500 w500.drew) := Lib.hid (Below.refl _ _).drew
                  have KD := kp K500 hdr
                  clear K500 hdr
                  refine wp_region_held_drew (S := fun _ => True) (by kernel_rfl) (trivial) (fun hS => ?_)
                  generalize w500.drew = w501 at *
                  have K501 := KD
                  clear KD
                  refine wpAnyH_take (i := 0) (oi := ⟨some 87, _, _, _, _, _⟩) (v := .int .i64 (j : Int)) rfl (by kernel_rfl) (by kernel_rfl) (by kernel_rfl) (fun _ _ _ h => h) (Or.inl ⟨by rfl, fun w hSw => by (try dsimp only at hSw); go_simp⟩) hS ?_
                  simp only [Act.put, List.setIfInBounds_toArray, List.set_cons_zero, List.set_cons_succ]
                  refine wpAnyH_take (i := 1) (oi := ⟨some 88, _, _, _, _, _⟩) (v := .slice A2 M0 c2) rfl (by kernel_rfl) (by kernel_rfl) (by kernel_rfl) (fun _ _ _ h => h) (Or.inl ⟨by rfl, fun w hSw => by (try dsimp only at hSw); go_simp⟩) hS ?_
                  simp only [Act.put, List.setIfInBounds_toArray, List.set_cons_zero, List.set_cons_succ]
                  refine wpAnyH_take (i := 2) (oi := ⟨some 89, _, _, _, _, _⟩) (v := .int .i64 (M0 : Int)) rfl (by kernel_rfl) (by kernel_rfl) (by kernel_rfl) (fun _ _ _ h => h) (Or.inl ⟨by rfl, fun w hSw => by (try dsimp only at hSw); go_simp⟩) hS ?_
                  simp only [Act.put, List.setIfInBounds_toArray, List.set_cons_zero, List.set_cons_succ]
                  refine wpAnyH_take (i := 3) (oi := ⟨some 90, _, _, _, _, _⟩) (v := .bool true) rfl (by kernel_rfl) (by kernel_rfl) (by kernel_rfl) (fun _ _ _ h => h) (Or.inl ⟨by rfl, fun w hSw => by (try dsimp only at hSw); go_simp⟩) hS ?_
                  simp only [Act.put, List.setIfInBounds_toArray, List.set_cons_zero, List.set_cons_succ]
                  refine wpAnyH_take (i := 4) (oi := ⟨some 91, _, _, _, _, _⟩) (v := .bool true) rfl (by kernel_rfl) (by kernel_rfl) (by kernel_rfl) (fun _ _ _ h => h) (Or.inl ⟨by rfl, fun w hSw => by (try dsimp only at hSw); go_simp⟩) hS ?_
                  simp only [Act.put, List.setIfInBounds_toArray, List.set_cons_zero, List.set_cons_succ]
                  refine wpAnyH_take (i := 5) (oi := ⟨some 92, _, _, _, _, _⟩) (v := undef) rfl (by kernel_rfl) (by kernel_rfl) (by kernel_rfl) (fun _ _ _ h => h) (Or.inr ⟨by rfl, rfl⟩) hS ?_
                  simp only [Act.put, List.setIfInBounds_toArray, List.set_cons_zero, List.set_cons_succ]
                  refine wpAnyH_take (i := 6) (oi := ⟨some 93, _, _, _, _, _⟩) (v := undef) rfl (by kernel_rfl) (by kernel_rfl) (by kernel_rfl) (fun _ _ _ h => h) (Or.inr ⟨by rfl, rfl⟩) hS ?_
                  simp only [Act.put, List.setIfInBounds_toArray, List.set_cons_zero, List.set_cons_succ]
                  refine wpAnyH_take (i := 7) (oi := ⟨some 94, _, _, _, _, _⟩) (v := undef) rfl (by kernel_rfl) (by kernel_rfl) (by kernel_rfl) (fun _ _ _ h => h) (Or.inr ⟨by rfl, rfl⟩) hS ?_
                  simp only [Act.put, List.setIfInBounds_toArray, List.set_cons_zero, List.set_cons_succ]
                  refine wpAnyH_take (i := 8) (oi := ⟨some 95, _, _, _, _, _⟩) (v := undef) rfl (by kernel_rfl) (by kernel_rfl) (by kernel_rfl) (fun _ _ _ h => h) (Or.inr ⟨by rfl, rfl⟩) hS ?_
                  simp only [Act.put, List.setIfInBounds_toArray, List.set_cons_zero, List.set_cons_succ]
                  refine wpAnyH_take (i := 9) (oi := ⟨some 96, _, _, _, _, _⟩) (v := undef) rfl (by kernel_rfl) (by kernel_rfl) (by kernel_rfl) (fun _ _ _ h => h) (Or.inr ⟨by rfl, rfl⟩) hS ?_
                  simp only [Act.put, List.setIfInBounds_toArray, List.set_cons_zero, List.set_cons_succ]
                  refine wpAnyH_take (i := 10) (oi := ⟨some 97, _, _, _, _, _⟩) (v := undef) rfl (by kernel_rfl) (by kernel_rfl) (by kernel_rfl) (fun _ _ _ h => h) (Or.inr ⟨by rfl, rfl⟩) hS ?_
                  simp only [Act.put, List.setIfInBounds_toArray, List.set_cons_zero, List.set_cons_succ]
                  refine wpAnyH_take (i := 11) (oi := ⟨some 98, _, _, _, _, _⟩) (v := undef) rfl (by kernel_rfl) (by kernel_rfl) (by kernel_rfl) (fun _ _ _ h => h) (Or.inr ⟨by rfl, rfl⟩) hS ?_
                  simp only [Act.put, List.setIfInBounds_toArray, List.set_cons_zero, List.set_cons_succ]
                  refine wpAnyH_take (i := 12) (oi := ⟨some 99, _, _, _, _, _⟩) (v := undef) rfl (by kernel_rfl) (by kernel_rfl) (by kernel_rfl) (fun _ _ _ h => h) (Or.inr ⟨by rfl, rfl⟩) hS ?_
                  simp only [Act.put, List.setIfInBounds_toArray, List.set_cons_zero, List.set_cons_succ]
                  refine wpAnyH_take (i := 13) (oi := ⟨some 100, _, _, _, _, _⟩) (v := undef) rfl (by kernel_rfl) (by kernel_rfl) (by kernel_rfl) (fun _ _ _ h => h) (Or.inr ⟨by rfl, rfl⟩) hS ?_
                  simp only [Act.put, List.setIfInBounds_toArray, List.set_cons_zero, List.set_cons_succ]
                  refine wpAnyH_take (i := 14) (oi := ⟨some 101, _, _, _, _, _⟩) (v := undef) rfl (by kernel_rfl) (by kernel_rfl) (by kernel_rfl) (fun _ _ _ h => h) (Or.inr ⟨by rfl, rfl⟩) hS ?_
                  simp only [Act.put, List.setIfInBounds_toArray, List.set_cons_zero, List.set_cons_succ]
                  refine wpAnyH_take (i := 15) (oi := ⟨some 102, _, _, _, _, _⟩) (v := undef) rfl (by kernel_rfl) (by kernel_rfl) (by kernel_rfl) (fun _ _ _ h => h) (Or.inr ⟨by rfl, rfl⟩) hS ?_
                  simp only [Act.put, List.setIfInBounds_toArray, List.set_cons_zero, List.set_cons_succ]
                  refine wpAnyH_take (i := 16) (oi := ⟨some 103, _, _, _, _, _⟩) (v := undef) rfl (by kernel_rfl) (by kernel_rfl) (by kernel_rfl) (fun _ _ _ h => h) (Or.inr ⟨by rfl, rfl⟩) hS ?_
                  simp only [Act.put, List.setIfInBounds_toArray, List.set_cons_zero, List.set_cons_succ]
                  refine wpAnyH_take (i := 17) (oi := ⟨some 104, _, _, _, _, _⟩) (v := undef) rfl (by kernel_rfl) (by kernel_rfl) (by kernel_rfl) (fun _ _ _ h => h) (Or.inr ⟨by rfl, rfl⟩) hS ?_
                  simp only [Act.put, List.setIfInBounds_toArray, List.set_cons_zero, List.set_cons_succ]
                  refine wpAnyH_take (i := 18) (oi := ⟨some 105, _, _, _, _, _⟩) (v := undef) rfl (by kernel_rfl) (by kernel_rfl) (by kernel_rfl) (fun _ _ _ h => h) (Or.inr ⟨by rfl, rfl⟩) hS ?_
                  simp only [Act.put, List.setIfInBounds_toArray, List.set_cons_zero, List.set_cons_succ]
                  refine wpAnyH_take (i := 19) (oi := ⟨some 106, _, _, _, _, _⟩) (v := undef) rfl (by kernel_rfl) (by kernel_rfl) (by kernel_rfl) (fun _ _ _ h => h) (Or.inr ⟨by rfl, rfl⟩) hS ?_
                  simp only [Act.put, List.setIfInBounds_toArray, List.set_cons_zero, List.set_cons_succ]
                  refine wpAnyH_take (i := 20) (oi := ⟨some 107, _, _, _, _, _⟩) (v := .bool true) rfl (by kernel_rfl) (by kernel_rfl) (by kernel_rfl) (fun _ _ _ h => h) (Or.inl ⟨by rfl, fun w hSw => by (try dsimp only at hSw); go_simp⟩) hS ?_
                  simp only [Act.put, List.setIfInBounds_toArray, List.set_cons_zero, List.set_cons_succ]
                  refine wpAnyH_take (i := 21) (oi := ⟨some 86, _, _, _, _, _⟩) (v := .bool true) rfl (by kernel_rfl) (by kernel_rfl) (by kernel_rfl) (fun _ _ _ h => h) (Or.inl ⟨by rfl, fun w hSw => by (try dsimp only at hSw); go_simp⟩) hS ?_
                  simp only [Act.put, List.setIfInBounds_toArray, List.set_cons_zero, List.set_cons_succ]
                  refine wpAnyH_done (by kernel_rfl) ?_ _
                  clear hS
                  go_wp2_with fail
                  exact ⟨⟨j + 1, -1, by go_num, rfl, .inr ⟨HE.out, by decide, by omega⟩, K501.out⟩, by simp [intOf]; omega⟩
                · have e1 : decide ((j : Int) < (M1 : Int)) = false := by rw [decide_eq_false_iff_not]; omega
                  have e1n : decide (j < M1) = false := by rw [decide_eq_false_iff_not]; omega
                  have h1i : ¬ (j : Int) < (M1 : Int) := by omega
                  have HE : Hid ((0 : Int) = Z) := Lib.hid (by rw [HZJ.out, cmp_done (by rw [HLM0.out]; omega) (by rw [HLM1.out]; omega)])
                  clear HZJ
                  go_wp2_with fail
                  go_meet
                  exact ⟨by rw [HE.out], K500.out⟩
            · have hyi : (y == 0) = false := by rw [beq_eq_false_iff_ne]; exact hne
              go_wp2_with fail
              go_meet
              exact ⟨rfl, K500.out⟩
        case rest =>
          obtain ⟨rfl, hst⟩ := hcut
          have K7 := Lib.hid hst
          clear hst K6
          generalize wc = w7 at *
          have c_g8_0 : w7.cell? ⟨g8, 0, none⟩ = some (.int .u32 (q0 : Int)) := by rw [(K7.out.k (g8, 24, chL q0 S0') (by simp)).cell]; rfl
          have c_g9_0 : w7.cell? ⟨g9, 0, none⟩ = some (.int .u32 (q1 : Int)) := by rw [(K7.out.k (g9, 24, chL q1 S1') (by simp)).cell]; rfl
          by_cases hZ0 : Z = 0
          · subst hZ0
            by_cases h01 : q0 < q1
            · have hi3 : (q0 : Int) < (q1 : Int) := by omega
              have HR : Hid (cmpC q0 l0 q1 l1 = -1) := Lib.hid (by rw [HRES.out, cmpN_lt h01]; rfl)
              go_upto_region 21 with fail
              clear c_g8_0 c_g9_0
              go_wp2_with (first | (refine wpList_loadGg (by rfl) (.tmp 8) rfl rfl (rangeB (K7.out.k (g8, 24, chL q0 S0') (by simp))) Tryd.underlying24 rfl infoCh ?_) | (refine wpList_loadGg (by rfl) (.tmp 9) rfl rfl (rangeB (K7.out.k (g9, 24, chL q1 S1') (by simp))) Tryd.underlying24 rfl infoCh ?_))
              refine (cmp_at w7 q0 l0 S0' HS0.out q1 l1 S1' HS1.out (-1) HR.out).mono ?_
              rintro e w8 ⟨rfl, hb⟩
              have K8 := kp K7 hb
              clear hb K7
              go_wp2_with fail
              refine (lives_at w8 K8.out.t).mono ?_
              rintro e w9 ⟨rfl, hb⟩
              have K9 := kp K8 hb
              clear hb K8
              go_wp2_with fail
              go_ret
              exact ⟨rfl, K9.out.b⟩
            · have hi3 : ¬ (q0 : Int) < (q1 : Int) := by omega
              by_cases h10 : q1 < q0
              · have hi4 : (q1 : Int) < (q0 : Int) := by omega
                have HR : Hid (cmpC q0 l0 q1 l1 = 1) := Lib.hid (by rw [HRES.out, cmpN_gt h10]; rfl)
                go_upto_region 21 with fail
                clear c_g8_0 c_g9_0
                go_wp2_with (first | (refine wpList_loadGg (by rfl) (.tmp 8) rfl rfl (rangeB (K7.out.k (g8, 24, chL q0 S0') (by simp))) Tryd.underlying24 rfl infoCh ?_) | (refine wpList_loadGg (by rfl) (.tmp 9) rfl rfl (rangeB (K7.out.k (g9, 24, chL q1 S1') (by simp))) Tryd.underlying24 rfl infoCh ?_))
                refine (cmp_at w7 q0 l0 S0' HS0.out q1 l1 S1' HS1.out (1) HR.out).mono ?_
                rintro e w8 ⟨rfl, hb⟩
                have K8 := kp K7 hb
                clear hb K7
                go_wp2_with fail
                refine (lives_at w8 K8.out.t).mono ?_
                rintro e w9 ⟨rfl, hb⟩
                have K9 := kp K8 hb
                clear hb K8
                go_wp2_with fail
                go_ret
                exact ⟨rfl, K9.out.b⟩
              · have hi4 : ¬ (q1 : Int) < (q0 : Int) := by omega
                have HR : Hid (cmpC q0 l0 q1 l1 = 0) := Lib.hid (by rw [HRES.out, show q0 = q1 by omega, cmpN_eq]; rfl)
                go_upto_region 21 with fail
                clear c_g8_0 c_g9_0
                go_wp2_with (first | (refine wpList_loadGg (by rfl) (.tmp 8) rfl rfl (rangeB (K7.out.k (g8, 24, chL q0 S0') (by simp))) Tryd.underlying24 rfl infoCh ?_) | (refine wpList_loadGg (by rfl) (.tmp 9) rfl rfl (rangeB (K7.out.k (g9, 24, chL q1 S1') (by simp))) Tryd.underlying24 rfl infoCh ?_))
                refine (cmp_at w7 q0 l0 S0' HS0.out q1 l1 S1' HS1.out (0) HR.out).mono ?_
                rintro e w8 ⟨rfl, hb⟩
                have K8 := kp K7 hb
                clear hb K7
                go_wp2_with fail
                refine (lives_at w8 K8.out.t).mono ?_
                rintro e w9 ⟨rfl, hb⟩
                have K9 := kp K8 hb
                clear hb K8
                go_wp2_with fail
                go_ret
                exact ⟨rfl, K9.out.b⟩
          · have hZi : (Z == 0) = false := by rw [beq_eq_false_iff_ne]; exact hZ0
            have HR : Hid (cmpC q0 l0 q1 l1 = Z) := Lib.hid (by rw [HRES.out]; unfold or2; rw [if_pos hZ0])
            go_upto_region 21 with fail
            clear c_g8_0 c_g9_0
            go_wp2_with (first | (refine wpList_loadGg (by rfl) (.tmp 8) rfl rfl (rangeB (K7.out.k (g8, 24, chL q0 S0') (by simp))) Tryd.underlying24 rfl infoCh ?_) | (refine wpList_loadGg (by rfl) (.tmp 9) rfl rfl (rangeB (K7.out.k (g9, 24, chL q1 S1') (by simp))) Tryd.underlying24 rfl infoCh ?_))
            refine (cmp_at w7 q0 l0 S0' HS0.out q1 l1 S1' HS1.out (Z) HR.out).mono ?_
            rintro e w8 ⟨rfl, hb⟩
            have K8 := kp K7 hb
            clear hb K7
            go_wp2_with fail
            refine (lives_at w8 K8.out.t).mono ?_
            rintro e w9 ⟨rfl, hb⟩
            have K9 := kp K8 hb
            clear hb K8
            go_wp2_with fail
            go_ret
            exact ⟨rfl, K9.out.b⟩

open Go.ChangeShapes Go.WideShapes Go.ChangeAt Go.WideMaps Go.WideElems
set_option maxRecDepth 100000 in
theorem charstringsOrder_lifted (os : Os) (started : os.Started) (H : Type) (enc : TypeId × Value → H) :
    ReturnsInHanded {} Tryd.checked os 8 .any (fun w args => (Rows.charstringsOrderSpec.pre enc Tryd.prog Tryd.f8 [] false w args ∧ laidMetH Tryd.prog laidL w) ∧ sizedMet enc Tryd.prog Tryd.f8 (OpenSpec.ofChange Rows.charstringsOrderSpec) false w args)
      (Rows.charstringsOrderSpec.post enc Tryd.prog Tryd.f8 false true false false) := by
  refine returnsInHanded_of_change_and (C := Tryd.checked) (X := fun w _ => laidMetH Tryd.prog laidL w) (fun _ _ _ hh h => h.of_heap hh) x_own started (by kernel_rfl) Tryd.func8
    (ChangeSpec.witness_shaped (enc := enc) (C := Tryd.checked) (os := os) (X := fun w _ => laidMetH Tryd.prog laidL w) false (World.laidAll Tryd.prog os laidL) #[.agg #[.int .u8 0, .slice none 0 0, .int .u8 0, .slice none 0 0], .agg #[.int .u32 0, .string ⟨#[]⟩], .agg #[.int .u32 0, .string ⟨#[]⟩]] 8 (World.laidAll_os _ _ _) (World.shaped_of_ZipB (by kernel_rfl) (by kernel_rfl)) (by kernel_rfl) (by kernel_rfl) (by kernel_rfl) (door_met os _)) ?_
  intro W base args ds gs before hval0 hW _ _ hL _
  have hval : ∀ (j : Nat) t v, Tryd.f8.params[j]? = some t → args[j]? = some v → Value.okWide Tryd.prog W .any base t v := hval0
  have hW' := hW
  obtain ⟨p, q, hA0, hV, rfl, hfz, hnd⟩ := hW
  have hA : DataW.TrodAll enc Tryd.prog W 0 (fun _ => true) true Tryd.f8.params.toList args.toList ds p := hA0
  rw [Tryd.params8] at hA hval
  obtain ⟨v0, v1, v2, d0, d1, d2, p0, p1, p2, rfl, rfl, rfl, h0, h1, h2⟩ := trodAll_three hA
  obtain ⟨rfl, rfl⟩ := trodVars_none hV
  obtain ⟨k0, A0, l0, c0, k1, A1, l1, c1, rfl, ⟨hk0, hR0, hx0, hlc0, hcm0⟩, ⟨hk1, hR1, hx1, hlc1, hcm1⟩⟩ := open_C2 (hval 0 _ v0 rfl rfl) h0
  obtain ⟨kx, la, rfl, hka, ha8, hla⟩ := open_ch (hval 1 _ v1 rfl rfl) h1
  obtain ⟨kc, lc, rfl, hkc, hc8, hlc⟩ := open_ch (hval 2 _ v2 rfl rfl) h2
  have hE := of_laid hL
  clear hA0 hval0
  simp only [List.append_nil] at hW'
  refine (order_walk k0 hk0 A0 l0 l0.length c0 k1 hk1 A1 l1 l1.length c1 kx hka la ha8 hla kc hkc lc hc8 hlc W hR0 hx0 rfl (Nat.le_trans hlc0 hcm0) hR1 hx1 rfl (Nat.le_trans hlc1 hcm1) hE).mono fun e W' ⟨he, hb⟩ => ?_
  subst he
  exact ⟨_, rfl, law_post (tb := 4) x_laid (by decide +kernel) rfl rfl (by kernel_rfl) Tryd.underlying4 hW' hb⟩

/-- The row's statement. -/
theorem charstringsOrder_row : Rows.CharstringsOrderSaid :=
  OpenClaim.holds_of_wide 8 Tryd.f8 rfl rfl rfl rfl rfl rfl rfl ⟨rfl, rfl, rfl, rfl, rfl⟩ rfl rfl rfl rfl rfl (by kernel_rfl) Tryd.func8 (by kernel_rfl)
    (of_decide_eq_true (by kernel_rfl)) (by unfold Func.isWrapper; first | (rw [if_pos (by decide +kernel)]; kernel_rfl) | (rw [if_neg (by decide +kernel)]; exact ⟨rfl, rfl⟩))
    (fun os started H enc _ => charstringsOrder_lifted os started H enc)

/-- The statement: the card. -/
theorem charstringsOrder_holds : Rows.CharstringsOrderCardSaid :=
  Claim7.holds_tied_plain_at .later [] [.data, .pinned] true Rows.charstringsOrderCard.stood.harness Rows.charstringsOrderCard.stood.looks
    charstringsOrder_row (fun _ h => by cases h) (by kernel_rfl) (fun _ h => by cases h) charstringsOrder_row_tie rfl ⟨rfl, rfl⟩ (by kernel_rfl) rfl
    (fun f fn hf hfn => by
      obtain rfl : f = 8 := Option.some.inj ((show Tryd.prog.funcNamed "vidimus/vidimuslaw09.CharstringsOrder" = some 8 by kernel_rfl).symm.trans hf) |>.symm
      obtain rfl : fn = Tryd.f8 := (Option.some.inj (Tryd.func8.symm.trans hfn)).symm
      exact ⟨by kernel_rfl, fun j t ht => by
        rw [Tryd.params8] at ht
        have hm : t ∈ Tryd.f8.params.toList := by rw [Tryd.params8]; exact Array.mem_toList_iff.2 (Array.mem_of_getElem? ht)
        have hall : (Tryd.f8.params.toList.all fun u => !Tryd.prog.wantsStandIn u) = true := by kernel_rfl
        exact (show Tryd.prog.wantsStandIn t = false by simpa using List.all_eq_true.1 hall t hm)⟩)
    (by kernel_rfl)
end Go.Proofs.YthefnfjhnallfaaDoor.Chs
