/-
  Layer 12: the reference's Fault and Ordered, with the block of the path whole, so that it may be written to.
  Conditions: none beyond that values read as what they are.
-/
import Derived.Test.YtfbdeefeagednaaFlRo
namespace Go.Proofs.Ytfbdeefeagednaa.Fl
open Go.RowKit

theorem own_openB {w : World} {base : Nat} {v : Value} {z : Int} (h : w.ownsRow base 3 1 v ([] ++ [Value.int .i64 z]).length ([] ++ [Value.int .i64 z])) : ∃ g c L, v = .slice (some ⟨g, 0, none⟩) 1 c ∧ Bk w g 3 (.int .i64 z :: L) ∧ base ≤ g := by
  have hc := fun (g : Nat) (hg : v.ownBlock = some g) => h.cells hg
  rcases h.2 with ⟨rfl, h0⟩ | ⟨g, cap, cur, rfl, hb, hg, hn, hm, hs, ht⟩
  · simp at h0
  · have kb : Bk w g 3 cur.toList := by unfold Bk; rw [hg]
    have h1 := hc g rfl 0 _ (by rfl : ([] ++ [Value.int .i64 z])[0]? = some (.int .i64 z))
    rw [addr_add, Nat.add_zero, kb.cell] at h1
    obtain ⟨L, hL⟩ : ∃ L, cur.toList = .int .i64 z :: L := by
      cases hcl : cur.toList with
      | nil => rw [hcl] at h1; simp at h1
      | cons a L => rw [hcl] at h1; simp at h1; exact ⟨L, by rw [h1]⟩
    rw [hL] at kb
    exact ⟨g, cap, L, rfl, kb, hb⟩
set_option linter.unusedSimpArgs false in
set_option maxHeartbeats 4000000 in
set_option maxRecDepth 100000 in
theorem rfault_bk (f : Nat) (z : Int) (w : World) (hz : 0 ≤ z) : Calls Try.prog 9 #[.int .i64 (f : Int), .int .i64 z] w fun e w' => ∃ g cc L, e = .returned (fvV (some ⟨g, 0, none⟩) 1 cc f) ∧ Bk w' g 3 (.int .i64 z :: L) ∧ w.heap.size ≤ g ∧ Below w.heap.size w w' := by
  obtain ⟨w1, hw1⟩ : ∃ w1, w.alloc (.cells #[.slice none 0 0, .int .i64 0] 38) = w1 := ⟨_, rfl⟩
  have k1 : Bk w1 w.heap.size 38 [.slice none 0 0, .int .i64 0] := by rw [← hw1]; exact Bk.new w _ [_, _]
  have b1 : Below w.heap.size w w1 := by rw [← hw1]; exact bel1 w _
  obtain ⟨w2, hw2⟩ : ∃ w2, w1.alloc (.cells #[.slice none 0 0, .int .i64 (f : Int)] 38) = w2 := ⟨_, rfl⟩
  have b2 : Below w1.heap.size w1 w2 := by rw [← hw2]; exact bel1 w1 _
  have k2 : Bk w2 w1.heap.size 38 [.slice none 0 0, .int .i64 (f : Int)] := by rw [← hw2]; exact Bk.new w1 _ [_, _]
  have K1 := kt (Lib.hid k1) (Lib.hid b2)
  have K2 := Lib.hid k2
  have B := bt (Lib.hid b1) (Lib.hid b2)
  have HW1 := Lib.hid hw1
  have HW2 := Lib.hid hw2
  obtain ⟨G, hG⟩ : ∃ G, w.heap.size = G := ⟨_, rfl⟩
  obtain ⟨D, hD⟩ : ∃ D, w1.heap.size = D := ⟨_, rfl⟩
  have HG := Lib.hid hG
  have HD : Hid (G + 1 = D) := Lib.hid (by rw [← hD, ← hw1, World.size_alloc, hG])
  rw [hG] at K1
  rw [hD] at K2
  clear k1 b1 b2 k2 hw1 hw2 hG hD
  have hg : decide (z ≥ 0) = true := by simp; omega
  have HL : Hid (w.heap.size ≤ w2.heap.size) := Lib.hid B.out.size
  obtain ⟨v', w3, hrun, hown, hb3⟩ := app_one (P := Try.prog) (t := 30) (ty := 30) Try.underlying30 infoI rfl (World.ownsRow_nil w2 w2.heap.size 3 1) (.int .i64 z) rfl (Nat.le_refl _) (by simp) (by unfold maxLen; simp)
  obtain ⟨g9, c, L9, rfl, hr, hc⟩ := own_openB hown
  have K13 := kt K1 (Lib.hid hb3)
  have K23 := kt K2 (Lib.hid hb3)
  have B3 := bt B (Lib.hid hb3)
  have HN := Lib.hid hc
  have HRN := Lib.hid hr
  have H2 := Lib.hid K2.out.lt
  have c0 : w2.cell? ⟨D, 0, none⟩ = some (.slice none 0 0) := K2.out.cell 0
  have d1 : w3.cell? ⟨D, 1, none⟩ = some (.int .i64 (f : Int)) := K23.out.cell 1
  have d0 : w3.cell? ⟨D, 0, none⟩ = some (.slice none 0 0) := K23.out.cell 0
  have d2 : w3.frozen? ⟨D, 0, none⟩ = false := K23.out.free 0
  clear hb3 hown hr hc
  go_enter Try.func9, Try.ntmps9
  go_upto_region 2 with fail
  rw [HW1.out, HW2.out, HG.out, HD.out]
  go_upto_region 4 with (refine wpList_app (o := ⟨some 14, _, _, _, _, _⟩) rfl (.tmp 11) (.tmp 13) _ _ rfl (.slice none 0 0) (.slice (some ⟨w2.heap.size, 0, none⟩) 1 1) rfl rfl hrun ?_)
  clear hrun c0 d0 d1 d2
  obtain ⟨w4, hw4⟩ : ∃ w4, w3.setCell ⟨D, 0, none⟩ (.slice (some ⟨g9, 0, none⟩) 1 c) = w4 := ⟨_, rfl⟩
  rw [hw4]
  have hGD : G ≠ D := by have := HD.out; omega
  have k14 : Bk w4 G 38 [.slice none 0 0, .int .i64 0] := by rw [← hw4]; exact K13.out.far (p := ⟨D, 0, none⟩) hGD _
  have k24 : Bk w4 D 38 [.slice (some ⟨g9, 0, none⟩) 1 c, .int .i64 (f : Int)] := by rw [← hw4]; exact K23.out.store 0 _
  have b4 : Below w.heap.size w w4 := by rw [← hw4]; exact B3.out.setCell (p := ⟨D, 0, none⟩) (by show w.heap.size ≤ D; have := HD.out; have := HG.out; omega) _
  have HR4 : Hid (Bk w4 g9 3 (.int .i64 z :: L9)) := Lib.hid (by rw [← hw4]; exact HRN.out.far (p := ⟨D, 0, none⟩) (show g9 ≠ D by have := H2.out; have := HN.out; omega) _)
  obtain ⟨c0, c1⟩ : w4.cell? ⟨D, 0, none⟩ = some (.slice (some ⟨g9, 0, none⟩) 1 c) ∧ w4.cell? ⟨D, 1, none⟩ = some (.int .i64 (f : Int)) := ⟨k24.cell 0, k24.cell 1⟩
  have K4 := Lib.hid k14
  have B4 := Lib.hid b4
  clear hw4 k14 k24 b4 K13 K23 B3 HRN K1 K2
  go_wp2_with (refine storeF rfl _ _ rfl rfl rfl K4.out rfl rfl ?_; intro w5 h5 h6)
  exact retF rfl rfl h5.out rfl ⟨g9, c, L9, rfl, HR4.out.only h6.out (fun e => by injection e with e; have := H2.out; have := HN.out; have := HD.out; omega), by have := HN.out; have := HL.out; omega, B4.out.trans (only_below h6.out (by rw [HG.out]; exact Nat.le_refl _) B4.out.size)⟩
/-- A fault is given, its path's block whole. -/
def GiveB (w : World) (P : List Int) (f : Nat) (e : Ending) (w' : World) : Prop :=
  Below w.heap.size w w' ∧ ((P = [] ∧ f = 0 ∧ e = .returned (fvV none 0 0 0)) ∨ ∃ z g c L, P = [z] ∧ f ≠ 0 ∧ e = .returned (fvV (some ⟨g, 0, none⟩) 1 c f) ∧ Bk w' g 3 (.int .i64 z :: L) ∧ w.heap.size ≤ g)
set_option linter.unusedSimpArgs false in
set_option maxHeartbeats 4000000 in
set_option maxRecDepth 100000 in
theorem rord_bk {x : Bool} {S : Nat → Prop} (c n : Nat) (k : Bool) (u : Value) (ss : List El) (B : Option Addr) (m cb : Nat) (w : World) (hm : ss.length = m) (hcm : m ≤ maxLen) (hS : RdS x S w B ss) (hd : ∀ e ∈ ss, OKe e) (P : List Int) (f : Nat) (hR : ordS 0 none ss = (P, f)) :
    Calls Try.prog 10 #[elV c n k u (.slice B m cb)] w (GiveB w P f) := by
  have k1 := Bk.new (w.alloc (.cells #[.int .u8 (c : Int), .bool k, .int .u32 (n : Int), u, .slice B m cb] 29)) 38 [.slice none 0 0, .int .i64 0]
  rw [World.size_alloc] at k1
  have k0 := (Bk.new w 29 [.int .u8 (c : Int), .bool k, .int .u32 (n : Int), u, .slice B m cb]).alloc (.cells #[.slice none 0 0, .int .i64 0] 38)
  have b0 := bel2 w (.cells #[.int .u8 (c : Int), .bool k, .int .u32 (n : Int), u, .slice B m cb] 29) (.cells #[.slice none 0 0, .int .i64 0] 38)
  obtain ⟨G, hG⟩ : ∃ G, w.heap.size = G := ⟨_, rfl⟩
  rw [hG] at k0 k1
  obtain ⟨D, hD⟩ : ∃ D, G + 1 = D := ⟨_, rfl⟩
  rw [hD] at k1
  obtain ⟨w2, hw2⟩ : ∃ v, (w.alloc (.cells #[.int .u8 (c : Int), .bool k, .int .u32 (n : Int), u, .slice B m cb] 29)).alloc (.cells #[.slice none 0 0, .int .i64 0] 38) = v := ⟨_, rfl⟩
  rw [hw2] at k0 k1 b0
  have K0 := Lib.hid k0
  have K1 := Lib.hid k1
  have B0 := Lib.hid b0
  have HG := Lib.hid hG
  have HD := Lib.hid hD
  have HW := Lib.hid hw2
  have HS := Lib.hid (hS.stay b0)
  have HM := Lib.hid hm
  have HDD := Lib.hid hd
  have HRR := Lib.hid hR
  have hmm : m ≤ 9223372036854775807 := by unfold maxLen at hcm; omega
  clear k0 k1 b0 hG hD hm hcm hS hd hR hw2
  have H0 : Hid (1 ≤ m → ordS 1 (prevE ss 1) (ss.drop 1) = (P, f)) := Lib.hid (fun h1 => by
    have hR := HRR.out
    have hl := HM.out
    cases ss with
    | nil => simp at hl; omega
    | cons e t =>
      rw [ordS_cons, (HDD.out e (List.mem_cons_self ..)).chk, if_neg (by simp)] at hR
      exact hR)
  have H00 : Hid (m < 1 → P = [] ∧ f = 0) := Lib.hid (fun h1 => by
    have hR := HRR.out
    have hl := HM.out
    cases ss with
    | nil => rw [ordS] at hR; injection hR with a b; exact ⟨a.symm, b.symm⟩
    | cons e t => simp at hl; omega)
  go_enter Try.func10, Try.ntmps10
  go_upto_region 1 with fail
  rw [HG.out, HD.out, HW.out]
  go_wp2_with fail
  go_loopw [3, 4, 5] (fun i _ _ wr => ∃ q p : Nat, p + 1 = q ∧ i = .int .i64 (q : Int) ∧ (q ≤ m → ordS q (prevE ss q) (ss.drop q) = (P, f)) ∧ (m < q → P = [] ∧ f = 0) ∧ q ≤ m + 1 ∧ Below w2.heap.size w2 wr) (fun i _ _ _ => m + 1 - (intOf i).toNat)
  case atStart => exact ⟨1, 0, rfl, rfl, H0.out, H00.out, by omega, Below.refl _ _⟩
  case round =>
    clear H0 H00 HRR
    obtain ⟨q, p, hpq, rfl, ho, he, hqm, hbl⟩ := hrel
    have HO := Lib.hid ho
    have HE := Lib.hid he
    have BB := Lib.hid hbl
    have HPQ := Lib.hid hpq
    have HQM := Lib.hid hqm
    have KE := kt K0 BB
    have KF := kt K1 BB
    have B2 := bt B0 BB
    have RS := Lib.hid (HS.out.stay BB.out)
    clear ho he hbl hpq hqm
    obtain ⟨e0, e1, e2, e3, e4, ez⟩ := KE.out.five
    by_cases hlt : q < m
    · have hpl : p < ss.length := by rw [HM.out]; have := HPQ.out; omega
      have hql : q < ss.length := by rw [HM.out]; exact hlt
      obtain ⟨b, off, c1, n1, j1, A1, l1, q1, A2, l2, q2, rfl, hb, _, f0, f1, f2, f3, f4, hE1⟩ := RS.out.fives hpl
      obtain ⟨b', off', c2, n2, j2, A3, l3, q3, A4, l4, q4, hbo, hb', _, g0, g1, g2, g3, g4, hE2⟩ := RS.out.fives hql
      simp only [Option.some.injEq, Addr.mk.injEq, and_true] at hbo
      obtain ⟨rfl, rfl⟩ := hbo
      have hok1 := HDD.out _ (List.getElem_mem hpl)
      have hok2 := HDD.out _ (List.getElem_mem hql)
      have hO := HO.out (Nat.le_of_lt hlt)
      rw [List.drop_eq_getElem_cons hql, ordS_cons, hok2.chk, if_neg (by simp)] at hO
      have hpr : prevE ss q = some ss[p] := by unfold prevE; rw [if_neg (by have := HPQ.out; omega), show q - 1 = p by have := HPQ.out; omega, List.getElem?_eq_getElem hpl]
      have hpn : prevE ss (q + 1) = some ss[q] := by unfold prevE; rw [if_neg (by omega), show q + 1 - 1 = q by omega, List.getElem?_eq_getElem hql]
      rw [hpr] at hO
      dsimp only at hO
      rw [encR_ok hok1, encR_ok hok2] at hO
      dsimp only at hO
      rw [← hpn] at hO
      obtain ⟨X, hX⟩ : ∃ X, ss[p] = X := ⟨_, rfl⟩
      obtain ⟨Y, hY⟩ : ∃ Y, ss[q] = Y := ⟨_, rfl⟩
      rw [hX] at hO hE1 hok1
      rw [hY] at hO hE2 hok2
      have HOO := Lib.hid hO
      have HC1 := Lib.hid (renc_any X _ wr hE1 hok1.1 hok1.2.2.2)
      have HC2 := Lib.hid (fun (W : World) (hb : Below wr.heap.size wr W) => renc_any Y _ W (hE2.stay hb) hok2.1 hok2.2.2.2)
      have HCL := Lib.hid (show ∀ W, Below wr.heap.size wr W → W.cell? ⟨b, off + q * 5, none⟩ = some (.int .u8 (c2 : Int)) ∧ W.cell? ⟨b, off + q * 5 + 1, none⟩ = some (.bool j2) ∧ W.cell? ⟨b, off + q * 5 + 2, none⟩ = some (.int .u32 (n2 : Int)) ∧ W.cell? ⟨b, off + q * 5 + 3, none⟩ = some (.slice A3 l3 q3) ∧ W.cell? ⟨b, off + q * 5 + 4, none⟩ = some (.slice A4 l4 q4) from fun W hW => ⟨(hW.cell (p := ⟨b, off + q * 5, none⟩) hb).trans g0, (hW.cell (p := ⟨b, off + q * 5 + 1, none⟩) hb).trans g1, (hW.cell (p := ⟨b, off + q * 5 + 2, none⟩) hb).trans g2, (hW.cell (p := ⟨b, off + q * 5 + 3, none⟩) hb).trans g3, (hW.cell (p := ⟨b, off + q * 5 + 4, none⟩) hb).trans g4⟩)
      have hqp : (q : Int) - 1 = (p : Int) := by have := HPQ.out; omega
      have hpm : p < m := by have := HPQ.out; omega
      clear hO hE1 hE2 hok1 hok2 hpr hpn hX hY g0 g1 g2 g3 g4 hb' hpl hql
      go_wp2_with fail
      refine HC1.out.mono ?_
      rintro e w4 ⟨AX, NX, CX, rfl, hlX, hrX, _, _, hb4⟩
      have hs1 := str8 hrX hlX CX
      have KE4 := kt KE (Lib.hid hb4)
      have KF4 := kt KF (Lib.hid hb4)
      have B4 := bt B2 (Lib.hid hb4)
      have BX := Lib.hid hb4
      have H8X := Lib.hid hrX.2
      obtain ⟨ZX, hZX⟩ : ∃ Z, bstr (encE X) = Z := ⟨_, rfl⟩
      rw [hZX] at hs1
      have HZX := Lib.hid hZX
      clear hlX hrX hZX hb4 e0 e1 e2 e3 e4 ez f0 f1 f2 f3 f4 KE KF HC1
      obtain ⟨e0, e1, e2, e3, e4, ez⟩ := KE4.out.five
      obtain ⟨g0, g1, g2, g3, g4⟩ := HCL.out _ BX.out
      go_upto_region 5 with fail
      clear hs1
      go_wp2_with fail
      refine (HC2.out _ BX.out).mono ?_
      rintro e w5 ⟨AY, NY, CY, rfl, hlY, hrY, _, _, hb5⟩
      have hs2 := str8 hrY hlY CY
      have KF5 := kt KF4 (Lib.hid hb5)
      have B5 := bt B4 (Lib.hid hb5)
      have BY := bt BB (bt BX (Lib.hid hb5))
      have H8Y := Lib.hid hrY.2
      obtain ⟨ZY, hZY⟩ : ∃ Z, bstr (encE Y) = Z := ⟨_, rfl⟩
      rw [hZY] at hs2
      have hq1 := bst_less H8Y.out H8X.out
      have hq2 := bst_eq H8X.out H8Y.out
      have hq3 := bst_less H8X.out H8Y.out
      rw [hZY, HZX.out] at hq1 hq2 hq3
      have hsw := cmpB_swap (encE X) (encE Y)
      rw [hsw] at hq1
      have h3 := cmpB_three (encE X) (encE Y)
      clear hlY hrY hZY hb5 e0 e1 e2 e3 e4 ez g0 g1 g2 g3 g4 KE4 KF4 B4 HC2 HCL hsw
      obtain ⟨v, hv⟩ : ∃ v, cmpB (encE X) (encE Y) = v := ⟨_, rfl⟩
      rw [hv] at hq1 hq2 hq3 h3
      have HO2 := HOO.out
      rw [hv] at HO2
      clear hv HOO
      rcases h3 with rfl | rfl | rfl
      · rw [if_neg (by decide), if_neg (by decide)] at HO2
        have HNX := Lib.hid HO2
        clear HO2
        go_wp2_with fail
        exact ⟨⟨q + 1, q, rfl, by go_num, fun _ => HNX.out, fun h => absurd h (by omega), by omega, BY.out⟩, by simp [intOf]; omega⟩
      · rw [if_neg (by decide), if_pos rfl] at HO2
        injection HO2 with hP hF
        subst hP hF
        go_wp2_with fail
        refine (rfault_bk 14 (q : Int) _ (by omega)).mono ?_
        rintro e w6 ⟨g9, c9, L9, rfl, hk9, hg9, hb6⟩
        have K6 := kt KF5 (Lib.hid hb6)
        have B6 := bt B5 (Lib.hid hb6)
        have KK9 := Lib.hid hk9
        have HG9 := Lib.hid (show D < g9 ∧ w.heap.size ≤ g9 from ⟨Nat.lt_of_lt_of_le KF5.out.lt hg9, Nat.le_trans B5.out.size hg9⟩)
        clear hb6 hk9 hg9 hq1 hq2 hq3 hs2
        go_wp2_with (refine storeF rfl _ _ rfl rfl rfl K6.out rfl rfl ?_; intro w7 h7 h8)
        exact retF rfl rfl h7.out rfl ⟨B6.out.trans (only_below h8.out (by have := HD.out; have := HG.out; omega) B6.out.size), .inr ⟨_, g9, c9, L9, rfl, by decide, rfl, KK9.out.only h8.out (fun e => by injection e with e; have := HG9.out.1; omega), HG9.out.2⟩⟩
      · rw [if_pos rfl] at HO2
        injection HO2 with hP hF
        subst hP hF
        go_wp2_with fail
        refine (rfault_bk 13 (q : Int) _ (by omega)).mono ?_
        rintro e w6 ⟨g9, c9, L9, rfl, hk9, hg9, hb6⟩
        have K6 := kt KF5 (Lib.hid hb6)
        have B6 := bt B5 (Lib.hid hb6)
        have KK9 := Lib.hid hk9
        have HG9 := Lib.hid (show D < g9 ∧ w.heap.size ≤ g9 from ⟨Nat.lt_of_lt_of_le KF5.out.lt hg9, Nat.le_trans B5.out.size hg9⟩)
        clear hb6 hk9 hg9 hq1 hq2 hq3 hs2
        go_wp2_with (refine storeF rfl _ _ rfl rfl rfl K6.out rfl rfl ?_; intro w7 h7 h8)
        exact retF rfl rfl h7.out rfl ⟨B6.out.trans (only_below h8.out (by have := HD.out; have := HG.out; omega) B6.out.size), .inr ⟨_, g9, c9, L9, rfl, by decide, rfl, KK9.out.only h8.out (fun e => by injection e with e; have := HG9.out.1; omega), HG9.out.2⟩⟩
    · have hPF : P = [] ∧ f = 0 := by
        by_cases h : q = m
        · have := HO.out (Nat.le_of_eq h)
          rw [List.drop_eq_nil_of_le (by rw [HM.out]; omega), ordS] at this
          injection this with a b
          exact ⟨a.symm, b.symm⟩
        · exact HE.out (by omega)
      obtain ⟨rfl, rfl⟩ := hPF
      clear HO HE
      go_wp2_with (refine storeF rfl _ _ rfl rfl rfl KF.out rfl rfl ?_; intro w7 h7 h8)
      exact retF rfl rfl h7.out rfl ⟨B2.out.trans (only_below h8.out (by have := HD.out; have := HG.out; omega) B2.out.size), .inl ⟨rfl, rfl, rfl⟩⟩
end Go.Proofs.Ytfbdeefeagednaa.Fl
