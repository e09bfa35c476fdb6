/-
  Layer 12: the reference's Ordered: the first element that is not in order.
  Conditions: the elements are valid.
-/
import Derived.Test.YtfbdeefeagednaaFlEo
import Derived.Test.YtfbdeefeagednaaFlX
namespace Go.Proofs.Ytfbdeefeagednaa.Fl
open Go.RowKit

theorem bst_list (l : List Nat) : (bstr l).toList = l.map UInt8.ofNat := by rw [ByteArray.toList_eq]; unfold bstr; simp
theorem bst_less {l m : List Nat} (hl : All8 l) (hm : All8 m) : Op.bytesLess (bstr l).toList (bstr m).toList = decide (cmpB l m = -1) := by rw [bst_list, bst_list]; exact less_bstr hl hm
theorem bst_eq {l m : List Nat} (hl : All8 l) (hm : All8 m) : ((bstr l).toList == (bstr m).toList) = decide (cmpB l m = 0) := by
  rw [bst_list, bst_list, Bool.eq_iff_iff, beq_iff_eq, decide_eq_true_iff, cmpB_zero]
  constructor
  · intro h
    have h1 := congrArg (List.map UInt8.toNat) h
    rw [List.map_map, List.map_map] at h1
    have e : ∀ l : List Nat, All8 l → List.map (UInt8.toNat ∘ UInt8.ofNat) l = l := fun l hl => by
      rw [List.map_congr_left (g := id) (fun y hy => by simp only [Function.comp_apply, id_eq]; exact UInt8.toNat_ofNat_of_lt' (hl y hy)), List.map_id]
    rwa [e l hl, e m hm] at h1
  · intro h; rw [h]
theorem str8 {w : World} {A : Option Addr} {l : List Nat} {n : Nat} (h : Rb w A l) (hn : l.length = n) (c : Nat) : (convert 26 9 (.slice A n c)).run Try.prog w = .ok (.string (bstr l)) w := by subst hn; exact run_str8 h c
theorem encR_ok {e : El} (h : OKe e) : encR e = (encE e, 0) := by unfold encR; rw [h.siz]; rfl
set_option linter.unusedSimpArgs false in
set_option maxHeartbeats 4000000 in
set_option maxRecDepth 100000 in
theorem rord_any {x : Bool} {S : Nat → Prop} (c n : Nat) (k : Bool) (u : Value) (ss : List El) (B : Option Addr) (m cb : Nat) (w : World) (hm : ss.length = m) (hcm : m ≤ maxLen) (hS : RdS x S w B ss) (hd : ∀ e ∈ ss, OKe e) (P : List Int) (f : Nat) (hR : ordS 0 none ss = (P, f)) :
    Calls Try.prog 10 #[elV c n k u (.slice B m cb)] w (GiveF false w P f) := by
  have k1 := Bk.new (w.alloc (.cells #[.int .u8 (c : Int), .bool k, .int .u32 (n : Int), u, .slice B m cb] 29)) 38 [.slice none 0 0, .int .i64 0]
  rw [World.size_alloc] at k1
  have k0 := (Bk.new w 29 [.int .u8 (c : Int), .bool k, .int .u32 (n : Int), u, .slice B m cb]).alloc (.cells #[.slice none 0 0, .int .i64 0] 38)
  have b0 := bel2 w (.cells #[.int .u8 (c : Int), .bool k, .int .u32 (n : Int), u, .slice B m cb] 29) (.cells #[.slice none 0 0, .int .i64 0] 38)
  obtain ⟨G, hG⟩ : ∃ G, w.heap.size = G := ⟨_, rfl⟩
  rw [hG] at k0 k1
  obtain ⟨D, hD⟩ : ∃ D, G + 1 = D := ⟨_, rfl⟩
  rw [hD] at k1
  obtain ⟨w2, hw2⟩ : ∃ v, (w.alloc (.cells #[.int .u8 (c : Int), .bool k, .int .u32 (n : Int), u, .slice B m cb] 29)).alloc (.cells #[.slice none 0 0, .int .i64 0] 38) = v := ⟨_, rfl⟩
  rw [hw2] at k0 k1 b0
  have K0 := Lib.hid k0
  have K1 := Lib.hid k1
  have B0 := Lib.hid b0
  have HG := Lib.hid hG
  have HD := Lib.hid hD
  have HW := Lib.hid hw2
  have HS := Lib.hid (hS.stay b0)
  have HM := Lib.hid hm
  have HDD := Lib.hid hd
  have HRR := Lib.hid hR
  have hmm : m ≤ 9223372036854775807 := by unfold maxLen at hcm; omega
  clear k0 k1 b0 hG hD hm hcm hS hd hR hw2
  have H0 : Hid (1 ≤ m → ordS 1 (prevE ss 1) (ss.drop 1) = (P, f)) := Lib.hid (fun h1 => by
    have hR := HRR.out
    have hl := HM.out
    cases ss with
    | nil => simp at hl; omega
    | cons e t =>
      rw [ordS_cons, (HDD.out e (List.mem_cons_self ..)).chk, if_neg (by simp)] at hR
      exact hR)
  have H00 : Hid (m < 1 → P = [] ∧ f = 0) := Lib.hid (fun h1 => by
    have hR := HRR.out
    have hl := HM.out
    cases ss with
    | nil => rw [ordS] at hR; injection hR with a b; exact ⟨a.symm, b.symm⟩
    | cons e t => simp at hl; omega)
  go_enter Try.func10, Try.ntmps10
  go_upto_region 1 with fail
  rw [HG.out, HD.out, HW.out]
  go_wp2_with fail
  go_loopw [3, 4, 5] (fun i _ _ wr => ∃ q p : Nat, p + 1 = q ∧ i = .int .i64 (q : Int) ∧ (q ≤ m → ordS q (prevE ss q) (ss.drop q) = (P, f)) ∧ (m < q → P = [] ∧ f = 0) ∧ q ≤ m + 1 ∧ Below w2.heap.size w2 wr) (fun i _ _ _ => m + 1 - (intOf i).toNat)
  case atStart => exact ⟨1, 0, rfl, rfl, H0.out, H00.out, by omega, Below.refl _ _⟩
  case round =>
    clear H0 H00 HRR
    obtain ⟨q, p, hpq, rfl, ho, he, hqm, hbl⟩ := hrel
    have HO := Lib.hid ho
    have HE := Lib.hid he
    have BB := Lib.hid hbl
    have HPQ := Lib.hid hpq
    have HQM := Lib.hid hqm
    have KE := kt K0 BB
    have KF := kt K1 BB
    have B2 := bt B0 BB
    have RS := Lib.hid (HS.out.stay BB.out)
    clear ho he hbl hpq hqm
    obtain ⟨e0, e1, e2, e3, e4, ez⟩ := KE.out.five
    by_cases hlt : q < m
    · have hpl : p < ss.length := by rw [HM.out]; have := HPQ.out; omega
      have hql : q < ss.length := by rw [HM.out]; exact hlt
      obtain ⟨b, off, c1, n1, j1, A1, l1, q1, A2, l2, q2, rfl, hb, _, f0, f1, f2, f3, f4, hE1⟩ := RS.out.fives hpl
      obtain ⟨b', off', c2, n2, j2, A3, l3, q3, A4, l4, q4, hbo, hb', _, g0, g1, g2, g3, g4, hE2⟩ := RS.out.fives hql
      simp only [Option.some.injEq, Addr.mk.injEq, and_true] at hbo
      obtain ⟨rfl, rfl⟩ := hbo
      have hok1 := HDD.out _ (List.getElem_mem hpl)
      have hok2 := HDD.out _ (List.getElem_mem hql)
      have hO := HO.out (Nat.le_of_lt hlt)
      rw [List.drop_eq_getElem_cons hql, ordS_cons, hok2.chk, if_neg (by simp)] at hO
      have hpr : prevE ss q = some ss[p] := by unfold prevE; rw [if_neg (by have := HPQ.out; omega), show q - 1 = p by have := HPQ.out; omega, List.getElem?_eq_getElem hpl]
      have hpn : prevE ss (q + 1) = some ss[q] := by unfold prevE; rw [if_neg (by omega), show q + 1 - 1 = q by omega, List.getElem?_eq_getElem hql]
      rw [hpr] at hO
      dsimp only at hO
      rw [encR_ok hok1, encR_ok hok2] at hO
      dsimp only at hO
      rw [← hpn] at hO
      obtain ⟨X, hX⟩ : ∃ X, ss[p] = X := ⟨_, rfl⟩
      obtain ⟨Y, hY⟩ : ∃ Y, ss[q] = Y := ⟨_, rfl⟩
      rw [hX] at hO hE1 hok1
      rw [hY] at hO hE2 hok2
      have HOO := Lib.hid hO
      have HC1 := Lib.hid (renc_any X _ wr hE1 hok1.1 hok1.2.2.2)
      have HC2 := Lib.hid (fun (W : World) (hb : Below wr.heap.size wr W) => renc_any Y _ W (hE2.stay hb) hok2.1 hok2.2.2.2)
      have HCL := Lib.hid (show ∀ W, Below wr.heap.size wr W → W.cell? ⟨b, off + q * 5, none⟩ = some (.int .u8 (c2 : Int)) ∧ W.cell? ⟨b, off + q * 5 + 1, none⟩ = some (.bool j2) ∧ W.cell? ⟨b, off + q * 5 + 2, none⟩ = some (.int .u32 (n2 : Int)) ∧ W.cell? ⟨b, off + q * 5 + 3, none⟩ = some (.slice A3 l3 q3) ∧ W.cell? ⟨b, off + q * 5 + 4, none⟩ = some (.slice A4 l4 q4) from fun W hW => ⟨(hW.cell (p := ⟨b, off + q * 5, none⟩) hb).trans g0, (hW.cell (p := ⟨b, off + q * 5 + 1, none⟩) hb).trans g1, (hW.cell (p := ⟨b, off + q * 5 + 2, none⟩) hb).trans g2, (hW.cell (p := ⟨b, off + q * 5 + 3, none⟩) hb).trans g3, (hW.cell (p := ⟨b, off + q * 5 + 4, none⟩) hb).trans g4⟩)
      have hqp : (q : Int) - 1 = (p : Int) := by have := HPQ.out; omega
      have hpm : p < m := by have := HPQ.out; omega
      clear hO hE1 hE2 hok1 hok2 hpr hpn hX hY g0 g1 g2 g3 g4 hb' hpl hql
      go_wp2_with fail
      refine HC1.out.mono ?_
      rintro e w4 ⟨AX, NX, CX, rfl, hlX, hrX, _, _, hb4⟩
      have hs1 := str8 hrX hlX CX
      have KE4 := kt KE (Lib.hid hb4)
      have KF4 := kt KF (Lib.hid hb4)
      have B4 := bt B2 (Lib.hid hb4)
      have BX := Lib.hid hb4
      have H8X := Lib.hid hrX.2
      obtain ⟨ZX, hZX⟩ : ∃ Z, bstr (encE X) = Z := ⟨_, rfl⟩
      rw [hZX] at hs1
      have HZX := Lib.hid hZX
      clear hlX hrX hZX hb4 e0 e1 e2 e3 e4 ez f0 f1 f2 f3 f4 KE KF HC1
      obtain ⟨e0, e1, e2, e3, e4, ez⟩ := KE4.out.five
      obtain ⟨g0, g1, g2, g3, g4⟩ := HCL.out _ BX.out
      go_upto_region 5 with fail
      clear hs1
      go_wp2_with fail
      refine (HC2.out _ BX.out).mono ?_
      rintro e w5 ⟨AY, NY, CY, rfl, hlY, hrY, _, _, hb5⟩
      have hs2 := str8 hrY hlY CY
      have KF5 := kt KF4 (Lib.hid hb5)
      have B5 := bt B4 (Lib.hid hb5)
      have BY := bt BB (bt BX (Lib.hid hb5))
      have H8Y := Lib.hid hrY.2
      obtain ⟨ZY, hZY⟩ : ∃ Z, bstr (encE Y) = Z := ⟨_, rfl⟩
      rw [hZY] at hs2
      have hq1 := bst_less H8Y.out H8X.out
      have hq2 := bst_eq H8X.out H8Y.out
      have hq3 := bst_less H8X.out H8Y.out
      rw [hZY, HZX.out] at hq1 hq2 hq3
      have hsw := cmpB_swap (encE X) (encE Y)
      rw [hsw] at hq1
      have h3 := cmpB_three (encE X) (encE Y)
      clear hlY hrY hZY hb5 e0 e1 e2 e3 e4 ez g0 g1 g2 g3 g4 KE4 KF4 B4 HC2 HCL hsw
      obtain ⟨v, hv⟩ : ∃ v, cmpB (encE X) (encE Y) = v := ⟨_, rfl⟩
      rw [hv] at hq1 hq2 hq3 h3
      have HO2 := HOO.out
      rw [hv] at HO2
      clear hv HOO
      rcases h3 with rfl | rfl | rfl
      · rw [if_neg (by decide), if_neg (by decide)] at HO2
        have HNX := Lib.hid HO2
        clear HO2
        go_wp2_with fail
        exact ⟨⟨q + 1, q, rfl, by go_num, fun _ => HNX.out, fun h => absurd h (by omega), by omega, BY.out⟩, by simp [intOf]; omega⟩
      · rw [if_neg (by decide), if_pos rfl] at HO2
        injection HO2 with hP hF
        subst hP hF
        go_wp2_with fail
        refine (rfault_any 14 (q : Int) _ (by omega)).mono ?_
        rintro e w6 ⟨A9, n9, c9, rfl, hl9, hn9, hm9, _, hr9, hb6⟩
        rw [if_neg (by omega)] at hl9 hr9
        have K6 := kt KF5 (Lib.hid hb6)
        have B6 := bt B5 (Lib.hid hb6)
        have HP9 := Lib.hid (And.intro hl9 (And.intro hn9 hm9))
        have HS9 := Lib.hid (RdX.above hr9 (g := D) KF5.out.lt)
        clear hb6 hl9 hn9 hm9 hr9 hq1 hq2 hq3 hs2
        go_wp2_with (refine storeF rfl _ _ rfl rfl rfl K6.out rfl rfl ?_; intro w7 h7 h8)
        have hr7 : RdX (fun i => w.heap.size ≤ i) w7 A9 (csZ [(q : Int)]) := (HS9.out.keep (T := fun i => w.heap.size ≤ i) h8.out.size (fun i hS hi => h8.out.block i hi (fun e => by injection e with e; omega)) (fun i hS _ => by have := HD.out; have := HG.out; omega))
        exact retF rfl rfl h7.out rfl ⟨A9, n9, c9, rfl, HP9.out.1, HP9.out.2.1, HP9.out.2.2, (fun h => by cases h), hr7, B6.out.trans (only_below h8.out (by have := HD.out; have := HG.out; omega) B6.out.size)⟩
      · rw [if_pos rfl] at HO2
        injection HO2 with hP hF
        subst hP hF
        go_wp2_with fail
        refine (rfault_any 13 (q : Int) _ (by omega)).mono ?_
        rintro e w6 ⟨A9, n9, c9, rfl, hl9, hn9, hm9, _, hr9, hb6⟩
        rw [if_neg (by omega)] at hl9 hr9
        have K6 := kt KF5 (Lib.hid hb6)
        have B6 := bt B5 (Lib.hid hb6)
        have HP9 := Lib.hid (And.intro hl9 (And.intro hn9 hm9))
        have HS9 := Lib.hid (RdX.above hr9 (g := D) KF5.out.lt)
        clear hb6 hl9 hn9 hm9 hr9 hq1 hq2 hq3 hs2
        go_wp2_with (refine storeF rfl _ _ rfl rfl rfl K6.out rfl rfl ?_; intro w7 h7 h8)
        have hr7 : RdX (fun i => w.heap.size ≤ i) w7 A9 (csZ [(q : Int)]) := (HS9.out.keep (T := fun i => w.heap.size ≤ i) h8.out.size (fun i hS hi => h8.out.block i hi (fun e => by injection e with e; omega)) (fun i hS _ => by have := HD.out; have := HG.out; omega))
        exact retF rfl rfl h7.out rfl ⟨A9, n9, c9, rfl, HP9.out.1, HP9.out.2.1, HP9.out.2.2, (fun h => by cases h), hr7, B6.out.trans (only_below h8.out (by have := HD.out; have := HG.out; omega) B6.out.size)⟩
    · have hPF : P = [] ∧ f = 0 := by
        by_cases h : q = m
        · have := HO.out (Nat.le_of_eq h)
          rw [List.drop_eq_nil_of_le (by rw [HM.out]; omega), ordS] at this
          injection this with a b
          exact ⟨a.symm, b.symm⟩
        · exact HE.out (by omega)
      obtain ⟨rfl, rfl⟩ := hPF
      clear HO HE
      go_wp2_with (refine storeF rfl _ _ rfl rfl rfl KF.out rfl rfl ?_; intro w7 h7 h8)
      exact retF rfl rfl h7.out rfl (give_nil B2 (by have := HD.out; have := HG.out; omega) h8)
end Go.Proofs.Ytfbdeefeagednaa.Fl
