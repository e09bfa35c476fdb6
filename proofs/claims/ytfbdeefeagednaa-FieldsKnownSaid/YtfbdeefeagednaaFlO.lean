/-
  Layer 12: Report; the program's Ordered.
  Conditions: none beyond that values read as what they are.
-/
import Derived.Test.YtfbdeefeagednaaFlN
namespace Go.Proofs.Ytfbdeefeagednaa.Fl
open Go.RowKit

/-- What Report returns. -/
def repR (e : El) (p : List Int) (f : Nat) : Nat × Nat := if f = 0 then (0, 0) else ((offR e p).1, f)
set_option maxHeartbeats 2000000 in
set_option maxRecDepth 100000 in
theorem report_any {x : Bool} {S : Nat → Prop} (e : El) (v : Value) (path : List Int) (P : Option Addr) (N pc f : Nat) (w : World) (hE : RdE x S w e v) (hd : depE e ≤ 10000) (hco : conOk e) (hP : Rd w P (csZ path)) (hN : path.length = N) (hN1 : N ≤ 1000000) (a g : Nat) (hR : repR e path f = (a, g)) :
    Calls Try.prog 29 #[v, fvV P N pc f] w fun e' w' => e' = .returned (.tuple #[.int .i64 (a : Int), .int .i64 (g : Int)]) ∧ Below w.heap.size w w' := by
  obtain ⟨c, n, k, u1, u2, hv⟩ : ∃ c n k u1 u2, v = elV c n k u1 u2 := by
    obtain ⟨c, n, k, A, l, q, A2, l2, q2, h⟩ := hE.form
    exact ⟨_, _, _, _, _, h⟩
  subst hv
  have hb0 := bel2 w (.cells #[.int .u8 (c : Int), .bool k, .int .u32 (n : Int), u1, u2] 29) (.cells #[.slice P N pc, .int .i64 (f : Int)] 38)
  have K0 := Lib.hid (Bk.new (w.alloc (.cells #[.int .u8 (c : Int), .bool k, .int .u32 (n : Int), u1, u2] 29)) 38 [.slice P N pc, .int .i64 (f : Int)])
  rw [World.size_alloc] at K0
  have B0 := Lib.hid hb0
  unfold repR at hR
  by_cases h0 : f = 0
  · subst h0
    rw [if_pos rfl] at hR
    obtain ⟨rfl, rfl⟩ := Prod.mk.inj hR
    clear hE hd hco hP hN hR K0 hb0
    go_enter Try.func29, Try.ntmps29
    go_wp2_with fail
    go_ret2
    exact ⟨rfl, B0.out⟩
  rw [if_neg h0] at hR
  obtain ⟨hR1, rfl⟩ := Prod.mk.inj hR
  obtain ⟨a1, f1, hoff⟩ : ∃ a1 f1, offR e path = (a1, f1) := ⟨_, _, rfl⟩
  rw [hoff] at hR1
  obtain rfl : a1 = a := hR1
  have HO := Lib.hid (off_any e _ path P N pc _ (hE.stay hb0) hd hco (hP.below hb0) hN hN1 a1 f1 hoff)
  have hf : ((f : Int) == 0) = false := by simp; omega
  clear hE hd hco hP hN hR hb0 hoff h0
  go_enter Try.func29, Try.ntmps29
  go_wp2_with fail
  refine HO.out.mono ?_
  rintro e' w1 ⟨rfl, hb1⟩
  have B1 := bt B0 (Lib.hid hb1)
  have K1 := kt K0 (Lib.hid hb1)
  have c1 : w1.cell? ⟨w.heap.size + 1, 1, none⟩ = some (.int .i64 (f : Int)) := K1.out.cell 1
  clear hb1 K0 B0 HO
  go_wp2_with fail
  go_region
  go_wp2_with fail
  go_ret2
  exact ⟨rfl, B1.out.drew⟩
theorem cmpB_three : ∀ l m : List Nat, cmpB l m = -1 ∨ cmpB l m = 0 ∨ cmpB l m = 1
  | [], [] => .inr (.inl rfl)
  | [], _ :: _ => .inl rfl
  | _ :: _, [] => .inr (.inr rfl)
  | a :: l, b :: m => by
    rw [cmpB]
    split
    · exact .inl rfl
    · split
      · exact .inr (.inr rfl)
      · exact cmpB_three l m
/-- The order of elements, from index i on, behind an element. -/
def ordS : Nat → Option El → List El → List Int × Nat
  | _, _, [] => ([], 0)
  | i, pr, e :: t => if (chkE e 1 0).1 ≠ 0 then ([(i : Int)], (chkE e 1 0).1) else match pr with
    | none => ordS (i + 1) (some e) t
    | some p => if cmpB (encR p).1 (encR e).1 = 1 then ([(i : Int)], 13) else if cmpB (encR p).1 (encR e).1 = 0 then ([(i : Int)], 14) else ordS (i + 1) (some e) t
theorem ordS_cons (i : Nat) (pr : Option El) (e : El) (t : List El) : ordS i pr (e :: t) = if (chkE e 1 0).1 ≠ 0 then ([(i : Int)], (chkE e 1 0).1) else match pr with
    | none => ordS (i + 1) (some e) t
    | some p => if cmpB (encR p).1 (encR e).1 = 1 then ([(i : Int)], 13) else if cmpB (encR p).1 (encR e).1 = 0 then ([(i : Int)], 14) else ordS (i + 1) (some e) t := by cases pr <;> rw [ordS]
def prevE (ss : List El) (i : Nat) : Option El := if i = 0 then none else ss[i - 1]?
set_option linter.unusedSimpArgs false in
set_option maxHeartbeats 4000000 in
set_option maxRecDepth 100000 in
theorem ord_any {x : Bool} {S : Nat → Prop} (c n : Nat) (k : Bool) (u : Value) (ss : List El) (B : Option Addr) (m cb : Nat) (w : World) (hm : ss.length = m) (hcm : m ≤ maxLen) (hS : RdS x S w B ss) (hd : ∀ e ∈ ss, depE e ≤ 10000 ∧ conOk e) (P : List Int) (f : Nat) (hR : ordS 0 none ss = (P, f)) :
    Calls Try.prog 12 #[elV c n k u (.slice B m cb)] w (GiveF true w P f) := by
  have k1 := Bk.new (w.alloc (.cells #[.int .u8 (c : Int), .bool k, .int .u32 (n : Int), u, .slice B m cb] 29)) 38 [.slice none 0 0, .int .i64 0]
  rw [World.size_alloc] at k1
  have k0 := (Bk.new w 29 [.int .u8 (c : Int), .bool k, .int .u32 (n : Int), u, .slice B m cb]).alloc (.cells #[.slice none 0 0, .int .i64 0] 38)
  have b0 := bel2 w (.cells #[.int .u8 (c : Int), .bool k, .int .u32 (n : Int), u, .slice B m cb] 29) (.cells #[.slice none 0 0, .int .i64 0] 38)
  obtain ⟨G, hG⟩ : ∃ G, w.heap.size = G := ⟨_, rfl⟩
  rw [hG] at k0 k1
  obtain ⟨D, hD⟩ : ∃ D, G + 1 = D := ⟨_, rfl⟩
  rw [hD] at k1
  have K0 := Lib.hid k0
  have K1 := Lib.hid k1
  have B0 := Lib.hid b0
  have HG := Lib.hid hG
  have HD := Lib.hid hD
  have HS := Lib.hid hS
  have HM := Lib.hid hm
  have HDD := Lib.hid hd
  have HRR := Lib.hid hR
  have hmm : m ≤ 9223372036854775807 := by unfold maxLen at hcm; omega
  clear k0 k1 b0 hG hD hm hcm hS hd hR
  go_enter Try.func12, Try.ntmps12
  go_upto_region 1 with fail
  rw [HG.out, HD.out]
  have e4 : ((w.alloc (.cells #[.int .u8 (c : Int), .bool k, .int .u32 (n : Int), u, .slice B m cb] 29)).alloc (.cells #[.slice none 0 0, .int .i64 0] 38)).cell? ⟨G, 4, none⟩ = some (.slice B m cb) := K0.out.cell 4
  go_wp2_with fail
  go_loopw [3, 4, 5, 6, 10] (fun _ _ _ _ i wr => ∃ q : Nat, q ≤ m ∧ i = .int .i64 (q : Int) ∧ ordS q (prevE ss q) (ss.drop q) = (P, f) ∧ Bk wr G 29 [.int .u8 (c : Int), .bool k, .int .u32 (n : Int), u, .slice B m cb] ∧ Bk wr D 38 [.slice none 0 0, .int .i64 0] ∧ Below w.heap.size w wr) (fun _ _ _ _ i _ => m - (intOf i).toNat)
  case atStart => exact ⟨0, Nat.zero_le _, rfl, by rw [List.drop_zero]; exact HRR.out, K0.out, K1.out, B0.out⟩
  case round =>
    clear K0 K1 B0 HRR e4
    obtain ⟨q, hq, rfl, hord, hk0, hk1, hbl⟩ := hrel
    have K0 := Lib.hid hk0
    have K1 := Lib.hid hk1
    have BB := Lib.hid hbl
    have HO := Lib.hid hord
    clear hk0 hk1 hbl hord
    by_cases hlt : q < m
    · have hdr : ss.drop q = ss[q]'(by rw [HM.out]; exact hlt) :: ss.drop (q + 1) := List.drop_eq_getElem_cons (by rw [HM.out]; exact hlt)
      obtain ⟨b, off, c', n', k', A1, l1, r1, A2, l2, r2, rfl, hbw, hSb, fw0, fw1, fw2, fw3, fw4, hE⟩ := HS.out.fives (i := q) (by rw [HM.out]; exact hlt)
      have f0 := (BB.out.cell (p := ⟨b, off + q * 5, none⟩) hbw).trans fw0
      have f1 := (BB.out.cell (p := ⟨b, off + q * 5 + 1, none⟩) hbw).trans fw1
      have f2 := (BB.out.cell (p := ⟨b, off + q * 5 + 2, none⟩) hbw).trans fw2
      have f3 := (BB.out.cell (p := ⟨b, off + q * 5 + 3, none⟩) hbw).trans fw3
      have f4 := (BB.out.cell (p := ⟨b, off + q * 5 + 4, none⟩) hbw).trans fw4
      clear fw0 fw1 fw2 fw3 fw4
      have hdq := HDD.out _ (List.getElem_mem (by rw [HM.out]; exact hlt) : ss[q]'(by rw [HM.out]; exact hlt) ∈ ss)
      have hprev : ∀ p, 0 < q → q - 1 = p → ∃ hp : p < ss.length, prevE ss q = some (ss[p]) := fun p h0 hp => by
        have : p < ss.length := by rw [HM.out]; omega
        exact ⟨this, by unfold prevE; rw [if_neg (by omega), hp, List.getElem?_eq_getElem this]⟩
      have hnext : prevE ss (q + 1) = some (ss[q]'(by rw [HM.out]; exact hlt)) := by unfold prevE; rw [if_neg (by omega), Nat.add_sub_cancel, List.getElem?_eq_getElem]
      obtain ⟨y, hy⟩ : ∃ y, ss[q]'(by rw [HM.out]; exact hlt) = y := ⟨_, rfl⟩
      rw [hy] at hE hdq hdr hnext
      rw [hdr] at HO
      have hb1 := bel1 wr (.cells #[.int .u8 (c' : Int), .bool k', .int .u32 (n' : Int), (.slice A1 l1 r1), (.slice A2 l2 r2)] 29)
      have HCK := Lib.hid (echeck_any y _ _ hdq.1 ((hE.stay BB.out).stay hb1))
      rw [meaR_err] at HCK
      have HE := Lib.hid hE
      have HDQ := Lib.hid hdq
      have HNX := Lib.hid hnext
      have HPV := Lib.hid hprev
      obtain ⟨F, hF⟩ : ∃ F, wr.heap.size = F := ⟨_, rfl⟩
      have KF := Lib.hid (Bk.new wr 29 [.int .u8 (c' : Int), .bool k', .int .u32 (n' : Int), (.slice A1 l1 r1), (.slice A2 l2 r2)])
      rw [hF] at KF
      have HF := Lib.hid hF
      have K01 := kt K0 (Lib.hid hb1)
      have K11 := kt K1 (Lib.hid hb1)
      have B1 := bt BB (Lib.hid hb1)
      have HDF : Hid (D < F) := Lib.hid (by rw [← hF]; exact K1.out.lt)
      clear hE hdq hdr hnext hprev hb1 hF K0 K1 BB hSb hy
      go_wp2_with fail
      rw [HF.out]
      refine HCK.out.mono ?_
      rintro e' w2 ⟨rfl, hb2⟩
      have K02 := kt K01 (Lib.hid hb2)
      have K12 := kt K11 (Lib.hid hb2)
      have KF2 := kt KF (Lib.hid hb2)
      have B2 := bt B1 (Lib.hid hb2)
      clear hb2 K01 K11 KF B1 HCK f0 f1 f2 f3 f4
      obtain ⟨er, her⟩ : ∃ er, (chkE y 1 0).1 = er := ⟨_, rfl⟩
      rw [her]
      by_cases h0 : er ≠ 0
      · have hO := HO.out
        rw [ordS_cons, her, if_pos h0] at hO
        obtain ⟨rfl, rfl⟩ := Prod.mk.inj hO
        have hfb : ((er : Int) != 0) = true := by simp; omega
        have hl0 := fun W => litI W (q : Int)
        have HDL := Lib.hid K12.out.lt
        clear hO HO her h0
        go_wp2_with fail
        refine (fault_any er (some ⟨_, 0, none⟩) 1 1 _).mono ?_
        rintro e w6 ⟨rfl, hb6⟩
        have K6 := kt (kt K12 (Lib.hid (bel1 _ _))) (Lib.hid hb6)
        have B6 := bt (bt B2 (Lib.hid (bel1 _ _))) (Lib.hid hb6)
        have R6 := Lib.hid (RdX.above (RdX.belowX (hl0 _) hb6) (g := D) HDL.out)
        clear hb6 hl0
        go_wp2_with (refine storeF rfl _ _ rfl rfl rfl K6.out rfl rfl ?_; intro w7 h7 h8)
        exact retF rfl rfl h7.out rfl (give_at B6 R6.out rfl (Nat.le_refl _) (by unfold maxLen; omega) (fun _ => rfl) (by have := HD.out; have := HG.out; omega) h8)
      · obtain rfl : er = 0 := by omega
        have hO := HO.out
        rw [ordS_cons, her, if_neg (by decide)] at hO
        have HO2 := Lib.hid hO
        clear hO HO her h0
        by_cases hq0 : q = 0
        · subst hq0
          have HO3 : Hid (ordS (0 + 1) (some y) (ss.drop (0 + 1)) = (P, f)) := Lib.hid (by have := HO2.out; rw [show prevE ss 0 = none from rfl] at this; exact this)
          clear HO2
          go_wp2_with fail
          exact ⟨⟨1, by omega, by go_num, by rw [HNX.out]; exact HO3.out, K02.out, K12.out, B2.out⟩, by simp [intOf]; omega⟩
        · obtain ⟨p, hp⟩ : ∃ p, q - 1 = p := ⟨_, rfl⟩
          obtain ⟨hpl, hpv⟩ := HPV.out p (by omega) hp
          obtain ⟨b', off', c2, n2, k2, A3, l3, r3, A4, l4, r4, e1, hb', hSb', gw0, gw1, gw2, gw3, gw4, hE2⟩ := HS.out.fives (i := p) hpl
          simp only [Option.some.injEq, Addr.mk.injEq, and_true] at e1
          obtain ⟨rfl, rfl⟩ := e1
          have hdp := HDD.out _ (List.getElem_mem hpl)
          obtain ⟨yp, hyp⟩ : ∃ yp, ss[p] = yp := ⟨_, rfl⟩
          rw [hyp] at hE2 hdp hpv
          have HCM := Lib.hid fun (W : World) (hb : Below w.heap.size w W) => ecmp_any yp y _ _ W hdp.1 HDQ.out.1 hdp.2 HDQ.out.2 (hE2.stay hb) (HE.out.stay hb)
          obtain ⟨r, hr⟩ : ∃ r, cmpB (encR yp).1 (encR y).1 = r := ⟨_, rfl⟩
          have hr3 := cmpB_three (encR yp).1 (encR y).1
          rw [hr] at HCM hr3
          have HO3 : Hid ((if r = 1 then ([(q : Int)], 13) else if r = 0 then ([(q : Int)], 14) else ordS (q + 1) (some y) (ss.drop (q + 1))) = (P, f)) := Lib.hid (by have := HO2.out; rw [hpv] at this; dsimp only at this; rw [hr] at this; exact this)
          have HR3 := Lib.hid hr3
          have hqi : (q : Int) - 1 = (p : Int) := by omega
          have t0 : ((q : Int) == 0) = false := by simp; omega
          have hqw : IntKind.i64.wrap ((q : Int) - 1) = (p : Int) := by rw [hqi]; exact IntWalk.i64_in _ (by omega)
          have hp0 : (0 : Int) ≤ (p : Int) := by omega
          have hpm : (p : Int) < (m : Int) := by omega
          have hpm2 : p < m := by omega
          obtain ⟨e0, e1, e2, e3, e4, ez⟩ := K02.out.five
          obtain ⟨q0, q1, q2, q3, q4, qz⟩ := KF2.out.five
          have HSS := Lib.hid (show ∀ W, Below w2.heap.size w2 W → W.cell? ⟨G, 4, none⟩ = some (.slice (some ⟨b, off, none⟩) m cb) ∧ W.cell? ⟨b, off + p * 5, none⟩ = some (.int .u8 (c2 : Int)) ∧ W.cell? ⟨b, off + p * 5 + 1, none⟩ = some (.bool k2) ∧ W.cell? ⟨b, off + p * 5 + 2, none⟩ = some (.int .u32 (n2 : Int)) ∧ W.cell? ⟨b, off + p * 5 + 3, none⟩ = some (.slice A3 l3 r3) ∧ W.cell? ⟨b, off + p * 5 + 4, none⟩ = some (.slice A4 l4 r4) ∧
              W.cell? ⟨F, 0, none⟩ = some (.int .u8 (c' : Int)) ∧ W.cell? ⟨F, 1, none⟩ = some (.bool k') ∧ W.cell? ⟨F, 2, none⟩ = some (.int .u32 (n' : Int)) ∧ W.cell? ⟨F, 3, none⟩ = some (.slice A1 l1 r1) ∧ W.cell? ⟨F, 4, none⟩ = some (.slice A2 l2 r2) ∧ Below w2.heap.size w2 W from fun W hW => by
            have hB := B2.out.trans (hW.mono B2.out.size)
            exact ⟨(hW.cell (p := ⟨G, 4, none⟩) ez).trans e4, (hB.cell (p := ⟨b, off + p * 5, none⟩) hb').trans gw0, (hB.cell (p := ⟨b, off + p * 5 + 1, none⟩) hb').trans gw1, (hB.cell (p := ⟨b, off + p * 5 + 2, none⟩) hb').trans gw2, (hB.cell (p := ⟨b, off + p * 5 + 3, none⟩) hb').trans gw3, (hB.cell (p := ⟨b, off + p * 5 + 4, none⟩) hb').trans gw4,
              (hW.cell (p := ⟨F, 0, none⟩) qz).trans q0, (hW.cell (p := ⟨F, 1, none⟩) qz).trans q1, (hW.cell (p := ⟨F, 2, none⟩) qz).trans q2, (hW.cell (p := ⟨F, 3, none⟩) qz).trans q3, (hW.cell (p := ⟨F, 4, none⟩) qz).trans q4, hW⟩)
          have b1 := Below.refl w2.heap.size w2
          clear hqi
          clear hE2 hdp hyp hpv HPV HO2 hr hr3 hSb' gw0 gw1 gw2 gw3 gw4 e0 e1 e2 e3 e4 ez q0 q1 q2 q3 q4 qz hp hpl
          go_upto_region 8 with fail
          go_region_held3 (fun W => W.cell? ⟨G, 4, none⟩ = some (.slice (some ⟨b, off, none⟩) m cb) ∧ W.cell? ⟨b, off + p * 5, none⟩ = some (.int .u8 (c2 : Int)) ∧ W.cell? ⟨b, off + p * 5 + 1, none⟩ = some (.bool k2) ∧ W.cell? ⟨b, off + p * 5 + 2, none⟩ = some (.int .u32 (n2 : Int)) ∧ W.cell? ⟨b, off + p * 5 + 3, none⟩ = some (.slice A3 l3 r3) ∧ W.cell? ⟨b, off + p * 5 + 4, none⟩ = some (.slice A4 l4 r4) ∧
              W.cell? ⟨F, 0, none⟩ = some (.int .u8 (c' : Int)) ∧ W.cell? ⟨F, 1, none⟩ = some (.bool k') ∧ W.cell? ⟨F, 2, none⟩ = some (.int .u32 (n' : Int)) ∧ W.cell? ⟨F, 3, none⟩ = some (.slice A1 l1 r1) ∧ W.cell? ⟨F, 4, none⟩ = some (.slice A2 l2 r2) ∧ Below w2.heap.size w2 W)
            (first | exact HSS.out _ b1.drew | exact HSS.out _ d3)
            (first | (go_at_call 34; refine (HCM.out _ (B2.out.trans (b1.drew.mono B2.out.size))).mono ?_; rintro e w3 ⟨rfl, hb3⟩; have d3 := b1.drew.trans (hb3.mono b1.drew.size)))
          have K03 := kt K02 (Lib.hid d3)
          have K13 := kt K12 (Lib.hid d3)
          have B3 := bt B2 (Lib.hid d3)
          clear hb3 d3 b1 HCM HSS K02 K12 KF2 B2
          have HDL := Lib.hid K13.out.lt
          have hl0 := fun W => litI W (q : Int)
          rcases HR3.out with rfl | rfl | rfl
          · have HO4 := Lib.hid (show ordS (q + 1) (some y) (ss.drop (q + 1)) = (P, f) by have := HO3.out; rw [if_neg (by decide), if_neg (by decide)] at this; exact this)
            clear HO3
            go_wp2_with fail
            exact ⟨⟨q + 1, by omega, by go_num, by rw [HNX.out]; exact HO4.out, K03.out, K13.out, B3.out⟩, by simp [intOf]; omega⟩
          · obtain ⟨rfl, rfl⟩ : [(q : Int)] = P ∧ 14 = f := by have := HO3.out; rw [if_neg (by decide), if_pos rfl] at this; exact Prod.mk.inj this
            clear HO3
            go_wp2_with fail
            refine (fault_any 14 (some ⟨_, 0, none⟩) 1 1 _).mono ?_
            rintro e w6 ⟨rfl, hb6⟩
            have K6 := kt (kt K13 (Lib.hid (bel1 _ _))) (Lib.hid hb6)
            have B6 := bt (bt B3 (Lib.hid (bel1 _ _))) (Lib.hid hb6)
            have R6 := Lib.hid (RdX.above (RdX.belowX (hl0 _) hb6) (g := D) HDL.out)
            clear hb6 hl0
            go_wp2_with (refine storeF rfl _ _ rfl rfl rfl K6.out rfl rfl ?_; intro w7 h7 h8)
            exact retF rfl rfl h7.out rfl (give_at B6 R6.out rfl (Nat.le_refl _) (by unfold maxLen; omega) (fun _ => rfl) (by have := HD.out; have := HG.out; omega) h8)
          · obtain ⟨rfl, rfl⟩ : [(q : Int)] = P ∧ 13 = f := by have := HO3.out; rw [if_pos rfl] at this; exact Prod.mk.inj this
            clear HO3
            go_wp2_with fail
            refine (fault_any 13 (some ⟨_, 0, none⟩) 1 1 _).mono ?_
            rintro e w6 ⟨rfl, hb6⟩
            have K6 := kt (kt K13 (Lib.hid (bel1 _ _))) (Lib.hid hb6)
            have B6 := bt (bt B3 (Lib.hid (bel1 _ _))) (Lib.hid hb6)
            have R6 := Lib.hid (RdX.above (RdX.belowX (hl0 _) hb6) (g := D) HDL.out)
            clear hb6 hl0
            go_wp2_with (refine storeF rfl _ _ rfl rfl rfl K6.out rfl rfl ?_; intro w7 h7 h8)
            exact retF rfl rfl h7.out rfl (give_at B6 R6.out rfl (Nat.le_refl _) (by unfold maxLen; omega) (fun _ => rfl) (by have := HD.out; have := HG.out; omega) h8)
    · have hdr : ss.drop q = [] := List.drop_eq_nil_of_le (by rw [HM.out]; omega)
      obtain ⟨rfl, rfl⟩ : [] = P ∧ 0 = f := by have := HO.out; rw [hdr, ordS] at this; exact Prod.mk.inj this
      clear hdr HO
      go_wp2_with (refine storeF rfl _ _ rfl rfl rfl K1.out rfl rfl ?_; intro w7 h7 h8)
      exact retF rfl rfl h7.out rfl (give_nil BB (by have := HD.out; have := HG.out; omega) h8)
end Go.Proofs.Ytfbdeefeagednaa.Fl
