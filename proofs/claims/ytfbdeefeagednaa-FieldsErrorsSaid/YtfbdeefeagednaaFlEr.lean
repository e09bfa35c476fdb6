/-
  Layer 12: FieldsErrors: elements that are not valid are refused by Offset and Ordered with the errors of elements, and are accepted by all others.
  Conditions: none beyond that arguments read as what they are.
-/
import Derived.Test.YtfbdeefeagednaaFlEu
import Derived.Test.YtfbdeefeagednaaFlRf
import Derived.Deep.CutBlock
namespace Go.Proofs.Ytfbdeefeagednaa.Fl
open Go.RowKit

def FLw : List Fd := [⟨0, 0, false, true, true⟩, ⟨0, 2, false, false, false⟩, ⟨0, 0, false, true, false⟩]
set_option linter.unusedSimpArgs false in
set_option maxHeartbeats 20000000 in
set_option maxRecDepth 100000 in
theorem errors_law (E : El) (v : Value) (p : List Int) (AP : Option Addr) (pn pc : Nat) (z0 z1 : Int) (w : World) (hE : RdE false (fun _ => True) w E v) (hP : Rd w AP (csZ p)) (hpn : p.length = pn) (hpm : pn ≤ maxLen)
    (hz0 : -9223372036854775808 ≤ z0 ∧ z0 < 9223372036854775808) (hz1 : -9223372036854775808 ≤ z1 ∧ z1 < 9223372036854775808) :
    Calls Try.prog 3 #[v, .slice AP pn pc, .agg #[.int .i64 z0, .int .i64 z1]] w fun e w' => e = .returned (.bool true) ∧ Below w.heap.size w w' := by
  have hE2 : RdE false (· < w.heap.size) w E v := RdE.keep (Nat.le_refl _) (fun _ _ _ => rfl) (fun _ _ h => h) _ _ hE
  clear hE
  obtain ⟨c, n, k, bs, ss⟩ := E
  have hE3 := hE2
  obtain ⟨h1, h2, h3, AB, ca, BS, cb, rfl, h5, h6, h7, h8, h9, h10, h11⟩ := hE3
  obtain ⟨bl, hbl⟩ : ∃ bl, bs.length = bl := ⟨_, rfl⟩
  obtain ⟨m, hmm⟩ : ∃ m, ss.length = m := ⟨_, rfl⟩
  rw [hbl, hmm] at hE2 ⊢
  rw [hbl] at h6
  rw [hmm] at h8
  have HE0 := Lib.hid (show RdE false (· < w.heap.size) w (.mk c n k bs ss) (elV c n k (.slice AB bl ca) (.slice BS m cb)) from hE2)
  have RS0 := Lib.hid h11
  have RP0 := Lib.hid hP
  have HM := Lib.hid (And.intro hmm (And.intro h8 h9))
  have HBL := Lib.hid hbl
  have HN := Lib.hid (And.intro h1 h2)
  have HP := Lib.hid hpn
  have HZ := Lib.hid (And.intro hz0 hz1)
  have hpm1 : pn ≤ 9223372036854775807 := maxN hpm
  have hmm1 : m ≤ 9223372036854775807 := maxN (Nat.le_trans h8 h9)
  have B := Lib.hid (Below.refl w.heap.size w)
  obtain ⟨R, hR⟩ : ∃ R, fewE (.mk c n k bs ss) 60 0 = R := ⟨_, rfl⟩
  obtain ⟨r, L2⟩ := R
  have HR := Lib.hid hR
  clear hE2 h1 h2 h3 h5 h6 h7 h8 h9 h10 h11 hbl hmm hP hpn hpm hz0 hz1 hR
  go_enter Try.func3, Try.ntmps3
  go_upto_region 1 with fail
  obtain ⟨gE, hgE⟩ : ∃ g, w.heap.size = g := ⟨_, rfl⟩
  obtain ⟨gZ, hgZ⟩ : ∃ g, gE + 1 = g := ⟨_, rfl⟩
  obtain ⟨w1, hw1⟩ : ∃ v, (w.alloc (.cells #[.int .u8 (c : Int), .bool k, .int .u32 (n : Int), .slice AB bl ca, .slice BS m cb] 29)).alloc (.cells #[.int .i64 z0, .int .i64 z1] 31) = v := ⟨_, rfl⟩
  have KE := Lib.hid (show Bk w1 gE 29 [.int .u8 (c : Int), .bool k, .int .u32 (n : Int), .slice AB bl ca, .slice BS m cb] by rw [← hw1, ← hgE]; exact (Bk.new w _ [_, _, _, _, _]).alloc _)
  have KZ := Lib.hid (show Bk w1 gZ 31 [.int .i64 z0, .int .i64 z1] by
    have h := Bk.new (w.alloc (.cells #[.int .u8 (c : Int), .bool k, .int .u32 (n : Int), .slice AB bl ca, .slice BS m cb] 29)) 31 [.int .i64 z0, .int .i64 z1]
    rw [World.size_alloc, hgE, hgZ] at h
    rw [← hw1]
    exact h)
  replace B := Lib.hid (show Below w.heap.size w w1 by rw [← hw1]; exact bel2 _ _ _)
  have HGE := Lib.hid hgE
  rw [hgE, hgZ, hw1]
  clear hw1
  have HEL := Lib.hid (And.intro KE.out.lt (And.intro KZ.out.lt B.out.size))
  go_upto_region 2 with fail
  obtain ⟨gL, hgL⟩ : ∃ g, w1.heap.size = g := ⟨_, rfl⟩
  obtain ⟨w2, hw⟩ : ∃ v, w1.alloc (.cells #[.int .i64 60] 3) = v := ⟨_, rfl⟩
  have hbh := Lib.hid (show Below w1.heap.size w1 w2 by rw [← hw]; exact bel1 _ _)
  have KLn := Lib.hid (show Bk w2 gL 3 [.int .i64 60] by rw [← hw, ← hgL]; exact Bk.new w1 _ [_])
  rw [hw, hgL]
  replace B := bt B hbh
  replace KE := kt KE hbh
  replace KZ := kt KZ hbh
  have KL := KLn
  clear hbh hw KLn
  have HGL := Lib.hid (show gE < gL ∧ gZ < gL ∧ w.heap.size ≤ gL by rw [← hgL]; exact HEL.out)
  clear hgL
  have HFW := Lib.hid (few_any gL (S := (· < w.heap.size)) (fun i hi e => by have := HGL.out.2.2; have h : i < w.heap.size := hi; omega) (.mk c n k bs ss) _ 0 60 w2 (HE0.out.stay B.out) (by decide) (by decide) (by decide) KL.out r L2 HR.out)
  clear KL
  obtain ⟨e0, e1, e2, e3, e4, ez⟩ := KE.out.five
  cases r
  case false => as_aux_lemma =>
    go_wp2_with fail
    refine (show Calls Try.prog 5 #[(elV c n k (.slice AB bl ca) (.slice BS m cb)), .pointer (some ⟨gL, 0, none⟩), .int .i64 0] w2 fun e' w' => e' = .returned (.int .i64 0) ∧ Bk w' gL 3 [.int .i64 L2] ∧ w2.grownBy w' (some gL) from HFW.out).mono ?_
    rintro e w3 ⟨rfl, _, hg⟩
    replace KE := Lib.hid (KE.out.only hg (fun e => by injection e with e; have := HGL.out; omega))
    replace KZ := Lib.hid (KZ.out.only hg (fun e => by injection e with e; have := HGL.out; omega))
    replace B := Lib.hid (B.out.trans (only_below hg HGL.out.2.2 B.out.size))
    clear hg HFW e0 e1 e2 e3 e4 ez
    go_wp2_with fail
    refine (lives_any _).mono ?_
    rintro e w4 ⟨rfl, hb⟩
    have hbh := Lib.hid hb
    replace B := bt B hbh
    replace KE := kt KE hbh
    replace KZ := kt KZ hbh
    clear hbh hb 
    go_wp2_with fail
    go_ret
    exact ⟨rfl, B.out⟩
  case true =>
    by_cases hp30 : 30 < pn
    · have hp31 : decide ((pn : Int) > 30) = true := by simp; omega
      go_wp2_with fail
      refine (show Calls Try.prog 5 #[(elV c n k (.slice AB bl ca) (.slice BS m cb)), .pointer (some ⟨gL, 0, none⟩), .int .i64 0] w2 fun e' w' => e' = .returned (.int .i64 1) ∧ Bk w' gL 3 [.int .i64 L2] ∧ w2.grownBy w' (some gL) from HFW.out).mono ?_
      rintro e w3 ⟨rfl, _, hg⟩
      replace KE := Lib.hid (KE.out.only hg (fun e => by injection e with e; have := HGL.out; omega))
      replace KZ := Lib.hid (KZ.out.only hg (fun e => by injection e with e; have := HGL.out; omega))
      replace B := Lib.hid (B.out.trans (only_below hg HGL.out.2.2 B.out.size))
      clear hg HFW e0 e1 e2 e3 e4 ez
      go_wp2_with fail
      refine (lives_any _).mono ?_
      rintro e w4 ⟨rfl, hb⟩
      have hbh := Lib.hid hb
      replace B := bt B hbh
      replace KE := kt KE hbh
      replace KZ := kt KZ hbh
      clear hbh hb 
      go_wp2_with fail
      go_ret
      exact ⟨rfl, B.out⟩
    · have hp31 : decide ((pn : Int) > 30) = false := by simp; omega
      have HT := Lib.hid (few_tiny HR.out)
      have HSUB := Lib.hid (few_subs HT.out.1 HT.out.2.1)
      have HDC := Lib.hid (And.intro HT.out.2.1 (sm_con HT.out.1))
      go_wp2_with fail
      refine (show Calls Try.prog 5 #[(elV c n k (.slice AB bl ca) (.slice BS m cb)), .pointer (some ⟨gL, 0, none⟩), .int .i64 0] w2 fun e' w' => e' = .returned (.int .i64 1) ∧ Bk w' gL 3 [.int .i64 L2] ∧ w2.grownBy w' (some gL) from HFW.out).mono ?_
      rintro e w3 ⟨rfl, _, hg⟩
      replace KE := Lib.hid (KE.out.only hg (fun e => by injection e with e; have := HGL.out; omega))
      replace KZ := Lib.hid (KZ.out.only hg (fun e => by injection e with e; have := HGL.out; omega))
      replace B := Lib.hid (B.out.trans (only_below hg HGL.out.2.2 B.out.size))
      clear hg HFW e0 e1 e2 e3 e4 ez
      go_upto_region 4 with fail
      obtain ⟨e0, e1, e2, e3, e4, ez⟩ := KE.out.five
      go_wp2_with fail
      refine (copied_any (.mk c n k bs ss) _ _ (HE0.out.stay B.out) HT.out.2.2.1).mono ?_
      rintro e w4 ⟨uu, rfl, hu, hb⟩
      obtain ⟨xc, xn, xk, XA, xl, xq, XB, xm, xr, rfl⟩ := hu.form
      have HW4 := Lib.hid hb.size
      have hbh := Lib.hid hb
      replace B := bt B hbh
      replace KE := kt KE hbh
      replace KZ := kt KZ hbh
      have RU := Lib.hid hu
      clear hbh hb hu e0 e1 e2 e3 e4 ez
      go_upto_region 5 with fail
      have HRU4 := Lib.hid (Nat.le_refl w4.heap.size)
      obtain ⟨gB, hgB⟩ : ∃ g, w4.heap.size = g := ⟨_, rfl⟩
      obtain ⟨w5, hw⟩ : ∃ v, w4.alloc (.cells #[.int .u8 (xc : Int), .bool xk, .int .u32 (xn : Int), .slice XA xl xq, .slice XB xm xr] 29) = v := ⟨_, rfl⟩
      have hbh := Lib.hid (show Below w4.heap.size w4 w5 by rw [← hw]; exact bel1 _ _)
      have KBn := Lib.hid (show Bk w5 gB 29 [.int .u8 (xc : Int), .bool xk, .int .u32 (xn : Int), .slice XA xl xq, .slice XB xm xr] by rw [← hw, ← hgB]; exact Bk.new w4 _ [_, _, _, _, _])
      rw [hw, hgB]
      replace B := bt B hbh
      replace KE := kt KE hbh
      replace KZ := kt KZ hbh
      replace RU := Lib.hid (RU.out.stay hbh.out)
      have KB := KBn
      clear hbh hw KBn
      go_upto_region 6 with fail
      have HGX1 := Lib.hid (show gE < w5.heap.size from KE.out.lt)
      have HGX2 := Lib.hid (show gZ < w5.heap.size from KZ.out.lt)
      have HGX3 := Lib.hid (show gB < w5.heap.size from KB.out.lt)
      have HGX4 := Lib.hid (show w.heap.size ≤ w5.heap.size from B.out.size)
      have HGX5 := Lib.hid (show w4.heap.size ≤ w5.heap.size from Nat.le_of_lt (by rw [hgB]; exact KB.out.lt))
      obtain ⟨gW, hgW⟩ : ∃ g, w5.heap.size = g := ⟨_, rfl⟩
      obtain ⟨w6, hw⟩ : ∃ v, w5.alloc (.cells #[.slice none 0 0, .int .i64 0] 38) = v := ⟨_, rfl⟩
      have hbh := Lib.hid (show Below w5.heap.size w5 w6 by rw [← hw]; exact bel1 _ _)
      have KWn := Lib.hid (show Bk w6 gW 38 [.slice none 0 0, .int .i64 0] by rw [← hw, ← hgW]; exact Bk.new w5 _ [_, _])
      rw [hw, hgW]
      replace B := bt B hbh
      replace KE := kt KE hbh
      replace KZ := kt KZ hbh
      replace RU := Lib.hid (RU.out.stay hbh.out)
      replace KB := kt KB hbh
      have KW := KWn
      clear hbh hw KWn
      have HGW := Lib.hid (show gE < gW ∧ gZ < gW ∧ gB < gW ∧ w.heap.size ≤ gW ∧ w4.heap.size ≤ gW by
        have h := HEL.out
        have hb := B.out.size
        have k1 := HGL.out
        have h5 := KB.out
        rw [← hgW]
        refine ⟨?_, ?_, ?_, ?_, ?_⟩ <;> (first | exact HGX1.out | exact HGX2.out | exact HGX3.out | exact HGX4.out | exact HGX5.out))
      clear hgW hgB
      obtain ⟨RO, hRO⟩ : ∃ R, ordS 0 none ss = R := ⟨_, rfl⟩
      obtain ⟨P, f⟩ := RO
      have HRO := Lib.hid hRO
      clear hRO HGX1 HGX2 HGX3 HGX4 HGX5
      go_upto_block 0 with fail
      go_cut [] (fun wx => w6.grownBy wx (some gW) ∧ ∃ AW nW cW, Bk wx gW 38 [.slice AW nW cW, .int .i64 (f : Int)] ∧ P.length = nW ∧ nW ≤ 1 ∧ Rd wx AW (csZ P))
      case first => as_aux_lemma =>
        go_wp2_with fail
        go_loopw [10, 11] (fun z9 _ wr => ∃ q : Nat, z9 = .int .i64 (q : Int) ∧ q ≤ m ∧ w6.grownBy wr (some gW) ∧ ((Bk wr gW 38 [.slice none 0 0, .int .i64 0] ∧ ordS q (prevE ss q) (ss.drop q) = (P, f) ∧ ∀ y, prevE ss q = some y → (chkE y 1 0).1 = 0) ∨ (f ≠ 0 ∧ ∃ AX cX z, P = [z] ∧ Bk wr gW 38 [.slice AX 1 cX, .int .i64 (f : Int)] ∧ Rd wr AX (csZ [z])))) (fun z9 _ _ => m - (intOf z9).toNat)
        case atStart => exact ⟨0, rfl, Nat.zero_le _, World.grownBy.refl _ _, .inl ⟨KW.out, by rw [List.drop_zero]; exact HRO.out, fun y h => by unfold prevE at h; rw [if_pos rfl] at h; cases h⟩⟩
        case round =>
          obtain ⟨q, rfl, hq, hgr, hcs⟩ := hrel
          have HQ := Lib.hid hq
          have HGR := Lib.hid hgr
          replace KE := Lib.hid (KE.out.only hgr (fun e => by injection e with e; have := HGW.out; omega))
          replace B := Lib.hid (B.out.trans (only_below hgr HGW.out.2.2.2.1 B.out.size))
          have RS := Lib.hid (RS0.out.stay B.out)
          clear hq hgr KW HRO KZ KB RU
          obtain ⟨e0, e1, e2, e3, e4, ez⟩ := KE.out.five
          by_cases hlt : q < m
          · have hlb : decide ((q : Int) < (m : Int)) = true := by simp; omega
            rcases hcs with ⟨hk, hord, hpv⟩ | ⟨hf, AX, cX, z, rfl, hk, hrx⟩
            · have KW := Lib.hid hk
              have HO := Lib.hid hord
              have HPV := Lib.hid hpv
              clear hk hord hpv
              have hql : q < ss.length := by rw [HM.out.1]; exact hlt
              have hdr : ss.drop q = ss[q]'hql :: ss.drop (q + 1) := List.drop_eq_getElem_cons hql
              obtain ⟨sb, so, ec, en, ek, aA, l1, cq, aB, l2, cz, hBS, hsb, _, s0, s1, s2, s3, s4, hE⟩ := RS.out.fives (i := q) hql
              rw [hBS] at e4
              have HBS := Lib.hid hBS
              have hnx : prevE ss (q + 1) = some (ss[q]'hql) := by unfold prevE; rw [if_neg (by omega), Nat.add_sub_cancel, List.getElem?_eq_getElem]
              have hdq := HSUB.out _ (List.getElem_mem hql)
              obtain ⟨y, hy⟩ : ∃ y, ss[q]'hql = y := ⟨_, rfl⟩
              rw [hy] at hE hdq hdr hnx
              rw [hdr] at HO
              have HDQ := Lib.hid hdq
              have HNX := Lib.hid hnx
              have HY := Lib.hid hy
              have HCK := Lib.hid (echeck_any y _ wr hdq.1 hE)
              rw [meaR_err] at HCK
              have c0 : wr.cell? ⟨gW, 1, none⟩ = some (.int .i64 0) := KW.out.cell 1
              clear hdr hnx hdq hy hE hBS
              go_wp2_with fail
              refine HCK.out.mono ?_
              rintro e' wa ⟨rfl, hb2⟩
              have KEa := kt KE (Lib.hid hb2)
              have KWa := kt KW (Lib.hid hb2)
              have RSa := Lib.hid (RS.out.stay hb2)
              have HGA := Lib.hid (HGR.out.trans (gb_of (some gW) hb2))
              have HWA := Lib.hid hb2.size
              clear hb2 KE KW HCK e0 e1 e2 e3 e4 ez c0 s0 s1 s2 s3 s4
              obtain ⟨er, her⟩ : ∃ er, (chkE y 1 0).1 = er := ⟨_, rfl⟩
              rw [her]
              have HER := Lib.hid her
              by_cases h0 : er ≠ 0
              · have hO := HO.out
                rw [ordS_cons, her, if_pos h0] at hO
                obtain ⟨rfl, rfl⟩ := Prod.mk.inj hO
                have hfb : ((er : Int) != 0) = true := by simp; omega
                clear hO HO her
                go_wp2_with fail
                refine (rfault_any er (q : Int) _ (by omega)).mono ?_
                rintro e wl6 ⟨A9, n9, c9, rfl, hl9, hn9, hm9, _, hr9, hb6⟩
                rw [if_neg (by omega)] at hl9 hr9
                obtain rfl : n9 = 1 := by simpa using hl9.symm
                have K6 := kt KWa (Lib.hid hb6)
                have HG6 := Lib.hid (HGA.out.trans (gb_of (some gW) hb6))
                have HS9 := Lib.hid (RdX.above hr9 (g := gW) KWa.out.lt)
                clear hb6 hl9 hn9 hm9 hr9
                go_wp2_with (refine storeF rfl _ _ rfl rfl rfl K6.out rfl rfl ?_; intro wl7 h7 h8)
                exact ⟨⟨q + 1, by go_num, hlt, HG6.out.trans h8.out, .inr ⟨h0, A9, c9, (q : Int), rfl, h7.out, (HS9.out.keep (T := fun _ => True) h8.out.size (fun i hS hi => h8.out.block i hi (fun e => by injection e with e; omega)) (fun _ _ _ => trivial)).rd⟩⟩, by simp [intOf]; omega⟩
              · obtain rfl : er = 0 := by omega
                clear h0
                by_cases hq0 : q = 0
                · subst hq0
                  have HO2 : Hid (ordS (0 + 1) (some y) (ss.drop (0 + 1)) = (P, f)) := Lib.hid (by have := HO.out; rw [ordS_cons, her, if_neg (by decide), show prevE ss 0 = none from rfl] at this; exact this)
                  clear HO her
                  go_wp2_with fail
                  exact ⟨⟨1, by go_num, by omega, HGA.out, .inl ⟨KWa.out, by rw [HNX.out]; exact HO2.out, fun y' h => by have h2 := HNX.out; rw [h2] at h; injection h with h; subst h; exact HER.out⟩⟩, by simp [intOf]; omega⟩
                · obtain ⟨p9, hp9⟩ : ∃ p, q - 1 = p := ⟨_, rfl⟩
                  have hpq : p9 + 1 = q := by omega
                  obtain ⟨q1, hq1⟩ : ∃ q1, q + 1 = q1 := ⟨_, rfl⟩
                  have hpl : p9 < ss.length := by rw [HM.out.1]; omega
                  have hpr : prevE ss q = some (ss[p9]'hpl) := by unfold prevE; rw [if_neg hq0, hp9, List.getElem?_eq_getElem hpl]
                  have hck := HPV.out _ hpr
                  have hdp := HSUB.out _ (List.getElem_mem hpl)
                  have hpt := pair_at hpq (show q < ss.length by rw [HM.out.1]; exact hlt)
                  rw [HY.out] at hpt
                  have hO := HO.out
                  rw [hpr] at hO
                  obtain ⟨X, hX⟩ : ∃ X, ss[p9]'hpl = X := ⟨_, rfl⟩
                  rw [hX] at hck hdp hpt hO
                  have hcase := ord_pair hck her hO
                  obtain ⟨A2, cc2, hcc2, hsl, hrp⟩ := slE_mid (some ⟨sb, so, none⟩) m cb p9 2 q1 (by omega) (by omega) HM.out.2.1
                  have hrs := hrp false _ wa ss HM.out.1 (by have h := RSa.out; rw [HBS.out] at h; exact h)
                  rw [hpt] at hrs
                  have RPa := Lib.hid hrs
                  have HOKS : Hid (∀ e ∈ [X, y], OKe e) := Lib.hid (fun e he => by
                    rcases List.mem_cons.1 he with rfl | he
                    · exact hdp.2.2 hck
                    · rcases List.mem_cons.1 he with rfl | he
                      · exact HDQ.out.2.2 her
                      · simp at he)
                  have hqp : (q : Int) - 1 = (p9 : Int) := by omega
                  have hqq : (q : Int) + 1 = (q1 : Int) := by omega
                  have hp9m : p9 < m := by omega
                  have hq1m : q1 ≤ m := by omega
                  have hpq2 : p9 ≤ q1 := by omega
                  have hmcb : m ≤ cb := HM.out.2.1
                  have hcbm : cb ≤ 9223372036854775807 := maxN HM.out.2.2
                  have HQ1 := Lib.hid hq1
                  have HPR := Lib.hid her
                  have HPN1 : Hid (0 < q) := Lib.hid (by omega)
                  have hgq : decide ((q : Int) > 0) = true := by simp; omega
                  clear HO hO hpr hck hdp hpt hX hrs hrp hpl her hpq hp9 hq1 hq0 HPV
                  obtain ⟨e0, e1, e2, e3, e4, ez⟩ := KEa.out.five
                  rw [HBS.out] at e4
                  rcases hcase with ⟨hor, hnx⟩ | ⟨hor, hf0, hPq⟩
                  · have HOR := Lib.hid hor
                    have HON := Lib.hid hnx
                    clear hor hnx
                    go_wp2_with fail
                    refine (rord_bk 0 0 false (.slice none 0 0) [X, y] A2 2 cc2 _ rfl (by unfold maxLen; decide) RPa.out HOKS.out [] 0 HOR.out).mono ?_
                    rintro e wl6 ⟨hb6, ⟨_, _, rfl⟩ | ⟨z, g, c9, L9, h, _⟩⟩
                    · have K6 := kt KWa (Lib.hid hb6)
                      have HG6 := Lib.hid (HGA.out.trans (gb_of (some gW) hb6))
                      clear hb6 hsl e0 e1 e2 e3 e4 ez
                      go_upto_region 14 with (refine storeF rfl _ _ rfl rfl rfl K6.out rfl rfl ?_; intro wl7 h7 h8)
                      have d1 : wl7.cell? ⟨gW, 1, none⟩ = some (.int .i64 0) := h7.out.cell 1
                      go_wp2_with fail
                      exact ⟨⟨q1, rfl, hq1m, HG6.out.trans h8.out, .inl ⟨h7.out, by rw [← HQ1.out, HNX.out]; exact HON.out, fun y' h => by have h2 := HNX.out; rw [← HQ1.out, h2] at h; injection h with h; subst h; exact HER.out⟩⟩, by simp [intOf]; have := HQ1.out; omega⟩
                    · cases h
                  · subst hPq
                    have HOR := Lib.hid hor
                    have hfb : ((f : Int) != 0) = true := by simp; omega
                    clear hor
                    go_wp2_with fail
                    refine (rord_bk 0 0 false (.slice none 0 0) [X, y] A2 2 cc2 _ rfl (by unfold maxLen; decide) RPa.out HOKS.out [1] f HOR.out).mono ?_
                    rintro e wl6 ⟨hb6, ⟨h, _⟩ | ⟨z, g, c9, L9, _, _, rfl, hk9, hg9⟩⟩
                    · cases h
                    · have K6 := kt KWa (Lib.hid hb6)
                      have HG6 := Lib.hid (HGA.out.trans (gb_of (some gW) hb6))
                      have hgW : gW ≠ g := by have := KWa.out.lt; omega
                      have HGN := Lib.hid hgW
                      have HGS : Hid (w6.heap.size ≤ g) := Lib.hid (Nat.le_trans HGA.out.size hg9)
                      have K9 := Lib.hid hk9
                      clear hb6 hsl e0 e1 e2 e3 e4 ez hk9 hg9 hgW
                      go_upto_region 14 with (refine storeF rfl _ _ rfl rfl rfl K6.out rfl rfl ?_; intro wl7 h7 h8)
                      have d0 : wl7.cell? ⟨gW, 0, none⟩ = some (.slice (some ⟨g, 0, none⟩) 1 c9) := h7.out.cell 0
                      have d1 : wl7.cell? ⟨gW, 1, none⟩ = some (.int .i64 (f : Int)) := h7.out.cell 1
                      have K97 := Lib.hid (K9.out.only h8.out (fun e => by injection e with e; exact HGN.out e.symm))
                      have x0 : wl7.cell? ⟨g, 0, none⟩ = some (.int .i64 z) := K97.out.cell 0
                      have x1 : wl7.frozen? ⟨g, 0, none⟩ = false := K97.out.free 0
                      go_wp2_with fail
                      have kk := K97.out.store 0 (.int .i64 (q : Int))
                      exact ⟨⟨q1, rfl, hq1m, gb_set (HG6.out.trans h8.out) HGS.out _ _, .inr ⟨hf0, some ⟨g, 0, none⟩, c9, (q : Int), rfl, h7.out.far (p := ⟨g, 0, none⟩) HGN.out _, fun _ => ⟨g, 0, rfl, kk.lt, fun j u hu => by
                        rw [kk.cell]
                        cases j with
                        | zero => exact hu
                        | succ j => simp [csZ] at hu⟩⟩⟩, by simp [intOf]; have := HQ1.out; omega⟩
            · have KW := Lib.hid hk
              have c1 : wr.cell? ⟨gW, 1, none⟩ = some (.int .i64 (f : Int)) := hk.cell 1
              have hfb : ((f : Int) == 0) = false := by simp; omega
              have HRX := Lib.hid hrx
              clear hk hrx
              go_wp2_with fail
              go_meet
              exact ⟨HGR.out, AX, 1, cX, KW.out, rfl, Nat.le_refl _, HRX.out⟩
          · obtain rfl : q = m := by have := HQ.out; omega
            have HCS := Lib.hid hcs
            have hlb : decide ((q : Int) < (q : Int)) = false := by simp
            clear hcs
            go_wp2_with fail
            go_meet
            rcases HCS.out with ⟨hk, hord, _⟩ | ⟨hf, AX, cX, z, rfl, hk, hrx⟩
            · rw [List.drop_eq_nil_of_le (by rw [HM.out.1]; omega), ordS] at hord
              injection hord with h1 h2
              subst h1 h2
              exact ⟨HGR.out, none, 0, 0, hk, rfl, Nat.zero_le _, Rd.nil⟩
            · exact ⟨HGR.out, AX, 1, cX, hk, rfl, Nat.le_refl _, hrx⟩
      case rest =>
        obtain ⟨hgr, AW, nW, cW, hkw, hnw, hn1, hrw⟩ := hcut
        generalize wc = wx at *
        replace KE := Lib.hid (KE.out.only hgr (fun e => by injection e with e; have := HGW.out; omega))
        replace KZ := Lib.hid (KZ.out.only hgr (fun e => by injection e with e; have := HGW.out; omega))
        replace KB := Lib.hid (KB.out.only hgr (fun e => by injection e with e; have := HGW.out; omega))
        replace RU := Lib.hid (RdE.keep (T := fun _ => True) hgr.size (fun i hS hi => hgr.block i hi (fun e => by injection e with e; have := HGW.out; have := hS.2; omega)) (fun _ _ _ => trivial) _ _ RU.out)
        replace B := Lib.hid (B.out.trans (only_below hgr HGW.out.2.2.2.1 B.out.size))
        have KWx := Lib.hid hkw
        have RW := Lib.hid hrw
        have HNW := Lib.hid (And.intro hnw hn1)
        clear hgr hkw hnw hn1 hrw KW
        go_upto_region 16 with fail
        have HSR := Lib.hid (show ∀ W, Below wx.heap.size wx W → W.cell? ⟨gE, 0, none⟩ = some (.int .u8 (c : Int)) ∧ W.cell? ⟨gE, 1, none⟩ = some (.bool k) ∧ W.cell? ⟨gE, 2, none⟩ = some (.int .u32 (n : Int)) ∧ W.cell? ⟨gE, 3, none⟩ = some (.slice AB bl ca) ∧ W.cell? ⟨gE, 4, none⟩ = some (.slice BS m cb) ∧ W.cell? ⟨gW, 0, none⟩ = some (.slice AW nW cW) ∧ W.cell? ⟨gW, 1, none⟩ = some (.int .i64 (f : Int)) ∧ Below wx.heap.size wx W from fun W hW => ⟨(hW.cell (p := ⟨gE, 0, none⟩) KE.out.lt).trans (KE.out.cell 0), (hW.cell (p := ⟨gE, 1, none⟩) KE.out.lt).trans (KE.out.cell 1), (hW.cell (p := ⟨gE, 2, none⟩) KE.out.lt).trans (KE.out.cell 2), (hW.cell (p := ⟨gE, 3, none⟩) KE.out.lt).trans (KE.out.cell 3), (hW.cell (p := ⟨gE, 4, none⟩) KE.out.lt).trans (KE.out.cell 4), (hW.cell (p := ⟨gW, 0, none⟩) KWx.out.lt).trans (KWx.out.cell 0), (hW.cell (p := ⟨gW, 1, none⟩) KWx.out.lt).trans (KWx.out.cell 1), hW⟩)
        have d0 : Below wx.heap.size wx wx.drew := (Below.refl wx.heap.size wx).drew
        go_region_held3 (fun W => W.cell? ⟨gE, 0, none⟩ = some (.int .u8 (c : Int)) ∧ W.cell? ⟨gE, 1, none⟩ = some (.bool k) ∧ W.cell? ⟨gE, 2, none⟩ = some (.int .u32 (n : Int)) ∧ W.cell? ⟨gE, 3, none⟩ = some (.slice AB bl ca) ∧ W.cell? ⟨gE, 4, none⟩ = some (.slice BS m cb) ∧ W.cell? ⟨gW, 0, none⟩ = some (.slice AW nW cW) ∧ W.cell? ⟨gW, 1, none⟩ = some (.int .i64 (f : Int)) ∧ Below wx.heap.size wx W)
          (first | exact HSR.out _ d2 | exact HSR.out _ d1 | exact HSR.out _ d0)
          (first | (have dz := d1; go_at_call 11; refine (lfault_eq P f A1 AW nW cW _ hr5.rd (RW.out.below d1) HNW.out.1 (Nat.le_trans HNW.out.2 (by unfold maxLen; decide))).mono ?_; rintro e v2 ⟨rfl, hv2⟩; have d2 : Below wx.heap.size wx v2 := d1.trans (hv2.mono d1.size); clear dz) | (go_at_call 12; refine (ord_any c n k (.slice AB bl ca) ss BS m cb _ HM.out.1 (Nat.le_trans HM.out.2.1 HM.out.2.2) (RS0.out.stay (B.out.trans (d0.mono B.out.size))) (fun e he => ⟨(HSUB.out e he).1, (HSUB.out e he).2.1⟩) P f HRO.out).mono ?_; rintro e v1 ⟨A1, m1, n1, rfl, hl5, _, hm5, hx5, hr5, hv1⟩; have d1 : Below wx.heap.size wx v1 := d0.trans (hv1.mono d0.size); obtain rfl := hx5 rfl; obtain rfl : nW = n1 := HNW.out.1.symm.trans hl5))
        have hbh := Lib.hid d2
        clear HSR d0 d1 d2 hr5 hx5 hm5 hl5
        replace B := bt B hbh
        replace KE := kt KE hbh
        replace KZ := kt KZ hbh
        replace RU := Lib.hid (RU.out.stay hbh.out)
        replace KB := kt KB hbh
        clear hbh KWx RW
        go_upto_region 18 with fail
        obtain ⟨RE, hRE⟩ : ∃ R, encR (.mk c n k bs ss) = R := ⟨_, rfl⟩
        obtain ⟨bl9, fb⟩ := RE
        obtain ⟨LN, hLN⟩ : ∃ N, bl9.length = N := ⟨_, rfl⟩
        have HPE := Lib.hid (fun W hE => by have h := eput_any (x := false) (S := (· < w.heap.size)) (.mk c n k bs ss) (elV c n k (.slice AB bl ca) (.slice BS m cb)) W HDC.out.1 hE HDC.out.2; unfold GiveE at h; rw [hRE] at h; dsimp only at h; rw [hLN] at h; exact h)
        have HFB : Hid ((sizR (.mk c n k bs ss)).2 = fb) := Lib.hid (by have h := hRE; unfold encR at h; split at h <;> (injection h with _ h) <;> omega)
        obtain ⟨RF, hRF⟩ : ∃ R, offR (.mk c n k bs ss) p = R := ⟨_, rfl⟩
        obtain ⟨O, fo⟩ := RF
        have HOF := Lib.hid hRF
        obtain ⟨r, hr⟩ : ∃ r, atE (.mk c n k bs ss) p = r := ⟨_, rfl⟩
        have HAT := Lib.hid hr
        have hn6 : pn ≤ 1000000 := by omega
        clear hRE hLN hRF hr
        obtain ⟨e0, e1, e2, e3, e4, ez⟩ := KE.out.five
        go_wp2_with fail
        refine (HPE.out _ (HE0.out.stay B.out)).mono ?_
        rintro e w9 ⟨AE, rfl, hrx, h8, hb⟩
        have hbh := Lib.hid hb
        replace B := bt B hbh
        replace KE := kt KE hbh
        replace KZ := kt KZ hbh
        replace RU := Lib.hid (RU.out.stay hbh.out)
        replace KB := kt KB hbh
        clear hbh hb hrx h8 HPE e0 e1 e2 e3 e4 ez
        obtain ⟨e0, e1, e2, e3, e4, ez⟩ := KE.out.five
        go_wp2_with fail
        refine (off_any (.mk c n k bs ss) _ p AP pn pc _ (HE0.out.stay B.out) HDC.out.1 HDC.out.2 (RP0.out.below B.out) HP.out hn6 O fo HOF.out).mono ?_
        rintro e w10 ⟨rfl, hb⟩
        have hbh := Lib.hid hb
        replace B := bt B hbh
        replace KE := kt KE hbh
        replace KZ := kt KZ hbh
        replace RU := Lib.hid (RU.out.stay hbh.out)
        replace KB := kt KB hbh
        clear hbh hb e0 e1 e2 e3 e4 ez
        obtain ⟨e0, e1, e2, e3, e4, ez⟩ := KE.out.five
        go_wp2_with fail
        refine (at_uni (.mk c n k bs ss) _ p AP pn pc _ (HE0.out.stay B.out) HT.out.2.2.2 (RP0.out.below B.out) HP.out hn6 r HAT.out).mono ?_
        rintro e w11 ⟨c5, n5, k5, A5, l5, q5, B5, l6, q6, F5, rfl, hno, hso, hre, hb⟩
        have HA5 := Lib.hid (And.intro hno hso)
        have hbh := Lib.hid hb
        replace B := bt B hbh
        replace KE := kt KE hbh
        replace KZ := kt KZ hbh
        replace RU := Lib.hid (RU.out.stay hbh.out)
        replace KB := kt KB hbh
        have RG := Lib.hid hre
        clear hbh hb hno hso hre e0 e1 e2 e3 e4 ez
        go_upto_region 21 with fail
        obtain ⟨gG, hgG⟩ : ∃ g, w11.heap.size = g := ⟨_, rfl⟩
        obtain ⟨w12, hw⟩ : ∃ v, w11.alloc (.cells #[.int .u8 (c5 : Int), .bool k5, .int .u32 (n5 : Int), .slice A5 l5 q5, .slice B5 l6 q6] 29) = v := ⟨_, rfl⟩
        have hbh := Lib.hid (show Below w11.heap.size w11 w12 by rw [← hw]; exact bel1 _ _)
        have KGn := Lib.hid (show Bk w12 gG 29 [.int .u8 (c5 : Int), .bool k5, .int .u32 (n5 : Int), .slice A5 l5 q5, .slice B5 l6 q6] by rw [← hw, ← hgG]; exact Bk.new w11 _ [_, _, _, _, _])
        rw [hw, hgG]
        replace B := bt B hbh
        replace KE := kt KE hbh
        replace KZ := kt KZ hbh
        replace RU := Lib.hid (RU.out.stay hbh.out)
        replace KB := kt KB hbh
        replace RG := Lib.hid (fun d h => (RG.out d h).stay hbh.out)
        have KG := KGn
        clear hbh hw KGn
        obtain ⟨e0, e1, e2, e3, e4, ez⟩ := KE.out.five
        go_wp2_with fail
        refine (rat_uni (.mk c n k bs ss) _ p AP pn pc _ (HE0.out.stay B.out) (RP0.out.below B.out) HP.out hn6 r HAT.out).mono ?_
        rintro e w13 ⟨c7, n7, k7, A7, l7, q7, B7, l8, q8, zz, rfl, hno, hso, hre, hb⟩
        have HA7 := Lib.hid (And.intro hno hso)
        have hre2 := fun d h => (hre d h).stay hb
        have hbh := Lib.hid hb
        replace B := bt B hbh
        replace KE := kt KE hbh
        replace KZ := kt KZ hbh
        replace RU := Lib.hid (RU.out.stay hbh.out)
        replace KB := kt KB hbh
        replace RG := Lib.hid (fun d h => (RG.out d h).stay hbh.out)
        replace KG := kt KG hbh
        have RH := Lib.hid hre2
        clear hbh hb hno hso hre hre2 e0 e1 e2 e3 e4 ez
        go_upto_region 22 with fail
        obtain ⟨gS, hgS⟩ : ∃ g, w13.heap.size = g := ⟨_, rfl⟩
        obtain ⟨w14, hw⟩ : ∃ v, w13.alloc (.cells #[.int .u8 (c7 : Int), .bool k7, .int .u32 (n7 : Int), .slice A7 l7 q7, .slice B7 l8 q8] 29) = v := ⟨_, rfl⟩
        have hbh := Lib.hid (show Below w13.heap.size w13 w14 by rw [← hw]; exact bel1 _ _)
        have KSn := Lib.hid (show Bk w14 gS 29 [.int .u8 (c7 : Int), .bool k7, .int .u32 (n7 : Int), .slice A7 l7 q7, .slice B7 l8 q8] by rw [← hw, ← hgS]; exact Bk.new w13 _ [_, _, _, _, _])
        rw [hw, hgS]
        replace B := bt B hbh
        replace KE := kt KE hbh
        replace KZ := kt KZ hbh
        replace RU := Lib.hid (RU.out.stay hbh.out)
        replace KB := kt KB hbh
        replace RG := Lib.hid (fun d h => (RG.out d h).stay hbh.out)
        replace KG := kt KG hbh
        replace RH := Lib.hid (fun d h => (RH.out d h).stay hbh.out)
        have KS := KSn
        clear hbh hw KSn
        go_cut [127] (fun z wx => z = .bool false ∧ Below w14.heap.size w14 wx)
        case first => as_aux_lemma =>
          cases r with
          | none =>
            obtain rfl := HA5.out.1 rfl
            obtain rfl := HA7.out.1 rfl
            go_wp2_with fail
            go_meet
            exact ⟨rfl, Below.refl _ _⟩
          | some d =>
            obtain rfl := HA5.out.2 d rfl
            obtain rfl := HA7.out.2 d rfl
            obtain ⟨x0, x1, x2, x3, x4, xz⟩ := KG.out.five
            obtain ⟨y0, y1, y2, y3, y4, yz⟩ := KS.out.five
            have hg5 := Lib.hid (RG.out d rfl)
            have hg7 := Lib.hid (RH.out d rfl)
            go_wp2_with fail
            refine (same_eq d _ _ _ hg5.out hg7.out).mono ?_
            rintro e wy ⟨rfl, hby⟩
            go_wp2_with fail
            go_meet
            exact ⟨rfl, hby⟩
        case rest =>
          obtain ⟨rfl, hba⟩ := hcut
          generalize wc = wy1 at *
          have hbh := Lib.hid hba
          clear hba
          clear RG RH KG KS
          replace B := bt B hbh
          replace KE := kt KE hbh
          replace KZ := kt KZ hbh
          replace RU := Lib.hid (RU.out.stay hbh.out)
          replace KB := kt KB hbh
          clear hbh
          have HIS : Hid (fb = 0 → (zz = true → fo = 0 ∧ O = offE (.mk c n k bs ss) p ∧ ∃ d, r = some d) ∧ (zz = false → fo ≠ 0)) := Lib.hid (fun h0 => by
            have hok : OKe (.mk c n k bs ss) := OKe.of (by rw [HFB.out, h0])
            have h7 := HA7.out
            have h := HOF.out
            have ha := HAT.out
            cases r with
            | none =>
              rw [offU_none hok ha] at h
              injection h with h1 h2
              exact ⟨fun hz => (by rw [h7.1 rfl] at hz; cases hz), fun _ => by omega⟩
            | some d =>
              rw [offU_some hok ha] at h
              injection h with h1 h2
              exact ⟨fun _ => ⟨h2.symm, h1.symm, d, rfl⟩, fun hz => (by rw [h7.2 d rfl] at hz; cases hz)⟩)
          have HBD : Hid (fb ≠ 0 → O = 0 ∧ fo = fb) := Lib.hid (fun h0 => by
            have h := HOF.out
            unfold offR at h
            rw [HFB.out, if_pos h0] at h
            injection h with h1 h2
            exact ⟨h1.symm, h2.symm⟩)
          go_upto_region 24 with fail
          go_cut [148] (fun z wx => z = .bool false ∧ wx = wy1)
          case first => as_aux_lemma =>
            by_cases h0 : fb = 0
            · have h1 := HIS.out h0
              subst h0
              cases zz with
              | false =>
                have h2 : ((fo : Int) == 0) = false := by have := h1.2 rfl; simp; omega
                clear h1
                go_wp2_with fail
                go_meet
                exact ⟨rfl, rfl⟩
              | true =>
                have h9 := (h1.1 rfl).1
                clear h1
                subst h9
                go_wp2_with fail
                go_meet
                exact ⟨rfl, rfl⟩
            · obtain ⟨rfl, rfl⟩ := HBD.out h0
              have h2 : ((fo : Int) != 0) = true := by simp; omega
              have h3 : ((fo : Int) == 0) = false := by simp; omega
              go_wp2_with fail
              go_meet
              exact ⟨rfl, rfl⟩
          case rest =>
            obtain ⟨rfl, hwc⟩ := hcut
            have hwd := hwc.symm
            clear hwc
            subst hwd
            go_upto_region 26 with fail
            go_cut [161] (fun z wx => z = .bool false ∧ Below wy1.heap.size wy1 wx)
            case first => as_aux_lemma =>
              by_cases h0 : fb = 0
              · have h1 := HIS.out h0
                subst h0
                by_cases h2 : fo = 0
                · subst h2
                  cases zz with
                  | false => exact absurd rfl (h1.2 rfl)
                  | true =>
                    obtain ⟨_, h9, d, hd⟩ := h1.1 rfl
                    clear h1
                    subst h9
                    have hok : OKe (.mk c n k bs ss) := OKe.of (by rw [HFB.out])
                    have HRF := Lib.hid (roff_any (.mk c n k bs ss) _ p AP pn pc _ (HE0.out.stay B.out) hok (RP0.out.below B.out) HP.out hn6 d (HAT.out.trans hd))
                    obtain ⟨e0, e1, e2, e3, e4, ez⟩ := KE.out.five
                    go_wp2_with fail
                    refine HRF.out.mono ?_
                    rintro e wy ⟨rfl, hby⟩
                    go_wp2_with fail
                    go_meet
                    exact ⟨rfl, hby⟩
                · have h3 : ((fo : Int) == 0) = false := by simp; omega
                  clear h1
                  go_wp2_with fail
                  go_meet
                  exact ⟨rfl, Below.refl _ _⟩
              · have h3 : ((fb : Int) == 0) = false := by simp; omega
                go_wp2_with fail
                go_meet
                exact ⟨rfl, Below.refl _ _⟩
            case rest =>
              obtain ⟨rfl, hba⟩ := hcut
              generalize wc = wy2 at *
              have hbh := Lib.hid hba
              clear hba HIS HBD HFB HOF HAT HA5 HA7
              replace B := bt B hbh
              replace KE := kt KE hbh
              replace KZ := kt KZ hbh
              replace RU := Lib.hid (RU.out.stay hbh.out)
              replace KB := kt KB hbh
              clear hbh
              go_wp2_with fail
              refine (tag_any 6 0 2 false _ (by decide) rfl).mono ?_
              rintro e w17 ⟨rfl, hb⟩
              have hbh := Lib.hid hb
              replace B := bt B hbh
              replace KE := kt KE hbh
              replace KZ := kt KZ hbh
              replace RU := Lib.hid (RU.out.stay hbh.out)
              replace KB := kt KB hbh
              clear hbh hb 
              go_upto_region 29 with fail
              obtain ⟨gF, hgF⟩ : ∃ g, w17.heap.size = g := ⟨_, rfl⟩
              obtain ⟨w18, hw⟩ : ∃ v, w17.alloc (.cells #[.int .u8 0, .bool false, .int .u32 0, .bool true, .bool true, .int .u8 0, .bool false, .int .u32 2, .bool false, .bool false, .int .u8 0, .bool false, .int .u32 0, .bool true, .bool false] 54) = v := ⟨_, rfl⟩
              have hbh := Lib.hid (show Below w17.heap.size w17 w18 by rw [← hw]; exact bel1 _ _)
              have KFn := Lib.hid (show Bk w18 gF 54 [.int .u8 0, .bool false, .int .u32 0, .bool true, .bool true, .int .u8 0, .bool false, .int .u32 2, .bool false, .bool false, .int .u8 0, .bool false, .int .u32 0, .bool true, .bool false] by rw [← hw, ← hgF]; exact Bk.new w17 _ [_, _, _, _, _, _, _, _, _, _, _, _, _, _, _])
              rw [hw, hgF]
              replace B := bt B hbh
              replace KE := kt KE hbh
              replace KZ := kt KZ hbh
              replace RU := Lib.hid (RU.out.stay hbh.out)
              replace KB := kt KB hbh
              have KF := KFn
              clear hbh hw KFn
              have RF := Lib.hid (show Rd w18 (some ⟨gF, 0, none⟩) (csF FLw) from KF.out.rd 0)
              clear KF
              obtain ⟨R, hR⟩ : ∃ R, sqR c n k (.mk c n k bs ss) FLw = R := ⟨_, rfl⟩
              obtain ⟨I, Q, fq⟩ := R
              have HRQ := Lib.hid hR
              obtain ⟨R3, hR3⟩ : ∃ R, lstR c n k z0 z1 (.mk c n k bs ss) = R := ⟨_, rfl⟩
              obtain ⟨P3, f3⟩ := R3
              have HR3 := Lib.hid hR3
              obtain ⟨R4, hR4⟩ : ∃ R, expR n (.mk c n k bs ss) = R := ⟨_, rfl⟩
              obtain ⟨P4, f4⟩ := R4
              have HR4 := Lib.hid hR4
              clear hR hR3 hR4
              have hw1 : IntKind.i64.wrap 1 = 1 := by rw [IntKind.wrap_i64]; omega
              obtain ⟨e0, e1, e2, e3, e4, ez⟩ := KE.out.five
              go_wp2_with fail
              refine (seq_any c n k (.slice AB bl ca) bs ss BS m cb c n k FLw (some ⟨gF, 0, none⟩) 3 3 _ HM.out.1 HM.out.2.1 HM.out.2.2 (RS0.out.stay B.out) rfl RF.out (by decide) I Q fq HRQ.out).mono ?_
              rintro e w19 ⟨Aq, nq, cq, Bq, mq, dq, rfl, hI, _, hcm5, hrI, hP, _, hdm, hrP, hx, hb⟩
              obtain ⟨hx1, hx2⟩ := hx rfl
              subst hx1 hx2
              have HI := Lib.hid (And.intro hI hcm5)
              have HQ := Lib.hid (And.intro hP hdm)
              have hbh := Lib.hid hb
              replace B := bt B hbh
              replace KE := kt KE hbh
              replace KZ := kt KZ hbh
              replace RU := Lib.hid (RU.out.stay hbh.out)
              replace KB := kt KB hbh
              replace RF := rt RF hbh
              have RI := Lib.hid hrI.rd
              have RQ := Lib.hid hrP.rd
              clear hbh hb hI hcm5 hP hdm hrI hrP hx e0 e1 e2 e3 e4 ez
              go_upto_region 30 with fail
              obtain ⟨gQ, hgQ⟩ : ∃ g, w19.heap.size = g := ⟨_, rfl⟩
              obtain ⟨w20, hw⟩ : ∃ v, w19.alloc (.cells #[.slice Bq dq dq, .int .i64 (fq : Int)] 38) = v := ⟨_, rfl⟩
              have hbh := Lib.hid (show Below w19.heap.size w19 w20 by rw [← hw]; exact bel1 _ _)
              have KQn := Lib.hid (show Bk w20 gQ 38 [.slice Bq dq dq, .int .i64 (fq : Int)] by rw [← hw, ← hgQ]; exact Bk.new w19 _ [_, _])
              rw [hw, hgQ]
              replace B := bt B hbh
              replace KE := kt KE hbh
              replace KZ := kt KZ hbh
              replace RU := Lib.hid (RU.out.stay hbh.out)
              replace KB := kt KB hbh
              replace RF := rt RF hbh
              replace RI := rt RI hbh
              replace RQ := rt RQ hbh
              have KQ := KQn
              clear hbh hw KQn
              obtain ⟨e0, e1, e2, e3, e4, ez⟩ := KE.out.five
              go_wp2_with fail
              refine (rseq_any c n k (.slice AB bl ca) bs ss BS m cb c n k FLw (some ⟨gF, 0, none⟩) 3 3 _ HM.out.1 HM.out.2.1 HM.out.2.2 (RS0.out.stay B.out) rfl RF.out (by decide) I Q fq HRQ.out).mono ?_
              rintro e w21 ⟨Ar, nr, cr, Br, mr, dr, rfl, hI, _, _, hrI, hP, _, _, hrP, _, hb⟩
              obtain rfl : cq = nr := by rw [← hI]; exact HI.out.1.symm
              obtain rfl : dq = mr := by rw [← hP]; exact HQ.out.1.symm
              have hbh := Lib.hid hb
              replace B := bt B hbh
              replace KE := kt KE hbh
              replace KZ := kt KZ hbh
              replace RU := Lib.hid (RU.out.stay hbh.out)
              replace KB := kt KB hbh
              replace RF := rt RF hbh
              replace RI := rt RI hbh
              replace RQ := rt RQ hbh
              replace KQ := kt KQ hbh
              have RJ := Lib.hid hrI.rd
              have RR := Lib.hid hrP.rd
              clear hbh hb hI hP hrI hrP e0 e1 e2 e3 e4 ez
              go_upto_region 31 with fail
              obtain ⟨gR, hgR⟩ : ∃ g, w21.heap.size = g := ⟨_, rfl⟩
              obtain ⟨w22, hw⟩ : ∃ v, w21.alloc (.cells #[.slice Br dq dr, .int .i64 (fq : Int)] 38) = v := ⟨_, rfl⟩
              have hbh := Lib.hid (show Below w21.heap.size w21 w22 by rw [← hw]; exact bel1 _ _)
              have KRn := Lib.hid (show Bk w22 gR 38 [.slice Br dq dr, .int .i64 (fq : Int)] by rw [← hw, ← hgR]; exact Bk.new w21 _ [_, _])
              rw [hw, hgR]
              replace B := bt B hbh
              replace KE := kt KE hbh
              replace KZ := kt KZ hbh
              replace RU := Lib.hid (RU.out.stay hbh.out)
              replace KB := kt KB hbh
              replace RF := rt RF hbh
              replace RI := rt RI hbh
              replace RQ := rt RQ hbh
              replace KQ := kt KQ hbh
              replace RJ := rt RJ hbh
              replace RR := rt RR hbh
              have KR := KRn
              clear hbh hw KRn
              obtain ⟨e0, e1, e2, e3, e4, ez⟩ := KE.out.five
              have t0 := KZ.out.cell 0
              have t1 := KZ.out.cell 1
              simp only [List.getElem?_cons_zero, List.getElem?_cons_succ] at t0 t1
              go_wp2_with fail
              refine (list_any c n k (.slice AB bl ca) bs ss BS m cb c n k z0 z1 _ HM.out.1 P3 f3 HR3.out HZ.out.1 HZ.out.2).mono ?_
              rintro e w23 ⟨Ah, nh, ch, rfl, hl, _, hm, hx, hr, hb⟩
              obtain rfl := hx rfl
              have HH := Lib.hid (And.intro hl hm)
              have hbh := Lib.hid hb
              replace B := bt B hbh
              replace KE := kt KE hbh
              replace KZ := kt KZ hbh
              replace RU := Lib.hid (RU.out.stay hbh.out)
              replace KB := kt KB hbh
              replace RF := rt RF hbh
              replace RI := rt RI hbh
              replace RQ := rt RQ hbh
              replace KQ := kt KQ hbh
              replace RJ := rt RJ hbh
              replace RR := rt RR hbh
              replace KR := kt KR hbh
              have RHh := Lib.hid hr.rd
              clear hbh hb hl hm hx hr t0 t1 e0 e1 e2 e3 e4 ez
              go_upto_region 32 with fail
              obtain ⟨gH, hgH⟩ : ∃ g, w23.heap.size = g := ⟨_, rfl⟩
              obtain ⟨w24, hw⟩ : ∃ v, w23.alloc (.cells #[.slice Ah ch ch, .int .i64 (f3 : Int)] 38) = v := ⟨_, rfl⟩
              have hbh := Lib.hid (show Below w23.heap.size w23 w24 by rw [← hw]; exact bel1 _ _)
              have KHn := Lib.hid (show Bk w24 gH 38 [.slice Ah ch ch, .int .i64 (f3 : Int)] by rw [← hw, ← hgH]; exact Bk.new w23 _ [_, _])
              rw [hw, hgH]
              replace B := bt B hbh
              replace KE := kt KE hbh
              replace KZ := kt KZ hbh
              replace RU := Lib.hid (RU.out.stay hbh.out)
              replace KB := kt KB hbh
              replace RF := rt RF hbh
              replace RI := rt RI hbh
              replace RQ := rt RQ hbh
              replace KQ := kt KQ hbh
              replace RJ := rt RJ hbh
              replace RR := rt RR hbh
              replace KR := kt KR hbh
              replace RHh := rt RHh hbh
              have KH := KHn
              clear hbh hw KHn
              have HSR := Lib.hid (show ∀ W, Below w24.heap.size w24 W → W.cell? ⟨gQ, 0, none⟩ = some (.slice Bq dq dq) ∧ W.cell? ⟨gQ, 1, none⟩ = some (.int .i64 (fq : Int)) ∧ W.cell? ⟨gR, 0, none⟩ = some (.slice Br dq dr) ∧ W.cell? ⟨gR, 1, none⟩ = some (.int .i64 (fq : Int)) ∧ W.cell? ⟨gH, 0, none⟩ = some (.slice Ah ch ch) ∧ W.cell? ⟨gH, 1, none⟩ = some (.int .i64 (f3 : Int)) ∧ W.cell? ⟨gE, 0, none⟩ = some (.int .u8 (c : Int)) ∧ W.cell? ⟨gE, 1, none⟩ = some (.bool k) ∧ W.cell? ⟨gE, 2, none⟩ = some (.int .u32 (n : Int)) ∧ W.cell? ⟨gE, 3, none⟩ = some (.slice AB bl ca) ∧ W.cell? ⟨gE, 4, none⟩ = some (.slice BS m cb) ∧ W.cell? ⟨gZ, 0, none⟩ = some (.int .i64 z0) ∧ W.cell? ⟨gZ, 1, none⟩ = some (.int .i64 z1) ∧ W.cell? ⟨gB, 0, none⟩ = some (.int .u8 (xc : Int)) ∧ W.cell? ⟨gB, 1, none⟩ = some (.bool xk) ∧ W.cell? ⟨gB, 2, none⟩ = some (.int .u32 (xn : Int)) ∧ W.cell? ⟨gB, 3, none⟩ = some (.slice XA xl xq) ∧ W.cell? ⟨gB, 4, none⟩ = some (.slice XB xm xr) ∧ Below w24.heap.size w24 W from fun W hW => ⟨(hW.cell (p := ⟨gQ, 0, none⟩) KQ.out.lt).trans (KQ.out.cell 0), (hW.cell (p := ⟨gQ, 1, none⟩) KQ.out.lt).trans (KQ.out.cell 1), (hW.cell (p := ⟨gR, 0, none⟩) KR.out.lt).trans (KR.out.cell 0), (hW.cell (p := ⟨gR, 1, none⟩) KR.out.lt).trans (KR.out.cell 1), (hW.cell (p := ⟨gH, 0, none⟩) KH.out.lt).trans (KH.out.cell 0), (hW.cell (p := ⟨gH, 1, none⟩) KH.out.lt).trans (KH.out.cell 1), (hW.cell (p := ⟨gE, 0, none⟩) KE.out.lt).trans (KE.out.cell 0), (hW.cell (p := ⟨gE, 1, none⟩) KE.out.lt).trans (KE.out.cell 1), (hW.cell (p := ⟨gE, 2, none⟩) KE.out.lt).trans (KE.out.cell 2), (hW.cell (p := ⟨gE, 3, none⟩) KE.out.lt).trans (KE.out.cell 3), (hW.cell (p := ⟨gE, 4, none⟩) KE.out.lt).trans (KE.out.cell 4), (hW.cell (p := ⟨gZ, 0, none⟩) KZ.out.lt).trans (KZ.out.cell 0), (hW.cell (p := ⟨gZ, 1, none⟩) KZ.out.lt).trans (KZ.out.cell 1), (hW.cell (p := ⟨gB, 0, none⟩) KB.out.lt).trans (KB.out.cell 0), (hW.cell (p := ⟨gB, 1, none⟩) KB.out.lt).trans (KB.out.cell 1), (hW.cell (p := ⟨gB, 2, none⟩) KB.out.lt).trans (KB.out.cell 2), (hW.cell (p := ⟨gB, 3, none⟩) KB.out.lt).trans (KB.out.cell 3), (hW.cell (p := ⟨gB, 4, none⟩) KB.out.lt).trans (KB.out.cell 4), hW⟩)
              have d0 : Below w24.heap.size w24 w24.drew := (Below.refl w24.heap.size w24).drew
              go_region_held3 (fun W => W.cell? ⟨gQ, 0, none⟩ = some (.slice Bq dq dq) ∧ W.cell? ⟨gQ, 1, none⟩ = some (.int .i64 (fq : Int)) ∧ W.cell? ⟨gR, 0, none⟩ = some (.slice Br dq dr) ∧ W.cell? ⟨gR, 1, none⟩ = some (.int .i64 (fq : Int)) ∧ W.cell? ⟨gH, 0, none⟩ = some (.slice Ah ch ch) ∧ W.cell? ⟨gH, 1, none⟩ = some (.int .i64 (f3 : Int)) ∧ W.cell? ⟨gE, 0, none⟩ = some (.int .u8 (c : Int)) ∧ W.cell? ⟨gE, 1, none⟩ = some (.bool k) ∧ W.cell? ⟨gE, 2, none⟩ = some (.int .u32 (n : Int)) ∧ W.cell? ⟨gE, 3, none⟩ = some (.slice AB bl ca) ∧ W.cell? ⟨gE, 4, none⟩ = some (.slice BS m cb) ∧ W.cell? ⟨gZ, 0, none⟩ = some (.int .i64 z0) ∧ W.cell? ⟨gZ, 1, none⟩ = some (.int .i64 z1) ∧ W.cell? ⟨gB, 0, none⟩ = some (.int .u8 (xc : Int)) ∧ W.cell? ⟨gB, 1, none⟩ = some (.bool xk) ∧ W.cell? ⟨gB, 2, none⟩ = some (.int .u32 (xn : Int)) ∧ W.cell? ⟨gB, 3, none⟩ = some (.slice XA xl xq) ∧ W.cell? ⟨gB, 4, none⟩ = some (.slice XB xm xr) ∧ Below w24.heap.size w24 W)
                (first | exact HSR.out _ d9 | exact HSR.out _ d8 | exact HSR.out _ d7 | exact HSR.out _ d6 | exact HSR.out _ d5 | exact HSR.out _ d4 | exact HSR.out _ d3 | exact HSR.out _ d2 | exact HSR.out _ d1 | exact HSR.out _ d0)
                (first | (have dz := d8; go_at_call 6; refine (lives_any _).mono ?_; rintro e v9 ⟨rfl, hv9⟩; have d9 : Below w24.heap.size w24 v9 := d8.trans (hv9.mono d8.size); clear dz) | (have dz := d7; go_at_call 17; refine (same_eq (.mk c n k bs ss) _ _ _ (HE0.out.stay (B.out.trans (d7.mono B.out.size))) (RU.out.stay d7)).mono ?_; rintro e v8 ⟨rfl, hv8⟩; have d8 : Below w24.heap.size w24 v8 := d7.trans (hv8.mono d7.size); clear dz) | (have dz := d6; go_at_call 11; refine (lfault_eq P4 f4 Ae Xe ne ye _ hrg hrf.rd hle hme).mono ?_; rintro e v7 ⟨rfl, hv7⟩; have d7 : Below w24.heap.size w24 v7 := d6.trans (hv7.mono d6.size); clear dz) | (have dz := d5; go_at_call 26; refine (rexpl_any c n k (.slice AB bl ca) bs ss BS m cb n _ HM.out.1 P4 f4 HR4.out).mono ?_; rintro e v6 ⟨Xe, ke, ye, rfl, hlf, _, _, _, hrf, hv6⟩; have d6 : Below w24.heap.size w24 v6 := d5.trans (hv6.mono d5.size); clear dz; have hrg := hre.rd.below hv6; obtain rfl : ne = ke := hle.symm.trans hlf) | (have dz := d4; go_at_call 25; refine (expl_any c n k (.slice AB bl ca) bs ss BS m cb n _ HM.out.1 P4 f4 HR4.out).mono ?_; rintro e v5 ⟨Ae, me, ne, rfl, hle, _, hme, hxe, hre, hv5⟩; have d5 : Below w24.heap.size w24 v5 := d4.trans (hv5.mono d4.size); clear dz; obtain rfl := hxe rfl) | (have dz := d3; go_at_call 11; refine (lfault_eq P3 f3 Ah Xh ch yh _ (RHh.out.below d3) hrh.rd HH.out.1 HH.out.2).mono ?_; rintro e v4 ⟨rfl, hv4⟩; have d4 : Below w24.heap.size w24 v4 := d3.trans (hv4.mono d3.size); clear dz) | (have dz := d2; go_at_call 24; refine (rlist_any c n k (.slice AB bl ca) bs ss BS m cb c n k z0 z1 _ HM.out.1 P3 f3 HR3.out HZ.out.1 HZ.out.2).mono ?_; rintro e v3 ⟨Xh, kh, yh, rfl, hlh, _, _, _, hrh, hv3⟩; have d3 : Below w24.heap.size w24 v3 := d2.trans (hv3.mono d2.size); clear dz; obtain rfl : ch = kh := HH.out.1.symm.trans hlh) | (have dz := d1; go_at_call 11; refine (lfault_eq Q fq Bq Br dq dr _ (RQ.out.below d1) (RR.out.below d1) HQ.out.1 HQ.out.2).mono ?_; rintro e v2 ⟨rfl, hv2⟩; have d2 : Below w24.heap.size w24 v2 := d1.trans (hv2.mono d1.size); clear dz) | (go_at_call 23; refine (ints_eq I Aq Ar cq cq cr _ (RI.out.below d0) (RJ.out.below d0) HI.out.1 HI.out.2).mono ?_; rintro e v1 ⟨rfl, hv1⟩; have d1 : Below w24.heap.size w24 v1 := d0.trans (hv1.mono d0.size)))
              have BZ := bt B (Lib.hid d9)
              clear HSR
              go_wp2_with fail
              go_ret
              exact ⟨rfl, BZ.out⟩
open Go.WideMaps Go.WideElems

open Go.ChangeShapes Go.WideShapes Go.ChangeAt
set_option maxRecDepth 100000 in
theorem fieldsErrors_lifted (os : Os) (started : os.Started) (H : Type) (enc : TypeId × Value → H) :
    ReturnsInHanded {} Try.checked os 3 .any (Rows.fieldsErrorsSpec.pre6 enc Try.prog Try.f3 Rows.fieldsErrorsRow.domain false) (Rows.fieldsErrorsSpec.post enc Try.prog Try.f3 false true false false) := by
  refine returnsInHanded_of_change (C := Try.checked) x_own started (by kernel_rfl) Try.func3
    (ChangeSpec.witness6 (enc := enc) (C := Try.checked) false ⟨#[], #[.agg #[.int .u8 0, .bool false, .int .u32 0, .slice none 0 0, .slice none 0 0], .slice none 0 0, .agg #[.int .i64 0, .int .i64 0]], []⟩ 8 (by kernel_rfl) (by kernel_rfl) (by kernel_rfl) (by kernel_rfl)) ?_
  intro W base args ds gs before hval0 hW hcnd _
  have hval : ∀ (j : Nat) t v, Try.f3.params[j]? = some t → args[j]? = some v → Value.okWide Try.prog W .any base t v := hval0
  have hW' := hW
  obtain ⟨p, q, hA0, hV, rfl, hfz, hnd⟩ := hW
  have hA : DataW.TrodAll enc Try.prog W 0 (fun _ => true) true Try.f3.params.toList args.toList ds p := hA0
  rw [Try.params3] at hA hval
  obtain ⟨v0, v1, v2, d0, d1, d2, p0, p1, p2, rfl, rfl, rfl, h0, h1, h2⟩ := trodAll_three hA
  obtain ⟨rfl, rfl⟩ := trodVars_none hV
  obtain ⟨E, hE⟩ := open_elem (hval 0 _ _ rfl rfl) h0
  obtain ⟨AP, p, pc, rfl, hP, hpm, _⟩ := open_path (hval 1 _ _ rfl rfl) h1
  obtain ⟨z0, z1, rfl, hz0, hz1⟩ := open_i2 (hval 2 _ _ rfl rfl) h2
  clear hA0 hval0
  refine (errors_law E v0 p AP p.length pc z0 z1 W hE hP rfl hpm hz0 hz1).mono fun e W' ⟨he, hb⟩ => ?_
  subst he
  exact ⟨_, rfl, law_post (tb := 4) x_laid (by decide +kernel) rfl rfl (by kernel_rfl) Try.underlying4 hW' hb⟩

/-- The statement. -/
theorem fieldsErrors_holds : Rows.FieldsErrorsSaid :=
  OpenClaim.holds_of_wide 3 Try.f3 rfl rfl rfl rfl rfl rfl rfl ⟨rfl, rfl, rfl, rfl, rfl⟩ rfl rfl rfl rfl rfl (by kernel_rfl) Try.func3 (by kernel_rfl)
    (of_decide_eq_true (by kernel_rfl)) (by unfold Func.isWrapper; first | (rw [if_pos (by decide +kernel)]; kernel_rfl) | (rw [if_neg (by decide +kernel)]; exact ⟨rfl, rfl⟩))
    (fun os started H enc _ => fieldsErrors_lifted os started H enc)
end Go.Proofs.Ytfbdeefeagednaa.Fl
