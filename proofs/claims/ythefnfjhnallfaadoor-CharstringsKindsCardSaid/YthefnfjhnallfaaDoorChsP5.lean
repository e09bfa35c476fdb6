/-
  Layer 9, the statement CharstringsKinds: Kinds returns the kinds that have all characters of a text; they are nested; converting back and forth returns the same character string; the examples hold.
  Conditions: the package-level variables that the row lists hold what the program's text lays (the card ties them).
-/
import Derived.Test.YthefnfjhnallfaaDoorChsLi
import Derived.Deep.DeepCutAuto
import Derived.Deep.CutBlock
namespace Go.Proofs.YthefnfjhnallfaaDoor.Chs
open Go.RowKit Go.Shelf

theorem storeG_wp {t t' : TypeId} {o : Oper} {a : Act} {w : World} {K : Act → World → Prop} {Q : Exit → Act → World → Prop} (x v : Operand) (ho : o.op = .store t x v)
    {g : Nat} {ds cs : List Value} (hx : a.eval x = .pointer (some ⟨g, 0, none⟩)) (hv : a.eval v = .agg ds.toArray) (hg : Bk w g t' cs) (hi : (Tryd.prog.info? t).map (·.size) = some ds.length) (hc : cs.length = ds.length) (h1 : ds.all (·.oneCell') = true)
    (h : ∀ w', Bk w' g t' ds → w.grownBy w' (some g) → w'.heap.size = w.heap.size → K (a.put o.dst undef) w') : o.wp Tryd.prog a w K Q := by
  have hs := run_storeVar_row (P := Tryd.prog) w g t' t cs.toArray ds.toArray hg (by rw [List.size_toArray]; exact hi) (by simp [hc]) (by rw [List.all_toArray]; exact h1)
  have hK' := h (w.setRow g ds.toArray) (setRow_heap w g _ _ _ _ hg) ⟨rfl, rfl, rfl, by simp [World.setRow], fun k hk hne => setRow_other w g k _ (fun e => hne (by rw [e]))⟩ (by simp [World.setRow])
  unfold Oper.wp execOp
  simp only [ho, hx, hv, Instr.storeAt, Instr.sureAddr, Sem.run_bind, Sem.run_pure, Result.andThen_ok, hs]
  exact hK'
theorem chain_ok (i : Nat) (h1 : 1 ≤ i) (h2 : i < 5) : ∃ a b, [19, 26, 22, 30, 12][i - 1]? = some a ∧ [19, 26, 22, 30, 12][i]? = some b ∧ a < 4294967296 ∧ b < 4294967296 ∧ ∀ l, chkC a l = 0 → chkC b l = 0 := by
  obtain rfl | rfl | rfl | rfl : i = 1 ∨ i = 2 ∨ i = 3 ∨ i = 4 := by omega
  · exact ⟨19, 26, rfl, rfl, by decide, by decide, fun l => chk_up rfl has_19_26⟩
  · exact ⟨26, 22, rfl, rfl, by decide, by decide, fun l => chk_up rfl has_26_22⟩
  · exact ⟨22, 30, rfl, rfl, by decide, by decide, fun l => chk_up rfl has_22_30⟩
  · exact ⟨30, 12, rfl, rfl, by decide, by decide, fun l => chk_up rfl has_30_12⟩
theorem number_at (W : World) (p : Nat) (hp : p < 5) (KQ : Nat) (hK : kN p = KQ) : Calls Tryd.prog 26 #[.int .i64 (p : Int)] W fun e w' => e = .returned (.int .u32 (KQ : Int)) ∧ Hid (Below W.heap.size W w') := by
  subst hK
  exact (number_any p hp W).mono fun _ _ ⟨h1, h2⟩ => ⟨h1, Lib.hid h2⟩
theorem cell11 {w : World} {g : Nat} {l : List Nat} (h : Rd w (some ⟨g, 0, none⟩) (cs32 l)) {j x : Nat} (hx : l[j]? = some x) : w.cell? ⟨g, j, none⟩ = some (.int .u32 (x : Int)) := by
  obtain ⟨hj, hv⟩ := List.getElem?_eq_some_iff.1 hx
  obtain ⟨b, off, e, hb, hc⟩ := h.at_ (k := j) (by rw [cs32_len]; exact hj)
  simp only [Option.some.injEq, Addr.mk.injEq, and_true] at e
  obtain ⟨rfl, rfl⟩ := e
  rw [Nat.zero_add] at hc
  rw [hc]
  simp [cs32, hv]
theorem rd_u32 {w : World} {A : Option Addr} {l : List Nat} (h : Rd w A (cs32 l)) {j x : Nat} (hx : l[j]? = some x) : ∃ b off, A = some ⟨b, off, none⟩ ∧ b < w.heap.size ∧ w.cell? ⟨b, off + j, none⟩ = some (.int .u32 (x : Int)) := by
  obtain ⟨hj, hv⟩ := List.getElem?_eq_some_iff.1 hx
  obtain ⟨b, off, e, hb, hc⟩ := h.at_ (k := j) (by rw [cs32_len]; exact hj)
  refine ⟨b, off, e, hb, ?_⟩
  rw [hc]
  simp [cs32, hv]
set_option linter.unusedSimpArgs false in
set_option linter.unusedVariables false in
set_option maxHeartbeats 6400000 in
set_option maxRecDepth 100000 in
theorem kinds_walk (l : List Nat) (h8 : All8 l) (hlm : l.length ≤ maxLen) (kd : Nat) (hkd : kd < 256) (A : Option Addr) (xs : List Nat) (n c : Nat) (k0 : Nat) (hk0 : k0 < 256) (w : World) (hA : Rd w A (cs32 xs)) (hx : ∀ y ∈ xs, y < 4294967296) (hN : xs.length = n) (hc : n ≤ c) (hm : c ≤ maxLen) (hT : Tab w) :
    Calls Tryd.prog 7 #[.string (bstr l), cV kd A n c, .int .u8 (k0 : Int)] w fun e w' => e = .returned (.bool true) ∧ Below w.heap.size w w' := by
  have K0 := ka (Lib.hid (St.start hT)) (Lib.hid hA)
  have HT0 := Lib.hid hT
  have HX := Lib.hid hx
  have HN := Lib.hid hN
  have HNM := Lib.hid (Nat.le_trans hc hm)
  have H8 := Lib.hid h8
  obtain ⟨Sz, hSz⟩ : ∃ s, S0 = s := ⟨_, rfl⟩
  have HSZ0 := Lib.hid hSz
  have HSZ : Hid (bstr [] = Sz) := Lib.hid (by rw [← hSz]; rfl)
  have hz : ∀ w : World, (zeroValue 24).run Tryd.prog w = .ok (.agg #[.int .u32 0, .string Sz]) w := by rw [← hSz]; exact zeroCh
  clear hSz
  obtain ⟨T, hTT⟩ : ∃ T, bstr l = T := ⟨_, rfl⟩
  have hsz : T.size = l.length := by rw [← hTT]; exact size_bstr l
  have HS := Lib.hid hTT
  rw [hTT]
  obtain ⟨nl, hnl⟩ : ∃ n, l.length = n := ⟨_, rfl⟩
  rw [hnl] at hsz hlm
  have HNL := Lib.hid hnl
  clear hA hx hN hc hm hT h8 hTT hnl
  by_cases h100 : 100 < nl
  · have hi : (100 : Int) < (nl : Int) := by omega
    clear h100 hlm
    go_enter Tryd.func7, Tryd.ntmps7
    go_upto_region 1 with fail
    obtain ⟨g4, hg4⟩ : ∃ g, w.heap.size = g := ⟨_, rfl⟩
    obtain ⟨w1, hw1⟩ : ∃ v, w.alloc (.cells #[.int .u8 (kd : Int), .slice A n c] 47) = v := ⟨_, rfl⟩
    have hbk : Hid (Bk w1 g4 47 ([.int .u8 (kd : Int), .slice A n c])) := Lib.hid (by rw [← hw1, ← hg4]; exact Bk.new w _ ([.int .u8 (kd : Int), .slice A n c]))
    have hb : Hid (Below w.heap.size w w1) := Lib.hid (by rw [← hw1]; exact bel1 w _)
    have GE_g4 : Hid (w.heap.size ≤ g4) := Lib.hid (by rw [← hg4]; exact K0.out.b.size)
    rw [hw1, hg4]
    have K1 := kp K0 hb
    clear hb K0
    have Kn := kb K1 hbk
    clear hbk K1 hg4 hw1
    have K1 := Kn
    clear Kn
    go_wp2_with fail
    refine (lives_at w1 K1.out.t).mono ?_
    rintro e w2 ⟨rfl, hb⟩
    have K2 := kp K1 hb
    clear hb K1
    go_wp2_with fail
    go_ret
    exact ⟨rfl, K2.out.b⟩
  · have hi : ¬ (100 : Int) < (nl : Int) := by omega
    have HL9 : Hid (l.length ≤ 9000000000000000000) := Lib.hid (by rw [HNL.out]; omega)
    obtain ⟨p, hp⟩ : ∃ p, kd % 5 = p := ⟨_, rfl⟩
    have hp5 : p < 5 := by omega
    obtain ⟨KQ, hK⟩ : ∃ KQ, kN p = KQ := ⟨_, rfl⟩
    have hk31 := kN_lt hp5
    have hkk := kN_kind hp5
    rw [hK] at hk31 hkk
    have hk32 : KQ < 4294967296 := by omega
    obtain ⟨l2, hl2⟩ : ∃ l2, encS (ofC KQ xs) = l2 := ⟨_, rfl⟩
    obtain ⟨S2, hS2⟩ : ∃ S, bstr l2 = S := ⟨_, rfl⟩
    have hchk : chkC KQ l2 = 0 := by rw [← hl2]; exact ofC_chk hkk xs
    have h82 : All8 l2 := by rw [← hl2]; exact encS_all ofC_scal
    have hl160 : l2.length ≤ 160 := by rw [← hl2]; exact ofC_enc KQ xs
    obtain ⟨p3, hp3⟩ : ∃ p, k0 % 5 = p := ⟨_, rfl⟩
    have hp35 : p3 < 5 := by omega
    obtain ⟨KJ, hKJ⟩ : ∃ KQ, kN p3 = KQ := ⟨_, rfl⟩
    have hk331 := kN_lt hp35
    have hkk3 := kN_kind hp35
    rw [hKJ] at hk331 hkk3
    have hk332 : KJ < 4294967296 := by omega
    obtain ⟨f, hf⟩ : ∃ f, cvC KQ l2 KJ = f := ⟨_, rfl⟩
    have hf2 : chkC KJ l2 = f := by rw [← hf]; unfold cvC; rw [if_neg (by rw [hchk]; decide)]
    have HF11 : Hid (f = 0 ∨ f = 11) := Lib.hid (by rw [← hf2]; exact chk_val hkk3 hchk)
    have HBACK : Hid (f = 0 → cvC KJ l2 KQ = 0) := Lib.hid (fun h => by unfold cvC; rw [if_neg (by rw [hf2]; omega), hchk])
    have hq3 : (k0 : Int) % 5 = (p3 : Int) := by omega
    have hq3t : (k0 : Int).tmod 5 = (p3 : Int) := by rw [Int.tmod_eq_emod_of_nonneg (by omega)]; exact hq3
    have hw3 : IntKind.i64.wrap (p3 : Int) = (p3 : Int) := by rw [IntKind.wrap_i64]; omega
    have HP := Lib.hid hp
    have HK := Lib.hid hK
    have HP35 := Lib.hid hp35
    have HKJ := Lib.hid hKJ
    have HSS : Hid (bstr (encS (ofC KQ xs)) = S2) := Lib.hid (by rw [hl2, hS2])
    have HS2 := Lib.hid hS2
    have H82 := Lib.hid h82
    have HL92 : Hid (l2.length ≤ 9000000000000000000) := Lib.hid (by omega)
    have HF := Lib.hid hf
    have heq := fun W => eqlS KQ S2 W
    clear h100 hlm hp hp5 hk31 hkk hl2 hchk h82 hl160 hp3 hk331 hkk3 hf hf2 hK hKJ hS2 hp35
    go_enter Tryd.func7, Tryd.ntmps7
    go_upto_region 1 with fail
    obtain ⟨g4, hg4⟩ : ∃ g, w.heap.size = g := ⟨_, rfl⟩
    obtain ⟨w1, hw1⟩ : ∃ v, w.alloc (.cells #[.int .u8 (kd : Int), .slice A n c] 47) = v := ⟨_, rfl⟩
    have hbk : Hid (Bk w1 g4 47 ([.int .u8 (kd : Int), .slice A n c])) := Lib.hid (by rw [← hw1, ← hg4]; exact Bk.new w _ ([.int .u8 (kd : Int), .slice A n c]))
    have hb : Hid (Below w.heap.size w w1) := Lib.hid (by rw [← hw1]; exact bel1 w _)
    have GE_g4 : Hid (w.heap.size ≤ g4) := Lib.hid (by rw [← hg4]; exact K0.out.b.size)
    rw [hw1, hg4]
    have K1 := kp K0 hb
    clear hb K0
    have Kn := kb K1 hbk
    clear hbk K1 hg4 hw1
    have K1 := Kn
    clear Kn
    obtain ⟨B0, hB0⟩ : ∃ B0, w1.heap.size = B0 := ⟨_, rfl⟩
    have START := Lib.hid (World.ownsRow_nil w1 B0 22 1)
    have BZ := Lib.hid (Below.refl B0 w1)
    have HB0 := Lib.hid hB0
    clear hB0
    go_upto_block 0 with fail
    go_cut [7] (fun v wx => ∃ A7 c7, v = .slice A7 (kindsP 5 l).length c7 ∧ Rd wx A7 (cs32 (kindsP 5 l)) ∧ Below w1.heap.size w1 wx)
    case first =>
      go_wp2_with fail
      go_loopw [7, 8] (fun v i wr => ∃ j : Nat, j ≤ 5 ∧ i = .int .i64 (j : Int) ∧ wr.ownsRow B0 22 1 v (kindsP j l).length (cs32 (kindsP j l)) ∧ Below B0 w1 wr) (fun _ i _ => 5 - (intOf i).toNat)
      case atStart => exact ⟨0, Nat.zero_le _, rfl, START.out, BZ.out⟩
      case round =>
        obtain ⟨j, hj, rfl, hown, hbl⟩ := hrel
        have OWN := Lib.hid hown
        have BL := Lib.hid hbl
        clear hown hbl START BZ
        rcases Nat.lt_or_ge j 5 with hlt | hge
        · have hji : (j : Int) < 5 := by omega
          have HSUC := Lib.hid (kindsP_succ j l)
          have HLE := Lib.hid (kindsP_len j l)
          obtain ⟨q, hq⟩ : ∃ q, kN j = q := ⟨_, rfl⟩
          have hq31 := kN_lt hlt
          rw [hq] at HSUC hq31
          have HQ := Lib.hid hq
          have HLT := Lib.hid hlt
          have hq32 : q < 4294967296 := by omega
          obtain ⟨f1, hf1⟩ : ∃ f, chkC q l = f := ⟨_, rfl⟩
          rw [hf1] at HSUC
          have HF1 := Lib.hid hf1
          clear hq hf1 hq31
          go_wp2_with fail
          refine (number_at wr j HLT.out q HQ.out).mono ?_
          rintro e v1 ⟨rfl, hb1⟩
          go_wp2_with fail
          refine (made_at v1 q T).mono ?_
          rintro e v2 ⟨rfl, hb2⟩
          go_wp2_with fail
          refine (rchk_at v2 q hq32 l H8.out HL9.out T HS.out f1 HF1.out).mono ?_
          rintro e v3 ⟨rfl, hb3⟩
          have hb := bt (bt hb1 hb2) hb3
          have OWN3 := Lib.hid (own_bel OWN.out hb.out)
          have BL3 : Hid (Below B0 w1 v3) := Lib.hid (BL.out.trans (hb.out.mono (by have := HB0.out; have := BL.out.size; omega)))
          clear hb1 hb2 hb3 hb OWN BL
          by_cases hf0 : f1 = 0
          · have HNX : Hid (kindsP (j + 1) l = kindsP j l ++ [q]) := Lib.hid (by rw [HSUC.out, if_pos hf0])
            have hfi : ((f1 : Int) == 0) = true := by rw [beq_iff_eq]; omega
            have hfi2 : (f1 : Int) = 0 := by omega
            clear hf0 HSUC
            go_wp2_with fail
            refine (number_at v3 j HLT.out q HQ.out).mono ?_
            rintro e v4 ⟨rfl, hb4⟩
            have OWN4 := Lib.hid (own_bel OWN3.out hb4.out)
            have BL4 : Hid (Below B0 w1 v4) := Lib.hid (BL3.out.trans (hb4.out.mono (by have := HB0.out; have := BL3.out.size; omega)))
            obtain ⟨v', v5, hrun, hown5, hb5⟩ := appU OWN4.out q (by have := HB0.out; have := BL4.out.size; omega) (by have := HLE.out; omega)
            rw [← HNX.out] at hown5
            have OWN5 := Lib.hid hown5
            have BL5 : Hid (Below B0 w1 v5) := Lib.hid (BL4.out.trans hb5)
            clear hb4 hown5 hb5 OWN3 BL3 OWN4 BL4
            go_wp2_with (at_builtin; refine wpList_app rfl _ _ _ _ rfl _ _ rfl rfl hrun ?_)
            exact ⟨⟨j + 1, by omega, by go_num, OWN5.out, BL5.out⟩, by simp [intOf]; omega⟩
          · have HNX : Hid (kindsP (j + 1) l = kindsP j l) := Lib.hid (by rw [HSUC.out, if_neg hf0])
            have hfi : ((f1 : Int) == 0) = false := by rw [beq_eq_false_iff_ne]; omega
            have hfi2 : ¬ (f1 : Int) = 0 := by omega
            clear hf0 HSUC
            go_wp2_with fail
            exact ⟨⟨j + 1, by omega, by go_num, by rw [HNX.out]; exact OWN3.out, BL3.out⟩, by simp [intOf]; omega⟩
        · obtain rfl : j = 5 := by omega
          obtain ⟨A7, c7, hv, hr, -, -⟩ := own_open (by rw [cs32_len]; exact OWN.out)
          rw [cs32_len] at hv
          subst hv
          have HR := Lib.hid hr
          have HBL : Hid (Below w1.heap.size w1 wr) := Lib.hid (by rw [HB0.out]; exact BL.out)
          obtain ⟨m, hm⟩ : ∃ m, (kindsP 5 l).length = m := ⟨_, rfl⟩
          have HM := Lib.hid hm
          rw [hm]
          clear hr hm OWN
          go_wp2_with fail
          go_meet
          exact ⟨A7, c7, by rw [HM.out], HR.out, HBL.out⟩
    case rest =>
      obtain ⟨A7, c7, rfl, hr7, hb7⟩ := hcut
      have hr := Lib.hid hr7
      have hb := Lib.hid hb7
      obtain ⟨kp5, hkp5⟩ : ∃ m, kindsP 5 l = m := ⟨_, rfl⟩
      have HKP := Lib.hid hkp5
      obtain ⟨m, hm⟩ : ∃ m, (kindsP 5 l).length = m := ⟨_, rfl⟩
      have HMK : Hid (kp5.length = m) := Lib.hid (by rw [← hkp5]; exact hm)
      have HM5 : Hid (m ≤ 5) := Lib.hid (by rw [← hm]; exact kindsP_len 5 l)
      rw [hm]
      rw [hkp5] at hr
      clear hr7 hb7 hkp5 hm START BZ
      generalize wc = w2 at *
      have K2 := kp K1 hb
      clear hb K1
      have Kn := ka K2 hr
      clear hr K2
      have K2 := Kn
      clear Kn
      go_wp2_with fail
      refine (kinds_at w2 l H8.out HL9.out T HS.out kp5 m HKP.out HMK.out K2.out.t).mono ?_
      rintro e w3 ⟨A9, rfl, hr, hb⟩
      have K3 := kp K2 hb
      clear hb K2
      have Kn := ka K3 hr
      clear hr K3
      have K3 := Kn
      clear Kn
      have hm5 := HM5.out
      go_upto_block 2 with fail
      go_cut [10] (fun v wx => St w [(A9, cs32 kp5), (A7, cs32 kp5), (A, cs32 xs)] [(g4, 47, [.int .u8 (kd : Int), .slice A n c])] wx)
      case first =>
        go_wp2_with fail
        go_loopw [10] (fun i wr => ∃ j : Nat, j ≤ m ∧ i = .int .i64 (j : Int) ∧ St w [(A9, cs32 kp5), (A7, cs32 kp5), (A, cs32 xs)] [(g4, 47, [.int .u8 (kd : Int), .slice A n c])] wr) (fun i _ => m - (intOf i).toNat)
        case atStart => exact ⟨0, Nat.zero_le _, rfl, K3.out⟩
        case round =>
          obtain ⟨j, hj, rfl, hst⟩ := hrel
          have KR := Lib.hid hst
          clear hst K3
          rcases Nat.lt_or_ge j m with hlt | hge
          · obtain ⟨x, hx⟩ : ∃ x, kp5[j]? = some x := ⟨_, List.getElem?_eq_getElem (by rw [HMK.out]; exact hlt)⟩
            obtain ⟨a, ao, ea, ha, hca⟩ := rd_u32 (KR.out.r (A9, cs32 kp5) (by simp)) hx
            obtain ⟨b, bo, eb, hb, hcb⟩ := rd_u32 (KR.out.r (A7, cs32 kp5) (by simp)) hx
            dsimp only at ea eb
            subst ea eb
            have hli : (j : Int) < (m : Int) := by omega
            have hd : Hid (Below wr.heap.size wr wr.drew) := Lib.hid (Below.refl _ _).drew
            have KD := kp KR hd
            clear hx ha hb KR
            go_upto_region 15 with fail
            go_region_held3 (fun w' => w'.cell? ⟨a, ao + j, none⟩ = some (.int .u32 (x : Int)) ∧ w'.cell? ⟨b, bo + j, none⟩ = some (.int .u32 (x : Int))) (exact ⟨hca, hcb⟩) (fail)
            clear hca hcb
            go_wp2_with fail
            exact ⟨⟨j + 1, by omega, by go_num, KD.out⟩, by simp [intOf]; omega⟩
          · obtain rfl : j = m := by omega
            have KE := KR
            clear KR
            go_wp2_with fail
            go_meet
            exact KE.out
      case rest =>
        have K4 := Lib.hid hcut
        clear hcut K3
        generalize wc = w4 at *
        go_upto_region 18 with fail
        obtain ⟨g11, hg11⟩ : ∃ g, w4.heap.size = g := ⟨_, rfl⟩
        obtain ⟨w5, hw5⟩ : ∃ v, w4.alloc (.cells #[.int .u32 19, .int .u32 26, .int .u32 22, .int .u32 30, .int .u32 12] 22) = v := ⟨_, rfl⟩
        have hr : Hid (Rd w5 (some ⟨g11, 0, none⟩) (cs32 [19, 26, 22, 30, 12])) := Lib.hid (by
          rw [← hw5, ← hg11]
          have := (Bk.new w4 22 (cs32 [19, 26, 22, 30, 12])).rd 0
          exact this)
        have hb : Hid (Below w4.heap.size w4 w5) := Lib.hid (by rw [← hw5]; exact bel1 w4 _)
        rw [hw5, hg11]
        clear hw5 hg11
        have K5 := kp K4 hb
        clear hb K4
        have Kn := ka K5 hr
        clear hr K5
        have K5 := Kn
        clear Kn
        go_wp2_with (refine wpList_loadGg (by rfl) (.tmp 4) rfl rfl (rangeB (K5.out.k (g4, 47, [.int .u8 (kd : Int), .slice A n c]) (by simp))) Tryd.underlying47 rfl infoC ?_)
        refine (cof_at w5 kd p hkd HP.out A xs n c HN.out HNM.out HX.out (K5.out.r (A, cs32 xs) (by simp)) KQ HK.out S2 HSS.out).mono ?_
        rintro e w6 ⟨rfl, hb⟩
        have K6 := kp K5 hb
        clear hb K5
        go_upto_region 19 with fail
        obtain ⟨g12, hg12⟩ : ∃ g, w6.heap.size = g := ⟨_, rfl⟩
        obtain ⟨w7, hw7⟩ : ∃ v, w6.alloc (.cells #[.int .u32 (KQ : Int), .string S2] 24) = v := ⟨_, rfl⟩
        have hbk : Hid (Bk w7 g12 24 (chL KQ S2)) := Lib.hid (by rw [← hw7, ← hg12]; exact Bk.new w6 _ (chL KQ S2))
        have hb : Hid (Below w6.heap.size w6 w7) := Lib.hid (by rw [← hw7]; exact bel1 w6 _)
        have GE_g12 : Hid (w.heap.size ≤ g12) := Lib.hid (by rw [← hg12]; exact K6.out.b.size)
        rw [hw7, hg12]
        have K7 := kp K6 hb
        clear hb K6
        have Kn := kb K7 hbk
        clear hbk K7 hg12 hw7
        have K7 := Kn
        clear Kn
        go_upto_block 4 with fail
        go_cut [13] (fun v wx => St w [(some ⟨g11, 0, none⟩, cs32 [19, 26, 22, 30, 12]), (A9, cs32 kp5), (A7, cs32 kp5), (A, cs32 xs)] [(g12, 24, chL KQ S2), (g4, 47, [.int .u8 (kd : Int), .slice A n c])] wx)
        case first =>
          go_wp2_with fail
          go_loopw [13] (fun i wr => ∃ j : Nat, 1 ≤ j ∧ j ≤ 5 ∧ i = .int .i64 (j : Int) ∧ St w [(some ⟨g11, 0, none⟩, cs32 [19, 26, 22, 30, 12]), (A9, cs32 kp5), (A7, cs32 kp5), (A, cs32 xs)] [(g12, 24, chL KQ S2), (g4, 47, [.int .u8 (kd : Int), .slice A n c])] wr) (fun i _ => 5 - (intOf i).toNat)
          case atStart => exact ⟨1, Nat.le_refl _, by omega, rfl, K7.out⟩
          case round =>
            obtain ⟨j, hj1, hj, rfl, hst⟩ := hrel
            have K500 := Lib.hid hst
            clear hst K7
            rcases Nat.lt_or_ge j 5 with hlt | hge
            · obtain ⟨a, b, hxa, hxb, ha32, hb32, hup⟩ := chain_ok j hj1 hlt
              have HUP := Lib.hid (hup l2)
              obtain ⟨j0, hj0⟩ : ∃ j0, j - 1 = j0 := ⟨_, rfl⟩
              rw [hj0] at hxa
              have HXA := Lib.hid hxa
              have HXB := Lib.hid hxb
              have hji : (j : Int) < 5 := by omega
              have hj0i : (j : Int) - 1 = (j0 : Int) := by omega
              have hj05 : (j0 : Int) < 5 := by omega
              have hwj : IntKind.i64.wrap ((j : Int) - 1) = (j0 : Int) := by rw [IntKind.wrap_i64]; omega
              have hwj0 : IntKind.i64.wrap (j0 : Int) = (j0 : Int) := by rw [IntKind.wrap_i64]; omega
              obtain ⟨f4, hf4⟩ : ∃ f, chkC a l2 = f := ⟨_, rfl⟩
              have HF4 := Lib.hid hf4
              generalize wr = w500 at *
              clear hxa hxb hup hj0 hf4
              go_upto_region 22 with fail
              by_cases hf0 : f4 = 0
              · subst hf0
                have HF5 : Hid (chkC b l2 = 0) := Lib.hid (HUP.out HF4.out)
                have hdr : Hid (Below w500.heap.size w500 w500.drew) := Lib.hid (Below.refl _ _).drew
                have KD := kp K500 hdr
                clear K500 hdr
                refine wp_region_held_drew (S := fun W => W.cell? ⟨g11, j0, none⟩ = some (.int .u32 (a : Int)) ∧ W.cell? ⟨g11, j, none⟩ = some (.int .u32 (b : Int)) ∧ W.cell? ⟨g12, 1, none⟩ = some (.string S2)) (by kernel_rfl) (⟨cell11 (KD.out.r (some ⟨g11, 0, none⟩, cs32 [19, 26, 22, 30, 12]) (by simp)) HXA.out, cell11 (KD.out.r (some ⟨g11, 0, none⟩, cs32 [19, 26, 22, 30, 12]) (by simp)) HXB.out, (by rw [(KD.out.k (g12, 24, chL KQ S2) (by simp)).cell]; rfl)⟩) (fun hS => ?_)
                generalize w500.drew = w501 at *
                have K501 := KD
                clear KD
                refine wpAnyH_take (i := 0) (oi := ⟨some 73, _, _, _, _, _⟩) (v := .slice (some ⟨g11, 0, none⟩) 5 5) rfl (by kernel_rfl) (by kernel_rfl) (by kernel_rfl) (fun _ _ _ h => h) (Or.inl ⟨by rfl, fun w hSw => by (try dsimp only at hSw); go_simp⟩) hS ?_
                simp only [Act.put, List.setIfInBounds_toArray, List.set_cons_zero, List.set_cons_succ]
                refine wpAnyH_take (i := 1) (oi := ⟨some 74, _, _, _, _, _⟩) (v := .int .i64 (j : Int)) rfl (by kernel_rfl) (by kernel_rfl) (by kernel_rfl) (fun _ _ _ h => h) (Or.inl ⟨by rfl, fun w hSw => by (try dsimp only at hSw); go_simp⟩) hS ?_
                simp only [Act.put, List.setIfInBounds_toArray, List.set_cons_zero, List.set_cons_succ]
                refine wpAnyH_take (i := 2) (oi := ⟨some 75, _, _, _, _, _⟩) (v := .int .i64 (j0 : Int)) rfl (by kernel_rfl) (by kernel_rfl) (by kernel_rfl) (fun _ _ _ h => h) (Or.inl ⟨by rfl, fun w hSw => by (try dsimp only at hSw); go_simp⟩) hS ?_
                simp only [Act.put, List.setIfInBounds_toArray, List.set_cons_zero, List.set_cons_succ]
                refine wpAnyH_take (i := 3) (oi := ⟨some 76, _, _, _, _, _⟩) (v := .pointer (some ⟨g11, j0, none⟩)) rfl (by kernel_rfl) (by kernel_rfl) (by kernel_rfl) (fun _ _ _ h => h) (Or.inl ⟨by rfl, fun w hSw => by (try dsimp only at hSw); go_simp⟩) hS ?_
                simp only [Act.put, List.setIfInBounds_toArray, List.set_cons_zero, List.set_cons_succ]
                refine wpAnyH_take (i := 4) (oi := ⟨some 77, _, _, _, _, _⟩) (v := .int .u32 (a : Int)) rfl (by kernel_rfl) (by kernel_rfl) (by kernel_rfl) (fun _ _ _ h => h) (Or.inl ⟨by rfl, fun w hSw => by (try dsimp only at hSw); go_simp⟩) hS ?_
                simp only [Act.put, List.setIfInBounds_toArray, List.set_cons_zero, List.set_cons_succ]
                refine wpAnyH_take (i := 5) (oi := ⟨some 78, _, _, _, _, _⟩) (v := .pointer (some ⟨g12, 1, none⟩)) rfl (by kernel_rfl) (by kernel_rfl) (by kernel_rfl) (fun _ _ _ h => h) (Or.inl ⟨by rfl, fun w hSw => by (try dsimp only at hSw); go_simp⟩) hS ?_
                simp only [Act.put, List.setIfInBounds_toArray, List.set_cons_zero, List.set_cons_succ]
                refine wpAnyH_take (i := 6) (oi := ⟨some 79, _, _, _, _, _⟩) (v := .string S2) rfl (by kernel_rfl) (by kernel_rfl) (by kernel_rfl) (fun _ _ _ h => h) (Or.inl ⟨by rfl, fun w hSw => by (try dsimp only at hSw); go_simp⟩) hS ?_
                simp only [Act.put, List.setIfInBounds_toArray, List.set_cons_zero, List.set_cons_succ]
                refine wpAnyH_ready (rs := [7]) (by kernel_rfl) (by simp) ?_
                refine AllReadyH.cons (o := _) rfl (fun K hK => ?_) (AllReadyH.nil)
                go_simp
                refine (made_at w501 a S2).mono ?_
                rintro e w502 ⟨rfl, hb⟩
                have K502 := kp K501 hb
                clear hb K501
                go_simp
                refine hK.out _ _ (⟨cell11 (K502.out.r (some ⟨g11, 0, none⟩, cs32 [19, 26, 22, 30, 12]) (by simp)) HXA.out, cell11 (K502.out.r (some ⟨g11, 0, none⟩, cs32 [19, 26, 22, 30, 12]) (by simp)) HXB.out, (by rw [(K502.out.k (g12, 24, chL KQ S2) (by simp)).cell]; rfl)⟩) (fun hS => ?_)
                clear hK K
                (try simp only [Act.put, List.setIfInBounds_toArray, List.set_cons_zero, List.set_cons_succ])
                refine wpAnyH_ready (rs := [8]) (by kernel_rfl) (by simp) ?_
                refine AllReadyH.cons (o := _) rfl (fun K hK => ?_) (AllReadyH.nil)
                go_simp
                refine (chk_at w502 a ha32 l2 H82.out HL92.out S2 HS2.out 0 HF4.out K502.out.t).mono ?_
                rintro e w503 ⟨rfl, hb⟩
                have K503 := kp K502 hb
                clear hb K502
                go_simp
                refine hK.out _ _ (⟨cell11 (K503.out.r (some ⟨g11, 0, none⟩, cs32 [19, 26, 22, 30, 12]) (by simp)) HXA.out, cell11 (K503.out.r (some ⟨g11, 0, none⟩, cs32 [19, 26, 22, 30, 12]) (by simp)) HXB.out, (by rw [(K503.out.k (g12, 24, chL KQ S2) (by simp)).cell]; rfl)⟩) (fun hS => ?_)
                clear hK K
                (try simp only [Act.put, List.setIfInBounds_toArray, List.set_cons_zero, List.set_cons_succ])
                refine wpAnyH_take (i := 9) (oi := ⟨some 82, _, _, _, _, _⟩) (v := .bool true) rfl (by kernel_rfl) (by kernel_rfl) (by kernel_rfl) (fun _ _ _ h => h) (Or.inl ⟨by rfl, fun w hSw => by (try dsimp only at hSw); go_simp⟩) hS ?_
                simp only [Act.put, List.setIfInBounds_toArray, List.set_cons_zero, List.set_cons_succ]
                refine wpAnyH_take (i := 10) (oi := ⟨some 83, _, _, _, _, _⟩) (v := .bool true) rfl (by kernel_rfl) (by kernel_rfl) (by kernel_rfl) (fun _ _ _ h => h) (Or.inl ⟨by rfl, fun w hSw => by (try dsimp only at hSw); go_simp⟩) hS ?_
                simp only [Act.put, List.setIfInBounds_toArray, List.set_cons_zero, List.set_cons_succ]
                refine wpAnyH_take (i := 11) (oi := ⟨some 84, _, _, _, _, _⟩) (v := .slice (some ⟨g11, 0, none⟩) 5 5) rfl (by kernel_rfl) (by kernel_rfl) (by kernel_rfl) (fun _ _ _ h => h) (Or.inl ⟨by rfl, fun w hSw => by (try dsimp only at hSw); go_simp⟩) hS ?_
                simp only [Act.put, List.setIfInBounds_toArray, List.set_cons_zero, List.set_cons_succ]
                refine wpAnyH_take (i := 12) (oi := ⟨some 85, _, _, _, _, _⟩) (v := .int .i64 (j : Int)) rfl (by kernel_rfl) (by kernel_rfl) (by kernel_rfl) (fun _ _ _ h => h) (Or.inl ⟨by rfl, fun w hSw => by (try dsimp only at hSw); go_simp⟩) hS ?_
                simp only [Act.put, List.setIfInBounds_toArray, List.set_cons_zero, List.set_cons_succ]
                refine wpAnyH_take (i := 13) (oi := ⟨some 86, _, _, _, _, _⟩) (v := .pointer (some ⟨g11, j, none⟩)) rfl (by kernel_rfl) (by kernel_rfl) (by kernel_rfl) (fun _ _ _ h => h) (Or.inl ⟨by rfl, fun w hSw => by (try dsimp only at hSw); go_simp⟩) hS ?_
                simp only [Act.put, List.setIfInBounds_toArray, List.set_cons_zero, List.set_cons_succ]
                refine wpAnyH_take (i := 14) (oi := ⟨some 87, _, _, _, _, _⟩) (v := .int .u32 (b : Int)) rfl (by kernel_rfl) (by kernel_rfl) (by kernel_rfl) (fun _ _ _ h => h) (Or.inl ⟨by rfl, fun w hSw => by (try dsimp only at hSw); go_simp⟩) hS ?_
                simp only [Act.put, List.setIfInBounds_toArray, List.set_cons_zero, List.set_cons_succ]
                refine wpAnyH_take (i := 15) (oi := ⟨some 88, _, _, _, _, _⟩) (v := .pointer (some ⟨g12, 1, none⟩)) rfl (by kernel_rfl) (by kernel_rfl) (by kernel_rfl) (fun _ _ _ h => h) (Or.inl ⟨by rfl, fun w hSw => by (try dsimp only at hSw); go_simp⟩) hS ?_
                simp only [Act.put, List.setIfInBounds_toArray, List.set_cons_zero, List.set_cons_succ]
                refine wpAnyH_take (i := 16) (oi := ⟨some 89, _, _, _, _, _⟩) (v := .string S2) rfl (by kernel_rfl) (by kernel_rfl) (by kernel_rfl) (fun _ _ _ h => h) (Or.inl ⟨by rfl, fun w hSw => by (try dsimp only at hSw); go_simp⟩) hS ?_
                simp only [Act.put, List.setIfInBounds_toArray, List.set_cons_zero, List.set_cons_succ]
                refine wpAnyH_ready (rs := [17]) (by kernel_rfl) (by simp) ?_
                refine AllReadyH.cons (o := _) rfl (fun K hK => ?_) (AllReadyH.nil)
                go_simp
                refine (made_at w503 b S2).mono ?_
                rintro e w504 ⟨rfl, hb⟩
                have K504 := kp K503 hb
                clear hb K503
                go_simp
                refine hK.out _ _ (⟨cell11 (K504.out.r (some ⟨g11, 0, none⟩, cs32 [19, 26, 22, 30, 12]) (by simp)) HXA.out, cell11 (K504.out.r (some ⟨g11, 0, none⟩, cs32 [19, 26, 22, 30, 12]) (by simp)) HXB.out, (by rw [(K504.out.k (g12, 24, chL KQ S2) (by simp)).cell]; rfl)⟩) (fun hS => ?_)
                clear hK K
                (try simp only [Act.put, List.setIfInBounds_toArray, List.set_cons_zero, List.set_cons_succ])
                refine wpAnyH_ready (rs := [18]) (by kernel_rfl) (by simp) ?_
                refine AllReadyH.cons (o := _) rfl (fun K hK => ?_) (AllReadyH.nil)
                go_simp
                refine (chk_at w504 b hb32 l2 H82.out HL92.out S2 HS2.out 0 HF5.out K504.out.t).mono ?_
                rintro e w505 ⟨rfl, hb⟩
                have K505 := kp K504 hb
                clear hb K504
                go_simp
                refine hK.out _ _ (⟨cell11 (K505.out.r (some ⟨g11, 0, none⟩, cs32 [19, 26, 22, 30, 12]) (by simp)) HXA.out, cell11 (K505.out.r (some ⟨g11, 0, none⟩, cs32 [19, 26, 22, 30, 12]) (by simp)) HXB.out, (by rw [(K505.out.k (g12, 24, chL KQ S2) (by simp)).cell]; rfl)⟩) (fun hS => ?_)
                clear hK K
                (try simp only [Act.put, List.setIfInBounds_toArray, List.set_cons_zero, List.set_cons_succ])
                refine wpAnyH_take (i := 19) (oi := ⟨some 92, _, _, _, _, _⟩) (v := .bool false) rfl (by kernel_rfl) (by kernel_rfl) (by kernel_rfl) (fun _ _ _ h => h) (Or.inl ⟨by rfl, fun w hSw => by (try dsimp only at hSw); go_simp⟩) hS ?_
                simp only [Act.put, List.setIfInBounds_toArray, List.set_cons_zero, List.set_cons_succ]
                refine wpAnyH_take (i := 20) (oi := ⟨some 93, _, _, _, _, _⟩) (v := .bool false) rfl (by kernel_rfl) (by kernel_rfl) (by kernel_rfl) (fun _ _ _ h => h) (Or.inl ⟨by rfl, fun w hSw => by (try dsimp only at hSw); go_simp⟩) hS ?_
                simp only [Act.put, List.setIfInBounds_toArray, List.set_cons_zero, List.set_cons_succ]
                refine wpAnyH_done (by kernel_rfl) ?_ _
                clear hS
                go_wp2_with fail
                exact ⟨⟨j + 1, by omega, by omega, by go_num, K505.out⟩, by simp [intOf]; omega⟩
              · have hfi : ((f4 : Int) == 0) = false := by rw [beq_eq_false_iff_ne]; omega
                have hfn : ¬ (f4 : Int) = 0 := by omega
                have hdr : Hid (Below w500.heap.size w500 w500.drew) := Lib.hid (Below.refl _ _).drew
                have KD := kp K500 hdr
                clear K500 hdr
                refine wp_region_held_drew (S := fun W => W.cell? ⟨g11, j0, none⟩ = some (.int .u32 (a : Int)) ∧ W.cell? ⟨g11, j, none⟩ = some (.int .u32 (b : Int)) ∧ W.cell? ⟨g12, 1, none⟩ = some (.string S2)) (by kernel_rfl) (⟨cell11 (KD.out.r (some ⟨g11, 0, none⟩, cs32 [19, 26, 22, 30, 12]) (by simp)) HXA.out, cell11 (KD.out.r (some ⟨g11, 0, none⟩, cs32 [19, 26, 22, 30, 12]) (by simp)) HXB.out, (by rw [(KD.out.k (g12, 24, chL KQ S2) (by simp)).cell]; rfl)⟩) (fun hS => ?_)
                generalize w500.drew = w501 at *
                have K501 := KD
                clear KD
                refine wpAnyH_take (i := 0) (oi := ⟨some 73, _, _, _, _, _⟩) (v := .slice (some ⟨g11, 0, none⟩) 5 5) rfl (by kernel_rfl) (by kernel_rfl) (by kernel_rfl) (fun _ _ _ h => h) (Or.inl ⟨by rfl, fun w hSw => by (try dsimp only at hSw); go_simp⟩) hS ?_
                simp only [Act.put, List.setIfInBounds_toArray, List.set_cons_zero, List.set_cons_succ]
                refine wpAnyH_take (i := 1) (oi := ⟨some 74, _, _, _, _, _⟩) (v := .int .i64 (j : Int)) rfl (by kernel_rfl) (by kernel_rfl) (by kernel_rfl) (fun _ _ _ h => h) (Or.inl ⟨by rfl, fun w hSw => by (try dsimp only at hSw); go_simp⟩) hS ?_
                simp only [Act.put, List.setIfInBounds_toArray, List.set_cons_zero, List.set_cons_succ]
                refine wpAnyH_take (i := 2) (oi := ⟨some 75, _, _, _, _, _⟩) (v := .int .i64 (j0 : Int)) rfl (by kernel_rfl) (by kernel_rfl) (by kernel_rfl) (fun _ _ _ h => h) (Or.inl ⟨by rfl, fun w hSw => by (try dsimp only at hSw); go_simp⟩) hS ?_
                simp only [Act.put, List.setIfInBounds_toArray, List.set_cons_zero, List.set_cons_succ]
                refine wpAnyH_take (i := 3) (oi := ⟨some 76, _, _, _, _, _⟩) (v := .pointer (some ⟨g11, j0, none⟩)) rfl (by kernel_rfl) (by kernel_rfl) (by kernel_rfl) (fun _ _ _ h => h) (Or.inl ⟨by rfl, fun w hSw => by (try dsimp only at hSw); go_simp⟩) hS ?_
                simp only [Act.put, List.setIfInBounds_toArray, List.set_cons_zero, List.set_cons_succ]
                refine wpAnyH_take (i := 4) (oi := ⟨some 77, _, _, _, _, _⟩) (v := .int .u32 (a : Int)) rfl (by kernel_rfl) (by kernel_rfl) (by kernel_rfl) (fun _ _ _ h => h) (Or.inl ⟨by rfl, fun w hSw => by (try dsimp only at hSw); go_simp⟩) hS ?_
                simp only [Act.put, List.setIfInBounds_toArray, List.set_cons_zero, List.set_cons_succ]
                refine wpAnyH_take (i := 5) (oi := ⟨some 78, _, _, _, _, _⟩) (v := .pointer (some ⟨g12, 1, none⟩)) rfl (by kernel_rfl) (by kernel_rfl) (by kernel_rfl) (fun _ _ _ h => h) (Or.inl ⟨by rfl, fun w hSw => by (try dsimp only at hSw); go_simp⟩) hS ?_
                simp only [Act.put, List.setIfInBounds_toArray, List.set_cons_zero, List.set_cons_succ]
                refine wpAnyH_take (i := 6) (oi := ⟨some 79, _, _, _, _, _⟩) (v := .string S2) rfl (by kernel_rfl) (by kernel_rfl) (by kernel_rfl) (fun _ _ _ h => h) (Or.inl ⟨by rfl, fun w hSw => by (try dsimp only at hSw); go_simp⟩) hS ?_
                simp only [Act.put, List.setIfInBounds_toArray, List.set_cons_zero, List.set_cons_succ]
                refine wpAnyH_ready (rs := [7]) (by kernel_rfl) (by simp) ?_
                refine AllReadyH.cons (o := _) rfl (fun K hK => ?_) (AllReadyH.nil)
                go_simp
                refine (made_at w501 a S2).mono ?_
                rintro e w502 ⟨rfl, hb⟩
                have K502 := kp K501 hb
                clear hb K501
                go_simp
                refine hK.out _ _ (⟨cell11 (K502.out.r (some ⟨g11, 0, none⟩, cs32 [19, 26, 22, 30, 12]) (by simp)) HXA.out, cell11 (K502.out.r (some ⟨g11, 0, none⟩, cs32 [19, 26, 22, 30, 12]) (by simp)) HXB.out, (by rw [(K502.out.k (g12, 24, chL KQ S2) (by simp)).cell]; rfl)⟩) (fun hS => ?_)
                clear hK K
                (try simp only [Act.put, List.setIfInBounds_toArray, List.set_cons_zero, List.set_cons_succ])
                refine wpAnyH_ready (rs := [8]) (by kernel_rfl) (by simp) ?_
                refine AllReadyH.cons (o := _) rfl (fun K hK => ?_) (AllReadyH.nil)
                go_simp
                refine (chk_at w502 a ha32 l2 H82.out HL92.out S2 HS2.out f4 HF4.out K502.out.t).mono ?_
                rintro e w503 ⟨rfl, hb⟩
                have K503 := kp K502 hb
                clear hb K502
                go_simp
                refine hK.out _ _ (⟨cell11 (K503.out.r (some ⟨g11, 0, none⟩, cs32 [19, 26, 22, 30, 12]) (by simp)) HXA.out, cell11 (K503.out.r (some ⟨g11, 0, none⟩, cs32 [19, 26, 22, 30, 12]) (by simp)) HXB.out, (by rw [(K503.out.k (g12, 24, chL KQ S2) (by simp)).cell]; rfl)⟩) (fun hS => ?_)
                clear hK K
                (try simp only [Act.put, List.setIfInBounds_toArray, List.set_cons_zero, List.set_cons_succ])
                refine wpAnyH_take (i := 9) (oi := ⟨some 82, _, _, _, _, _⟩) (v := .bool false) rfl (by kernel_rfl) (by kernel_rfl) (by kernel_rfl) (fun _ _ _ h => h) (Or.inl ⟨by rfl, fun w hSw => by (try dsimp only at hSw); go_simp⟩) hS ?_
                simp only [Act.put, List.setIfInBounds_toArray, List.set_cons_zero, List.set_cons_succ]
                refine wpAnyH_take (i := 10) (oi := ⟨some 83, _, _, _, _, _⟩) (v := .bool false) rfl (by kernel_rfl) (by kernel_rfl) (by kernel_rfl) (fun _ _ _ h => h) (Or.inl ⟨by rfl, fun w hSw => by (try dsimp only at hSw); go_simp⟩) hS ?_
                simp only [Act.put, List.setIfInBounds_toArray, List.set_cons_zero, List.set_cons_succ]
                refine wpAnyH_take (i := 11) (oi := ⟨some 84, _, _, _, _, _⟩) (v := undef) rfl (by kernel_rfl) (by kernel_rfl) (by kernel_rfl) (fun _ _ _ h => h) (Or.inr ⟨by rfl, rfl⟩) hS ?_
                simp only [Act.put, List.setIfInBounds_toArray, List.set_cons_zero, List.set_cons_succ]
                refine wpAnyH_take (i := 12) (oi := ⟨some 85, _, _, _, _, _⟩) (v := undef) rfl (by kernel_rfl) (by kernel_rfl) (by kernel_rfl) (fun _ _ _ h => h) (Or.inr ⟨by rfl, rfl⟩) hS ?_
                simp only [Act.put, List.setIfInBounds_toArray, List.set_cons_zero, List.set_cons_succ]
                refine wpAnyH_take (i := 13) (oi := ⟨some 86, _, _, _, _, _⟩) (v := undef) rfl (by kernel_rfl) (by kernel_rfl) (by kernel_rfl) (fun _ _ _ h => h) (Or.inr ⟨by rfl, rfl⟩) hS ?_
                simp only [Act.put, List.setIfInBounds_toArray, List.set_cons_zero, List.set_cons_succ]
                refine wpAnyH_take (i := 14) (oi := ⟨some 87, _, _, _, _, _⟩) (v := undef) rfl (by kernel_rfl) (by kernel_rfl) (by kernel_rfl) (fun _ _ _ h => h) (Or.inr ⟨by rfl, rfl⟩) hS ?_
                simp only [Act.put, List.setIfInBounds_toArray, List.set_cons_zero, List.set_cons_succ]
                refine wpAnyH_take (i := 15) (oi := ⟨some 88, _, _, _, _, _⟩) (v := undef) rfl (by kernel_rfl) (by kernel_rfl) (by kernel_rfl) (fun _ _ _ h => h) (Or.inr ⟨by rfl, rfl⟩) hS ?_
                simp only [Act.put, List.setIfInBounds_toArray, List.set_cons_zero, List.set_cons_succ]
                refine wpAnyH_take (i := 16) (oi := ⟨some 89, _, _, _, _, _⟩) (v := undef) rfl (by kernel_rfl) (by kernel_rfl) (by kernel_rfl) (fun _ _ _ h => h) (Or.inr ⟨by rfl, rfl⟩) hS ?_
                simp only [Act.put, List.setIfInBounds_toArray, List.set_cons_zero, List.set_cons_succ]
                refine wpAnyH_take (i := 17) (oi := ⟨some 90, _, _, _, _, _⟩) (v := undef) rfl (by kernel_rfl) (by kernel_rfl) (by kernel_rfl) (fun _ _ _ h => h) (Or.inr ⟨by rfl, rfl⟩) hS ?_
                simp only [Act.put, List.setIfInBounds_toArray, List.set_cons_zero, List.set_cons_succ]
                refine wpAnyH_take (i := 18) (oi := ⟨some 91, _, _, _, _, _⟩) (v := undef) rfl (by kernel_rfl) (by kernel_rfl) (by kernel_rfl) (fun _ _ _ h => h) (Or.inr ⟨by rfl, rfl⟩) hS ?_
                simp only [Act.put, List.setIfInBounds_toArray, List.set_cons_zero, List.set_cons_succ]
                refine wpAnyH_take (i := 19) (oi := ⟨some 92, _, _, _, _, _⟩) (v := undef) rfl (by kernel_rfl) (by kernel_rfl) (by kernel_rfl) (fun _ _ _ h => h) (Or.inr ⟨by rfl, rfl⟩) hS ?_
                simp only [Act.put, List.setIfInBounds_toArray, List.set_cons_zero, List.set_cons_succ]
                refine wpAnyH_take (i := 20) (oi := ⟨some 93, _, _, _, _, _⟩) (v := .bool false) rfl (by kernel_rfl) (by kernel_rfl) (by kernel_rfl) (fun _ _ _ h => h) (Or.inl ⟨by rfl, fun w hSw => by (try dsimp only at hSw); go_simp⟩) hS ?_
                simp only [Act.put, List.setIfInBounds_toArray, List.set_cons_zero, List.set_cons_succ]
                refine wpAnyH_done (by kernel_rfl) ?_ _
                clear hS
                go_wp2_with fail
                exact ⟨⟨j + 1, by omega, by omega, by go_num, K503.out⟩, by simp [intOf]; omega⟩
            · obtain rfl : j = 5 := by omega
              go_wp2_with fail
              go_meet
              exact K500.out
        case rest =>
          have K8 := Lib.hid hcut
          clear hcut K7
          generalize wc = w8 at *
          have KU : Hid (St w [] [(g12, 24, chL KQ S2)] w8) := Lib.hid ⟨K8.out.b, K8.out.t, fun _ h => absurd h (by simp), fun x hx => K8.out.k x (by simp only [List.mem_cons, List.not_mem_nil, or_false] at hx ⊢; exact .inl hx)⟩
          clear K8
          have K8 := KU
          clear KU
          obtain ⟨kT, ST, h3⟩ : ∃ kT ST, (if f = 0 then (KJ, S2) else (0, S0)) = (kT, ST) := ⟨_, _, rfl⟩
          have H3 := Lib.hid h3
          clear h3
          go_upto_region 24 with fail
          go_cut [14, 15] (fun a b wx => ∃ g14, a = .pointer (some ⟨g14, 0, none⟩) ∧ b = .int .i64 (f : Int) ∧ St w [] [(g14, 24, chL kT ST), (g12, 24, chL KQ S2)] wx)
          case first =>
            have hdr : Hid (Below w8.heap.size w8 w8.drew) := Lib.hid (Below.refl _ _).drew
            have KD := kp K8 hdr
            clear K8 hdr
            refine wp_region_held_drew (S := fun W => Bk W g12 24 (chL KQ S2)) (by kernel_rfl) (KD.out.k (g12, 24, chL KQ S2) (by simp)) (fun hS => ?_)
            generalize w8.drew = w9 at *
            have K9 := KD
            clear KD
            refine wpAnyH_take (i := 0) (oi := ⟨some 95, _, _, _, _, _⟩) (v := chV KQ S2) rfl (by kernel_rfl) (by kernel_rfl) (by kernel_rfl) (fun _ _ _ h => h) (yieldsIf_load_mid (by rfl) 24 (.tmp 12) rfl g12 0 rfl (chL KQ S2) _ (fun W h => rangeB h) Tryd.underlying24 rfl infoCh) hS ?_
            (try simp only [Act.put, List.setIfInBounds_toArray, List.set_cons_zero, List.set_cons_succ])
            refine wpAnyH_take (i := 1) (oi := ⟨some 96, _, _, _, _, _⟩) (v := .int .u8 (k0 : Int)) rfl (by kernel_rfl) (by kernel_rfl) (by kernel_rfl) (fun _ _ _ h => h) (Or.inl ⟨by rfl, fun w hSw => by (try dsimp only at hSw); go_simp⟩) hS ?_
            simp only [Act.put, List.setIfInBounds_toArray, List.set_cons_zero, List.set_cons_succ]
            refine wpAnyH_take (i := 2) (oi := ⟨some 97, _, _, _, _, _⟩) (v := .int .u8 (p3 : Int)) rfl (by kernel_rfl) (by kernel_rfl) (by kernel_rfl) (fun _ _ _ h => h) (Or.inl ⟨by rfl, fun w hSw => by (try dsimp only at hSw); go_simp⟩) hS ?_
            simp only [Act.put, List.setIfInBounds_toArray, List.set_cons_zero, List.set_cons_succ]
            refine wpAnyH_take (i := 3) (oi := ⟨some 98, _, _, _, _, _⟩) (v := .int .i64 (p3 : Int)) rfl (by kernel_rfl) (by kernel_rfl) (by kernel_rfl) (fun _ _ _ h => h) (Or.inl ⟨by rfl, fun w hSw => by (try dsimp only at hSw); go_simp⟩) hS ?_
            simp only [Act.put, List.setIfInBounds_toArray, List.set_cons_zero, List.set_cons_succ]
            refine wpAnyH_ready (rs := [4, 9]) (by kernel_rfl) (by simp) ?_
            refine AllReadyH.cons (o := _) rfl (fun K hK => ?_) (AllReadyH.cons (o := _) rfl (fun K hK => ?_) AllReadyH.nil)
            · go_simp
              refine (number_at w9 p3 HP35.out KJ HKJ.out).mono ?_
              rintro e w10 ⟨rfl, hb⟩
              have K10 := kp K9 hb
              clear hb K9
              go_simp
              refine hK.out _ _ (K10.out.k (g12, 24, chL KQ S2) (by simp)) (fun hS => ?_)
              clear hK K
              (try simp only [Act.put, List.setIfInBounds_toArray, List.set_cons_zero, List.set_cons_succ])
              refine wpAnyH_ready (rs := [5, 9]) (by kernel_rfl) (by simp) ?_
              refine AllReadyH.cons (o := _) rfl (fun K hK => ?_) (AllReadyH.cons (o := _) rfl (fun K hK => ?_) AllReadyH.nil)
              · go_simp
                refine (conv_at w10 KQ hk32 l2 H82.out HL92.out S2 HS2.out KJ hk332 f HF.out kT ST H3.out K10.out.t).mono ?_
                rintro e w11 ⟨rfl, hb⟩
                have K11 := kp K10 hb
                clear hb K10
                go_simp
                refine hK.out _ _ (K11.out.k (g12, 24, chL KQ S2) (by simp)) (fun hS => ?_)
                clear hK K
                (try simp only [Act.put, List.setIfInBounds_toArray, List.set_cons_zero, List.set_cons_succ])
                refine wpAnyH_take (i := 6) (oi := ⟨some 94, _, _, _, _, _⟩) (v := .tuple #[chV kT ST, .int .i64 (f : Int)]) rfl (by kernel_rfl) (by kernel_rfl) (by kernel_rfl) (fun _ _ _ h => h) (Or.inl ⟨by rfl, fun w hSw => by (try dsimp only at hSw); go_simp⟩) hS ?_
                simp only [Act.put, List.setIfInBounds_toArray, List.set_cons_zero, List.set_cons_succ]
                refine wpAnyH_take (i := 7) (oi := ⟨some 101, _, _, _, _, _⟩) (v := chV kT ST) rfl (by kernel_rfl) (by kernel_rfl) (by kernel_rfl) (fun _ _ _ h => h) (Or.inl ⟨by rfl, fun w hSw => by (try dsimp only at hSw); go_simp⟩) hS ?_
                simp only [Act.put, List.setIfInBounds_toArray, List.set_cons_zero, List.set_cons_succ]
                refine wpAnyH_ready (rs := [8, 9]) (by kernel_rfl) (by simp) ?_
                refine AllReadyH.cons (o := _) rfl (fun K hK => ?_) (AllReadyH.cons (o := _) rfl (fun K hK => ?_) AllReadyH.nil)
                · go_simp
                  refine hK.out _ _ (K11.out.k (g12, 24, chL KQ S2) (by simp)) (fun hS => ?_)
                  clear hK K
                  (try simp only [Act.put, List.setIfInBounds_toArray, List.set_cons_zero, List.set_cons_succ])
                  refine wpAnyH_ready (rs := [9]) (by kernel_rfl) (by simp) ?_
                  refine AllReadyH.cons (o := _) rfl (fun K hK => ?_) AllReadyH.nil
                  go_simp
                  obtain ⟨g14, hg14⟩ : ∃ g, w11.heap.size = g := ⟨_, rfl⟩
                  obtain ⟨w12, hw12⟩ : ∃ v, w11.alloc (.cells #[.int .u32 0, .string Sz] 24) = v := ⟨_, rfl⟩
                  have hbk : Hid (Bk w12 g14 24 (chL 0 Sz)) := Lib.hid (by rw [← hw12, ← hg14]; exact Bk.new w11 _ (chL 0 Sz))
                  have hb : Hid (Below w11.heap.size w11 w12) := Lib.hid (by rw [← hw12]; exact bel1 w11 _)
                  have GE_g14 : Hid (w.heap.size ≤ g14) := Lib.hid (by rw [← hg14]; exact K11.out.b.size)
                  rw [hw12, hg14]
                  have LT_g12_g14 : Hid (g12 < g14) := Lib.hid (by rw [← hg14]; exact (K11.out.k (g12, 24, chL KQ S2) (by simp)).lt)
                  have K12 := kp K11 hb
                  clear hb K11
                  have Kn := kb K12 hbk
                  clear hbk K12 hg14 hw12
                  have K12 := Kn
                  clear Kn
                  refine hK.out _ _ (K12.out.k (g12, 24, chL KQ S2) (by simp)) (fun hS => ?_)
                  clear hK K
                  (try simp only [Act.put, List.setIfInBounds_toArray, List.set_cons_zero, List.set_cons_succ])
                  refine wpAnyH_ready (rs := [10]) (by kernel_rfl) (by simp) ?_
                  refine AllReadyH.cons (o := _) rfl (fun K hK => ?_) AllReadyH.nil
                  refine storeG_wp (.tmp 14) (.tmp 101) rfl rfl (ds := chL kT ST) rfl (K12.out.k (g14, 24, chL 0 Sz) (by simp)) infoCh rfl (chL_one _ _) ?_; intro w13 RZ hgz hzz; have KZ0 := Lib.hid (K12.out.put HT0.out GE_g14.out hgz); have KZ1 := kb KZ0 (Lib.hid ((K12.out.k (g12, 24, chL KQ S2) (by simp)).only hgz (by intro e; injection e with e; have := LT_g12_g14.out; omega))); have KZ2 := kb KZ1 (Lib.hid RZ); have K13 := KZ2; clear hgz hzz RZ K12 KZ0 KZ1 KZ2
                  refine hK.out _ _ (K13.out.k (g12, 24, chL KQ S2) (by simp)) (fun hS => ?_)
                  clear hK K
                  (try simp only [Act.put, List.setIfInBounds_toArray, List.set_cons_zero, List.set_cons_succ])
                  refine wpAnyH_take (i := 11) (oi := ⟨some 15, _, _, _, _, _⟩) (v := .int .i64 (f : Int)) rfl (by kernel_rfl) (by kernel_rfl) (by kernel_rfl) (fun _ _ _ h => h) (Or.inl ⟨by rfl, fun w hSw => by (try dsimp only at hSw); go_simp⟩) hS ?_
                  simp only [Act.put, List.setIfInBounds_toArray, List.set_cons_zero, List.set_cons_succ]
                  refine wpAnyH_done (by kernel_rfl) ?_ _
                  clear hS
                  go_wp2_with fail
                  go_meet
                  exact ⟨g14, rfl, rfl, K13.out.b, K13.out.t, fun _ h => absurd h (by simp), fun x hx => K13.out.k x (by simp only [List.mem_cons, List.not_mem_nil, or_false] at hx ⊢; rcases hx with h | h <;> simp [h])⟩
                · go_simp
                  obtain ⟨g14, hg14⟩ : ∃ g, w11.heap.size = g := ⟨_, rfl⟩
                  obtain ⟨w12, hw12⟩ : ∃ v, w11.alloc (.cells #[.int .u32 0, .string Sz] 24) = v := ⟨_, rfl⟩
                  have hbk : Hid (Bk w12 g14 24 (chL 0 Sz)) := Lib.hid (by rw [← hw12, ← hg14]; exact Bk.new w11 _ (chL 0 Sz))
                  have hb : Hid (Below w11.heap.size w11 w12) := Lib.hid (by rw [← hw12]; exact bel1 w11 _)
                  have GE_g14 : Hid (w.heap.size ≤ g14) := Lib.hid (by rw [← hg14]; exact K11.out.b.size)
                  rw [hw12, hg14]
                  have LT_g12_g14 : Hid (g12 < g14) := Lib.hid (by rw [← hg14]; exact (K11.out.k (g12, 24, chL KQ S2) (by simp)).lt)
                  have K12 := kp K11 hb
                  clear hb K11
                  have Kn := kb K12 hbk
                  clear hbk K12 hg14 hw12
                  have K12 := Kn
                  clear Kn
                  refine hK.out _ _ (K12.out.k (g12, 24, chL KQ S2) (by simp)) (fun hS => ?_)
                  clear hK K
                  (try simp only [Act.put, List.setIfInBounds_toArray, List.set_cons_zero, List.set_cons_succ])
                  refine wpAnyH_ready (rs := [8, 10]) (by kernel_rfl) (by simp) ?_
                  refine AllReadyH.cons (o := _) rfl (fun K hK => ?_) (AllReadyH.cons (o := _) rfl (fun K hK => ?_) AllReadyH.nil)
                  · go_simp
                    refine hK.out _ _ (K12.out.k (g12, 24, chL KQ S2) (by simp)) (fun hS => ?_)
                    clear hK K
                    (try simp only [Act.put, List.setIfInBounds_toArray, List.set_cons_zero, List.set_cons_succ])
                    refine wpAnyH_ready (rs := [10]) (by kernel_rfl) (by simp) ?_
                    refine AllReadyH.cons (o := _) rfl (fun K hK => ?_) AllReadyH.nil
                    refine storeG_wp (.tmp 14) (.tmp 101) rfl rfl (ds := chL kT ST) rfl (K12.out.k (g14, 24, chL 0 Sz) (by simp)) infoCh rfl (chL_one _ _) ?_; intro w13 RZ hgz hzz; have KZ0 := Lib.hid (K12.out.put HT0.out GE_g14.out hgz); have KZ1 := kb KZ0 (Lib.hid ((K12.out.k (g12, 24, chL KQ S2) (by simp)).only hgz (by intro e; injection e with e; have := LT_g12_g14.out; omega))); have KZ2 := kb KZ1 (Lib.hid RZ); have K13 := KZ2; clear hgz hzz RZ K12 KZ0 KZ1 KZ2
                    refine hK.out _ _ (K13.out.k (g12, 24, chL KQ S2) (by simp)) (fun hS => ?_)
                    clear hK K
                    (try simp only [Act.put, List.setIfInBounds_toArray, List.set_cons_zero, List.set_cons_succ])
                    refine wpAnyH_take (i := 11) (oi := ⟨some 15, _, _, _, _, _⟩) (v := .int .i64 (f : Int)) rfl (by kernel_rfl) (by kernel_rfl) (by kernel_rfl) (fun _ _ _ h => h) (Or.inl ⟨by rfl, fun w hSw => by (try dsimp only at hSw); go_simp⟩) hS ?_
                    simp only [Act.put, List.setIfInBounds_toArray, List.set_cons_zero, List.set_cons_succ]
                    refine wpAnyH_done (by kernel_rfl) ?_ _
                    clear hS
                    go_wp2_with fail
                    go_meet
                    exact ⟨g14, rfl, rfl, K13.out.b, K13.out.t, fun _ h => absurd h (by simp), fun x hx => K13.out.k x (by simp only [List.mem_cons, List.not_mem_nil, or_false] at hx ⊢; rcases hx with h | h <;> simp [h])⟩
                  · refine storeG_wp (.tmp 14) (.tmp 101) rfl rfl (ds := chL kT ST) rfl (K12.out.k (g14, 24, chL 0 Sz) (by simp)) infoCh rfl (chL_one _ _) ?_; intro w13 RZ hgz hzz; have KZ0 := Lib.hid (K12.out.put HT0.out GE_g14.out hgz); have KZ1 := kb KZ0 (Lib.hid ((K12.out.k (g12, 24, chL KQ S2) (by simp)).only hgz (by intro e; injection e with e; have := LT_g12_g14.out; omega))); have KZ2 := kb KZ1 (Lib.hid RZ); have K13 := KZ2; clear hgz hzz RZ K12 KZ0 KZ1 KZ2
                    refine hK.out _ _ (K13.out.k (g12, 24, chL KQ S2) (by simp)) (fun hS => ?_)
                    clear hK K
                    (try simp only [Act.put, List.setIfInBounds_toArray, List.set_cons_zero, List.set_cons_succ])
                    refine wpAnyH_take (i := 8) (oi := ⟨some 102, _, _, _, _, _⟩) (v := .int .i64 (f : Int)) rfl (by kernel_rfl) (by kernel_rfl) (by kernel_rfl) (fun _ _ _ h => h) (Or.inl ⟨by rfl, fun w hSw => by (try dsimp only at hSw); go_simp⟩) hS ?_
                    simp only [Act.put, List.setIfInBounds_toArray, List.set_cons_zero, List.set_cons_succ]
                    refine wpAnyH_take (i := 11) (oi := ⟨some 15, _, _, _, _, _⟩) (v := .int .i64 (f : Int)) rfl (by kernel_rfl) (by kernel_rfl) (by kernel_rfl) (fun _ _ _ h => h) (Or.inl ⟨by rfl, fun w hSw => by (try dsimp only at hSw); go_simp⟩) hS ?_
                    simp only [Act.put, List.setIfInBounds_toArray, List.set_cons_zero, List.set_cons_succ]
                    refine wpAnyH_done (by kernel_rfl) ?_ _
                    clear hS
                    go_wp2_with fail
                    go_meet
                    exact ⟨g14, rfl, rfl, K13.out.b, K13.out.t, fun _ h => absurd h (by simp), fun x hx => K13.out.k x (by simp only [List.mem_cons, List.not_mem_nil, or_false] at hx ⊢; rcases hx with h | h <;> simp [h])⟩
              · go_simp
                obtain ⟨g14, hg14⟩ : ∃ g, w10.heap.size = g := ⟨_, rfl⟩
                obtain ⟨w11, hw11⟩ : ∃ v, w10.alloc (.cells #[.int .u32 0, .string Sz] 24) = v := ⟨_, rfl⟩
                have hbk : Hid (Bk w11 g14 24 (chL 0 Sz)) := Lib.hid (by rw [← hw11, ← hg14]; exact Bk.new w10 _ (chL 0 Sz))
                have hb : Hid (Below w10.heap.size w10 w11) := Lib.hid (by rw [← hw11]; exact bel1 w10 _)
                have GE_g14 : Hid (w.heap.size ≤ g14) := Lib.hid (by rw [← hg14]; exact K10.out.b.size)
                rw [hw11, hg14]
                have LT_g12_g14 : Hid (g12 < g14) := Lib.hid (by rw [← hg14]; exact (K10.out.k (g12, 24, chL KQ S2) (by simp)).lt)
                have K11 := kp K10 hb
                clear hb K10
                have Kn := kb K11 hbk
                clear hbk K11 hg14 hw11
                have K11 := Kn
                clear Kn
                refine hK.out _ _ (K11.out.k (g12, 24, chL KQ S2) (by simp)) (fun hS => ?_)
                clear hK K
                (try simp only [Act.put, List.setIfInBounds_toArray, List.set_cons_zero, List.set_cons_succ])
                refine wpAnyH_ready (rs := [5]) (by kernel_rfl) (by simp) ?_
                refine AllReadyH.cons (o := _) rfl (fun K hK => ?_) AllReadyH.nil
                go_simp
                refine (conv_at w11 KQ hk32 l2 H82.out HL92.out S2 HS2.out KJ hk332 f HF.out kT ST H3.out K11.out.t).mono ?_
                rintro e w12 ⟨rfl, hb⟩
                have K12 := kp K11 hb
                clear hb K11
                go_simp
                refine hK.out _ _ (K12.out.k (g12, 24, chL KQ S2) (by simp)) (fun hS => ?_)
                clear hK K
                (try simp only [Act.put, List.setIfInBounds_toArray, List.set_cons_zero, List.set_cons_succ])
                refine wpAnyH_take (i := 6) (oi := ⟨some 94, _, _, _, _, _⟩) (v := .tuple #[chV kT ST, .int .i64 (f : Int)]) rfl (by kernel_rfl) (by kernel_rfl) (by kernel_rfl) (fun _ _ _ h => h) (Or.inl ⟨by rfl, fun w hSw => by (try dsimp only at hSw); go_simp⟩) hS ?_
                simp only [Act.put, List.setIfInBounds_toArray, List.set_cons_zero, List.set_cons_succ]
                refine wpAnyH_take (i := 7) (oi := ⟨some 101, _, _, _, _, _⟩) (v := chV kT ST) rfl (by kernel_rfl) (by kernel_rfl) (by kernel_rfl) (fun _ _ _ h => h) (Or.inl ⟨by rfl, fun w hSw => by (try dsimp only at hSw); go_simp⟩) hS ?_
                simp only [Act.put, List.setIfInBounds_toArray, List.set_cons_zero, List.set_cons_succ]
                refine wpAnyH_ready (rs := [8, 10]) (by kernel_rfl) (by simp) ?_
                refine AllReadyH.cons (o := _) rfl (fun K hK => ?_) (AllReadyH.cons (o := _) rfl (fun K hK => ?_) AllReadyH.nil)
                · go_simp
                  refine hK.out _ _ (K12.out.k (g12, 24, chL KQ S2) (by simp)) (fun hS => ?_)
                  clear hK K
                  (try simp only [Act.put, List.setIfInBounds_toArray, List.set_cons_zero, List.set_cons_succ])
                  refine wpAnyH_ready (rs := [10]) (by kernel_rfl) (by simp) ?_
                  refine AllReadyH.cons (o := _) rfl (fun K hK => ?_) AllReadyH.nil
                  refine storeG_wp (.tmp 14) (.tmp 101) rfl rfl (ds := chL kT ST) rfl (K12.out.k (g14, 24, chL 0 Sz) (by simp)) infoCh rfl (chL_one _ _) ?_; intro w13 RZ hgz hzz; have KZ0 := Lib.hid (K12.out.put HT0.out GE_g14.out hgz); have KZ1 := kb KZ0 (Lib.hid ((K12.out.k (g12, 24, chL KQ S2) (by simp)).only hgz (by intro e; injection e with e; have := LT_g12_g14.out; omega))); have KZ2 := kb KZ1 (Lib.hid RZ); have K13 := KZ2; clear hgz hzz RZ K12 KZ0 KZ1 KZ2
                  refine hK.out _ _ (K13.out.k (g12, 24, chL KQ S2) (by simp)) (fun hS => ?_)
                  clear hK K
                  (try simp only [Act.put, List.setIfInBounds_toArray, List.set_cons_zero, List.set_cons_succ])
                  refine wpAnyH_take (i := 11) (oi := ⟨some 15, _, _, _, _, _⟩) (v := .int .i64 (f : Int)) rfl (by kernel_rfl) (by kernel_rfl) (by kernel_rfl) (fun _ _ _ h => h) (Or.inl ⟨by rfl, fun w hSw => by (try dsimp only at hSw); go_simp⟩) hS ?_
                  simp only [Act.put, List.setIfInBounds_toArray, List.set_cons_zero, List.set_cons_succ]
                  refine wpAnyH_done (by kernel_rfl) ?_ _
                  clear hS
                  go_wp2_with fail
                  go_meet
                  exact ⟨g14, rfl, rfl, K13.out.b, K13.out.t, fun _ h => absurd h (by simp), fun x hx => K13.out.k x (by simp only [List.mem_cons, List.not_mem_nil, or_false] at hx ⊢; rcases hx with h | h <;> simp [h])⟩
                · refine storeG_wp (.tmp 14) (.tmp 101) rfl rfl (ds := chL kT ST) rfl (K12.out.k (g14, 24, chL 0 Sz) (by simp)) infoCh rfl (chL_one _ _) ?_; intro w13 RZ hgz hzz; have KZ0 := Lib.hid (K12.out.put HT0.out GE_g14.out hgz); have KZ1 := kb KZ0 (Lib.hid ((K12.out.k (g12, 24, chL KQ S2) (by simp)).only hgz (by intro e; injection e with e; have := LT_g12_g14.out; omega))); have KZ2 := kb KZ1 (Lib.hid RZ); have K13 := KZ2; clear hgz hzz RZ K12 KZ0 KZ1 KZ2
                  refine hK.out _ _ (K13.out.k (g12, 24, chL KQ S2) (by simp)) (fun hS => ?_)
                  clear hK K
                  (try simp only [Act.put, List.setIfInBounds_toArray, List.set_cons_zero, List.set_cons_succ])
                  refine wpAnyH_take (i := 8) (oi := ⟨some 102, _, _, _, _, _⟩) (v := .int .i64 (f : Int)) rfl (by kernel_rfl) (by kernel_rfl) (by kernel_rfl) (fun _ _ _ h => h) (Or.inl ⟨by rfl, fun w hSw => by (try dsimp only at hSw); go_simp⟩) hS ?_
                  simp only [Act.put, List.setIfInBounds_toArray, List.set_cons_zero, List.set_cons_succ]
                  refine wpAnyH_take (i := 11) (oi := ⟨some 15, _, _, _, _, _⟩) (v := .int .i64 (f : Int)) rfl (by kernel_rfl) (by kernel_rfl) (by kernel_rfl) (fun _ _ _ h => h) (Or.inl ⟨by rfl, fun w hSw => by (try dsimp only at hSw); go_simp⟩) hS ?_
                  simp only [Act.put, List.setIfInBounds_toArray, List.set_cons_zero, List.set_cons_succ]
                  refine wpAnyH_done (by kernel_rfl) ?_ _
                  clear hS
                  go_wp2_with fail
                  go_meet
                  exact ⟨g14, rfl, rfl, K13.out.b, K13.out.t, fun _ h => absurd h (by simp), fun x hx => K13.out.k x (by simp only [List.mem_cons, List.not_mem_nil, or_false] at hx ⊢; rcases hx with h | h <;> simp [h])⟩
            · go_simp
              obtain ⟨g14, hg14⟩ : ∃ g, w9.heap.size = g := ⟨_, rfl⟩
              obtain ⟨w10, hw10⟩ : ∃ v, w9.alloc (.cells #[.int .u32 0, .string Sz] 24) = v := ⟨_, rfl⟩
              have hbk : Hid (Bk w10 g14 24 (chL 0 Sz)) := Lib.hid (by rw [← hw10, ← hg14]; exact Bk.new w9 _ (chL 0 Sz))
              have hb : Hid (Below w9.heap.size w9 w10) := Lib.hid (by rw [← hw10]; exact bel1 w9 _)
              have GE_g14 : Hid (w.heap.size ≤ g14) := Lib.hid (by rw [← hg14]; exact K9.out.b.size)
              rw [hw10, hg14]
              have LT_g12_g14 : Hid (g12 < g14) := Lib.hid (by rw [← hg14]; exact (K9.out.k (g12, 24, chL KQ S2) (by simp)).lt)
              have K10 := kp K9 hb
              clear hb K9
              have Kn := kb K10 hbk
              clear hbk K10 hg14 hw10
              have K10 := Kn
              clear Kn
              refine hK.out _ _ (K10.out.k (g12, 24, chL KQ S2) (by simp)) (fun hS => ?_)
              clear hK K
              (try simp only [Act.put, List.setIfInBounds_toArray, List.set_cons_zero, List.set_cons_succ])
              refine wpAnyH_ready (rs := [4]) (by kernel_rfl) (by simp) ?_
              refine AllReadyH.cons (o := _) rfl (fun K hK => ?_) AllReadyH.nil
              go_simp
              refine (number_at w10 p3 HP35.out KJ HKJ.out).mono ?_
              rintro e w11 ⟨rfl, hb⟩
              have K11 := kp K10 hb
              clear hb K10
              go_simp
              refine hK.out _ _ (K11.out.k (g12, 24, chL KQ S2) (by simp)) (fun hS => ?_)
              clear hK K
              (try simp only [Act.put, List.setIfInBounds_toArray, List.set_cons_zero, List.set_cons_succ])
              refine wpAnyH_ready (rs := [5]) (by kernel_rfl) (by simp) ?_
              refine AllReadyH.cons (o := _) rfl (fun K hK => ?_) AllReadyH.nil
              go_simp
              refine (conv_at w11 KQ hk32 l2 H82.out HL92.out S2 HS2.out KJ hk332 f HF.out kT ST H3.out K11.out.t).mono ?_
              rintro e w12 ⟨rfl, hb⟩
              have K12 := kp K11 hb
              clear hb K11
              go_simp
              refine hK.out _ _ (K12.out.k (g12, 24, chL KQ S2) (by simp)) (fun hS => ?_)
              clear hK K
              (try simp only [Act.put, List.setIfInBounds_toArray, List.set_cons_zero, List.set_cons_succ])
              refine wpAnyH_take (i := 6) (oi := ⟨some 94, _, _, _, _, _⟩) (v := .tuple #[chV kT ST, .int .i64 (f : Int)]) rfl (by kernel_rfl) (by kernel_rfl) (by kernel_rfl) (fun _ _ _ h => h) (Or.inl ⟨by rfl, fun w hSw => by (try dsimp only at hSw); go_simp⟩) hS ?_
              simp only [Act.put, List.setIfInBounds_toArray, List.set_cons_zero, List.set_cons_succ]
              refine wpAnyH_take (i := 7) (oi := ⟨some 101, _, _, _, _, _⟩) (v := chV kT ST) rfl (by kernel_rfl) (by kernel_rfl) (by kernel_rfl) (fun _ _ _ h => h) (Or.inl ⟨by rfl, fun w hSw => by (try dsimp only at hSw); go_simp⟩) hS ?_
              simp only [Act.put, List.setIfInBounds_toArray, List.set_cons_zero, List.set_cons_succ]
              refine wpAnyH_ready (rs := [8, 10]) (by kernel_rfl) (by simp) ?_
              refine AllReadyH.cons (o := _) rfl (fun K hK => ?_) (AllReadyH.cons (o := _) rfl (fun K hK => ?_) AllReadyH.nil)
              · go_simp
                refine hK.out _ _ (K12.out.k (g12, 24, chL KQ S2) (by simp)) (fun hS => ?_)
                clear hK K
                (try simp only [Act.put, List.setIfInBounds_toArray, List.set_cons_zero, List.set_cons_succ])
                refine wpAnyH_ready (rs := [10]) (by kernel_rfl) (by simp) ?_
                refine AllReadyH.cons (o := _) rfl (fun K hK => ?_) AllReadyH.nil
                refine storeG_wp (.tmp 14) (.tmp 101) rfl rfl (ds := chL kT ST) rfl (K12.out.k (g14, 24, chL 0 Sz) (by simp)) infoCh rfl (chL_one _ _) ?_; intro w13 RZ hgz hzz; have KZ0 := Lib.hid (K12.out.put HT0.out GE_g14.out hgz); have KZ1 := kb KZ0 (Lib.hid ((K12.out.k (g12, 24, chL KQ S2) (by simp)).only hgz (by intro e; injection e with e; have := LT_g12_g14.out; omega))); have KZ2 := kb KZ1 (Lib.hid RZ); have K13 := KZ2; clear hgz hzz RZ K12 KZ0 KZ1 KZ2
                refine hK.out _ _ (K13.out.k (g12, 24, chL KQ S2) (by simp)) (fun hS => ?_)
                clear hK K
                (try simp only [Act.put, List.setIfInBounds_toArray, List.set_cons_zero, List.set_cons_succ])
                refine wpAnyH_take (i := 11) (oi := ⟨some 15, _, _, _, _, _⟩) (v := .int .i64 (f : Int)) rfl (by kernel_rfl) (by kernel_rfl) (by kernel_rfl) (fun _ _ _ h => h) (Or.inl ⟨by rfl, fun w hSw => by (try dsimp only at hSw); go_simp⟩) hS ?_
                simp only [Act.put, List.setIfInBounds_toArray, List.set_cons_zero, List.set_cons_succ]
                refine wpAnyH_done (by kernel_rfl) ?_ _
                clear hS
                go_wp2_with fail
                go_meet
                exact ⟨g14, rfl, rfl, K13.out.b, K13.out.t, fun _ h => absurd h (by simp), fun x hx => K13.out.k x (by simp only [List.mem_cons, List.not_mem_nil, or_false] at hx ⊢; rcases hx with h | h <;> simp [h])⟩
              · refine storeG_wp (.tmp 14) (.tmp 101) rfl rfl (ds := chL kT ST) rfl (K12.out.k (g14, 24, chL 0 Sz) (by simp)) infoCh rfl (chL_one _ _) ?_; intro w13 RZ hgz hzz; have KZ0 := Lib.hid (K12.out.put HT0.out GE_g14.out hgz); have KZ1 := kb KZ0 (Lib.hid ((K12.out.k (g12, 24, chL KQ S2) (by simp)).only hgz (by intro e; injection e with e; have := LT_g12_g14.out; omega))); have KZ2 := kb KZ1 (Lib.hid RZ); have K13 := KZ2; clear hgz hzz RZ K12 KZ0 KZ1 KZ2
                refine hK.out _ _ (K13.out.k (g12, 24, chL KQ S2) (by simp)) (fun hS => ?_)
                clear hK K
                (try simp only [Act.put, List.setIfInBounds_toArray, List.set_cons_zero, List.set_cons_succ])
                refine wpAnyH_take (i := 8) (oi := ⟨some 102, _, _, _, _, _⟩) (v := .int .i64 (f : Int)) rfl (by kernel_rfl) (by kernel_rfl) (by kernel_rfl) (fun _ _ _ h => h) (Or.inl ⟨by rfl, fun w hSw => by (try dsimp only at hSw); go_simp⟩) hS ?_
                simp only [Act.put, List.setIfInBounds_toArray, List.set_cons_zero, List.set_cons_succ]
                refine wpAnyH_take (i := 11) (oi := ⟨some 15, _, _, _, _, _⟩) (v := .int .i64 (f : Int)) rfl (by kernel_rfl) (by kernel_rfl) (by kernel_rfl) (fun _ _ _ h => h) (Or.inl ⟨by rfl, fun w hSw => by (try dsimp only at hSw); go_simp⟩) hS ?_
                simp only [Act.put, List.setIfInBounds_toArray, List.set_cons_zero, List.set_cons_succ]
                refine wpAnyH_done (by kernel_rfl) ?_ _
                clear hS
                go_wp2_with fail
                go_meet
                exact ⟨g14, rfl, rfl, K13.out.b, K13.out.t, fun _ h => absurd h (by simp), fun x hx => K13.out.k x (by simp only [List.mem_cons, List.not_mem_nil, or_false] at hx ⊢; rcases hx with h | h <;> simp [h])⟩
          case rest =>
            obtain ⟨g14, rfl, rfl, hst⟩ := hcut
            have K9 := Lib.hid hst
            clear hst K8
            generalize wc = w9 at *
            rcases HF11.out with hf0 | hf0
            · have hB := HBACK.out hf0
              have HB := Lib.hid hB
              have hkT : kT = KJ ∧ ST = S2 := by
                have := H3.out
                rw [if_pos hf0] at this
                injection this with e1 e2
                exact ⟨e1.symm, e2.symm⟩
              obtain ⟨hkT1, hkT2⟩ := hkT
              subst hkT1 hkT2 hf0
              clear hB
              have c_g12_0 : w9.cell? ⟨g12, 0, none⟩ = some (.int .u32 (KQ : Int)) := by rw [(K9.out.k (g12, 24, chL KQ ST) (by simp)).cell]; rfl
              go_wp2_with (refine wpList_loadGg (by rfl) (.tmp 14) rfl rfl (rangeB (K9.out.k (g14, 24, chL kT ST) (by simp))) Tryd.underlying24 rfl infoCh ?_)
              clear c_g12_0
              refine (conv_at w9 kT hk332 l2 H82.out HL92.out ST HS2.out KQ hk32 0 HB.out KQ ST rfl K9.out.t).mono ?_
              rintro e w10 ⟨rfl, hb⟩
              have K10 := kp K9 hb
              clear hb K9
              go_upto_region 28 with fail
              obtain ⟨g16, hg16⟩ : ∃ g, w10.heap.size = g := ⟨_, rfl⟩
              obtain ⟨w11, hw11⟩ : ∃ v, w10.alloc (.cells #[.int .u32 (KQ : Int), .string ST] 24) = v := ⟨_, rfl⟩
              have hbk : Hid (Bk w11 g16 24 (chL KQ ST)) := Lib.hid (by rw [← hw11, ← hg16]; exact Bk.new w10 _ (chL KQ ST))
              have hb : Hid (Below w10.heap.size w10 w11) := Lib.hid (by rw [← hw11]; exact bel1 w10 _)
              have GE_g16 : Hid (w.heap.size ≤ g16) := Lib.hid (by rw [← hg16]; exact K10.out.b.size)
              rw [hw11, hg16]
              have K11 := kp K10 hb
              clear hb K10
              have Kn := kb K11 hbk
              clear hbk K11 hg16 hw11
              have K11 := Kn
              clear Kn
              go_wp2_with (first | (refine wpList_loadGg (by rfl) (.tmp 16) rfl rfl (rangeB (K11.out.k (g16, 24, chL KQ ST) (by simp))) Tryd.underlying24 rfl infoCh ?_) | (refine wpList_loadGg (by rfl) (.tmp 12) rfl rfl (rangeB (K11.out.k (g12, 24, chL KQ ST) (by simp))) Tryd.underlying24 rfl infoCh ?_))
              refine (lives_at w11 K11.out.t).mono ?_
              rintro e w12 ⟨rfl, hb⟩
              have K12 := kp K11 hb
              clear hb K11
              go_wp2_with fail
              go_ret
              exact ⟨rfl, K12.out.b⟩
            · subst hf0
              go_wp2_with fail
              refine (lives_at w9 K9.out.t).mono ?_
              rintro e w10 ⟨rfl, hb⟩
              have K10 := kp K9 hb
              clear hb K9
              go_wp2_with fail
              go_ret
              exact ⟨rfl, K10.out.b⟩

open Go.ChangeShapes Go.WideShapes Go.ChangeAt Go.WideMaps Go.WideElems
set_option maxRecDepth 100000 in
theorem charstringsKinds_lifted (os : Os) (started : os.Started) (H : Type) (enc : TypeId × Value → H) :
    ReturnsInHanded {} Tryd.checked os 7 .any (fun w args => (Rows.charstringsKindsSpec.pre enc Tryd.prog Tryd.f7 [] false w args ∧ laidMetH Tryd.prog laidL w) ∧ sizedMet enc Tryd.prog Tryd.f7 (OpenSpec.ofChange Rows.charstringsKindsSpec) false w args)
      (Rows.charstringsKindsSpec.post enc Tryd.prog Tryd.f7 false true false false) := by
  refine returnsInHanded_of_change_and (C := Tryd.checked) (X := fun w _ => laidMetH Tryd.prog laidL w) (fun _ _ _ hh h => h.of_heap hh) x_own started (by kernel_rfl) Tryd.func7
    (ChangeSpec.witness_shaped (enc := enc) (C := Tryd.checked) (os := os) (X := fun w _ => laidMetH Tryd.prog laidL w) false (World.laidAll Tryd.prog os laidL) #[.string ⟨#[]⟩, .agg #[.int .u8 0, .slice none 0 0], .int .u8 0] 8 (World.laidAll_os _ _ _) (World.shaped_of_ZipB (by kernel_rfl) (by kernel_rfl)) (by kernel_rfl) (by kernel_rfl) (by kernel_rfl) (door_met os _)) ?_
  intro W base args ds gs before hval0 hW _ _ hL _
  have hval : ∀ (j : Nat) t v, Tryd.f7.params[j]? = some t → args[j]? = some v → Value.okWide Tryd.prog W .any base t v := hval0
  have hW' := hW
  obtain ⟨p, q, hA0, hV, rfl, hfz, hnd⟩ := hW
  have hA : DataW.TrodAll enc Tryd.prog W 0 (fun _ => true) true Tryd.f7.params.toList args.toList ds p := hA0
  rw [Tryd.params7] at hA hval
  obtain ⟨v0, v1, v2, d0, d1, d2, p0, p1, p2, rfl, rfl, rfl, h0, h1, h2⟩ := trodAll_three hA
  obtain ⟨rfl, rfl⟩ := trodVars_none hV
  obtain ⟨l, rfl, h8, hlm⟩ := open_str (hval 0 _ v0 rfl rfl) h0
  obtain ⟨kd, A, xs, c, rfl, hk, hR, hx, hlc, hcm⟩ := open_C (hval 1 _ v1 rfl rfl) h1
  obtain ⟨k0, rfl, hk0⟩ := open_u8 (hval 2 _ v2 rfl rfl) h2
  have hE := of_laid hL
  clear hA0 hval0
  simp only [List.append_nil] at hW'
  refine (kinds_walk l h8 hlm kd hk A xs xs.length c k0 hk0 W hR hx rfl hlc hcm hE).mono fun e W' ⟨he, hb⟩ => ?_
  subst he
  exact ⟨_, rfl, law_post (tb := 4) x_laid (by decide +kernel) rfl rfl (by kernel_rfl) Tryd.underlying4 hW' hb⟩

/-- The row's statement. -/
theorem charstringsKinds_row : Rows.CharstringsKindsSaid :=
  OpenClaim.holds_of_wide 7 Tryd.f7 rfl rfl rfl rfl rfl rfl rfl ⟨rfl, rfl, rfl, rfl, rfl⟩ rfl rfl rfl rfl rfl (by kernel_rfl) Tryd.func7 (by kernel_rfl)
    (of_decide_eq_true (by kernel_rfl)) (by unfold Func.isWrapper; first | (rw [if_pos (by decide +kernel)]; kernel_rfl) | (rw [if_neg (by decide +kernel)]; exact ⟨rfl, rfl⟩))
    (fun os started H enc _ => charstringsKinds_lifted os started H enc)

/-- The statement: the card. -/
theorem charstringsKinds_holds : Rows.CharstringsKindsCardSaid :=
  Claim7.holds_tied_plain_at .later [] [.data, .pinned] true Rows.charstringsKindsCard.stood.harness Rows.charstringsKindsCard.stood.looks
    charstringsKinds_row (fun _ h => by cases h) (by kernel_rfl) (fun _ h => by cases h) charstringsKinds_row_tie rfl ⟨rfl, rfl⟩ (by kernel_rfl) rfl
    (fun f fn hf hfn => by
      obtain rfl : f = 7 := Option.some.inj ((show Tryd.prog.funcNamed "vidimus/vidimuslaw09.CharstringsKinds" = some 7 by kernel_rfl).symm.trans hf) |>.symm
      obtain rfl : fn = Tryd.f7 := (Option.some.inj (Tryd.func7.symm.trans hfn)).symm
      exact ⟨by kernel_rfl, fun j t ht => by
        rw [Tryd.params7] at ht
        have hm : t ∈ Tryd.f7.params.toList := by rw [Tryd.params7]; exact Array.mem_toList_iff.2 (Array.mem_of_getElem? ht)
        have hall : (Tryd.f7.params.toList.all fun u => !Tryd.prog.wantsStandIn u) = true := by kernel_rfl
        exact (show Tryd.prog.wantsStandIn t = false by simpa using List.all_eq_true.1 hall t hm)⟩)
    (by kernel_rfl)
end Go.Proofs.YthefnfjhnallfaaDoor.Chs
