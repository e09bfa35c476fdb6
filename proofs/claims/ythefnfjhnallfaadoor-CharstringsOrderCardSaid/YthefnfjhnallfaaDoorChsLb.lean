/-
  Layer 9, the statements' plain data: C.Of.
  Conditions: the slice reads as words.
-/
import Derived.Test.YthefnfjhnallfaaDoorChsLa
namespace Go.Proofs.YthefnfjhnallfaaDoor.Chs
open Go.RowKit Go.Shelf

theorem retG1 {fn : Func} {p : Tmp} {t : TypeId} (h : fn.results = #[.cell p t]) {a : Act} {w : World} {g : Nat} {cs : List Value} (hp : a.tmps.getD p undef = .pointer (some ⟨g, 0, none⟩))
    (hl : (loadVar t ⟨g, 0, none⟩).run Tryd.prog w = .ok (.agg cs.toArray) w) (hdf : a.defers = [])
    {R : Ending → World → Prop} (hR : R (.returned (.agg cs.toArray)) w) : bodyPost Tryd.prog fn R .ret a w := by
  refine bodyPost_ret ?_ hdf hR
  have hp' : a.tmps[p]?.getD undef = .pointer (some ⟨g, 0, none⟩) := by simpa using hp
  simp [results, h, hp', asAddr, hl]
theorem fm_snoc (f : Nat → Option Nat) (l : List Nat) (x : Nat) : (l ++ [x]).filterMap f = l.filterMap f ++ (match f x with | none => [] | some y => [y]) := by
  rw [List.filterMap_append]
  congr 1
  cases h : f x <;> simp [h]
theorem ofX_1 {k x : Nat} (h : hasN k (x % 1114112) = true) : ofX k x = some (x % 1114112) := by unfold ofX; rw [if_pos h]
theorem ofX_2 {k x : Nat} (h : ¬ hasN k (x % 1114112) = true) (h2 : hasN k (x % 1114112 % 128) = true) : ofX k x = some (x % 1114112 % 128) := by unfold ofX; rw [if_neg h, if_pos h2]
theorem ofX_3 {k x : Nat} (h : ¬ hasN k (x % 1114112) = true) (h2 : ¬ hasN k (x % 1114112 % 128) = true) : ofX k x = none := by unfold ofX; rw [if_neg h, if_neg h2]
theorem kN_kind {p : Nat} (h : p < 5) : isK (kN p) = true := by
  obtain rfl | rfl | rfl | rfl | rfl : p = 0 ∨ p = 1 ∨ p = 2 ∨ p = 3 ∨ p = 4 := by omega
  all_goals rfl
theorem kN_lt {p : Nat} (h : p < 5) : kN p < 31 := by
  obtain rfl | rfl | rfl | rfl | rfl : p = 0 ∨ p = 1 ∨ p = 2 ∨ p = 3 ∨ p = 4 := by omega
  all_goals decide
set_option linter.unusedSimpArgs false in
set_option linter.unusedVariables false in
set_option maxHeartbeats 4000000 in
set_option maxRecDepth 100000 in
theorem cof_any (kd p : Nat) (hkd : kd < 256) (hp : kd % 5 = p) (A : Option Addr) (xs : List Nat) (n c : Nat) (hN : xs.length = n) (hm : n ≤ maxLen) (hx : ∀ y ∈ xs, y < 4294967296) (w : World) (hA : Rd w A (cs32 xs)) :
    Calls Tryd.prog 19 #[cV kd A n c] w fun e w' => e = .returned (.agg (chL (kN p) (bstr (encS (ofC (kN p) xs)))).toArray) ∧ Below w.heap.size w w' := by
  unfold maxLen at hm
  have hp5 : p < 5 := by omega
  obtain ⟨Sz, hSz⟩ : ∃ s, S0 = s := ⟨_, rfl⟩
  have hz : ∀ w : World, (zeroValue 24).run Tryd.prog w = .ok (.agg #[.int .u32 0, .string Sz]) w := by rw [← hSz]; exact zeroCh
  have CN := Lib.hid (fun W => number_any p hp5 W)
  have CH := Lib.hid (fun c W => rhas_any (kN p) c W)
  have HK32 := kN_lt hp5
  obtain ⟨K, hK⟩ : ∃ K, kN p = K := ⟨_, rfl⟩
  rw [hK] at CN CH HK32 ⊢
  have HK := Lib.hid hK
  have HP5 := Lib.hid hp5
  have HN := Lib.hid hN
  have HX := Lib.hid hx
  obtain ⟨g, hg⟩ : ∃ g, w.heap.size = g := ⟨_, rfl⟩
  obtain ⟨g2, hg2⟩ : ∃ g2, g + 1 = g2 := ⟨_, rfl⟩
  obtain ⟨w1, hw1⟩ : ∃ w1, (w.alloc (.cells #[.int .u8 (kd : Int), .slice A n c] 47)).alloc (.cells #[.int .u32 0, .string Sz] 24) = w1 := ⟨_, rfl⟩
  have B1 : Hid (Below w.heap.size w w1) := Lib.hid (by rw [← hw1]; exact (bel1 w _).alloc (by simp) _)
  have K1 : Hid (Bk w1 g 47 [.int .u8 (kd : Int), .slice A n c]) := Lib.hid (by rw [← hw1, ← hg]; exact (Bk.new w _ [.int .u8 (kd : Int), .slice A n c]).alloc _)
  have R1 : Hid (Bk w1 g2 24 (chL 0 Sz)) := Lib.hid (by
    rw [← hw1, ← hg2, ← hg]
    have := Bk.new (w.alloc (.cells #[.int .u8 (kd : Int), .slice A n c] 47)) 24 (chL 0 Sz)
    rwa [World.size_alloc] at this)
  have HA1 : Hid (Rd w1 A (cs32 xs)) := Lib.hid (hA.below B1.out)
  have HW1 := Lib.hid hw1
  have HG := Lib.hid hg
  have HG2 := Lib.hid hg2
  have hk5 : (kd : Int) % 5 = (p : Int) := by omega
  clear hSz hA hx hw1 hg hg2 hK hN
  go_enter Tryd.func19, Tryd.ntmps19
  go_upto_region 1 with fail
  rw [HW1.out, HG.out, HG2.out]
  have c0 : w1.cell? ⟨g, 0, none⟩ = some (.int .u8 (kd : Int)) := by rw [K1.out.cell]; rfl
  clear hp
  go_wp2_with fail
  refine (CN.out _).mono ?_
  rintro e w2 ⟨rfl, hb⟩
  have B2 := bt B1 (Lib.hid hb)
  have K2 := kt K1 (Lib.hid hb)
  have R2 := kt R1 (Lib.hid hb)
  have HA2 := Lib.hid (HA1.out.below hb)
  clear hb B1 K1 R1 HA1 c0 hk5 CN
  have hk32 : IntKind.u32.wrap (K : Int) = (K : Int) := by rw [IntKind.wrap_u32]; omega
  obtain ⟨g3, hg3⟩ : ∃ g3, w2.heap.size = g3 := ⟨_, rfl⟩
  obtain ⟨w4, hw4⟩ : ∃ w4, w2.alloc (.cells #[.int .u32 (K : Int), .string Sz] 24) = w4 := ⟨_, rfl⟩
  have HA4 : Hid (Bk w4 g3 24 (chL K Sz)) := Lib.hid (by rw [← hw4, ← hg3]; exact Bk.new w2 _ (chL K Sz))
  have hb4 : Hid (Below w2.heap.size w2 w4) := Lib.hid (by rw [← hw4]; exact bel1 w2 _)
  have B4 := bt B2 hb4
  have K4 := kt K2 hb4
  have R4 := kt R2 hb4
  have X4 := Lib.hid (HA2.out.below hb4.out)
  have HGS : Hid (w.heap.size ≤ g3 ∧ g < g3 ∧ g2 < g3) := Lib.hid ⟨by rw [← hg3]; exact B2.out.size, by rw [← hg3]; exact K2.out.lt, by rw [← hg3]; exact R2.out.lt⟩
  have HW4 := Lib.hid hw4
  have HG3 := Lib.hid hg3
  clear hb4 hw4 hg3 B2 K2 R2 HA2
  go_upto_region 2 with fail
  rw [HW4.out, HG3.out]
  obtain ⟨B0, hB0⟩ : ∃ B0, w4.heap.size = B0 := ⟨_, rfl⟩
  have START := Lib.hid (World.ownsRow_nil w4 B0 3 1)
  have BZ := Lib.hid (Below.refl B0 w4)
  have HB0 := Lib.hid hB0
  clear hB0
  go_upto_region 4 with fail
  go_loopw [4, 5] (fun v i wr => ∃ j : Nat, j ≤ n ∧ j ≤ 40 ∧ i = .int .i64 (j : Int) ∧ wr.ownsRow B0 3 1 v ((xs.take j).filterMap (ofX K)).length (csI ((xs.take j).filterMap (ofX K))) ∧ Below B0 w4 wr) (fun _ i _ => 40 - (intOf i).toNat)
  case atStart => exact ⟨0, Nat.zero_le _, Nat.zero_le _, rfl, START.out, BZ.out⟩
  case round =>
    obtain ⟨j, hj, hj4, rfl, hown, hbl⟩ := hrel
    have OWN := Lib.hid hown
    have BL := Lib.hid hbl
    clear hown hbl START BZ
    have KW := Lib.hid (K4.out.below BL.out (by rw [← HB0.out]; exact K4.out.lt))
    have AW := Lib.hid (HA4.out.below BL.out (by rw [← HB0.out]; exact HA4.out.lt))
    have a1 : wr.cell? ⟨g, 1, none⟩ = some (.slice A n c) := by rw [KW.out.cell]; rfl
    have a0 : wr.cell? ⟨g3, 0, none⟩ = some (.int .u32 (K : Int)) := by rw [AW.out.cell]; rfl
    by_cases hin : j < n ∧ j < 40
    · obtain ⟨hlt, h40⟩ := hin
      have hlt2 : j < (cs32 xs).length := by rw [cs32_len, HN.out]; exact hlt
      have hlt3 : j < xs.length := by rw [HN.out]; exact hlt
      obtain ⟨b, off, rfl, hb, hcx⟩ := X4.out.at_ hlt2
      have hv : (cs32 xs)[j] = .int .u32 (xs[j] : Int) := by simp [cs32]
      rw [hv] at hcx
      have hcx2 := (BL.out.cell (p := ⟨b, off + j, none⟩) (by rw [← HB0.out]; exact hb)).trans hcx
      have hx32 := HX.out _ (List.getElem_mem hlt3)
      have HTK : Hid (xs.take (j + 1) = xs.take j ++ [xs[j]]) := Lib.hid (List.take_succ_eq_append_getElem hlt3)
      obtain ⟨x, hxe⟩ : ∃ x, xs[j] = x := ⟨_, rfl⟩
      rw [hxe] at hcx2 hx32 HTK
      have HFM : Hid ((xs.take (j + 1)).filterMap (ofX K) = (xs.take j).filterMap (ofX K) ++ (match ofX K x with | none => [] | some y => [y])) := Lib.hid (by
        rw [HTK.out]
        exact fm_snoc (ofX K) _ x)
      have HLN : Hid (((xs.take j).filterMap (ofX K)).length ≤ 1000) := Lib.hid (by
        have h1 := List.length_filterMap_le (ofX K) (xs.take j)
        have h2 : (xs.take j).length ≤ j := List.length_take_le ..
        omega)
      have hli : (j : Int) < (n : Int) := by omega
      have h4i : (j : Int) < 40 := by omega
      have hsz : B0 ≤ wr.heap.size := by have := HB0.out; have := BL.out.size; omega
      have HSZ := Lib.hid hsz
      obtain ⟨L, hL⟩ : ∃ L, (xs.take j).filterMap (ofX K) = L := ⟨_, rfl⟩
      rw [hL] at OWN HFM HLN
      obtain ⟨d, hd⟩ : ∃ d, x % 1114112 = d := ⟨_, rfl⟩
      obtain ⟨d2, hd2⟩ : ∃ d2, d % 128 = d2 := ⟨_, rfl⟩
      have q1 : (x : Int) % 1114112 = (d : Int) := by omega
      have q2 : (d : Int) % 128 = (d2 : Int) := by omega
      have hd3 : (d : Int) < 1114112 := by omega
      have HD := Lib.hid hd
      have HD2 := Lib.hid hd2
      have hwd : IntKind.i64.wrap (d : Int) = (d : Int) := by rw [IntKind.wrap_i64]; omega
      clear hlt2 hlt3 hb hv hcx hxe hL hsz hd hd2
      obtain ⟨v1, hv1⟩ : ∃ v, hasN K d = v := ⟨_, rfl⟩
      have CH1 := Lib.hid (fun W => CH.out d W)
      rw [hv1] at CH1
      have HV1 := Lib.hid hv1
      clear hv1
      cases v1
      · obtain ⟨v2, hv2⟩ : ∃ v, hasN K d2 = v := ⟨_, rfl⟩
        have CH2 := Lib.hid (fun W => CH.out d2 W)
        rw [hv2] at CH2
        have HV2 := Lib.hid hv2
        clear hv2
        cases v2
        · have NX : Hid ((xs.take (j + 1)).filterMap (ofX K) = L) := Lib.hid (by
            rw [HFM.out, ofX_3 (by rw [HD.out, HV1.out]; decide) (by rw [HD.out, HD2.out, HV2.out]; decide)]; simp)
          clear HFM HTK
          go_wp2_with fail
          refine (CH1.out _).mono ?_
          rintro e w' ⟨rfl, rfl⟩
          go_wp2_with fail
          refine (CH2.out _).mono ?_
          rintro e w' ⟨rfl, rfl⟩
          go_wp2_with fail
          exact ⟨⟨j + 1, by omega, by omega, by go_num, by rw [NX.out]; exact OWN.out, BL.out⟩, by simp [intOf]; omega⟩
        · have NX : Hid ((xs.take (j + 1)).filterMap (ofX K) = L ++ [d2]) := Lib.hid (by
            rw [HFM.out, ofX_2 (by rw [HD.out, HV1.out]; decide) (by rw [HD.out, HD2.out]; exact HV2.out), HD.out, HD2.out])
          obtain ⟨v', w5, hrun, hown5, hb5⟩ := appI OWN.out d2 HSZ.out (by have := HLN.out; omega)
          rw [← NX.out] at hown5
          have OWN5 := Lib.hid hown5
          have BL5 := Lib.hid (BL.out.trans hb5)
          clear HFM HTK hown5 hb5
          go_wp2_with fail
          refine (CH1.out _).mono ?_
          rintro e w' ⟨rfl, rfl⟩
          go_wp2_with fail
          refine (CH2.out _).mono ?_
          rintro e w' ⟨rfl, rfl⟩
          go_wp2_with (at_builtin; refine wpList_app rfl _ _ _ _ rfl _ _ rfl rfl hrun ?_)
          exact ⟨⟨j + 1, by omega, by omega, by go_num, OWN5.out, BL5.out⟩, by simp [intOf]; omega⟩
      · have NX : Hid ((xs.take (j + 1)).filterMap (ofX K) = L ++ [d]) := Lib.hid (by
          rw [HFM.out, ofX_1 (by rw [HD.out]; exact HV1.out), HD.out])
        obtain ⟨v', w5, hrun, hown5, hb5⟩ := appI OWN.out d HSZ.out (by have := HLN.out; omega)
        rw [← NX.out] at hown5
        have OWN5 := Lib.hid hown5
        have BL5 := Lib.hid (BL.out.trans hb5)
        clear HFM HTK hown5 hb5
        go_wp2_with fail
        refine (CH1.out _).mono ?_
        rintro e w' ⟨rfl, rfl⟩
        go_wp2_with fail
        refine (CH1.out _).mono ?_
        rintro e w' ⟨rfl, rfl⟩
        go_wp2_with (at_builtin; refine wpList_app rfl _ _ _ _ rfl _ _ rfl rfl hrun ?_)
        exact ⟨⟨j + 1, by omega, by omega, by go_num, OWN5.out, BL5.out⟩, by simp [intOf]; omega⟩
    · have hfin : (xs.take j).filterMap (ofX K) = ofC K xs := by
        unfold ofC
        congr 1
        by_cases h40 : j < 40
        · obtain rfl : j = n := by omega
          rw [List.take_of_length_le (by rw [HN.out]; exact Nat.le_refl _), List.take_of_length_le (by rw [HN.out]; omega)]
        · obtain rfl : j = 40 := by omega
          rfl
      rw [hfin] at OWN
      obtain ⟨A2, c2, hv, hr, -, -⟩ := own_open (by rw [csI_length]; exact OWN.out)
      rw [csI_length] at hv
      obtain ⟨M, hM⟩ : ∃ M, (ofC K xs).length = M := ⟨_, rfl⟩
      have hM40 := ofC_len K xs
      rw [hM] at hv hM40
      subst hv
      have CE := Lib.hid (renc_any A2 (ofC K xs) M c2 hM (by omega) ofC_scal wr hr)
      obtain ⟨SS, hSS⟩ : ∃ SS, bstr (encS (ofC K xs)) = SS := ⟨_, rfl⟩
      have HSS := Lib.hid hSS
      rw [hSS] at CE
      have RW := Lib.hid (R4.out.below BL.out (by rw [← HB0.out]; exact R4.out.lt))
      have BW : Hid (Below w.heap.size w wr) := Lib.hid (B4.out.trans (BL.out.mono (by rw [← HB0.out]; exact B4.out.size)))
      have hend : (¬ (j : Int) < (n : Int)) ∨ ((j : Int) < (n : Int) ∧ ¬ (j : Int) < 40) := by omega
      clear hfin hr hM hSS hin OWN
      rcases hend with e1 | ⟨e1, e2⟩
      all_goals
        go_wp2_with fail
        refine CE.out.mono ?_
        rintro e w5 ⟨rfl, hb⟩
        have B5 := bt BW (Lib.hid hb)
        have A5 := kt AW (Lib.hid hb)
        have R5 := kt RW (Lib.hid hb)
        have c5 : w5.cell? ⟨g3, 1, none⟩ = some (.string Sz) := by rw [A5.out.cell]; rfl
        have f5 : w5.frozen? ⟨g3, 1, none⟩ = false := A5.out.free 1
        obtain ⟨w6, hw6⟩ : ∃ w6, w5.setCell ⟨g3, 1, none⟩ (.string SS) = w6 := ⟨_, rfl⟩
        have A6 : Hid (Bk w6 g3 24 (chL K SS)) := Lib.hid (by rw [← hw6]; exact A5.out.store 1 (.string SS))
        have R6 : Hid (Bk w6 g2 24 (chL 0 Sz)) := Lib.hid (by rw [← hw6]; exact R5.out.far (by have := HGS.out; dsimp only; omega) _)
        have B6 : Hid (Below w.heap.size w w6) := Lib.hid (by rw [← hw6]; exact B5.out.setCell (p := ⟨g3, 1, none⟩) HGS.out.1 _)
        have HW6 := Lib.hid hw6
        clear hb a0 a1 hw6 BW AW RW
        go_upto_region 12 with fail
        rw [HW6.out]
        clear c5 f5
        go_wp2_with (first
          | (refine wpList_loadG rfl (.tmp 3) rfl rfl (rangeB A6.out) Tryd.underlying24 rfl infoCh ?_)
          | (refine wpList_storeG rfl (.tmp 2) (.tmp 49) rfl rfl (ds := chL K SS) rfl R6.out infoCh rfl (chL_one _ _) ?_
             intro w7 R7 hg7 hz7
             have HR7 := Lib.hid R7
             have B7 := Lib.hid (B6.out.grown hg7 B6.out.size (fun k e => by injection e with e; have := HG.out; have := HG2.out; omega))
             clear R7 hg7 hz7))
        exact retG1 rfl rfl (loadCh HR7.out) rfl ⟨by rw [HSS.out], B7.out⟩
end Go.Proofs.YthefnfjhnallfaaDoor.Chs
