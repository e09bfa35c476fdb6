/-
  The reference of layer 9: Get.
  Conditions: the slice reads as bytes.
-/
import Derived.Test.YthefnfjhnallfaaDoorChsZ
namespace Go.Proofs.YthefnfjhnallfaaDoor.Chs
open Go.RowKit Go.Shelf

/-- One step of a region that draws its order: append. -/
theorem app_wp {P : Program} {o : Oper} {a : Act} {w : World} {K : Act → World → Prop} {Q : Exit → Act → World → Prop} (s x : Operand) (t1 t2 : TypeId)
    (ho : o.op = .call { callee := .builtin .append, args := #[s, x], argTypes := #[t1, t2] }) (u v : Value) (hs : a.eval s = u) (hx : a.eval x = v) {r : Value} {w1 : World}
    (hrun : (Builtin.append_ #[t1, t2] o.type #[u, v]).run P w = .ok r w1) (h : K (a.put o.dst r) w1) : o.wp P a w K Q := by
  unfold Oper.wp execOp
  simp only [ho, resolve, invoke, builtin, Sem.run_bind, Sem.run_pure, Result.andThen_ok, List.map_toArray, List.map_cons, List.map_nil, hs, hx, hrun]
  exact h
theorem get9_of {k : Nat} {l : List Nat} (h8 : All8 l) (hk : isK k = true) (hl : ¬ 131072 < l.length) : get9 k l = match chars k l with
    | none => (0, [], 11)
    | some cs => if cs.all (hasN k) = true then (if 65536 < (encS cs).length then (0, [], 3) else (k, encS cs, 0)) else (0, [], 11) := by
  have h := getC_chars (k := k) h8
  cases hc : chars k l with
  | none =>
    rw [hc] at h
    exact get9_bad hk hl h
  | some cs =>
    rw [hc] at h
    dsimp only at h ⊢
    by_cases ha : cs.all (hasN k) = true
    · rw [if_pos ha] at h ⊢
      exact get9_some hk hl h
    · rw [if_neg ha] at h ⊢
      exact get9_bad hk hl h
theorem chars_12 (l : List Nat) : chars 12 l = decS l := rfl
theorem chars_odd {l : List Nat} (h : l.length % 2 = 1) : chars 30 l = none := by unfold chars; rw [if_neg (by decide), if_pos rfl, if_pos h]
theorem chars_even {l : List Nat} (h : ¬ l.length % 2 = 1) : chars 30 l = some (prs l) := by unfold chars; rw [if_neg (by decide), if_pos rfl, if_neg h]
theorem chars_one {k : Nat} (h1 : k ≠ 12) (h2 : k ≠ 30) (l : List Nat) : chars k l = some l := by unfold chars; rw [if_neg h1, if_neg h2]

set_option linter.unusedSimpArgs false in
set_option linter.unusedVariables false in
set_option maxHeartbeats 6400000 in
set_option maxRecDepth 100000 in
theorem rget_any (k : Nat) (hk : k < 4294967296) (l : List Nat) (A : Option Addr) (N c : Nat) (hN : l.length = N) (hc : N ≤ c) (hcm : c ≤ maxLen) (w : World) (hA : Rb w A l) :
    Calls Tryd.prog 24 #[.int .u32 (k : Int), .slice A N c] w fun e w' => e = .returned (.tuple #[.agg (chL (get9 k l).1 (bstr (get9 k l).2.1)).toArray, .int .i64 ((get9 k l).2.2 : Int)]) ∧ Below w.heap.size w w' := by
  obtain ⟨Sz, hSz⟩ : ∃ s, S0 = s := ⟨_, rfl⟩
  have HSZ := Lib.hid hSz
  have hz : ∀ w : World, (zeroValue 24).run Tryd.prog w = .ok (.agg #[.int .u32 0, .string Sz]) w := by rw [← hSz]; exact zeroCh
  clear hSz
  have CK := Lib.hid (fun W => rkind_any k W)
  have CH := Lib.hid (fun c W => rhas_any k c W)
  obtain ⟨T, hT2⟩ : ∃ T, get9 k l = T := ⟨_, rfl⟩
  have HT := Lib.hid hT2
  rw [hT2]
  have HA := Lib.hid hA
  have HN := Lib.hid hN
  have HCM := Lib.hid hcm
  have HC := Lib.hid hc
  obtain ⟨w1, hw1⟩ : ∃ w1, w.alloc (.cells #[.int .u32 0, .string Sz] 24) = w1 := ⟨_, rfl⟩
  have B1 : Hid (Below w.heap.size w w1) := Lib.hid (by rw [← hw1]; exact bel1 w _)
  obtain ⟨g, hg⟩ : ∃ g, w.heap.size = g := ⟨_, rfl⟩
  have R1 : Hid (Bk w1 g 24 (chL 0 Sz)) := Lib.hid (by rw [← hw1, ← hg]; exact Bk.new w _ (chL 0 Sz))
  have HW1 := Lib.hid hw1
  have HG := Lib.hid hg
  have HA1 : Hid (Rb w1 A l) := Lib.hid (hA.below B1.out)
  clear hT2 hA hw1 hg hcm hc hN
  go_enter Tryd.func24, Tryd.ntmps24
  go_upto_region 1 with fail
  rw [HW1.out, HG.out]
  cases hK : isK k
  · rw [hK] at CK
    have HE : Hid (T = (0, [], 9)) := Lib.hid (by rw [← HT.out, get9_kind hK])
    clear hK
    go_wp2_with fail
    refine (CK.out _).mono ?_
    rintro e w' ⟨rfl, rfl⟩
    go_wp2_with (refine wpList_storeG rfl (.tmp 4) (.tmp 16) rfl rfl (ds := chL 0 Sz) rfl R1.out infoCh rfl (chL_one _ _) ?_
                 intro wz Rz hgz hzz
                 have HRz := Lib.hid Rz
                 have Bz := Lib.hid (B1.out.grown hgz B1.out.size (fun k e => by injection e with e; have := HG.out; omega))
                 clear Rz hgz hzz)
    exact retG2 rfl rfl rfl (loadCh HRz.out) rfl ⟨by rw [HE.out, ← HSZ.out]; rfl, Bz.out⟩
  · have HK := Lib.hid hK
    rw [hK] at CK
    clear hK
    by_cases hlong : 131072 < N
    · have HE : Hid (T = (0, [], 3)) := Lib.hid (by rw [← HT.out, get9_long HK.out (by rw [HN.out]; exact hlong)])
      have hli : (131072 : Int) < (N : Int) := by omega
      clear hlong
      go_wp2_with fail
      refine (CK.out _).mono ?_
      rintro e w' ⟨rfl, rfl⟩
      go_wp2_with (refine wpList_storeG rfl (.tmp 4) (.tmp 20) rfl rfl (ds := chL 0 Sz) rfl R1.out infoCh rfl (chL_one _ _) ?_
                   intro wz Rz hgz hzz
                   have HRz := Lib.hid Rz
                   have Bz := Lib.hid (B1.out.grown hgz B1.out.size (fun k e => by injection e with e; have := HG.out; omega))
                   clear Rz hgz hzz)
      exact retG2 rfl rfl rfl (loadCh HRz.out) rfl ⟨by rw [HE.out, ← HSZ.out]; rfl, Bz.out⟩
    · have hli : ¬ (131072 : Int) < (N : Int) := by omega
      have hNm : N ≤ 131072 := by omega
      have HTC := Lib.hid (get9_of HA.out.2 HK.out (by rw [HN.out]; exact hlong))
      rw [HT.out] at HTC
      clear hlong
      go_wp2_with fail
      refine (CK.out _).mono ?_
      rintro e w' ⟨rfl, rfl⟩
      go_upto_block 0 with fail
      go_cut [6] (fun v wx => ∃ (cs : List Nat) (A6 : Option Addr) (M c6 : Nat), v = .slice A6 M c6 ∧ chars k l = some cs ∧ cs.length = M ∧ Ri wx A6 cs ∧ M ≤ N ∧ Bk wx g 24 (chL 0 Sz) ∧ Below w.heap.size w wx)
      case first =>
        by_cases h12 : k = 12
        · have h12b : ((k : Int) == 12) = true := by rw [beq_iff_eq]; omega
          have HCH : Hid (chars k l = decS l) := Lib.hid (by rw [h12]; rfl)
          have s0 : (convert 32 9 (.slice A N c)).run Tryd.prog w1 = .ok (.string (bstr l)) w1 := by
            have := run_str8 HA1.out c
            rwa [HN.out] at this
          have CD := Lib.hid (fun W => rdec_any l N HA.out.2 HN.out (by omega) W)
          obtain ⟨S, hS⟩ : ∃ S, bstr l = S := ⟨_, rfl⟩
          rw [hS] at s0 CD
          clear h12 hS
          go_wp2_with fail
          refine (CD.out _).mono ?_
          rintro e w2 ⟨hgv, hb⟩
          have B2 := bt B1 (Lib.hid hb)
          have R2 := kt R1 (Lib.hid hb)
          clear hb
          cases hd : decS l with
          | none =>
            have HE : Hid (T = (0, [], 11)) := Lib.hid (by rw [HTC.out, HCH.out, hd])
            rw [hd] at hgv
            dsimp only at hgv
            subst hgv
            clear hd
            go_wp2_with (refine wpList_storeG rfl (.tmp 4) (.tmp 46) rfl rfl (ds := chL 0 Sz) rfl R2.out infoCh rfl (chL_one _ _) ?_
                         intro wz Rz hgz hzz
                         have HRz := Lib.hid Rz
                         have Bz := Lib.hid (B2.out.grown hgz B2.out.size (fun k e => by injection e with e; have := HG.out; omega))
                         clear Rz hgz hzz)
            exact retG2 rfl rfl rfl (loadCh HRz.out) rfl ⟨by rw [HE.out, ← HSZ.out]; rfl, Bz.out⟩
          | some cs =>
            rw [hd] at hgv
            obtain ⟨A2, c2, rfl, hr2, hc2, hm2⟩ := hgv
            have HD := Lib.hid hd
            have HR2 := Lib.hid hr2
            obtain ⟨M, hM⟩ : ∃ M, cs.length = M := ⟨_, rfl⟩
            have HM := Lib.hid hM
            have HLM : Hid (M ≤ N) := Lib.hid (by
              have h1 := (decS_iff.1 hd).1
              have h2 := (encS_len cs).1
              rw [← h1, HN.out] at h2
              omega)
            rw [hM]
            clear hd hr2 hc2 hm2 hM
            go_wp2_with fail
            go_meet
            exact ⟨cs, A2, M, c2, rfl, HCH.out.trans HD.out, HM.out, HR2.out, HLM.out, R2.out, B2.out⟩
        · have h12b : ((k : Int) == 12) = false := by rw [beq_eq_false_iff_ne]; omega
          obtain ⟨B0, hB0⟩ : ∃ B0, w1.heap.size = B0 := ⟨_, rfl⟩
          have START := Lib.hid (World.ownsRow_nil w1 B0 3 1)
          have BZ := Lib.hid (Below.refl B0 w1)
          have HB0 := Lib.hid hB0
          have H12 := Lib.hid h12
          clear hB0 h12
          by_cases h30 : k = 30
          · have h30b : ((k : Int) == 30) = true := by rw [beq_iff_eq]; omega
            by_cases hodd : N % 2 = 1
            · have hoi : (N : Int) % 2 = 1 := by omega
              have HE : Hid (T = (0, [], 11)) := Lib.hid (by rw [HTC.out, h30, chars_odd (by rw [HN.out]; exact hodd)])
              clear hodd h30
              go_wp2_with (refine wpList_storeG rfl (.tmp 4) (.tmp 54) rfl rfl (ds := chL 0 Sz) rfl R1.out infoCh rfl (chL_one _ _) ?_
                           intro wz Rz hgz hzz
                           have HRz := Lib.hid Rz
                           have Bz := Lib.hid (B1.out.grown hgz B1.out.size (fun k e => by injection e with e; have := HG.out; omega))
                           clear Rz hgz hzz)
              exact retG2 rfl rfl rfl (loadCh HRz.out) rfl ⟨by rw [HE.out, ← HSZ.out]; rfl, Bz.out⟩
            · have hoi : (N : Int) % 2 = 0 := by omega
              have HEV : Hid (N % 2 = 0) := Lib.hid (by omega)
              have HCH : Hid (chars k l = some (prs l)) := Lib.hid (by rw [h30, chars_even (by rw [HN.out]; exact hodd)])
              clear hodd h30
              go_upto_region 20 with fail
              clear hoi
              go_loopw [6, 9] (fun v i wr => ∃ (p : Nat) (acc : List Nat), p ≤ N ∧ p % 2 = 0 ∧ i = .int .i64 (p : Int) ∧ prs l = acc ++ prs (l.drop p) ∧ acc.length ≤ p ∧ wr.ownsRow B0 3 1 v acc.length (csI acc) ∧ Below B0 w1 wr) (fun _ i _ => N - (intOf i).toNat)
              case atStart => exact ⟨0, [], Nat.zero_le _, rfl, rfl, rfl, Nat.le_refl _, START.out, BZ.out⟩
              case round =>
                obtain ⟨p, acc, hp, hev, rfl, hpr, hac, hown, hbl⟩ := hrel
                have OWN := Lib.hid hown
                have BL := Lib.hid hbl
                have HPR := Lib.hid hpr
                have HAC := Lib.hid hac
                clear hown hbl hpr hac START BZ
                rcases Nat.lt_or_ge p N with hlt | hge
                · have hp1 : p + 1 < l.length := by rw [HN.out]; have := HEV.out; omega
                  have hp0 : p < l.length := by omega
                  obtain ⟨b, off, rfl, hb, hx8, hcx⟩ := HA1.out.at_ hp0
                  have hcy : w1.cell? ⟨b, off + (p + 1), none⟩ = some (.int .u8 (l[p + 1] : Int)) := by
                    obtain ⟨b2, off2, he, _, _, h⟩ := HA1.out.at_ hp1
                    simp only [Option.some.injEq, Addr.mk.injEq, and_true] at he
                    obtain ⟨rfl, rfl⟩ := he
                    exact h
                  have hy8 : l[p + 1] < 256 := HA1.out.2.get hp1
                  have hdr : l.drop p = l[p] :: l[p + 1] :: l.drop (p + 2) := by
                    rw [List.drop_eq_getElem_cons hp0, List.drop_eq_getElem_cons hp1]
                  have hb0 : b < B0 := by rw [← HB0.out]; exact hb
                  have hcx2 := (BL.out.cell (p := ⟨b, off + p, none⟩) hb0).trans hcx
                  have hcy2 := (BL.out.cell (p := ⟨b, off + (p + 1), none⟩) hb0).trans hcy
                  generalize l[p] = x at *
                  generalize l[p + 1] = y at *
                  have hpi : (p : Int) < (N : Int) := by omega
                  have hp1i : (p : Int) + 1 < (N : Int) := by rw [HN.out] at hp1; omega
                  have HBB := Lib.hid hb0
                  have hdw : Below B0 wr wr.drew := (Below.refl _ _).drew
                  have OWNd := Lib.hid (OWN.out.drew)
                  obtain ⟨p1, hp1e⟩ : ∃ p1, p + 1 = p1 := ⟨_, rfl⟩
                  have hpp : (p : Int) + 1 = (p1 : Int) := by omega
                  rw [hp1e] at hcy2
                  have hszd : B0 ≤ wr.drew.heap.size := Nat.le_trans (by have := HB0.out; have := BL.out.size; omega) hdw.size
                  obtain ⟨v', w3, hrun, hown3, hb3⟩ := appI OWNd.out (256 * x + y) hszd (by have := HAC.out; omega)
                  have NX : Hid (prs l = (acc ++ [256 * x + y]) ++ prs (l.drop (p + 2))) := Lib.hid (by rw [HPR.out, hdr, prs]; simp)
                  have OWN3 := Lib.hid hown3
                  have BL3 : Hid (Below B0 w1 w3) := Lib.hid ((BL.out.trans hdw).trans hb3)
                  rw [show ((256 * x + y : Nat) : Int) = 256 * (x : Int) + (y : Int) by omega] at hrun
                  have HRUN := Lib.hid hrun
                  have hx8i : (x : Int) < 256 := by omega
                  have hy8i : (y : Int) < 256 := by omega
                  have CXd : Hid (wr.drew.cell? ⟨b, off + p, none⟩ = some (.int .u8 (x : Int))) := Lib.hid hcx2
                  have CYd : Hid (wr.drew.cell? ⟨b, off + p1, none⟩ = some (.int .u8 (y : Int))) := Lib.hid hcy2
                  have HBW : Hid (b < wr.drew.heap.size) := Lib.hid (Nat.lt_of_lt_of_le hb0 hszd)
                  have HP2 : Hid (p + 2 ≤ N) := Lib.hid (by rw [HN.out] at hp1; omega)
                  have CX3 : Hid (w3.cell? ⟨b, off + p, none⟩ = some (.int .u8 (x : Int)) ∧ w3.cell? ⟨b, off + p1, none⟩ = some (.int .u8 (y : Int))) := Lib.hid ⟨(hb3.cell (p := ⟨b, off + p, none⟩) hb0).trans CXd.out, (hb3.cell (p := ⟨b, off + p1, none⟩) hb0).trans CYd.out⟩
                  have q1 : IntKind.i64.wrap (x : Int) = (x : Int) := by rw [IntKind.wrap_i64]; omega
                  have q2 : IntKind.i64.wrap (y : Int) = (y : Int) := by rw [IntKind.wrap_i64]; omega
                  have q3 : IntKind.i64.wrap (256 * (x : Int)) = 256 * (x : Int) := by rw [IntKind.wrap_i64]; omega
                  have q4 : IntKind.i64.wrap (256 * (x : Int) + (y : Int)) = 256 * (x : Int) + (y : Int) := by rw [IntKind.wrap_i64]; omega
                  have q5 : IntKind.i64.wrap ((p : Int) + 1) = (p1 : Int) := by rw [IntKind.wrap_i64]; omega
                  have q7 : IntKind.i64.wrap (p1 : Int) = (p1 : Int) := by rw [IntKind.wrap_i64]; omega
                  have q6 : (p1 : Int) < (N : Int) := by omega
                  clear hown3 hb3 hrun hdr hcx hcy hcx2 hcy2 hb hx8 hy8 hp0 hp1 hdw hszd hb0 hp1e OWN
                  go_upto_region 22 with fail
                  refine wp_region_held_drew (S := fun w' => w'.cell? ⟨b, off + p, none⟩ = some (.int .u8 (x : Int)) ∧ w'.cell? ⟨b, off + p1, none⟩ = some (.int .u8 (y : Int))) (by kernel_rfl) (⟨CXd.out, CYd.out⟩) (fun hS => ?_)
                  refine wpAnyH_take (i := 0) (oi := ⟨some 61, _, _, _, _, _⟩) (v := u6) rfl (by kernel_rfl) (by kernel_rfl) (by kernel_rfl) (fun _ _ _ h => h) (Or.inl ⟨by rfl, fun w hSw => by (try dsimp only at hSw); go_simp⟩) hS ?_
                  simp only [Act.put, List.setIfInBounds_toArray, List.set_cons_zero, List.set_cons_succ]
                  refine wpAnyH_take (i := 1) (oi := ⟨some 62, _, _, _, _, _⟩) (v := .slice (some ⟨b, off, none⟩) N c) rfl (by kernel_rfl) (by kernel_rfl) (by kernel_rfl) (fun _ _ _ h => h) (Or.inl ⟨by rfl, fun w hSw => by (try dsimp only at hSw); go_simp⟩) hS ?_
                  simp only [Act.put, List.setIfInBounds_toArray, List.set_cons_zero, List.set_cons_succ]
                  refine wpAnyH_take (i := 2) (oi := ⟨some 63, _, _, _, _, _⟩) (v := .int .i64 (p : Int)) rfl (by kernel_rfl) (by kernel_rfl) (by kernel_rfl) (fun _ _ _ h => h) (Or.inl ⟨by rfl, fun w hSw => by (try dsimp only at hSw); go_simp⟩) hS ?_
                  simp only [Act.put, List.setIfInBounds_toArray, List.set_cons_zero, List.set_cons_succ]
                  refine wpAnyH_take (i := 3) (oi := ⟨some 64, _, _, _, _, _⟩) (v := .pointer (some ⟨b, off + p, none⟩)) rfl (by kernel_rfl) (by kernel_rfl) (by kernel_rfl) (fun _ _ _ h => h) (Or.inl ⟨by rfl, fun w hSw => by (try dsimp only at hSw); go_simp⟩) hS ?_
                  simp only [Act.put, List.setIfInBounds_toArray, List.set_cons_zero, List.set_cons_succ]
                  refine wpAnyH_take (i := 4) (oi := ⟨some 65, _, _, _, _, _⟩) (v := .int .u8 (x : Int)) rfl (by kernel_rfl) (by kernel_rfl) (by kernel_rfl) (fun _ _ _ h => h) (Or.inl ⟨by rfl, fun w hSw => by (try dsimp only at hSw); go_simp⟩) hS ?_
                  simp only [Act.put, List.setIfInBounds_toArray, List.set_cons_zero, List.set_cons_succ]
                  refine wpAnyH_take (i := 5) (oi := ⟨some 66, _, _, _, _, _⟩) (v := .int .i64 (x : Int)) rfl (by kernel_rfl) (by kernel_rfl) (by kernel_rfl) (fun _ _ _ h => h) (Or.inl ⟨by rfl, fun w hSw => by (try dsimp only at hSw); go_simp⟩) hS ?_
                  simp only [Act.put, List.setIfInBounds_toArray, List.set_cons_zero, List.set_cons_succ]
                  refine wpAnyH_take (i := 6) (oi := ⟨some 67, _, _, _, _, _⟩) (v := .int .i64 (256 * (x : Int))) rfl (by kernel_rfl) (by kernel_rfl) (by kernel_rfl) (fun _ _ _ h => h) (Or.inl ⟨by rfl, fun w hSw => by (try dsimp only at hSw); go_simp⟩) hS ?_
                  simp only [Act.put, List.setIfInBounds_toArray, List.set_cons_zero, List.set_cons_succ]
                  refine wpAnyH_take (i := 7) (oi := ⟨some 68, _, _, _, _, _⟩) (v := .slice (some ⟨b, off, none⟩) N c) rfl (by kernel_rfl) (by kernel_rfl) (by kernel_rfl) (fun _ _ _ h => h) (Or.inl ⟨by rfl, fun w hSw => by (try dsimp only at hSw); go_simp⟩) hS ?_
                  simp only [Act.put, List.setIfInBounds_toArray, List.set_cons_zero, List.set_cons_succ]
                  refine wpAnyH_take (i := 8) (oi := ⟨some 69, _, _, _, _, _⟩) (v := .int .i64 (p : Int)) rfl (by kernel_rfl) (by kernel_rfl) (by kernel_rfl) (fun _ _ _ h => h) (Or.inl ⟨by rfl, fun w hSw => by (try dsimp only at hSw); go_simp⟩) hS ?_
                  simp only [Act.put, List.setIfInBounds_toArray, List.set_cons_zero, List.set_cons_succ]
                  refine wpAnyH_take (i := 9) (oi := ⟨some 70, _, _, _, _, _⟩) (v := .int .i64 (p1 : Int)) rfl (by kernel_rfl) (by kernel_rfl) (by kernel_rfl) (fun _ _ _ h => h) (Or.inl ⟨by rfl, fun w hSw => by (try dsimp only at hSw); go_simp⟩) hS ?_
                  simp only [Act.put, List.setIfInBounds_toArray, List.set_cons_zero, List.set_cons_succ]
                  refine wpAnyH_take (i := 10) (oi := ⟨some 71, _, _, _, _, _⟩) (v := .pointer (some ⟨b, off + p1, none⟩)) rfl (by kernel_rfl) (by kernel_rfl) (by kernel_rfl) (fun _ _ _ h => h) (Or.inl ⟨by rfl, fun w hSw => by (try dsimp only at hSw); go_simp⟩) hS ?_
                  simp only [Act.put, List.setIfInBounds_toArray, List.set_cons_zero, List.set_cons_succ]
                  refine wpAnyH_take (i := 11) (oi := ⟨some 72, _, _, _, _, _⟩) (v := .int .u8 (y : Int)) rfl (by kernel_rfl) (by kernel_rfl) (by kernel_rfl) (fun _ _ _ h => h) (Or.inl ⟨by rfl, fun w hSw => by (try dsimp only at hSw); go_simp⟩) hS ?_
                  simp only [Act.put, List.setIfInBounds_toArray, List.set_cons_zero, List.set_cons_succ]
                  refine wpAnyH_take (i := 12) (oi := ⟨some 73, _, _, _, _, _⟩) (v := .int .i64 (y : Int)) rfl (by kernel_rfl) (by kernel_rfl) (by kernel_rfl) (fun _ _ _ h => h) (Or.inl ⟨by rfl, fun w hSw => by (try dsimp only at hSw); go_simp⟩) hS ?_
                  simp only [Act.put, List.setIfInBounds_toArray, List.set_cons_zero, List.set_cons_succ]
                  refine wpAnyH_take (i := 13) (oi := ⟨some 74, _, _, _, _, _⟩) (v := .int .i64 (256 * (x : Int) + (y : Int))) rfl (by kernel_rfl) (by kernel_rfl) (by kernel_rfl) (fun _ _ _ h => h) (Or.inl ⟨by rfl, fun w hSw => by (try dsimp only at hSw); go_simp⟩) hS ?_
                  simp only [Act.put, List.setIfInBounds_toArray, List.set_cons_zero, List.set_cons_succ]
                  refine wpAnyH_ready (rs := [14]) (by kernel_rfl) (by simp) ?_
                  refine AllReadyH.cons (o := _) rfl (fun K hK => ?_) (AllReadyH.nil)
                  go_simp
                  refine hK.out _ _ (by
                    have hbn := bel1 wr.drew (.cells #[.int .i64 (256 * (x : Int) + (y : Int))] 3)
                    exact ⟨(hbn.cell (p := ⟨b, off + p, none⟩) HBW.out).trans CXd.out, (hbn.cell (p := ⟨b, off + p1, none⟩) HBW.out).trans CYd.out⟩) (fun hS => ?_)
                  clear hK K
                  (try simp only [Act.put, List.setIfInBounds_toArray, List.set_cons_zero, List.set_cons_succ])
                  refine wpAnyH_ready (rs := [15]) (by kernel_rfl) (by simp) ?_
                  refine AllReadyH.cons (o := _) rfl (fun K hK => ?_) (AllReadyH.nil)
                  refine app_wp (.tmp 61) (.tmp 75) _ _ rfl _ _ rfl rfl HRUN.out ?_
                  refine hK.out _ _ CX3.out (fun hS => ?_)
                  clear hK K
                  (try simp only [Act.put, List.setIfInBounds_toArray, List.set_cons_zero, List.set_cons_succ])
                  refine wpAnyH_take (i := 16) (oi := ⟨some 6, _, _, _, _, _⟩) (v := v') rfl (by kernel_rfl) (by kernel_rfl) (by kernel_rfl) (fun _ _ _ h => h) (Or.inl ⟨by rfl, fun w hSw => by (try dsimp only at hSw); go_simp⟩) hS ?_
                  simp only [Act.put, List.setIfInBounds_toArray, List.set_cons_zero, List.set_cons_succ]
                  refine wpAnyH_done (by kernel_rfl) ?_ _
                  clear hS
                  go_wp2_with fail
                  exact ⟨⟨p + 2, acc ++ [256 * x + y], HP2.out, by omega, by go_num, NX.out, by have := HAC.out; rw [List.length_append, List.length_singleton]; omega, OWN3.out, BL3.out⟩, by simp [intOf]; omega⟩
                · obtain rfl : p = N := by omega
                  have hac2 : prs l = acc := by rw [HPR.out, List.drop_of_length_le (by rw [HN.out]; exact Nat.le_refl _)]; simp [prs]
                  obtain ⟨A3, c3, hv, hr, hc3, hm3⟩ := own_open (by rw [csI_length]; exact OWN.out)
                  rw [csI_length] at hv
                  obtain ⟨M, hM⟩ : ∃ M, acc.length = M := ⟨_, rfl⟩
                  rw [hM] at hv
                  subst hv
                  have HM := Lib.hid hM
                  have HR := Lib.hid hr
                  have HCC : Hid (chars k l = some acc) := Lib.hid (by rw [HCH.out, hac2])
                  have HLM : Hid (M ≤ p) := Lib.hid (by rw [← hM]; exact HAC.out)
                  have R9 := Lib.hid (R1.out.below BL.out (by rw [← HB0.out]; exact R1.out.lt))
                  have B9 : Hid (Below w.heap.size w wr) := Lib.hid (B1.out.trans (BL.out.mono (by rw [← HB0.out]; exact B1.out.size)))
                  clear hac2 hr hc3 hm3 hM OWN HPR
                  go_wp2_with fail
                  go_meet
                  exact ⟨acc, A3, M, c3, rfl, HCC.out, HM.out, HR.out, HLM.out, R9.out, B9.out⟩
          · have h30b : ((k : Int) == 30) = false := by rw [beq_eq_false_iff_ne]; omega
            have HCH : Hid (chars k l = some l) := Lib.hid (chars_one H12.out h30 l)
            clear h30
            go_upto_region 8 with fail
            go_loopw [6, 10] (fun v i wr => ∃ (p : Nat), p ≤ N ∧ i = .int .i64 (p : Int) ∧ wr.ownsRow B0 3 1 v (l.take p).length (csI (l.take p)) ∧ Below B0 w1 wr) (fun _ i _ => N - (intOf i).toNat)
            case atStart => exact ⟨0, Nat.zero_le _, rfl, START.out, BZ.out⟩
            case round =>
              obtain ⟨p, hp, rfl, hown, hbl⟩ := hrel
              have OWN := Lib.hid hown
              have BL := Lib.hid hbl
              clear hown hbl START BZ
              rcases Nat.lt_or_ge p N with hlt | hge
              · have hp0 : p < l.length := by rw [HN.out]; exact hlt
                obtain ⟨b, off, rfl, hb, hx8, hcx⟩ := HA1.out.at_ hp0
                have hb0 : b < B0 := by rw [← HB0.out]; exact hb
                have hcx2 := (BL.out.cell (p := ⟨b, off + p, none⟩) hb0).trans hcx
                obtain ⟨v', w3, hrun, hown3, hb3⟩ := appI OWN.out l[p] (by have := HB0.out; have := BL.out.size; omega) (by rw [List.length_take]; omega)
                rw [← List.take_succ_eq_append_getElem hp0] at hown3
                have OWN3 := Lib.hid hown3
                have BL3 : Hid (Below B0 w1 w3) := Lib.hid (BL.out.trans hb3)
                generalize l[p] = x at *
                have hpi : (p : Int) < (N : Int) := by omega
                clear hown3 hb3 hcx hb hp0 hb0 OWN BL
                go_wp2_with (at_builtin; refine wpList_app rfl _ _ _ _ rfl _ _ rfl rfl hrun ?_)
                exact ⟨⟨p + 1, by omega, by go_num, OWN3.out, BL3.out⟩, by simp [intOf]; omega⟩
              · obtain rfl : p = N := by omega
                have hac2 : l.take p = l := by rw [← HN.out, List.take_length]
                rw [hac2] at OWN
                obtain ⟨A3, c3, hv, hr, hc3, hm3⟩ := own_open (by rw [csI_length]; exact OWN.out)
                rw [csI_length, HN.out] at hv
                subst hv
                have HR := Lib.hid hr
                have R9 := Lib.hid (R1.out.below BL.out (by rw [← HB0.out]; exact R1.out.lt))
                have B9 : Hid (Below w.heap.size w wr) := Lib.hid (B1.out.trans (BL.out.mono (by rw [← HB0.out]; exact B1.out.size)))
                clear hac2 hr hc3 hm3 OWN
                go_wp2_with fail
                go_meet
                exact ⟨l, A3, p, c3, rfl, HCH.out, HN.out, HR.out, Nat.le_refl _, R9.out, B9.out⟩
      case rest =>
        obtain ⟨cs, A6, M, c6, rfl, hch, hM, hr6, hMN, hR, hB⟩ := hcut
        have HE0 : Hid (T = if cs.all (hasN k) = true then (if 65536 < (encS cs).length then (0, [], 3) else (k, encS cs, 0)) else (0, [], 11)) := Lib.hid (by rw [HTC.out, hch])
        have HM := Lib.hid hM
        have R6 := Lib.hid hr6
        have RC := Lib.hid hR
        have BC := Lib.hid hB
        clear hch hM hr6 hR hB HTC
        go_upto_region 24 with fail
        go_loopw [11] (fun i wr => ∃ j : Nat, j ≤ M ∧ i = .int .i64 (j : Int) ∧ (∀ c ∈ cs.take j, hasN k c = true) ∧ wc = wr) (fun i _ => M - (intOf i).toNat)
        case atStart => exact ⟨0, Nat.zero_le _, rfl, fun c h => absurd h (by simp), rfl⟩
        case round =>
          obtain ⟨j, hj, rfl, hall, rfl⟩ := hrel
          have HALL := Lib.hid hall
          clear hall
          rcases Nat.lt_or_ge j M with hlt | hge
          · have hlt2 : j < cs.length := by rw [HM.out]; exact hlt
            obtain ⟨b, off, rfl, hb, hc0⟩ := R6.out.at_ hlt2
            have CH1 := Lib.hid (fun W => CH.out cs[j] W)
            have HNX : Hid (hasN k cs[j] = true → ∀ c ∈ cs.take (j + 1), hasN k c = true) := Lib.hid (fun h c hc => by
              rw [List.take_succ_eq_append_getElem hlt2, List.mem_append, List.mem_singleton] at hc
              rcases hc with hc | rfl
              · exact HALL.out c hc
              · exact h)
            have HBD : Hid (hasN k cs[j] = false → T = (0, [], 11)) := Lib.hid (fun h => by
              rw [HE0.out, if_neg]
              intro h2
              rw [List.all_eq_true] at h2
              rw [h2 _ (List.getElem_mem hlt2)] at h
              cases h)
            generalize cs[j] = x at *
            obtain ⟨v, hv⟩ : ∃ v, hasN k x = v := ⟨_, rfl⟩
            rw [hv] at CH1 HNX HBD
            have hli2 : (j : Int) < (M : Int) := by omega
            clear hv hlt2 hb HALL
            go_wp2_with fail
            refine (CH1.out _).mono ?_
            rintro e w' ⟨rfl, rfl⟩
            cases v
            · have HE := Lib.hid (HBD.out rfl)
              clear HNX HBD hc0
              go_wp2_with (refine wpList_storeG rfl (.tmp 4) (.tmp 90) rfl rfl (ds := chL 0 Sz) rfl RC.out infoCh rfl (chL_one _ _) ?_
                           intro wz Rz hgz hzz
                           have HRz := Lib.hid Rz
                           have Bz := Lib.hid (BC.out.grown hgz BC.out.size (fun k e => by injection e with e; have := HG.out; omega))
                           clear Rz hgz hzz)
              exact retG2 rfl rfl rfl (loadCh HRz.out) rfl ⟨by rw [HE.out, ← HSZ.out]; rfl, Bz.out⟩
            · have HN2 := Lib.hid (HNX.out rfl)
              clear HNX HBD hc0
              go_wp2_with fail
              exact ⟨⟨j + 1, by omega, by go_num, HN2.out, by first | rfl | trivial⟩, by simp [intOf]; omega⟩
          · obtain rfl : j = M := by omega
            have hall : ∀ c ∈ cs, hasN k c = true := by
              have := HALL.out
              rwa [List.take_of_length_le (by rw [HM.out]; exact Nat.le_refl _)] at this
            have HE : Hid (T = if 65536 < (encS cs).length then (0, [], 3) else (k, encS cs, 0)) := Lib.hid (by rw [HE0.out, if_pos (List.all_eq_true.2 hall)])
            have CE := Lib.hid (renc_any A6 cs j c6 HM.out (by omega) (fun c hc => hasN_scal (hall c hc)) wc R6.out)
            have hsE : (bstr (encS cs)).size = (encS cs).length := size_bstr _
            obtain ⟨SS, hSS⟩ : ∃ SS, bstr (encS cs) = SS := ⟨_, rfl⟩
            have HSS := Lib.hid hSS
            rw [hSS] at CE hsE
            obtain ⟨E, hE⟩ : ∃ E, (encS cs).length = E := ⟨_, rfl⟩
            rw [hE] at HE hsE
            clear HALL hall hSS hE HE0
            go_wp2_with fail
            refine CE.out.mono ?_
            rintro e w3 ⟨rfl, hb⟩
            have B3 := bt BC (Lib.hid hb)
            have R3 := kt RC (Lib.hid hb)
            clear hb BC RC R6 CE
            have hk32 : IntKind.u32.wrap (k : Int) = (k : Int) := by rw [IntKind.wrap_u32]; omega
            obtain ⟨g9, hg9⟩ : ∃ g9, w3.heap.size = g9 := ⟨_, rfl⟩
            obtain ⟨w9, hw9⟩ : ∃ w9, w3.alloc (.cells #[.int .u32 0, .string Sz] 24) = w9 := ⟨_, rfl⟩
            have A9 : Hid (Bk w9 g9 24 (chL 0 Sz)) := Lib.hid (by rw [← hw9, ← hg9]; exact Bk.new w3 _ (chL 0 Sz))
            have hb9 : Hid (Below w3.heap.size w3 w9) := Lib.hid (by rw [← hw9]; exact bel1 w3 _)
            have B9 := bt B3 hb9
            have R9 := kt R3 hb9
            have HGS9 : Hid (w.heap.size ≤ g9 ∧ g < g9) := Lib.hid ⟨by rw [← hg9]; exact B3.out.size, by rw [← hg9]; exact R3.out.lt⟩
            have HW9 := Lib.hid hw9
            have HG9 := Lib.hid hg9
            clear hb9 hw9 hg9 B3 R3
            go_upto_region 29 with (rw [HW9.out, HG9.out]
                                    refine wpList_storeG rfl (.tmp 12) (.tmp 94) rfl rfl (ds := chL k SS) rfl A9.out infoCh rfl (chL_one _ _) ?_
                                    intro w10 A10 hg10 hz10
                                    have HA10 := Lib.hid A10
                                    have B10 := Lib.hid (B9.out.grown hg10 B9.out.size (fun k e => by injection e with e; have := HGS9.out; omega))
                                    have R10 := Lib.hid (R9.out.only hg10 (by intro e; injection e with e; have := HGS9.out; omega))
                                    clear A10 hg10 hz10 A9 B9 R9)
            have c1 : w10.cell? ⟨g9, 1, none⟩ = some (.string SS) := by rw [HA10.out.cell]; rfl
            by_cases hbig : 65536 < E
            · rw [if_pos hbig] at HE
              have hbi : (65536 : Int) < (E : Int) := by omega
              clear hbig
              go_wp2_with (refine wpList_storeG rfl (.tmp 4) (.tmp 99) rfl rfl (ds := chL 0 Sz) rfl R10.out infoCh rfl (chL_one _ _) ?_
                           intro wz Rz hgz hzz
                           have HRz := Lib.hid Rz
                           have Bz := Lib.hid (B10.out.grown hgz B10.out.size (fun k e => by injection e with e; have := HG.out; omega))
                           clear Rz hgz hzz)
              exact retG2 rfl rfl rfl (loadCh HRz.out) rfl ⟨by rw [HE.out, ← HSZ.out]; rfl, Bz.out⟩
            · rw [if_neg hbig] at HE
              have hbi : ¬ (65536 : Int) < (E : Int) := by omega
              clear hbig
              go_wp2_with (first
                | (refine wpList_loadG rfl (.tmp 12) rfl rfl (rangeB HA10.out) Tryd.underlying24 rfl infoCh ?_)
                | (refine wpList_storeG rfl (.tmp 4) (.tmp 100) rfl rfl (ds := chL k SS) rfl R10.out infoCh rfl (chL_one _ _) ?_
                   intro w11 R11 hg11 hz11
                   have HR11 := Lib.hid R11
                   have B11 := Lib.hid (B10.out.grown hg11 B10.out.size (fun k e => by injection e with e; have := HG.out; omega))
                   clear R11 hg11 hz11))
              exact retG2 rfl rfl rfl (loadCh HR11.out) rfl ⟨by rw [HE.out, ← HSS.out]; rfl, B11.out⟩
end Go.Proofs.YthefnfjhnallfaaDoor.Chs
