/-
  Layer 7, the statement OidsetsLattice: union and intersection are commutative, associative and idempotent, absorb each other, and distribute over each other.
  Conditions: the package-level variables that the row lists hold what the program's text lays (the card ties them).
-/
import Derived.Test.YtaiiihdckdjpoaaGreatDoorOgM
namespace Go.Proofs.YtaiiihdckdjpoaaGreatDoor
open Go.RowKit Go.Shelf

theorem union_fact {X Y : List Od} {n m : Nat} (hX : SetO X) (hY : SetO Y) (hn : X.length ≤ n) (hm : Y.length ≤ m) (h : n + m ≤ 256) : ∃ U, uniR X Y = (U, 0) ∧ SetO U ∧ U.length ≤ n + m ∧ ∀ z, z ∈ U ↔ z ∈ X ∨ z ∈ Y := by
  have hl := mrg_len uK X Y (X.length + Y.length)
  refine ⟨_, ?_, set_mrg uK hX hY, by omega, mem_uni hX hY⟩
  unfold uniR
  rw [cmb_ok uK hX hY (by omega) (by omega), if_neg (by dsimp only; omega)]
theorem common_fact {X Y : List Od} {n m : Nat} (hX : SetO X) (hY : SetO Y) (hn : X.length ≤ n) (hm : Y.length ≤ m) (h : n + m ≤ 256) : ∃ U, cmbR cK X Y = (U, 0) ∧ SetO U ∧ U.length ≤ n + m ∧ ∀ z, z ∈ U ↔ z ∈ X ∧ z ∈ Y := by
  have hl := mrg_len cK X Y (X.length + Y.length)
  exact ⟨_, cmb_ok cK hX hY (by omega) (by omega), set_mrg cK hX hY, by omega, mem_com hX hY⟩
theorem same_fact {X Y : List Od} {n : Nat} (hX : SetO X) (hY : SetO Y) (hn : X.length ≤ n) (h : n ≤ 256) (hm : ∀ z, z ∈ X ↔ z ∈ Y) : samR X Y = true := by
  unfold samR
  rw [decide_eq_true (hX.chk (by omega)), decide_eq_true (hX.uniq hY hm)]
  rfl
theorem S_set (x : Nat) : ∀ p, SetO (sR x p)
  | 0 => SetO.nil
  | p + 1 => by
    rw [sR]
    split
    · exact insR_set (S_set x p) (oR_ok p) (oR_vd p)
    · exact S_set x p

set_option linter.unusedSimpArgs false in
set_option linter.unusedVariables false in
set_option maxHeartbeats 16000000 in
set_option maxRecDepth 100000 in
theorem latt7_walk (x y z : Nat) (w : World) (hE : Env w) (hx : x < 256) (hy : y < 256) (hz : z < 256) :
    Calls Tryz.prog 6 #[.agg #[.int .u8 (x : Int)], .agg #[.int .u8 (y : Int)], .agg #[.int .u8 (z : Int)]] w fun e w' => e = .returned (.bool true) ∧ Below w.heap.size w w' := by
  have sLa := S_set x 7
  have lLa := sR_len x 7
  have CLa := Lib.hid (fun W => sof_any x hx W)
  obtain ⟨La, hLa⟩ : ∃ L, sR x 7 = L := ⟨_, rfl⟩
  rw [hLa] at sLa lLa CLa
  obtain ⟨nLa, hnLa⟩ : ∃ n, La.length = n := ⟨_, rfl⟩
  have NLa := Lib.hid hnLa
  clear hLa
  have sLb := S_set y 7
  have lLb := sR_len y 7
  have CLb := Lib.hid (fun W => sof_any y hy W)
  obtain ⟨Lb, hLb⟩ : ∃ L, sR y 7 = L := ⟨_, rfl⟩
  rw [hLb] at sLb lLb CLb
  obtain ⟨nLb, hnLb⟩ : ∃ n, Lb.length = n := ⟨_, rfl⟩
  have NLb := Lib.hid hnLb
  clear hLb
  have sLc := S_set z 7
  have lLc := sR_len z 7
  have CLc := Lib.hid (fun W => sof_any z hz W)
  obtain ⟨Lc, hLc⟩ : ∃ L, sR z 7 = L := ⟨_, rfl⟩
  rw [hLc] at sLc lLc CLc
  obtain ⟨nLc, hnLc⟩ : ∃ n, Lc.length = n := ⟨_, rfl⟩
  have NLc := Lib.hid hnLc
  clear hLc
  obtain ⟨Ab, hAb, sAb, lAb, mAb⟩ := union_fact (n := 7) (m := 7) sLa sLb lLa lLb (by decide)
  obtain ⟨nAb, hnAb⟩ : ∃ n, Ab.length = n := ⟨_, rfl⟩
  have HAb := Lib.hid hAb
  have NAb := Lib.hid hnAb
  clear hAb
  obtain ⟨Ba, hBa, sBa, lBa, mBa⟩ := union_fact (n := 7) (m := 7) sLb sLa lLb lLa (by decide)
  obtain ⟨nBa, hnBa⟩ : ∃ n, Ba.length = n := ⟨_, rfl⟩
  have HBa := Lib.hid hBa
  have NBa := Lib.hid hnBa
  clear hBa
  obtain ⟨Bc, hBc, sBc, lBc, mBc⟩ := union_fact (n := 7) (m := 7) sLb sLc lLb lLc (by decide)
  obtain ⟨nBc, hnBc⟩ : ∃ n, Bc.length = n := ⟨_, rfl⟩
  have HBc := Lib.hid hBc
  have NBc := Lib.hid hnBc
  clear hBc
  obtain ⟨Ll, hLl, sLl, lLl, mLl⟩ := union_fact (n := 14) (m := 7) sAb sLc lAb lLc (by decide)
  obtain ⟨nLl, hnLl⟩ : ∃ n, Ll.length = n := ⟨_, rfl⟩
  have HLl := Lib.hid hLl
  have NLl := Lib.hid hnLl
  clear hLl
  obtain ⟨Lr, hLr, sLr, lLr, mLr⟩ := union_fact (n := 7) (m := 14) sLa sBc lLa lBc (by decide)
  obtain ⟨nLr, hnLr⟩ : ∃ n, Lr.length = n := ⟨_, rfl⟩
  have HLr := Lib.hid hLr
  have NLr := Lib.hid hnLr
  clear hLr
  obtain ⟨Pp, hPp, sPp, lPp, mPp⟩ := common_fact (n := 7) (m := 7) sLa sLb lLa lLb (by decide)
  obtain ⟨nPp, hnPp⟩ : ∃ n, Pp.length = n := ⟨_, rfl⟩
  have HPp := Lib.hid hPp
  have NPp := Lib.hid hnPp
  clear hPp
  obtain ⟨Qq, hQq, sQq, lQq, mQq⟩ := common_fact (n := 7) (m := 7) sLb sLa lLb lLa (by decide)
  obtain ⟨nQq, hnQq⟩ : ∃ n, Qq.length = n := ⟨_, rfl⟩
  have HQq := Lib.hid hQq
  have NQq := Lib.hid hnQq
  clear hQq
  obtain ⟨Bd, hBd, sBd, lBd, mBd⟩ := common_fact (n := 7) (m := 7) sLb sLc lLb lLc (by decide)
  obtain ⟨nBd, hnBd⟩ : ∃ n, Bd.length = n := ⟨_, rfl⟩
  have HBd := Lib.hid hBd
  have NBd := Lib.hid hnBd
  clear hBd
  obtain ⟨Ml, hMl, sMl, lMl, mMl⟩ := common_fact (n := 14) (m := 7) sPp sLc lPp lLc (by decide)
  obtain ⟨nMl, hnMl⟩ : ∃ n, Ml.length = n := ⟨_, rfl⟩
  have HMl := Lib.hid hMl
  have NMl := Lib.hid hnMl
  clear hMl
  obtain ⟨Mr, hMr, sMr, lMr, mMr⟩ := common_fact (n := 7) (m := 14) sLa sBd lLa lBd (by decide)
  obtain ⟨nMr, hnMr⟩ : ∃ n, Mr.length = n := ⟨_, rfl⟩
  have HMr := Lib.hid hMr
  have NMr := Lib.hid hnMr
  clear hMr
  obtain ⟨Sa, hSa, sSa, lSa, mSa⟩ := union_fact (n := 7) (m := 14) sLa sPp lLa lPp (by decide)
  obtain ⟨nSa, hnSa⟩ : ∃ n, Sa.length = n := ⟨_, rfl⟩
  have HSa := Lib.hid hSa
  have NSa := Lib.hid hnSa
  clear hSa
  obtain ⟨Sb, hSb, sSb, lSb, mSb⟩ := common_fact (n := 7) (m := 14) sLa sAb lLa lAb (by decide)
  obtain ⟨nSb, hnSb⟩ : ∃ n, Sb.length = n := ⟨_, rfl⟩
  have HSb := Lib.hid hSb
  have NSb := Lib.hid hnSb
  clear hSb
  obtain ⟨Ac, hAc, sAc, lAc, mAc⟩ := common_fact (n := 7) (m := 7) sLa sLc lLa lLc (by decide)
  obtain ⟨nAc, hnAc⟩ : ∃ n, Ac.length = n := ⟨_, rfl⟩
  have HAc := Lib.hid hAc
  have NAc := Lib.hid hnAc
  clear hAc
  obtain ⟨Le, hLe, sLe, lLe, mLe⟩ := common_fact (n := 7) (m := 14) sLa sBc lLa lBc (by decide)
  obtain ⟨nLe, hnLe⟩ : ∃ n, Le.length = n := ⟨_, rfl⟩
  have HLe := Lib.hid hLe
  have NLe := Lib.hid hnLe
  clear hLe
  obtain ⟨Ri, hRi, sRi, lRi, mRi⟩ := union_fact (n := 14) (m := 14) sPp sAc lPp lAc (by decide)
  obtain ⟨nRi, hnRi⟩ : ∃ n, Ri.length = n := ⟨_, rfl⟩
  have HRi := Lib.hid hRi
  have NRi := Lib.hid hnRi
  clear hRi
  have EAbBa := Lib.hid (same_fact (n := 14) sAb sBa lAb (by decide) fun v => by
    simp only [mAb, mBa, mBc, mLl, mLr, mPp, mQq, mBd, mMl, mMr, mSa, mSb, mAc, mLe, mRi]
    by_cases h1 : v ∈ La <;> by_cases h2 : v ∈ Lb <;> by_cases h3 : v ∈ Lc <;> simp [h1, h2, h3])
  have ELlLr := Lib.hid (same_fact (n := 21) sLl sLr lLl (by decide) fun v => by
    simp only [mAb, mBa, mBc, mLl, mLr, mPp, mQq, mBd, mMl, mMr, mSa, mSb, mAc, mLe, mRi]
    by_cases h1 : v ∈ La <;> by_cases h2 : v ∈ Lb <;> by_cases h3 : v ∈ Lc <;> simp [h1, h2, h3])
  have EPpQq := Lib.hid (same_fact (n := 14) sPp sQq lPp (by decide) fun v => by
    simp only [mAb, mBa, mBc, mLl, mLr, mPp, mQq, mBd, mMl, mMr, mSa, mSb, mAc, mLe, mRi]
    by_cases h1 : v ∈ La <;> by_cases h2 : v ∈ Lb <;> by_cases h3 : v ∈ Lc <;> simp [h1, h2, h3])
  have EMlMr := Lib.hid (same_fact (n := 21) sMl sMr lMl (by decide) fun v => by
    simp only [mAb, mBa, mBc, mLl, mLr, mPp, mQq, mBd, mMl, mMr, mSa, mSb, mAc, mLe, mRi]
    by_cases h1 : v ∈ La <;> by_cases h2 : v ∈ Lb <;> by_cases h3 : v ∈ Lc <;> simp [h1, h2, h3])
  have ESaLa := Lib.hid (same_fact (n := 21) sSa sLa lSa (by decide) fun v => by
    simp only [mAb, mBa, mBc, mLl, mLr, mPp, mQq, mBd, mMl, mMr, mSa, mSb, mAc, mLe, mRi]
    by_cases h1 : v ∈ La <;> by_cases h2 : v ∈ Lb <;> by_cases h3 : v ∈ Lc <;> simp [h1, h2, h3])
  have ESbLa := Lib.hid (same_fact (n := 21) sSb sLa lSb (by decide) fun v => by
    simp only [mAb, mBa, mBc, mLl, mLr, mPp, mQq, mBd, mMl, mMr, mSa, mSb, mAc, mLe, mRi]
    by_cases h1 : v ∈ La <;> by_cases h2 : v ∈ Lb <;> by_cases h3 : v ∈ Lc <;> simp [h1, h2, h3])
  have ELeRi := Lib.hid (same_fact (n := 21) sLe sRi lLe (by decide) fun v => by
    simp only [mAb, mBa, mBc, mLl, mLr, mPp, mQq, mBd, mMl, mMr, mSa, mSb, mAc, mLe, mRi]
    by_cases h1 : v ∈ La <;> by_cases h2 : v ∈ Lb <;> by_cases h3 : v ∈ Lc <;> simp [h1, h2, h3])
  rw [hnLa] at lLa
  rw [hnLb] at lLb
  rw [hnLc] at lLc
  rw [hnAb] at lAb
  rw [hnBa] at lBa
  rw [hnBc] at lBc
  rw [hnLl] at lLl
  rw [hnLr] at lLr
  rw [hnPp] at lPp
  rw [hnQq] at lQq
  rw [hnBd] at lBd
  rw [hnMl] at lMl
  rw [hnMr] at lMr
  rw [hnSa] at lSa
  rw [hnSb] at lSb
  rw [hnAc] at lAc
  rw [hnLe] at lLe
  rw [hnRi] at lRi
  clear mAb mBa mBc mLl mLr mPp mQq mBd mMl mMr mSa mSb mAc mLe mRi sLa sLb sLc sAb sBa sBc sLl sLr sPp sQq sBd sMl sMr sSa sSb sAc sLe sRi hnLa hnLb hnLc hnAb hnBa hnBc hnLl hnLr hnPp hnQq hnBd hnMl hnMr hnSa hnSb hnAc hnLe hnRi
  obtain ⟨w0, hw0⟩ : ∃ w0, ((w.alloc (.cells #[.int .u8 (x : Int)] 50)).alloc (.cells #[.int .u8 (y : Int)] 50)).alloc (.cells #[.int .u8 (z : Int)] 50) = w0 := ⟨_, rfl⟩
  have hb : Hid (Below w.heap.size w w0) := Lib.hid (by rw [← hw0]; exact ((bel1 w (.cells #[.int .u8 (x : Int)] 50)).alloc (by simp) _).alloc (by simp; omega) _)
  have K0 := kp7 (Lib.hid (St7.start hE)) hb
  have SX : Hid (Bk w0 w.heap.size 50 [.int .u8 (x : Int)]) := Lib.hid (by rw [← hw0]; exact ((Bk.new w 50 [.int .u8 (x : Int)]).alloc _).alloc _)
  have SY : Hid (Bk w0 (w.heap.size + 1) 50 [.int .u8 (y : Int)]) := Lib.hid (by
    rw [← hw0]
    have := (Bk.new (w.alloc (.cells #[.int .u8 (x : Int)] 50)) 50 [.int .u8 (y : Int)]).alloc (.cells #[.int .u8 (z : Int)] 50)
    rwa [World.size_alloc] at this)
  have SZ : Hid (Bk w0 (w.heap.size + 1 + 1) 50 [.int .u8 (z : Int)]) := Lib.hid (by
    rw [← hw0]
    have := Bk.new ((w.alloc (.cells #[.int .u8 (x : Int)] 50)).alloc (.cells #[.int .u8 (y : Int)] 50)) 50 [.int .u8 (z : Int)]
    rwa [World.size_alloc, World.size_alloc] at this)
  obtain ⟨g1, hg1⟩ : ∃ g1, w.heap.size = g1 := ⟨_, rfl⟩
  obtain ⟨g2, hg2⟩ : ∃ g2, g1 + 1 = g2 := ⟨_, rfl⟩
  obtain ⟨g3, hg3⟩ : ∃ g3, g2 + 1 = g3 := ⟨_, rfl⟩
  rw [hg1] at SX SY SZ
  rw [hg2] at SY SZ
  rw [hg3] at SZ
  have HW := Lib.hid hw0
  have HG1 := Lib.hid hg1
  have HG2 := Lib.hid hg2
  have HG3 := Lib.hid hg3
  clear hb hE hw0 hg1 hg2 hg3
  go_enter Tryz.func6, Tryz.ntmps6
  go_upto_region 1 with fail
  rw [HW.out, HG1.out, HG2.out, HG3.out]
  clear HW
  go_cut [7, 8, 9] (fun a b d wx => ∃ A1 c1 A2 c2 A3 c3, a = .slice A1 nLa c1 ∧ b = .slice A2 nLb c2 ∧ d = .slice A3 nLc c3 ∧ St7 w [(A3, Lc, nLc, c3), (A2, Lb, nLb, c2), (A1, La, nLa, c1)] wx)
  case first =>
    refine wp_region_held_drew (S := fun W => Below w0.heap.size w0 W) (by kernel_rfl) (Below.refl _ w0).drew (fun hS => ?_)
    have LX : Hid (∀ W, Below w0.heap.size w0 W → W.cell? ⟨g1, 0, none⟩ = some (.int .u8 (x : Int))) := Lib.hid (fun W h => (SX.out.below h SX.out.lt).cell 0)
    have LY : Hid (∀ W, Below w0.heap.size w0 W → W.cell? ⟨g2, 0, none⟩ = some (.int .u8 (y : Int))) := Lib.hid (fun W h => (SY.out.below h SY.out.lt).cell 0)
    have LZ : Hid (∀ W, Below w0.heap.size w0 W → W.cell? ⟨g3, 0, none⟩ = some (.int .u8 (z : Int))) := Lib.hid (fun W h => (SZ.out.below h SZ.out.lt).cell 0)
    refine wpAnyH_take (i := 0) (oi := ⟨some 28, _, _, _, _, _⟩) (v := .agg #[.int .u8 (x : Int)]) rfl (by kernel_rfl) (by kernel_rfl) (by kernel_rfl) (fun _ _ _ h => h) (Or.inl ⟨by rfl, fun W hSw => by have hcell := LX.out W hSw; go_simp⟩) hS ?_
    simp only [Act.put, List.setIfInBounds_toArray, List.set_cons_zero, List.set_cons_succ]
    refine wpAnyH_take (i := 2) (oi := ⟨some 30, _, _, _, _, _⟩) (v := .agg #[.int .u8 (y : Int)]) rfl (by kernel_rfl) (by kernel_rfl) (by kernel_rfl) (fun _ _ _ h => h) (Or.inl ⟨by rfl, fun W hSw => by have hcell := LY.out W hSw; go_simp⟩) hS ?_
    simp only [Act.put, List.setIfInBounds_toArray, List.set_cons_zero, List.set_cons_succ]
    refine wpAnyH_take (i := 4) (oi := ⟨some 32, _, _, _, _, _⟩) (v := .agg #[.int .u8 (z : Int)]) rfl (by kernel_rfl) (by kernel_rfl) (by kernel_rfl) (fun _ _ _ h => h) (Or.inl ⟨by rfl, fun W hSw => by have hcell := LZ.out W hSw; go_simp⟩) hS ?_
    simp only [Act.put, List.setIfInBounds_toArray, List.set_cons_zero, List.set_cons_succ]
    have K1 := kp7 K0 (Lib.hid hS)
    generalize w0.drew = wd at *
    refine wpAnyH_ready (rs := [1]) (by kernel_rfl) (by simp) ?_
    refine AllReadyH.cons (o := ⟨some 29, _, _, _, _, _⟩) rfl (fun K hK => ?_) (AllReadyH.nil)
    go_simp
    refine (giveK_at (CLa.out _) NLa.out).mono ?_
    rintro e w1 ⟨A1, c1, rfl, hi, hb⟩
    have BL1 := Lib.hid (hS.trans (hb.out.mono hS.size))
    have Kn := kp7 K1 hb
    have K2 := ka7 Kn hi
    clear hi hb Kn
    refine hK.out _ _ BL1.out (fun hS => ?_)
    clear hK K
    (try simp only [Act.put, List.setIfInBounds_toArray, List.set_cons_zero, List.set_cons_succ])
    refine wpAnyH_ready (rs := [3]) (by kernel_rfl) (by simp) ?_
    refine AllReadyH.cons (o := ⟨some 31, _, _, _, _, _⟩) rfl (fun K hK => ?_) (AllReadyH.nil)
    go_simp
    refine (giveK_at (CLb.out _) NLb.out).mono ?_
    rintro e w2 ⟨A2, c2, rfl, hi, hb⟩
    have BL2 := Lib.hid (hS.trans (hb.out.mono hS.size))
    have Kn := kp7 K2 hb
    have K3 := ka7 Kn hi
    clear hi hb Kn
    refine hK.out _ _ BL2.out (fun hS => ?_)
    clear hK K
    (try simp only [Act.put, List.setIfInBounds_toArray, List.set_cons_zero, List.set_cons_succ])
    refine wpAnyH_ready (rs := [5]) (by kernel_rfl) (by simp) ?_
    refine AllReadyH.cons (o := ⟨some 33, _, _, _, _, _⟩) rfl (fun K hK => ?_) (AllReadyH.nil)
    go_simp
    refine (giveK_at (CLc.out _) NLc.out).mono ?_
    rintro e w3 ⟨A3, c3, rfl, hi, hb⟩
    have BL3 := Lib.hid (hS.trans (hb.out.mono hS.size))
    have Kn := kp7 K3 hb
    have K4 := ka7 Kn hi
    clear hi hb Kn
    refine hK.out _ _ BL3.out (fun hS => ?_)
    clear hK K
    (try simp only [Act.put, List.setIfInBounds_toArray, List.set_cons_zero, List.set_cons_succ])
    refine wpAnyH_take (i := 6) (oi := ⟨some 7, _, _, _, _, _⟩) (v := .slice A1 nLa c1) rfl (by kernel_rfl) (by kernel_rfl) (by kernel_rfl) (fun _ _ _ h => h) (Or.inl ⟨by rfl, fun w hSw => by go_simp⟩) hS ?_
    simp only [Act.put, List.setIfInBounds_toArray, List.set_cons_zero, List.set_cons_succ]
    refine wpAnyH_take (i := 7) (oi := ⟨some 8, _, _, _, _, _⟩) (v := .slice A2 nLb c2) rfl (by kernel_rfl) (by kernel_rfl) (by kernel_rfl) (fun _ _ _ h => h) (Or.inl ⟨by rfl, fun w hSw => by go_simp⟩) hS ?_
    simp only [Act.put, List.setIfInBounds_toArray, List.set_cons_zero, List.set_cons_succ]
    refine wpAnyH_take (i := 8) (oi := ⟨some 9, _, _, _, _, _⟩) (v := .slice A3 nLc c3) rfl (by kernel_rfl) (by kernel_rfl) (by kernel_rfl) (fun _ _ _ h => h) (Or.inl ⟨by rfl, fun w hSw => by go_simp⟩) hS ?_
    simp only [Act.put, List.setIfInBounds_toArray, List.set_cons_zero, List.set_cons_succ]
    refine wpAnyH_done (by kernel_rfl) ?_ _
    go_wp2_with fail
    go_meet
    exact ⟨A1, c1, A2, c2, A3, c3, rfl, rfl, rfl, K4.out⟩
  case rest =>
    obtain ⟨A1, c1, A2, c2, A3, c3, rfl, rfl, rfl, hst⟩ := hcut
    have K1 := Lib.hid hst
    clear hst K0 SX SY SZ CLa CLb CLc
    go_wp2_with fail
    refine (giveL_at (union_any A1 A2 La Lb nLa nLb c1 c2 _ (K1.out.r (A1, La, nLa, c1) (by simp)) (K1.out.r (A2, Lb, nLb, c2) (by simp)) (by omega) (by omega)) HAb.out NAb.out (by omega)).mono ?_
    rintro e w2 ⟨AAb, rfl, hi, hb⟩
    have K2 := kp7 K1 hb
    clear hb K1
    have K2n := ka7 K2 hi
    clear hi K2
    have K2 := K2n
    clear K2n
    go_wp2_with fail
    refine (giveL_at (union_any A2 A1 Lb La nLb nLa c2 c1 _ (K2.out.r (A2, Lb, nLb, c2) (by simp)) (K2.out.r (A1, La, nLa, c1) (by simp)) (by omega) (by omega)) HBa.out NBa.out (by omega)).mono ?_
    rintro e w3 ⟨ABa, rfl, hi, hb⟩
    have K3 := kp7 K2 hb
    clear hb K2
    have K3n := ka7 K3 hi
    clear hi K3
    have K3 := K3n
    clear K3n
    go_wp2_with fail
    refine (giveL_at (union_any A2 A3 Lb Lc nLb nLc c2 c3 _ (K3.out.r (A2, Lb, nLb, c2) (by simp)) (K3.out.r (A3, Lc, nLc, c3) (by simp)) (by omega) (by omega)) HBc.out NBc.out (by omega)).mono ?_
    rintro e w4 ⟨ABc, rfl, hi, hb⟩
    have K4 := kp7 K3 hb
    clear hb K3
    have K4n := ka7 K4 hi
    clear hi K4
    have K4 := K4n
    clear K4n
    go_wp2_with fail
    refine (giveL_at (union_any AAb A3 Ab Lc nAb nLc nAb c3 _ (K4.out.r (AAb, Ab, nAb, nAb) (by simp)) (K4.out.r (A3, Lc, nLc, c3) (by simp)) (by omega) (by omega)) HLl.out NLl.out (by omega)).mono ?_
    rintro e w5 ⟨ALl, rfl, hi, hb⟩
    have K5 := kp7 K4 hb
    clear hb K4
    have K5n := ka7 K5 hi
    clear hi K5
    have K5 := K5n
    clear K5n
    go_wp2_with fail
    refine (giveL_at (union_any A1 ABc La Bc nLa nBc c1 nBc _ (K5.out.r (A1, La, nLa, c1) (by simp)) (K5.out.r (ABc, Bc, nBc, nBc) (by simp)) (by omega) (by omega)) HLr.out NLr.out (by omega)).mono ?_
    rintro e w6 ⟨ALr, rfl, hi, hb⟩
    have K6 := kp7 K5 hb
    clear hb K5
    have K6n := ka7 K6 hi
    clear hi K6
    have K6 := K6n
    clear K6n
    go_wp2_with fail
    refine (giveB_at (same7_any AAb ABa Ab Ba nAb nBa nAb nBa _ (K6.out.r (AAb, Ab, nAb, nAb) (by simp)) (K6.out.r (ABa, Ba, nBa, nBa) (by simp)) (by omega)) EAbBa.out).mono ?_
    rintro e w7 ⟨rfl, hb⟩
    have K7 := kp7 K6 hb
    clear hb K6
    go_wp2_with fail
    refine (giveB_at (same7_any ALl ALr Ll Lr nLl nLr nLl nLr _ (K7.out.r (ALl, Ll, nLl, nLl) (by simp)) (K7.out.r (ALr, Lr, nLr, nLr) (by simp)) (by omega)) ELlLr.out).mono ?_
    rintro e w8 ⟨rfl, hb⟩
    have K8 := kp7 K7 hb
    clear hb K7
    go_wp2_with fail
    refine (giveL_at (common_any A1 A2 La Lb nLa nLb c1 c2 _ (K8.out.r (A1, La, nLa, c1) (by simp)) (K8.out.r (A2, Lb, nLb, c2) (by simp)) (by omega) (by omega)) HPp.out NPp.out (by omega)).mono ?_
    rintro e w9 ⟨APp, rfl, hi, hb⟩
    have K9 := kp7 K8 hb
    clear hb K8
    have K9n := ka7 K9 hi
    clear hi K9
    have K9 := K9n
    clear K9n
    go_wp2_with fail
    refine (giveL_at (common_any A2 A1 Lb La nLb nLa c2 c1 _ (K9.out.r (A2, Lb, nLb, c2) (by simp)) (K9.out.r (A1, La, nLa, c1) (by simp)) (by omega) (by omega)) HQq.out NQq.out (by omega)).mono ?_
    rintro e w10 ⟨AQq, rfl, hi, hb⟩
    have K10 := kp7 K9 hb
    clear hb K9
    have K10n := ka7 K10 hi
    clear hi K10
    have K10 := K10n
    clear K10n
    go_wp2_with fail
    refine (giveL_at (common_any A2 A3 Lb Lc nLb nLc c2 c3 _ (K10.out.r (A2, Lb, nLb, c2) (by simp)) (K10.out.r (A3, Lc, nLc, c3) (by simp)) (by omega) (by omega)) HBd.out NBd.out (by omega)).mono ?_
    rintro e w11 ⟨ABd, rfl, hi, hb⟩
    have K11 := kp7 K10 hb
    clear hb K10
    have K11n := ka7 K11 hi
    clear hi K11
    have K11 := K11n
    clear K11n
    go_wp2_with fail
    refine (giveL_at (common_any APp A3 Pp Lc nPp nLc nPp c3 _ (K11.out.r (APp, Pp, nPp, nPp) (by simp)) (K11.out.r (A3, Lc, nLc, c3) (by simp)) (by omega) (by omega)) HMl.out NMl.out (by omega)).mono ?_
    rintro e w12 ⟨AMl, rfl, hi, hb⟩
    have K12 := kp7 K11 hb
    clear hb K11
    have K12n := ka7 K12 hi
    clear hi K12
    have K12 := K12n
    clear K12n
    go_wp2_with fail
    refine (giveL_at (common_any A1 ABd La Bd nLa nBd c1 nBd _ (K12.out.r (A1, La, nLa, c1) (by simp)) (K12.out.r (ABd, Bd, nBd, nBd) (by simp)) (by omega) (by omega)) HMr.out NMr.out (by omega)).mono ?_
    rintro e w13 ⟨AMr, rfl, hi, hb⟩
    have K13 := kp7 K12 hb
    clear hb K12
    have K13n := ka7 K13 hi
    clear hi K13
    have K13 := K13n
    clear K13n
    go_wp2_with fail
    refine (giveB_at (same7_any APp AQq Pp Qq nPp nQq nPp nQq _ (K13.out.r (APp, Pp, nPp, nPp) (by simp)) (K13.out.r (AQq, Qq, nQq, nQq) (by simp)) (by omega)) EPpQq.out).mono ?_
    rintro e w14 ⟨rfl, hb⟩
    have K14 := kp7 K13 hb
    clear hb K13
    go_wp2_with fail
    refine (giveB_at (same7_any AMl AMr Ml Mr nMl nMr nMl nMr _ (K14.out.r (AMl, Ml, nMl, nMl) (by simp)) (K14.out.r (AMr, Mr, nMr, nMr) (by simp)) (by omega)) EMlMr.out).mono ?_
    rintro e w15 ⟨rfl, hb⟩
    have K15 := kp7 K14 hb
    clear hb K14
    go_wp2_with fail
    refine (giveL_at (union_any A1 APp La Pp nLa nPp c1 nPp _ (K15.out.r (A1, La, nLa, c1) (by simp)) (K15.out.r (APp, Pp, nPp, nPp) (by simp)) (by omega) (by omega)) HSa.out NSa.out (by omega)).mono ?_
    rintro e w16 ⟨ASa, rfl, hi, hb⟩
    have K16 := kp7 K15 hb
    clear hb K15
    have K16n := ka7 K16 hi
    clear hi K16
    have K16 := K16n
    clear K16n
    go_wp2_with fail
    refine (giveL_at (common_any A1 AAb La Ab nLa nAb c1 nAb _ (K16.out.r (A1, La, nLa, c1) (by simp)) (K16.out.r (AAb, Ab, nAb, nAb) (by simp)) (by omega) (by omega)) HSb.out NSb.out (by omega)).mono ?_
    rintro e w17 ⟨ASb, rfl, hi, hb⟩
    have K17 := kp7 K16 hb
    clear hb K16
    have K17n := ka7 K17 hi
    clear hi K17
    have K17 := K17n
    clear K17n
    go_wp2_with fail
    refine (giveL_at (common_any A1 A3 La Lc nLa nLc c1 c3 _ (K17.out.r (A1, La, nLa, c1) (by simp)) (K17.out.r (A3, Lc, nLc, c3) (by simp)) (by omega) (by omega)) HAc.out NAc.out (by omega)).mono ?_
    rintro e w18 ⟨AAc, rfl, hi, hb⟩
    have K18 := kp7 K17 hb
    clear hb K17
    have K18n := ka7 K18 hi
    clear hi K18
    have K18 := K18n
    clear K18n
    go_wp2_with fail
    refine (giveL_at (common_any A1 ABc La Bc nLa nBc c1 nBc _ (K18.out.r (A1, La, nLa, c1) (by simp)) (K18.out.r (ABc, Bc, nBc, nBc) (by simp)) (by omega) (by omega)) HLe.out NLe.out (by omega)).mono ?_
    rintro e w19 ⟨ALe, rfl, hi, hb⟩
    have K19 := kp7 K18 hb
    clear hb K18
    have K19n := ka7 K19 hi
    clear hi K19
    have K19 := K19n
    clear K19n
    go_wp2_with fail
    refine (giveL_at (union_any APp AAc Pp Ac nPp nAc nPp nAc _ (K19.out.r (APp, Pp, nPp, nPp) (by simp)) (K19.out.r (AAc, Ac, nAc, nAc) (by simp)) (by omega) (by omega)) HRi.out NRi.out (by omega)).mono ?_
    rintro e w20 ⟨ARi, rfl, hi, hb⟩
    have K20 := kp7 K19 hb
    clear hb K19
    have K20n := ka7 K20 hi
    clear hi K20
    have K20 := K20n
    clear K20n
    go_wp2_with fail
    refine (giveB_at (same7_any ASa A1 Sa La nSa nLa nSa c1 _ (K20.out.r (ASa, Sa, nSa, nSa) (by simp)) (K20.out.r (A1, La, nLa, c1) (by simp)) (by omega)) ESaLa.out).mono ?_
    rintro e w21 ⟨rfl, hb⟩
    have K21 := kp7 K20 hb
    clear hb K20
    go_wp2_with fail
    refine (giveB_at (same7_any ASb A1 Sb La nSb nLa nSb c1 _ (K21.out.r (ASb, Sb, nSb, nSb) (by simp)) (K21.out.r (A1, La, nLa, c1) (by simp)) (by omega)) ESbLa.out).mono ?_
    rintro e w22 ⟨rfl, hb⟩
    have K22 := kp7 K21 hb
    clear hb K21
    go_wp2_with fail
    refine (giveB_at (same7_any ALe ARi Le Ri nLe nRi nLe nRi _ (K22.out.r (ALe, Le, nLe, nLe) (by simp)) (K22.out.r (ARi, Ri, nRi, nRi) (by simp)) (by omega)) ELeRi.out).mono ?_
    rintro e w23 ⟨rfl, hb⟩
    have K23 := kp7 K22 hb
    clear hb K22
    go_wp2_with fail
    refine (lives_at7 _ K23.out.e).mono ?_
    rintro e w24 ⟨rfl, hb⟩
    have K24 := kp7 K23 hb
    clear hb K23
    go_wp2_with fail
    go_ret
    exact ⟨rfl, K24.out.b⟩

open Go.ChangeShapes Go.WideShapes Go.ChangeAt Go.WideMaps Go.WideElems
set_option maxRecDepth 100000 in
theorem oidsetsLattice_lifted (os : Os) (started : os.Started) (H : Type) (enc : TypeId × Value → H) :
    ReturnsInHanded {} Tryz.checked os 6 .any (fun w args => (Rows.oidsetsLatticeSpec.pre enc Tryz.prog Tryz.f6 [] false w args ∧ laidMetH Tryz.prog laidL w) ∧ sizedMet enc Tryz.prog Tryz.f6 (OpenSpec.ofChange Rows.oidsetsLatticeSpec) false w args)
      (Rows.oidsetsLatticeSpec.post enc Tryz.prog Tryz.f6 false true false false) := by
  refine returnsInHanded_of_change_and (C := Tryz.checked) (X := fun w _ => laidMetH Tryz.prog laidL w) (fun _ _ _ hh h => h.of_heap hh) x_own started (by kernel_rfl) Tryz.func6
    (ChangeSpec.witness_shaped (enc := enc) (C := Tryz.checked) (os := os) (X := fun w _ => laidMetH Tryz.prog laidL w) false (World.laidAll Tryz.prog os laidL) #[.agg #[.int .u8 0], .agg #[.int .u8 0], .agg #[.int .u8 0]] 8 (World.laidAll_os _ _ _) (World.shaped_of_ZipB (by kernel_rfl) (by kernel_rfl)) (by kernel_rfl) (by kernel_rfl) (by kernel_rfl) (door_met os _)) ?_
  intro W base args ds gs before hval0 hW _ _ hL _
  have hval : ∀ (j : Nat) t v, Tryz.f6.params[j]? = some t → args[j]? = some v → Value.okWide Tryz.prog W .any base t v := hval0
  have hW' := hW
  obtain ⟨p, q, hA0, hV, rfl, hfz, hnd⟩ := hW
  have hA : DataW.TrodAll enc Tryz.prog W 0 (fun _ => true) true Tryz.f6.params.toList args.toList ds p := hA0
  rw [Tryz.params6] at hA hval
  obtain ⟨v0, v1, v2, d0, d1, d2, p0, p1, p2, rfl, rfl, rfl, h0, h1, h2⟩ := trodAll_three hA
  obtain ⟨rfl, rfl⟩ := trodVars_none hV
  obtain ⟨x, rfl, hx⟩ := open_S (hval 0 _ v0 rfl rfl) h0
  obtain ⟨y, rfl, hy⟩ := open_S (hval 1 _ v1 rfl rfl) h1
  obtain ⟨z, rfl, hz⟩ := open_S (hval 2 _ v2 rfl rfl) h2
  have hE := of_laid hL
  clear hA0 hval0
  simp only [List.append_nil] at hW'
  refine (latt7_walk x y z W hE hx hy hz).mono fun e W' ⟨he, hb⟩ => ?_
  subst he
  exact ⟨_, rfl, law_post (tb := 4) x_laid (by decide +kernel) rfl rfl (by kernel_rfl) Tryz.underlying4 hW' hb⟩

/-- The row's statement. -/
theorem oidsetsLattice_row : Rows.OidsetsLatticeSaid :=
  OpenClaim.holds_of_wide 6 Tryz.f6 rfl rfl rfl rfl rfl rfl rfl ⟨rfl, rfl, rfl, rfl, rfl⟩ rfl rfl rfl rfl rfl (by kernel_rfl) Tryz.func6 (by kernel_rfl)
    (of_decide_eq_true (by kernel_rfl)) (by unfold Func.isWrapper; first | (rw [if_pos (by decide +kernel)]; kernel_rfl) | (rw [if_neg (by decide +kernel)]; exact ⟨rfl, rfl⟩))
    (fun os started H enc _ => oidsetsLattice_lifted os started H enc)

/-- The statement: the card. -/
theorem oidsetsLattice_holds : Rows.OidsetsLatticeCardSaid :=
  Claim7.holds_tied_plain_at .later [] [.data, .data, .data, .data, .sentinel, .sentinel, .pinned] true Rows.oidsetsLatticeCard.stood.harness true
    oidsetsLattice_row (fun _ h => by cases h) (by kernel_rfl) (fun _ h => by cases h) oidsetsLattice_row_tie rfl ⟨rfl, rfl⟩ (by kernel_rfl) rfl
    (fun f fn hf hfn => by
      obtain rfl : f = 6 := Option.some.inj ((show Tryz.prog.funcNamed "vidimus/vidimuslaw07.OidsetsLattice" = some 6 by kernel_rfl).symm.trans hf) |>.symm
      obtain rfl : fn = Tryz.f6 := (Option.some.inj (Tryz.func6.symm.trans hfn)).symm
      exact ⟨by kernel_rfl, fun j t ht => by
        rw [Tryz.params6] at ht
        have hm : t ∈ Tryz.f6.params.toList := by rw [Tryz.params6]; exact Array.mem_toList_iff.2 (Array.mem_of_getElem? ht)
        have hall : (Tryz.f6.params.toList.all fun u => !Tryz.prog.wantsStandIn u) = true := by kernel_rfl
        exact (show Tryz.prog.wantsStandIn t = false by simpa using List.all_eq_true.1 hall t hm)⟩)
    (by kernel_rfl)
end Go.Proofs.YtaiiihdckdjpoaaGreatDoor
