/-
  Layer 9, the statement CharstringsOf: elements of other tags, or with Subs, are refused; others are read by their content; the examples hold.
  Conditions: the package-level variables that the row lists hold what the program's text lays (the card ties them).
-/
import Derived.Test.YthefnfjhnallfaaDoorChsLi
import Derived.Deep.DeepCutAuto
namespace Go.Proofs.YthefnfjhnallfaaDoor.Chs
open Go.RowKit Go.Shelf

set_option linter.unusedSimpArgs false in
set_option linter.unusedVariables false in
set_option maxHeartbeats 6400000 in
set_option maxRecDepth 100000 in
theorem of_walk (c n : Nat) (co : Bool) (hn : n < 4294967296) (A B : Option Addr) (l : List Nat) (N cA M cB : Nat) (w : World) (hA : Rb w A l) (hN : l.length = N) (hc : N ≤ cA) (hm : cA ≤ maxLen) (hT : Tab w) :
    Calls Tryd.prog 6 #[.agg (eV c n co (.slice A N cA) (.slice B M cB)).toArray] w fun e w' => e = .returned (.bool true) ∧ Below w.heap.size w w' := by
  have K0 := ka (Lib.hid (St.start hT)) (Lib.hid hA.1)
  have HT0 := Lib.hid hT
  have H8 := Lib.hid hA.2
  have HN := Lib.hid hN
  have HC := Lib.hid hc
  have HM := Lib.hid hm
  obtain ⟨Sz, hSz⟩ : ∃ s, S0 = s := ⟨_, rfl⟩
  have HSZ0 := Lib.hid hSz
  have HSZ : Hid (bstr [] = Sz) := Lib.hid (by rw [← hSz]; rfl)
  have hz : ∀ w : World, (zeroValue 24).run Tryd.prog w = .ok (.agg #[.int .u32 0, .string Sz]) w := by rw [← hSz]; exact zeroCh
  clear hSz
  have CK := Lib.hid (fun W => rkind_any n W)
  obtain ⟨⟨kO, mO, fO⟩, hq⟩ : ∃ T, of9 c n co l M = T := ⟨_, rfl⟩
  have HQ := Lib.hid hq
  obtain ⟨SO, hSO⟩ : ∃ S, bstr mO = S := ⟨_, rfl⟩
  have HSO := Lib.hid hSO
  obtain ⟨⟨kR, mR, fR⟩, hqr⟩ : ∃ T, get9 n l = T := ⟨_, rfl⟩
  have HQR := Lib.hid hqr
  obtain ⟨SR, hSR⟩ : ∃ S, bstr mR = S := ⟨_, rfl⟩
  have HSR := Lib.hid hSR
  clear hA hN hc hm hT hq hSO hqr hSR
  go_enter Tryd.func6, Tryd.ntmps6
  go_upto_region 1 with fail
  obtain ⟨g1, hg1⟩ : ∃ g, w.heap.size = g := ⟨_, rfl⟩
  obtain ⟨w1, hw1⟩ : ∃ v, w.alloc (.cells (eV c n co (.slice A N cA) (.slice B M cB)).toArray 40) = v := ⟨_, rfl⟩
  have hbk : Hid (Bk w1 g1 40 (eV c n co (.slice A N cA) (.slice B M cB))) := Lib.hid (by rw [← hw1, ← hg1]; exact Bk.new w _ (eV c n co (.slice A N cA) (.slice B M cB)))
  have hb : Hid (Below w.heap.size w w1) := Lib.hid (by rw [← hw1]; exact bel1 w _)
  have GE_g1 : Hid (w.heap.size ≤ g1) := Lib.hid (by rw [← hg1]; exact K0.out.b.size)
  rw [hw1, hg1]
  have K1 := kp K0 hb
  clear hb K0
  have Kn := kb K1 hbk
  clear hbk K1 hg1 hw1
  have K1 := Kn
  clear Kn
  have c_g1_3 : w1.cell? ⟨g1, 3, none⟩ = some (.slice A N cA) := by rw [(K1.out.k (g1, 40, eV c n co (.slice A N cA) (.slice B M cB)) (by simp)).cell]; rfl
  by_cases h100 : 100 < N
  · have hi : (100 : Int) < (N : Int) := by omega
    clear h100
    go_wp2_with fail
    refine (lives_at w1 K1.out.t).mono ?_
    rintro e w2 ⟨rfl, hb⟩
    have K2 := kp K1 hb
    clear hb K1
    go_wp2_with fail
    go_ret
    exact ⟨rfl, K2.out.b⟩
  · have hi : ¬ (100 : Int) < (N : Int) := by omega
    clear h100
    go_wp2_with (refine wpList_loadGg (by rfl) (.tmp 1) rfl rfl (rangeB (K1.out.k (g1, 40, eV c n co (.slice A N cA) (.slice B M cB)) (by simp))) Tryd.underlying40 rfl infoE ?_)
    clear c_g1_3
    refine (of_at w1 c n co hn l H8.out A B N cA M cB HN.out HC.out HM.out (K1.out.r (A, cs8 l) (by simp)) K1.out.t kO mO fO HQ.out SO HSO.out).mono ?_
    rintro e w2 ⟨rfl, hb⟩
    have K2 := kp K1 hb
    clear hb K1
    go_upto_region 4 with fail
    obtain ⟨g3, hg3⟩ : ∃ g, w2.heap.size = g := ⟨_, rfl⟩
    obtain ⟨w3, hw3⟩ : ∃ v, w2.alloc (.cells #[.int .u32 (kO : Int), .string SO] 24) = v := ⟨_, rfl⟩
    have hbk : Hid (Bk w3 g3 24 (chL kO SO)) := Lib.hid (by rw [← hw3, ← hg3]; exact Bk.new w2 _ (chL kO SO))
    have hb : Hid (Below w2.heap.size w2 w3) := Lib.hid (by rw [← hw3]; exact bel1 w2 _)
    have GE_g3 : Hid (w.heap.size ≤ g3) := Lib.hid (by rw [← hg3]; exact K2.out.b.size)
    rw [hw3, hg3]
    have LT_g1_g3 : Hid (g1 < g3) := Lib.hid (by rw [← hg3]; exact (K2.out.k (g1, 40, eV c n co (.slice A N cA) (.slice B M cB)) (by simp)).lt)
    have K3 := kp K2 hb
    clear hb K2
    have Kn := kb K3 hbk
    clear hbk K3 hg3 hw3
    have K3 := Kn
    clear Kn
    have c_g1_2 : w3.cell? ⟨g1, 2, none⟩ = some (.int .u32 (n : Int)) := by rw [(K3.out.k (g1, 40, eV c n co (.slice A N cA) (.slice B M cB)) (by simp)).cell]; rfl
    have c_g1_3 : w3.cell? ⟨g1, 3, none⟩ = some (.slice A N cA) := by rw [(K3.out.k (g1, 40, eV c n co (.slice A N cA) (.slice B M cB)) (by simp)).cell]; rfl
    go_wp2_with fail
    clear c_g1_2 c_g1_3
    refine (rget_at w3 n hn l H8.out A N cA HN.out HC.out HM.out (K3.out.r (A, cs8 l) (by simp)) kR mR fR HQR.out SR HSR.out).mono ?_
    rintro e w4 ⟨rfl, hb⟩
    have K4 := kp K3 hb
    clear hb K3
    go_upto_region 5 with fail
    obtain ⟨g5, hg5⟩ : ∃ g, w4.heap.size = g := ⟨_, rfl⟩
    obtain ⟨w5, hw5⟩ : ∃ v, w4.alloc (.cells #[.int .u32 (kR : Int), .string SR] 24) = v := ⟨_, rfl⟩
    have hbk : Hid (Bk w5 g5 24 (chL kR SR)) := Lib.hid (by rw [← hw5, ← hg5]; exact Bk.new w4 _ (chL kR SR))
    have hb : Hid (Below w4.heap.size w4 w5) := Lib.hid (by rw [← hw5]; exact bel1 w4 _)
    have GE_g5 : Hid (w.heap.size ≤ g5) := Lib.hid (by rw [← hg5]; exact K4.out.b.size)
    rw [hw5, hg5]
    have LT_g1_g5 : Hid (g1 < g5) := Lib.hid (by rw [← hg5]; exact (K4.out.k (g1, 40, eV c n co (.slice A N cA) (.slice B M cB)) (by simp)).lt)
    have LT_g3_g5 : Hid (g3 < g5) := Lib.hid (by rw [← hg5]; exact (K4.out.k (g3, 24, chL kO SO) (by simp)).lt)
    have K5 := kp K4 hb
    clear hb K4
    have Kn := kb K5 hbk
    clear hbk K5 hg5 hw5
    have K5 := Kn
    clear Kn
    have c_g1_2 : w5.cell? ⟨g1, 2, none⟩ = some (.int .u32 (n : Int)) := by rw [(K5.out.k (g1, 40, eV c n co (.slice A N cA) (.slice B M cB)) (by simp)).cell]; rfl
    go_upto_region 6 with fail
    obtain ⟨g7, hg7⟩ : ∃ g, w5.heap.size = g := ⟨_, rfl⟩
    obtain ⟨w6, hw6⟩ : ∃ v, w5.alloc (.cells #[.int .u8 0, .bool false, .int .u32 (n : Int)] 37) = v := ⟨_, rfl⟩
    have hbk : Hid (Bk w6 g7 37 ([.int .u8 0, .bool false, .int .u32 (n : Int)])) := Lib.hid (by rw [← hw6, ← hg7]; exact Bk.new w5 _ ([.int .u8 0, .bool false, .int .u32 (n : Int)]))
    have hb : Hid (Below w5.heap.size w5 w6) := Lib.hid (by rw [← hw6]; exact bel1 w5 _)
    have GE_g7 : Hid (w.heap.size ≤ g7) := Lib.hid (by rw [← hg7]; exact K5.out.b.size)
    rw [hw6, hg7]
    have LT_g1_g7 : Hid (g1 < g7) := Lib.hid (by rw [← hg7]; exact (K5.out.k (g1, 40, eV c n co (.slice A N cA) (.slice B M cB)) (by simp)).lt)
    have LT_g3_g7 : Hid (g3 < g7) := Lib.hid (by rw [← hg7]; exact (K5.out.k (g3, 24, chL kO SO) (by simp)).lt)
    have LT_g5_g7 : Hid (g5 < g7) := Lib.hid (by rw [← hg7]; exact (K5.out.k (g5, 24, chL kR SR) (by simp)).lt)
    have K6 := kp K5 hb
    clear hb K5
    have Kn := kb K6 hbk
    clear hbk K6 hg7 hw6
    have K6 := Kn
    clear Kn
    clear c_g1_2
    have c_g1_4 : w6.cell? ⟨g1, 4, none⟩ = some (.slice B M cB) := by rw [(K6.out.k (g1, 40, eV c n co (.slice A N cA) (.slice B M cB)) (by simp)).cell]; rfl
    go_upto_if 34 with fail
    go_cut [6] (fun v wx => ∃ (kk : Nat) (mm : List Nat) (ff : Nat) (SS : ByteArray), v = .int .i64 (ff : Int) ∧ (if 0 < M then (0, [], 1) else get9 n l) = (kk, mm, ff) ∧ bstr mm = SS ∧ St w [] [(g7, 37, [.int .u8 0, .bool false, .int .u32 (n : Int)]), (g5, 24, chL kk SS), (g3, 24, chL kO SO), (g1, 40, eV c n co (.slice A N cA) (.slice B M cB))] wx)
    case first =>
      by_cases hM : 0 < M
      · have hMi : (0 : Int) < (M : Int) := by omega
        have HE : Hid ((if 0 < M then (0, [], 1) else get9 n l) = (0, [], 1)) := Lib.hid (if_pos hM)
        clear hM
        go_wp2_with (refine wpList_storeG rfl (.tmp 5) (.tmp 35) rfl rfl (ds := chL 0 Sz) rfl (K6.out.k (g5, 24, chL kR SR) (by simp)) infoCh rfl (chL_one _ _) ?_; intro w7 RZ hgz hzz; have KZ0 := Lib.hid (K6.out.put HT0.out GE_g5.out hgz); have KZ1 := kb KZ0 (Lib.hid ((K6.out.k (g1, 40, eV c n co (.slice A N cA) (.slice B M cB)) (by simp)).only hgz (by intro e; injection e with e; have := LT_g1_g5.out; omega))); have KZ2 := kb KZ1 (Lib.hid ((K6.out.k (g3, 24, chL kO SO) (by simp)).only hgz (by intro e; injection e with e; have := LT_g3_g5.out; omega))); have KZ3 := kb KZ2 (Lib.hid RZ); have KZ4 := kb KZ3 (Lib.hid ((K6.out.k (g7, 37, [.int .u8 0, .bool false, .int .u32 (n : Int)]) (by simp)).only hgz (by intro e; injection e with e; have := LT_g5_g7.out; omega))); have K7 := KZ4; clear hgz hzz RZ K6 KZ0 KZ1 KZ2 KZ3 KZ4)
        go_meet
        exact ⟨0, [], 1, Sz, rfl, HE.out, HSZ.out, K7.out⟩
      · have hMi : ¬ (0 : Int) < (M : Int) := by omega
        have HE : Hid ((if 0 < M then (0, [], 1) else get9 n l) = (kR, mR, fR)) := Lib.hid (by rw [if_neg hM]; exact HQR.out)
        clear hM
        go_wp2_with fail
        go_meet
        exact ⟨kR, mR, fR, SR, rfl, HE.out, HSR.out, K6.out.b, K6.out.t, fun _ h => absurd h (by simp), K6.out.k⟩
    case rest =>
      obtain ⟨kk, mm, ff, SS, rfl, hq2, hSS, hst⟩ := hcut
      have KC := Lib.hid hst
      have HQ2 := Lib.hid hq2
      have HSS := Lib.hid hSS
      clear hst hq2 hSS c_g1_4 K6
      have K100 := KC
      clear KC
      generalize wc = w100 at *
      have c_g1_2 : w100.cell? ⟨g1, 2, none⟩ = some (.int .u32 (n : Int)) := by rw [(K100.out.k (g1, 40, eV c n co (.slice A N cA) (.slice B M cB)) (by simp)).cell]; rfl
      by_cases hbad : isK n = false ∨ c ≠ 0 ∨ co = true
      · have hO : kO = 0 ∧ mO = [] ∧ fO = 9 := by
          have := HQ.out
          rw [of9_bad hbad] at this
          simp only [Prod.mk.injEq] at this
          exact ⟨this.1.symm, this.2.1.symm, this.2.2.symm⟩
        have heq : ∀ W, (binOp .eql 24 (.agg (chL kO SO).toArray) (.agg (chL 0 Sz).toArray)).run Tryd.prog W = .ok (.bool true) W := fun W => by
          rw [hO.1, ← HSO.out, hO.2.1, HSZ.out]; exact eqlS 0 Sz W
        have hfe : ((fO : Int) == 9) = true := by rw [hO.2.2]; rfl
        clear hO
        cases hK : isK n
        · rw [hK] at CK
          clear hbad hK
          go_wp2_with fail
          refine (CK.out _).mono ?_
          rintro e w' ⟨rfl, rfl⟩
          clear c_g1_2
          go_upto_region 10 with (first | (refine wpList_loadGg (by rfl) (.tmp 42) rfl rfl (range3 (K100.out.k (g1, 40, eV c n co (.slice A N cA) (.slice B M cB)) (by simp))) Tryd.underlying37 rfl infoT ?_) | (refine wpList_loadGg (by rfl) (.tmp 7) rfl rfl (rangeB (K100.out.k (g7, 37, [.int .u8 0, .bool false, .int .u32 (n : Int)]) (by simp))) Tryd.underlying37 rfl infoT ?_) | (refine wpList_storeG rfl (.tmp 5) (.tmp 47) rfl rfl (ds := chL 0 Sz) rfl (K100.out.k (g5, 24, chL kk SS) (by simp)) infoCh rfl (chL_one _ _) ?_; intro w101 RZ hgz hzz; have KZ0 := Lib.hid (K100.out.put HT0.out GE_g5.out hgz); have KZ1 := kb KZ0 (Lib.hid ((K100.out.k (g1, 40, eV c n co (.slice A N cA) (.slice B M cB)) (by simp)).only hgz (by intro e; injection e with e; have := LT_g1_g5.out; omega))); have KZ2 := kb KZ1 (Lib.hid ((K100.out.k (g3, 24, chL kO SO) (by simp)).only hgz (by intro e; injection e with e; have := LT_g3_g5.out; omega))); have KZ3 := kb KZ2 (Lib.hid RZ); have KZ4 := kb KZ3 (Lib.hid ((K100.out.k (g7, 37, [.int .u8 0, .bool false, .int .u32 (n : Int)]) (by simp)).only hgz (by intro e; injection e with e; have := LT_g5_g7.out; omega))); have K101 := KZ4; clear hgz hzz RZ K100 KZ0 KZ1 KZ2 KZ3 KZ4))
          go_wp2_with (first | (refine wpList_loadGg (by rfl) (.tmp 3) rfl rfl (rangeB (K101.out.k (g3, 24, chL kO SO) (by simp))) Tryd.underlying24 rfl infoCh ?_) | (refine wpList_loadGg (by rfl) (.tmp 5) rfl rfl (rangeB (K101.out.k (g5, 24, chL 0 Sz) (by simp))) Tryd.underlying24 rfl infoCh ?_))
          refine (lives_at w101 K101.out.t).mono ?_
          rintro e w102 ⟨rfl, hb⟩
          have K102 := kp K101 hb
          clear hb K101
          go_wp2_with fail
          go_ret
          exact ⟨rfl, K102.out.b⟩
        · have hbad2 : c ≠ 0 ∨ co = true := hbad.resolve_left (by rw [hK]; decide)
          rw [hK] at CK
          clear hbad hK
          by_cases hc0 : c = 0
          · have hkb : co = true := hbad2.resolve_left (fun h => h hc0)
            have hci : (c : Int) = 0 := by omega
            clear hbad2 hc0
            go_wp2_with fail
            refine (CK.out _).mono ?_
            rintro e w' ⟨rfl, rfl⟩
            clear c_g1_2
            go_upto_region 10 with (first | (refine wpList_loadGg (by rfl) (.tmp 42) rfl rfl (range3 (K100.out.k (g1, 40, eV c n co (.slice A N cA) (.slice B M cB)) (by simp))) Tryd.underlying37 rfl infoT ?_) | (refine wpList_loadGg (by rfl) (.tmp 7) rfl rfl (rangeB (K100.out.k (g7, 37, [.int .u8 0, .bool false, .int .u32 (n : Int)]) (by simp))) Tryd.underlying37 rfl infoT ?_) | (refine wpList_storeG rfl (.tmp 5) (.tmp 47) rfl rfl (ds := chL 0 Sz) rfl (K100.out.k (g5, 24, chL kk SS) (by simp)) infoCh rfl (chL_one _ _) ?_; intro w101 RZ hgz hzz; have KZ0 := Lib.hid (K100.out.put HT0.out GE_g5.out hgz); have KZ1 := kb KZ0 (Lib.hid ((K100.out.k (g1, 40, eV c n co (.slice A N cA) (.slice B M cB)) (by simp)).only hgz (by intro e; injection e with e; have := LT_g1_g5.out; omega))); have KZ2 := kb KZ1 (Lib.hid ((K100.out.k (g3, 24, chL kO SO) (by simp)).only hgz (by intro e; injection e with e; have := LT_g3_g5.out; omega))); have KZ3 := kb KZ2 (Lib.hid RZ); have KZ4 := kb KZ3 (Lib.hid ((K100.out.k (g7, 37, [.int .u8 0, .bool false, .int .u32 (n : Int)]) (by simp)).only hgz (by intro e; injection e with e; have := LT_g5_g7.out; omega))); have K101 := KZ4; clear hgz hzz RZ K100 KZ0 KZ1 KZ2 KZ3 KZ4))
            go_wp2_with (first | (refine wpList_loadGg (by rfl) (.tmp 3) rfl rfl (rangeB (K101.out.k (g3, 24, chL kO SO) (by simp))) Tryd.underlying24 rfl infoCh ?_) | (refine wpList_loadGg (by rfl) (.tmp 5) rfl rfl (rangeB (K101.out.k (g5, 24, chL 0 Sz) (by simp))) Tryd.underlying24 rfl infoCh ?_))
            refine (lives_at w101 K101.out.t).mono ?_
            rintro e w102 ⟨rfl, hb⟩
            have K102 := kp K101 hb
            clear hb K101
            go_wp2_with fail
            go_ret
            exact ⟨rfl, K102.out.b⟩
          · have hci : ¬ (c : Int) = 0 := by omega
            clear hbad2 hc0
            go_wp2_with fail
            refine (CK.out _).mono ?_
            rintro e w' ⟨rfl, rfl⟩
            clear c_g1_2
            go_upto_region 10 with (first | (refine wpList_loadGg (by rfl) (.tmp 42) rfl rfl (range3 (K100.out.k (g1, 40, eV c n co (.slice A N cA) (.slice B M cB)) (by simp))) Tryd.underlying37 rfl infoT ?_) | (refine wpList_loadGg (by rfl) (.tmp 7) rfl rfl (rangeB (K100.out.k (g7, 37, [.int .u8 0, .bool false, .int .u32 (n : Int)]) (by simp))) Tryd.underlying37 rfl infoT ?_) | (refine wpList_storeG rfl (.tmp 5) (.tmp 47) rfl rfl (ds := chL 0 Sz) rfl (K100.out.k (g5, 24, chL kk SS) (by simp)) infoCh rfl (chL_one _ _) ?_; intro w101 RZ hgz hzz; have KZ0 := Lib.hid (K100.out.put HT0.out GE_g5.out hgz); have KZ1 := kb KZ0 (Lib.hid ((K100.out.k (g1, 40, eV c n co (.slice A N cA) (.slice B M cB)) (by simp)).only hgz (by intro e; injection e with e; have := LT_g1_g5.out; omega))); have KZ2 := kb KZ1 (Lib.hid ((K100.out.k (g3, 24, chL kO SO) (by simp)).only hgz (by intro e; injection e with e; have := LT_g3_g5.out; omega))); have KZ3 := kb KZ2 (Lib.hid RZ); have KZ4 := kb KZ3 (Lib.hid ((K100.out.k (g7, 37, [.int .u8 0, .bool false, .int .u32 (n : Int)]) (by simp)).only hgz (by intro e; injection e with e; have := LT_g5_g7.out; omega))); have K101 := KZ4; clear hgz hzz RZ K100 KZ0 KZ1 KZ2 KZ3 KZ4))
            go_wp2_with (first | (refine wpList_loadGg (by rfl) (.tmp 3) rfl rfl (rangeB (K101.out.k (g3, 24, chL kO SO) (by simp))) Tryd.underlying24 rfl infoCh ?_) | (refine wpList_loadGg (by rfl) (.tmp 5) rfl rfl (rangeB (K101.out.k (g5, 24, chL 0 Sz) (by simp))) Tryd.underlying24 rfl infoCh ?_))
            refine (lives_at w101 K101.out.t).mono ?_
            rintro e w102 ⟨rfl, hb⟩
            have K102 := kp K101 hb
            clear hb K101
            go_wp2_with fail
            go_ret
            exact ⟨rfl, K102.out.b⟩
      · have hK : isK n = true := by cases h : isK n with | true => rfl | false => exact absurd (.inl h) hbad
        have hc0 : c = 0 := by
          by_cases h : c = 0
          · exact h
          · exact absurd (.inr (.inl h)) hbad
        have hkb : co = false := by cases h : co with | false => rfl | true => exact absurd (.inr (.inr h)) hbad
        have hO : kO = kk ∧ mO = mm ∧ fO = ff := by
          have h1 := HQ.out
          have h2 := HQ2.out
          rw [hc0, hkb] at h1
          by_cases hM : 0 < M
          · rw [of9_subs hK hM] at h1
            rw [if_pos hM, h1] at h2
            simp only [Prod.mk.injEq] at h2
            exact h2
          · rw [of9_get hK hM] at h1
            rw [if_neg hM, h1] at h2
            simp only [Prod.mk.injEq] at h2
            exact h2
        have heq : ∀ W, (binOp .eql 24 (.agg (chL kO SO).toArray) (.agg (chL kk SS).toArray)).run Tryd.prog W = .ok (.bool true) W := fun W => by
          rw [hO.1, ← HSO.out, hO.2.1, HSS.out]; exact eqlS kk SS W
        have hfe : ((fO : Int) == (ff : Int)) = true := by rw [hO.2.2]; simp
        have hfe2 : (fO : Int) = (ff : Int) := by rw [hO.2.2]
        rw [hK] at CK
        have hci : (c : Int) = 0 := by omega
        
        clear hO hbad hK hc0
        go_wp2_with fail
        refine (CK.out _).mono ?_
        rintro e w' ⟨rfl, rfl⟩
        clear c_g1_2
        go_upto_region 10 with (first | (refine wpList_loadGg (by rfl) (.tmp 42) rfl rfl (range3 (K100.out.k (g1, 40, eV c n co (.slice A N cA) (.slice B M cB)) (by simp))) Tryd.underlying37 rfl infoT ?_) | (refine wpList_loadGg (by rfl) (.tmp 7) rfl rfl (rangeB (K100.out.k (g7, 37, [.int .u8 0, .bool false, .int .u32 (n : Int)]) (by simp))) Tryd.underlying37 rfl infoT ?_))
        go_wp2_with (first | (refine wpList_loadGg (by rfl) (.tmp 3) rfl rfl (rangeB (K100.out.k (g3, 24, chL kO SO) (by simp))) Tryd.underlying24 rfl infoCh ?_) | (refine wpList_loadGg (by rfl) (.tmp 5) rfl rfl (rangeB (K100.out.k (g5, 24, chL kk SS) (by simp))) Tryd.underlying24 rfl infoCh ?_))
        refine (lives_at w100 K100.out.t).mono ?_
        rintro e w101 ⟨rfl, hb⟩
        have K101 := kp K100 hb
        clear hb K100
        go_wp2_with fail
        go_ret
        exact ⟨rfl, K101.out.b⟩

open Go.ChangeShapes Go.WideShapes Go.ChangeAt Go.WideMaps Go.WideElems
set_option maxRecDepth 100000 in
theorem charstringsOf_lifted (os : Os) (started : os.Started) (H : Type) (enc : TypeId × Value → H) :
    ReturnsInHanded {} Tryd.checked os 6 .any (fun w args => (Rows.charstringsOfSpec.pre enc Tryd.prog Tryd.f6 [] false w args ∧ laidMetH Tryd.prog laidL w) ∧ sizedMet enc Tryd.prog Tryd.f6 (OpenSpec.ofChange Rows.charstringsOfSpec) false w args)
      (Rows.charstringsOfSpec.post enc Tryd.prog Tryd.f6 false true false false) := by
  refine returnsInHanded_of_change_and (C := Tryd.checked) (X := fun w _ => laidMetH Tryd.prog laidL w) (fun _ _ _ hh h => h.of_heap hh) x_own started (by kernel_rfl) Tryd.func6
    (ChangeSpec.witness_shaped (enc := enc) (C := Tryd.checked) (os := os) (X := fun w _ => laidMetH Tryd.prog laidL w) false (World.laidAll Tryd.prog os laidL) #[.agg #[.int .u8 0, .bool false, .int .u32 0, .slice none 0 0, .slice none 0 0]] 8 (World.laidAll_os _ _ _) (World.shaped_of_ZipB (by kernel_rfl) (by kernel_rfl)) (by kernel_rfl) (by kernel_rfl) (by kernel_rfl) (door_met os _)) ?_
  intro W base args ds gs before hval0 hW _ _ hL _
  have hval : ∀ (j : Nat) t v, Tryd.f6.params[j]? = some t → args[j]? = some v → Value.okWide Tryd.prog W .any base t v := hval0
  have hW' := hW
  obtain ⟨p, q, hA0, hV, rfl, hfz, hnd⟩ := hW
  have hA : DataW.TrodAll enc Tryd.prog W 0 (fun _ => true) true Tryd.f6.params.toList args.toList ds p := hA0
  rw [Tryd.params6] at hA hval
  obtain ⟨v0, d0, rfl, rfl, h0⟩ := trodAll_one hA
  obtain ⟨rfl, rfl⟩ := trodVars_none hV
  obtain ⟨c, n, co, A, B, l, ca, M, cb, rfl, hc, hn, hR, hlc, hcm⟩ := open_elem (hval 0 _ v0 rfl rfl) h0
  have hE := of_laid hL
  clear hA0 hval0
  simp only [List.append_nil] at hW'
  refine (of_walk c n co hn A B l l.length ca M cb W hR rfl hlc hcm hE).mono fun e W' ⟨he, hb⟩ => ?_
  subst he
  exact ⟨_, rfl, law_post (tb := 4) x_laid (by decide +kernel) rfl rfl (by kernel_rfl) Tryd.underlying4 hW' hb⟩

/-- The row's statement. -/
theorem charstringsOf_row : Rows.CharstringsOfSaid :=
  OpenClaim.holds_of_wide 6 Tryd.f6 rfl rfl rfl rfl rfl rfl rfl ⟨rfl, rfl, rfl, rfl, rfl⟩ rfl rfl rfl rfl rfl (by kernel_rfl) Tryd.func6 (by kernel_rfl)
    (of_decide_eq_true (by kernel_rfl)) (by unfold Func.isWrapper; first | (rw [if_pos (by decide +kernel)]; kernel_rfl) | (rw [if_neg (by decide +kernel)]; exact ⟨rfl, rfl⟩))
    (fun os started H enc _ => charstringsOf_lifted os started H enc)

/-- The statement: the card. -/
theorem charstringsOf_holds : Rows.CharstringsOfCardSaid :=
  Claim7.holds_tied_plain_at .later [] [.data, .pinned] true Rows.charstringsOfCard.stood.harness Rows.charstringsOfCard.stood.looks
    charstringsOf_row (fun _ h => by cases h) (by kernel_rfl) (fun _ h => by cases h) charstringsOf_row_tie rfl ⟨rfl, rfl⟩ (by kernel_rfl) rfl
    (fun f fn hf hfn => by
      obtain rfl : f = 6 := Option.some.inj ((show Tryd.prog.funcNamed "vidimus/vidimuslaw09.CharstringsOf" = some 6 by kernel_rfl).symm.trans hf) |>.symm
      obtain rfl : fn = Tryd.f6 := (Option.some.inj (Tryd.func6.symm.trans hfn)).symm
      exact ⟨by kernel_rfl, fun j t ht => by
        rw [Tryd.params6] at ht
        have hm : t ∈ Tryd.f6.params.toList := by rw [Tryd.params6]; exact Array.mem_toList_iff.2 (Array.mem_of_getElem? ht)
        have hall : (Tryd.f6.params.toList.all fun u => !Tryd.prog.wantsStandIn u) = true := by kernel_rfl
        exact (show Tryd.prog.wantsStandIn t = false by simpa using List.all_eq_true.1 hall t hm)⟩)
    (by kernel_rfl)
end Go.Proofs.YthefnfjhnallfaaDoor.Chs
