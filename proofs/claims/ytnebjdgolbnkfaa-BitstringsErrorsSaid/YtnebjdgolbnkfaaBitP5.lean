/-
  Layer 8, the statement BitstringsErrors: bit strings that are not valid, and elements of other tags, or with Subs, are refused, with the first error; the examples of the chapter hold.
  Conditions: none.
-/
import Derived.Test.YtnebjdgolbnkfaaBitR
import Derived.Deep.RegionHeld3
import Derived.Deep.RegionWith
import Derived.Deep.DeepCutAuto
namespace Go.Proofs.Ytnebjdgolbnkfaa.Bit
open Go.RowKit

theorem bt_bad {l : List Nat} {n i : Int} (h : chkB l n ≠ 0) : btB l n i = false := by unfold btB; rw [decide_eq_false h]; rfl
theorem three {w : World} {g : Nat} {t : TypeId} {a b c : Value} (h : Bk w g t [a, b, c]) : w.cell? ⟨g, 0, none⟩ = some a ∧ w.cell? ⟨g, 1, none⟩ = some b ∧ w.cell? ⟨g, 2, none⟩ = some c ∧ g < w.heap.size := ⟨h.cell 0, h.cell 1, h.cell 2, h.lt⟩
theorem rbytes_nil (w : World) : Calls Try.prog 9 #[.slice none 0 0] w (GiveB w []) := rbytes_any none [] 0 0 w Rd.nil Lt.nil rfl (by omega)
set_option linter.unusedSimpArgs false in
set_option maxHeartbeats 6400000 in
set_option maxRecDepth 100000 in
theorem errs_walk (A : Option Addr) (l : List Nat) (N c : Nat) (n : Int) (ec en : Nat) (ek : Bool) (A2 B : Option Addr) (l2 : List Nat) (L2 ca S cb : Nat) (w : World) (h : Rb w A l) (hN : l.length = N) (hc : N ≤ c) (hm : c ≤ maxLen) (h2 : Rb w A2 l2) (hL : l2.length = L2) (hca : L2 ≤ ca) (hcm : ca ≤ maxLen) (hn1 : -9223372036854775808 ≤ n) (hn2 : n < 9223372036854775808) :
    Calls Try.prog 6 #[.slice A N c, .int .i64 n, elV ec en ek (.slice A2 L2 ca) (.slice B S cb)] w fun e w' => e = .returned (.bool true) ∧ Below w.heap.size w w' := by
  unfold maxLen at hm hcm
  have KE := Lib.hid (Bk.new w 40 [.int .u8 (ec : Int), .bool ek, .int .u32 (en : Int), .slice A2 L2 ca, .slice B S cb])
  have B0 := Lib.hid (bel1 w (.cells #[.int .u8 (ec : Int), .bool ek, .int .u32 (en : Int), .slice A2 L2 ca, .slice B S cb] 40))
  have R0 := Lib.hid (h.below B0.out)
  have Q0 := Lib.hid (h2.below B0.out)
  obtain ⟨w0, hw0⟩ : ∃ w0, w.alloc (.cells #[.int .u8 (ec : Int), .bool ek, .int .u32 (en : Int), .slice A2 L2 ca, .slice B S cb] 40) = w0 := ⟨_, rfl⟩
  rw [hw0] at R0 Q0 B0
  have KE : Hid (Bk w0 w.heap.size 40 [.int .u8 (ec : Int), .bool ek, .int .u32 (en : Int), .slice A2 L2 ca, .slice B S cb]) := by rw [← hw0]; exact KE
  have R00 := Lib.hid R0.out
  have Q00 := Lib.hid Q0.out
  obtain ⟨D0, hD0⟩ : ∃ D, w.heap.size = D := ⟨_, rfl⟩
  have HD0 := Lib.hid hD0
  rw [hD0] at KE
  have K00 := Lib.hid KE.out
  have HN := Lib.hid hN
  have HL := Lib.hid hL
  have hcc : N ≤ c ∧ c ≤ 2 ^ 63 - 1 := ⟨hc, hm⟩
  have hcaa : L2 ≤ ca ∧ ca ≤ 2 ^ 63 - 1 := ⟨hca, hcm⟩
  have HN12 := Lib.hid (And.intro hn1 hn2)
  clear h h2 hN hL hc hm hca hcm hn1 hn2
  show Calls Try.prog 6 #[.slice A N c, .int .i64 n, .agg #[.int .u8 (ec : Int), .bool ek, .int .u32 (en : Int), .slice A2 L2 ca, .slice B S cb]] w _
  by_cases h60 : 60 < N
  · have h60' : (60 : Int) < (N : Int) := by omega
    clear h60 hD0
    go_enter Try.func6, Try.ntmps6
    go_wp2_with fail
    refine (lives1 w0).mono ?_
    rintro e w1 ⟨rfl, hb⟩
    have B1 := bt B0 (Lib.hid hb)
    clear hb B0 hw0
    go_wp2_with fail
    go_ret
    exact ⟨rfl, B1.out⟩
  have hN6 : N ≤ 60 := by omega
  obtain ⟨k0, k1, k2, k3, k4, kz⟩ := Bk.five KE.out
  by_cases h60b : 60 < L2
  · have h60' : (60 : Int) < (L2 : Int) := by omega
    have hd : decide (60 < (N : Int)) = false := by simp; omega
    clear h60 h60b
    go_enter Try.func6, Try.ntmps6
    go_wp2_with fail
    refine (lives1 w0).mono ?_
    rintro e w1 ⟨rfl, hb⟩
    have B1 := bt B0 (Lib.hid hb)
    clear hb B0 hw0 k0 k1 k2 k3 k4 kz hD0
    go_wp2_with fail
    go_ret
    exact ⟨rfl, B1.out⟩
  have hL6 : L2 ≤ 60 := by omega
  have hdN : decide (60 < (N : Int)) = false := by simp; omega
  have hdL : decide (60 < (L2 : Int)) = false := by simp; omega
  clear h60 h60b
  have HRC := Lib.hid (fun (W : World) (hW : Rb W A l) => rcheck_any A l N c n W hW HN.out (by omega) HN12.out.1 HN12.out.2)
  have HCK := Lib.hid (fun (W : World) (hW : Rb W A l) => check_any A l N c n W hW HN.out (by omega) HN12.out.1 HN12.out.2)
  have HPT := Lib.hid (fun (hf : chkB l n ≠ 0) (W : World) (hW : Rb W A l) => (show Calls _ _ _ W (GiveF W [] (chkB l n)) by
    have h1 := put_any A l N c n W hW HN.out (by omega) hcc.1 HN12.out.1 HN12.out.2
    rw [show ptB l n = [] by unfold ptB; rw [if_neg hf]] at h1
    exact h1))
  have HEL := Lib.hid (fun (hf : chkB l n ≠ 0) (W : World) (hW : Rb W A l) => element_bad A l N c n W hW HN.out (by omega) hcc.1 HN12.out.1 HN12.out.2 hf)
  have HBT := Lib.hid (fun (hf : chkB l n ≠ 0) (W : World) (hW : Rb W A l) => (show Calls _ _ _ W _ by
    have h1 := bit_any A l N c n 0 W hW HN.out (by omega) HN12.out.1 HN12.out.2 (by omega) (by omega)
    rw [bt_bad hf] at h1
    exact h1))
  generalize chkB l n = f0 at *
  go_enter Try.func6, Try.ntmps6
  go_wp2_with fail
  clear k0 k1 k2 k3 k4 kz hw0 hdN hdL hD0
  refine (HRC.out w0 R0.out).mono ?_
  rintro e w1 ⟨rfl, hb⟩
  have R0 := Lib.hid (R0.out.below hb)
  have Q0 := Lib.hid (Q0.out.below hb)
  have KE := Lib.hid (KE.out.below hb KE.out.lt)
  have B01 := Lib.hid hb
  have B1 := bt B0 (Lib.hid hb)
  clear hb B0
  go_wp2_with fail
  refine (HCK.out w1 R0.out).mono ?_
  rintro e w' ⟨rfl, rfl⟩
  go_upto_if 42 with (fail)
  go_cut [8] (fun s wx => Below w.heap.size w wx ∧ Below w0.heap.size w0 wx)
  case first =>
    by_cases hf : f0 = 0
    · subst hf
      clear HPT HEL HBT HRC HCK
      go_wp2_with fail
      go_meet
      exact ⟨B1.out, B01.out⟩
    · have HPT := Lib.hid (HPT.out hf)
      have HEL := Lib.hid (HEL.out hf)
      have HBT := Lib.hid (HBT.out hf)
      have hf1 : ((f0 : Int) != 0) = true := by simp; omega
      have hf2 : ((f0 : Int) != (f0 : Int)) = false := by simp
      clear hf HRC HCK
      go_wp2_with fail
      refine (HPT.out w1 R0.out).mono ?_
      rintro e w2 ⟨A4, n4, hl, rfl, hr, hb, hq⟩
      obtain rfl : 0 = n4 := hl
      clear hr hq
      have B02 := bt B01 (Lib.hid hb)
      clear B01
      have R0 := Lib.hid (R0.out.below hb)
      have B2 := bt B1 (Lib.hid hb)
      clear hb B1
      go_wp2_with fail
      refine (HEL.out w2 R0.out).mono ?_
      rintro e w3 ⟨rfl, hb⟩
      have B03 := bt B02 (Lib.hid hb)
      clear B02
      have R0 := Lib.hid (R0.out.below hb)
      have B3 := bt B2 (Lib.hid hb)
      clear hb B2
      obtain ⟨D, wz, w4, hD, hwz, hkz, hw3, hk3, hb⟩ := var5 w3 0 none 0
      obtain ⟨z0, z1, z2, z3, z4, zz⟩ := Bk.five hkz
      obtain ⟨y0, y1, y2, y3, y4⟩ := Bk.free5 hkz
      obtain ⟨x0, x1, x2, x3, x4, xz⟩ := Bk.five hk3
      have KY := Lib.hid hk3
      clear hkz hk3
      have B04 := bt B03 (Lib.hid hb)
      clear B03
      have R0 := Lib.hid (R0.out.below hb)
      have B4 := bt B3 (Lib.hid hb)
      clear hb B3
      go_wp2_with fail
      clear z0 z1 z2 z3 z4 zz y0 y1 y2 y3 y4 hw3 hwz hD x0 x1 x2 x3 x4 xz
      refine (same_nil w4 A4 f0).mono ?_
      rintro e w5 ⟨rfl, hb⟩
      have B05 := bt B04 (Lib.hid hb)
      clear B04
      have R0 := Lib.hid (R0.out.below hb)
      have KY := Lib.hid (KY.out.below hb KY.out.lt)
      have B5 := bt B4 (Lib.hid hb)
      clear hb B4
      obtain ⟨x0, x1, x2, x3, x4, xz⟩ := Bk.five KY.out
      clear KY
      go_wp2_with fail
      clear x0 x1 x2 x3 x4 xz
      refine (HBT.out w5 R0.out).mono ?_
      rintro e w6 ⟨rfl, hb⟩
      have B06 := bt B05 (Lib.hid hb)
      clear B05
      have R0 := Lib.hid (R0.out.below hb)
      have B6 := bt B5 (Lib.hid hb)
      clear hb B5
      go_wp2_with fail
      go_meet
      exact ⟨B6.out, B06.out⟩
  case rest =>
    have B1 := Lib.hid hcut.1
    have R0 := Lib.hid (R00.out.below hcut.2)
    have Q0 := Lib.hid (Q00.out.below hcut.2)
    have KE := Lib.hid (K00.out.below hcut.2 K00.out.lt)
    clear hcut HPT HEL HBT HRC HCK R00 Q00 K00
    have HRG := Lib.hid (fun (W : World) (hW : Rb W A2 l2) => rget_any A2 l2 L2 ca W hW HL.out (by omega) hcaa.1)
    have HBB := Lib.hid (gtL_byt Q0.out.2)
    have HL2 := Lib.hid (show Lt 2 (gtL l2) from fun x hx => by
      unfold gtL at hx
      split at hx
      · exact bts_lt _ x (List.mem_of_mem_take hx)
      · cases hx)
    have hKb : gtK l2 ≤ 480 := by
      rw [← HBB.out.2]; unfold gtL
      split
      · rw [List.length_take, bts_length, List.length_tail, HL.out]; omega
      · simp
    have HBY := Lib.hid (fun (W : World) (A5 : Option Addr) (c5 : Nat) (hW : Ri W A5 (gtL l2)) => rbytes_any A5 (gtL l2) (gtK l2) c5 W hW HL2.out HBB.out.2 (by omega))
    have HOF := Lib.hid (fun (W : World) (hW : Rb W A2 l2) => of_any ec en ek A2 B l2 L2 ca S cb W hW HL.out (by omega) hcaa.1)
    have HOO := Lib.hid (fun (W : World) (hW : Rb W A2 l2) => ofoct_any ec en ek A2 B l2 L2 ca S cb W hW HL.out (by omega) hcaa.1)
    have HOC := Lib.hid (fun (W : World) (A7 : Option Addr) (c7 : Nat) (hW : Rb W A7 l2) => octets_ok A7 l2 L2 c7 W hW HL.out (by omega))
    have HGK := Lib.hid HBB.out.2
    rw [HBB.out.1] at HBY
    unfold ofB ofK ofE at HOF
    unfold ooB ooE at HOO
    rw [HL.out] at HOO
    have hoo : ¬ 65536 < L2 := by omega
    rw [if_neg hoo, if_neg hoo] at HOO
    generalize gtE l2 = f2 at *
    generalize gtB l2 = b2 at *
    generalize gtK l2 = n2 at *
    generalize gtL l2 = G2 at *
    clear HBB HL2 hoo
    obtain ⟨k0, k1, k2, k3, k4, kz⟩ := Bk.five KE.out
    go_wp2_with fail
    clear k0 k1 k2 k3 k4 kz
    refine (HRG.out wc Q0.out).mono ?_
    rintro e w2 ⟨A5, n5, c5, hl, rfl, hr, hc1, hc2, hb⟩
    obtain rfl : n2 = n5 := HGK.out.symm.trans hl
    clear hl hc1 hc2
    have R5 := Lib.hid hr
    clear hr
    have Q0 := Lib.hid (Q0.out.below hb)
    have KE := Lib.hid (KE.out.below hb KE.out.lt)
    have B2 := bt B1 (Lib.hid hb)
    clear hb B1
    obtain ⟨k0, k1, k2, k3, k4, kz⟩ := Bk.five KE.out
    by_cases hec : ec = 0
    rotate_left
    · by_cases hS : 0 < S
      · have HOF1 := Lib.hid (fun (W : World) (hW : Rb W A2 l2) => (show Calls Try.prog 16 #[elV ec en ek (.slice A2 L2 ca) (.slice B S cb)] W (GiveG W [] 0 9) by
          have h1 := HOF.out W hW
          rw [show wrg ec en ek S 3 = 9 from (wrg_9 (fun hx => hec hx.1))] at h1
          exact h1))
        have HOO1 := Lib.hid (fun (W : World) (hW : Rb W A2 l2) => (show Calls Try.prog 26 #[elV ec en ek (.slice A2 L2 ca) (.slice B S cb)] W (GiveF W [] 9) by
          have h1 := HOO.out W hW
          rw [show wrg ec en ek S 4 = 9 from (wrg_9 (fun hx => hec hx.1))] at h1
          exact h1))
        clear HOF HOO
        have hcb : ((ec : Int) == 0) = false := by simp; exact hec
        have hcb2 : ((ec : Int) != 0) = true := by simp; exact hec
        clear hec
        have hSI : (0 : Int) < (S : Int) := by omega
        clear hS
        obtain ⟨w3, hw3⟩ : ∃ w3, (w2.alloc (.cells #[.int .u8 0, .bool false, .int .u32 3] 37)).alloc (.cells #[.int .u8 0, .bool false, .int .u32 4] 37) = w3 := ⟨_, rfl⟩
        have hb : Below w2.heap.size w2 w3 := by rw [← hw3]; exact bel2 w2 _ _
        have KT := Lib.hid (show Bk w3 (w2.heap.size + 1) 37 [.int .u8 0, .bool false, .int .u32 4] by
          have := Bk.new (w2.alloc (.cells #[.int .u8 0, .bool false, .int .u32 3] 37)) 37 [.int .u8 0, .bool false, .int .u32 4]
          rw [World.size_alloc] at this
          rw [← hw3]; exact this)
        have HW3 := Lib.hid hw3
        clear hw3
        have Q0 := Lib.hid (Q0.out.below hb)
        have R5 := Lib.hid (R5.out.below hb)
        have KE := Lib.hid (KE.out.below hb KE.out.lt)
        have B3 := bt B2 (Lib.hid hb)
        clear hb B2
        go_wp2_with fail
        clear k0 k1 k2 k3 k4 kz
        rw [HW3.out]
        refine (HOF1.out w3 Q0.out).mono ?_
        rintro e w4 ⟨A6, n6, hl, rfl, hr, hb, hq⟩
        obtain rfl : 0 = n6 := hl
        clear hq
        have R6 := Lib.hid hr
        clear hr
        have Q0 := Lib.hid (Q0.out.below hb)
        have R5 := Lib.hid (R5.out.below hb)
        have KE := Lib.hid (KE.out.below hb KE.out.lt)
        have KT := Lib.hid (KT.out.below hb KT.out.lt)
        have B4 := bt B3 (Lib.hid hb)
        clear hb B3
        go_wp2_with fail
        refine (rbytes_nil w4).mono ?_
        rintro e w5 ⟨A7, n7, c7, hl, rfl, hr, hc1, hc2, hb⟩
        obtain rfl : 0 = n7 := hl
        clear hr hc1 hc2
        have Q0 := Lib.hid (Q0.out.below hb)
        have KE := Lib.hid (KE.out.below hb KE.out.lt)
        have KT := Lib.hid (KT.out.below hb KT.out.lt)
        have B5 := bt B4 (Lib.hid hb)
        clear hb B4
        go_wp2_with fail
        refine (same_ok A6 A7 [] c7 0 9 w5 Rb.nil Rb.nil rfl).mono ?_
        rintro e w' ⟨rfl, rfl⟩
        obtain ⟨k0, k1, k2, k3, k4, kz⟩ := Bk.five KE.out
        have hnn : ((n2 : Int) != (n2 : Int)) = false := by simp
        go_wp2_with fail
        clear k0 k1 k2 k3 k4 kz hnn
        refine (HOO1.out w5 Q0.out).mono ?_
        rintro e w6 ⟨A8, n8, hl, rfl, hr, hb, hq⟩
        obtain rfl : 0 = n8 := hl
        clear hq
        have R8 := Lib.hid hr
        clear hr
        have Q0 := Lib.hid (Q0.out.below hb)
        have KE := Lib.hid (KE.out.below hb KE.out.lt)
        have KT := Lib.hid (KT.out.below hb KT.out.lt)
        have B6 := bt B5 (Lib.hid hb)
        clear hb B5
        obtain ⟨k0, k1, k2, k3, k4, kz⟩ := Bk.five KE.out
        obtain ⟨t0, t1, t2, tz⟩ := three KT.out
        go_wp2_with fail
        clear k0 k1 k2 k3 k4 kz t0 t1 t2 tz
        refine (same_nil w6 A8 9).mono ?_
        rintro e w7 ⟨rfl, hb⟩
        have KE := Lib.hid (KE.out.below hb KE.out.lt)
        have KT := Lib.hid (KT.out.below hb KT.out.lt)
        have B7 := bt B6 (Lib.hid hb)
        clear hb B6
        go_wp2_with fail
        refine (lives1 w7).mono ?_
        rintro e w8 ⟨rfl, hb⟩
        have B8 := bt B7 (Lib.hid hb)
        clear hb B7
        go_wp2_with fail
        go_ret
        exact ⟨rfl, B8.out⟩
      · obtain rfl : S = 0 := by omega
        clear hS
        have HOF1 := Lib.hid (fun (W : World) (hW : Rb W A2 l2) => (show Calls Try.prog 16 #[elV ec en ek (.slice A2 L2 ca) (.slice B 0 cb)] W (GiveG W [] 0 9) by
          have h1 := HOF.out W hW
          rw [show wrg ec en ek 0 3 = 9 from (wrg_9 (fun hx => hec hx.1))] at h1
          exact h1))
        have HOO1 := Lib.hid (fun (W : World) (hW : Rb W A2 l2) => (show Calls Try.prog 26 #[elV ec en ek (.slice A2 L2 ca) (.slice B 0 cb)] W (GiveF W [] 9) by
          have h1 := HOO.out W hW
          rw [show wrg ec en ek 0 4 = 9 from (wrg_9 (fun hx => hec hx.1))] at h1
          exact h1))
        clear HOF HOO
        have hcb : ((ec : Int) == 0) = false := by simp; exact hec
        have hcb2 : ((ec : Int) != 0) = true := by simp; exact hec
        clear hec
        obtain ⟨w3, hw3⟩ : ∃ w3, (w2.alloc (.cells #[.int .u8 0, .bool false, .int .u32 3] 37)).alloc (.cells #[.int .u8 0, .bool false, .int .u32 4] 37) = w3 := ⟨_, rfl⟩
        have hb : Below w2.heap.size w2 w3 := by rw [← hw3]; exact bel2 w2 _ _
        have KT := Lib.hid (show Bk w3 (w2.heap.size + 1) 37 [.int .u8 0, .bool false, .int .u32 4] by
          have := Bk.new (w2.alloc (.cells #[.int .u8 0, .bool false, .int .u32 3] 37)) 37 [.int .u8 0, .bool false, .int .u32 4]
          rw [World.size_alloc] at this
          rw [← hw3]; exact this)
        have HW3 := Lib.hid hw3
        clear hw3
        have Q0 := Lib.hid (Q0.out.below hb)
        have R5 := Lib.hid (R5.out.below hb)
        have KE := Lib.hid (KE.out.below hb KE.out.lt)
        have B3 := bt B2 (Lib.hid hb)
        clear hb B2
        go_wp2_with fail
        clear k0 k1 k2 k3 k4 kz
        rw [HW3.out]
        refine (HOF1.out w3 Q0.out).mono ?_
        rintro e w4 ⟨A6, n6, hl, rfl, hr, hb, hq⟩
        obtain rfl : 0 = n6 := hl
        clear hq
        have R6 := Lib.hid hr
        clear hr
        have Q0 := Lib.hid (Q0.out.below hb)
        have R5 := Lib.hid (R5.out.below hb)
        have KE := Lib.hid (KE.out.below hb KE.out.lt)
        have KT := Lib.hid (KT.out.below hb KT.out.lt)
        have B4 := bt B3 (Lib.hid hb)
        clear hb B3
        go_wp2_with fail
        refine (rbytes_nil w4).mono ?_
        rintro e w5 ⟨A7, n7, c7, hl, rfl, hr, hc1, hc2, hb⟩
        obtain rfl : 0 = n7 := hl
        clear hr hc1 hc2
        have Q0 := Lib.hid (Q0.out.below hb)
        have KE := Lib.hid (KE.out.below hb KE.out.lt)
        have KT := Lib.hid (KT.out.below hb KT.out.lt)
        have B5 := bt B4 (Lib.hid hb)
        clear hb B4
        go_wp2_with fail
        refine (same_ok A6 A7 [] c7 0 9 w5 Rb.nil Rb.nil rfl).mono ?_
        rintro e w' ⟨rfl, rfl⟩
        obtain ⟨k0, k1, k2, k3, k4, kz⟩ := Bk.five KE.out
        have hnn : ((n2 : Int) != (n2 : Int)) = false := by simp
        go_wp2_with fail
        clear k0 k1 k2 k3 k4 kz hnn
        refine (HOO1.out w5 Q0.out).mono ?_
        rintro e w6 ⟨A8, n8, hl, rfl, hr, hb, hq⟩
        obtain rfl : 0 = n8 := hl
        clear hq
        have R8 := Lib.hid hr
        clear hr
        have Q0 := Lib.hid (Q0.out.below hb)
        have KE := Lib.hid (KE.out.below hb KE.out.lt)
        have KT := Lib.hid (KT.out.below hb KT.out.lt)
        have B6 := bt B5 (Lib.hid hb)
        clear hb B5
        obtain ⟨k0, k1, k2, k3, k4, kz⟩ := Bk.five KE.out
        obtain ⟨t0, t1, t2, tz⟩ := three KT.out
        go_wp2_with fail
        clear k0 k1 k2 k3 k4 kz t0 t1 t2 tz
        refine (same_nil w6 A8 9).mono ?_
        rintro e w7 ⟨rfl, hb⟩
        have KE := Lib.hid (KE.out.below hb KE.out.lt)
        have KT := Lib.hid (KT.out.below hb KT.out.lt)
        have B7 := bt B6 (Lib.hid hb)
        clear hb B6
        go_wp2_with fail
        refine (lives1 w7).mono ?_
        rintro e w8 ⟨rfl, hb⟩
        have B8 := bt B7 (Lib.hid hb)
        clear hb B7
        go_wp2_with fail
        go_ret
        exact ⟨rfl, B8.out⟩
    subst hec
    cases ek with
    | true =>
      by_cases hS : 0 < S
      · have HOF1 := Lib.hid (fun (W : World) (hW : Rb W A2 l2) => (show Calls Try.prog 16 #[elV 0 en true (.slice A2 L2 ca) (.slice B S cb)] W (GiveG W [] 0 9) by
          have h1 := HOF.out W hW
          rw [show wrg 0 en true S 3 = 9 from (wrg_9 (by simp))] at h1
          exact h1))
        have HOO1 := Lib.hid (fun (W : World) (hW : Rb W A2 l2) => (show Calls Try.prog 26 #[elV 0 en true (.slice A2 L2 ca) (.slice B S cb)] W (GiveF W [] 9) by
          have h1 := HOO.out W hW
          rw [show wrg 0 en true S 4 = 9 from (wrg_9 (by simp))] at h1
          exact h1))
        clear HOF HOO
        have hSI : (0 : Int) < (S : Int) := by omega
        clear hS
        obtain ⟨w3, hw3⟩ : ∃ w3, (w2.alloc (.cells #[.int .u8 0, .bool false, .int .u32 3] 37)).alloc (.cells #[.int .u8 0, .bool false, .int .u32 4] 37) = w3 := ⟨_, rfl⟩
        have hb : Below w2.heap.size w2 w3 := by rw [← hw3]; exact bel2 w2 _ _
        have KT := Lib.hid (show Bk w3 (w2.heap.size + 1) 37 [.int .u8 0, .bool false, .int .u32 4] by
          have := Bk.new (w2.alloc (.cells #[.int .u8 0, .bool false, .int .u32 3] 37)) 37 [.int .u8 0, .bool false, .int .u32 4]
          rw [World.size_alloc] at this
          rw [← hw3]; exact this)
        have HW3 := Lib.hid hw3
        clear hw3
        have Q0 := Lib.hid (Q0.out.below hb)
        have R5 := Lib.hid (R5.out.below hb)
        have KE := Lib.hid (KE.out.below hb KE.out.lt)
        have B3 := bt B2 (Lib.hid hb)
        clear hb B2
        go_wp2_with fail
        clear k0 k1 k2 k3 k4 kz
        rw [HW3.out]
        refine (HOF1.out w3 Q0.out).mono ?_
        rintro e w4 ⟨A6, n6, hl, rfl, hr, hb, hq⟩
        obtain rfl : 0 = n6 := hl
        clear hq
        have R6 := Lib.hid hr
        clear hr
        have Q0 := Lib.hid (Q0.out.below hb)
        have R5 := Lib.hid (R5.out.below hb)
        have KE := Lib.hid (KE.out.below hb KE.out.lt)
        have KT := Lib.hid (KT.out.below hb KT.out.lt)
        have B4 := bt B3 (Lib.hid hb)
        clear hb B3
        go_wp2_with fail
        refine (rbytes_nil w4).mono ?_
        rintro e w5 ⟨A7, n7, c7, hl, rfl, hr, hc1, hc2, hb⟩
        obtain rfl : 0 = n7 := hl
        clear hr hc1 hc2
        have Q0 := Lib.hid (Q0.out.below hb)
        have KE := Lib.hid (KE.out.below hb KE.out.lt)
        have KT := Lib.hid (KT.out.below hb KT.out.lt)
        have B5 := bt B4 (Lib.hid hb)
        clear hb B4
        go_wp2_with fail
        refine (same_ok A6 A7 [] c7 0 9 w5 Rb.nil Rb.nil rfl).mono ?_
        rintro e w' ⟨rfl, rfl⟩
        obtain ⟨k0, k1, k2, k3, k4, kz⟩ := Bk.five KE.out
        have hnn : ((n2 : Int) != (n2 : Int)) = false := by simp
        go_wp2_with fail
        clear k0 k1 k2 k3 k4 kz hnn
        refine (HOO1.out w5 Q0.out).mono ?_
        rintro e w6 ⟨A8, n8, hl, rfl, hr, hb, hq⟩
        obtain rfl : 0 = n8 := hl
        clear hq
        have R8 := Lib.hid hr
        clear hr
        have Q0 := Lib.hid (Q0.out.below hb)
        have KE := Lib.hid (KE.out.below hb KE.out.lt)
        have KT := Lib.hid (KT.out.below hb KT.out.lt)
        have B6 := bt B5 (Lib.hid hb)
        clear hb B5
        obtain ⟨k0, k1, k2, k3, k4, kz⟩ := Bk.five KE.out
        obtain ⟨t0, t1, t2, tz⟩ := three KT.out
        go_wp2_with fail
        clear k0 k1 k2 k3 k4 kz t0 t1 t2 tz
        refine (same_nil w6 A8 9).mono ?_
        rintro e w7 ⟨rfl, hb⟩
        have KE := Lib.hid (KE.out.below hb KE.out.lt)
        have KT := Lib.hid (KT.out.below hb KT.out.lt)
        have B7 := bt B6 (Lib.hid hb)
        clear hb B6
        go_wp2_with fail
        refine (lives1 w7).mono ?_
        rintro e w8 ⟨rfl, hb⟩
        have B8 := bt B7 (Lib.hid hb)
        clear hb B7
        go_wp2_with fail
        go_ret
        exact ⟨rfl, B8.out⟩
      · obtain rfl : S = 0 := by omega
        clear hS
        have HOF1 := Lib.hid (fun (W : World) (hW : Rb W A2 l2) => (show Calls Try.prog 16 #[elV 0 en true (.slice A2 L2 ca) (.slice B 0 cb)] W (GiveG W [] 0 9) by
          have h1 := HOF.out W hW
          rw [show wrg 0 en true 0 3 = 9 from (wrg_9 (by simp))] at h1
          exact h1))
        have HOO1 := Lib.hid (fun (W : World) (hW : Rb W A2 l2) => (show Calls Try.prog 26 #[elV 0 en true (.slice A2 L2 ca) (.slice B 0 cb)] W (GiveF W [] 9) by
          have h1 := HOO.out W hW
          rw [show wrg 0 en true 0 4 = 9 from (wrg_9 (by simp))] at h1
          exact h1))
        clear HOF HOO
        obtain ⟨w3, hw3⟩ : ∃ w3, (w2.alloc (.cells #[.int .u8 0, .bool false, .int .u32 3] 37)).alloc (.cells #[.int .u8 0, .bool false, .int .u32 4] 37) = w3 := ⟨_, rfl⟩
        have hb : Below w2.heap.size w2 w3 := by rw [← hw3]; exact bel2 w2 _ _
        have KT := Lib.hid (show Bk w3 (w2.heap.size + 1) 37 [.int .u8 0, .bool false, .int .u32 4] by
          have := Bk.new (w2.alloc (.cells #[.int .u8 0, .bool false, .int .u32 3] 37)) 37 [.int .u8 0, .bool false, .int .u32 4]
          rw [World.size_alloc] at this
          rw [← hw3]; exact this)
        have HW3 := Lib.hid hw3
        clear hw3
        have Q0 := Lib.hid (Q0.out.below hb)
        have R5 := Lib.hid (R5.out.below hb)
        have KE := Lib.hid (KE.out.below hb KE.out.lt)
        have B3 := bt B2 (Lib.hid hb)
        clear hb B2
        go_wp2_with fail
        clear k0 k1 k2 k3 k4 kz
        rw [HW3.out]
        refine (HOF1.out w3 Q0.out).mono ?_
        rintro e w4 ⟨A6, n6, hl, rfl, hr, hb, hq⟩
        obtain rfl : 0 = n6 := hl
        clear hq
        have R6 := Lib.hid hr
        clear hr
        have Q0 := Lib.hid (Q0.out.below hb)
        have R5 := Lib.hid (R5.out.below hb)
        have KE := Lib.hid (KE.out.below hb KE.out.lt)
        have KT := Lib.hid (KT.out.below hb KT.out.lt)
        have B4 := bt B3 (Lib.hid hb)
        clear hb B3
        go_wp2_with fail
        refine (rbytes_nil w4).mono ?_
        rintro e w5 ⟨A7, n7, c7, hl, rfl, hr, hc1, hc2, hb⟩
        obtain rfl : 0 = n7 := hl
        clear hr hc1 hc2
        have Q0 := Lib.hid (Q0.out.below hb)
        have KE := Lib.hid (KE.out.below hb KE.out.lt)
        have KT := Lib.hid (KT.out.below hb KT.out.lt)
        have B5 := bt B4 (Lib.hid hb)
        clear hb B4
        go_wp2_with fail
        refine (same_ok A6 A7 [] c7 0 9 w5 Rb.nil Rb.nil rfl).mono ?_
        rintro e w' ⟨rfl, rfl⟩
        obtain ⟨k0, k1, k2, k3, k4, kz⟩ := Bk.five KE.out
        have hnn : ((n2 : Int) != (n2 : Int)) = false := by simp
        go_wp2_with fail
        clear k0 k1 k2 k3 k4 kz hnn
        refine (HOO1.out w5 Q0.out).mono ?_
        rintro e w6 ⟨A8, n8, hl, rfl, hr, hb, hq⟩
        obtain rfl : 0 = n8 := hl
        clear hq
        have R8 := Lib.hid hr
        clear hr
        have Q0 := Lib.hid (Q0.out.below hb)
        have KE := Lib.hid (KE.out.below hb KE.out.lt)
        have KT := Lib.hid (KT.out.below hb KT.out.lt)
        have B6 := bt B5 (Lib.hid hb)
        clear hb B5
        obtain ⟨k0, k1, k2, k3, k4, kz⟩ := Bk.five KE.out
        obtain ⟨t0, t1, t2, tz⟩ := three KT.out
        go_wp2_with fail
        clear k0 k1 k2 k3 k4 kz t0 t1 t2 tz
        refine (same_nil w6 A8 9).mono ?_
        rintro e w7 ⟨rfl, hb⟩
        have KE := Lib.hid (KE.out.below hb KE.out.lt)
        have KT := Lib.hid (KT.out.below hb KT.out.lt)
        have B7 := bt B6 (Lib.hid hb)
        clear hb B6
        go_wp2_with fail
        refine (lives1 w7).mono ?_
        rintro e w8 ⟨rfl, hb⟩
        have B8 := bt B7 (Lib.hid hb)
        clear hb B7
        go_wp2_with fail
        go_ret
        exact ⟨rfl, B8.out⟩
    | false =>
      by_cases hen3 : en = 3
      · subst hen3
        by_cases hS : 0 < S
        · have HOF1 := Lib.hid (fun (W : World) (hW : Rb W A2 l2) => (show Calls Try.prog 16 #[elV 0 3 false (.slice A2 L2 ca) (.slice B S cb)] W (GiveG W [] 0 1) by
            have h1 := HOF.out W hW
            rw [show wrg 0 3 false S 3 = 1 from wrg_1 hS] at h1
            exact h1))
          have HOO1 := Lib.hid (fun (W : World) (hW : Rb W A2 l2) => (show Calls Try.prog 26 #[elV 0 3 false (.slice A2 L2 ca) (.slice B S cb)] W (GiveF W [] 9) by
            have h1 := HOO.out W hW
            rw [show wrg 0 3 false S 4 = 9 from (wrg_9 (by simp))] at h1
            exact h1))
          clear HOF HOO
          have hSI : (0 : Int) < (S : Int) := by omega
          clear hS
          obtain ⟨w3, hw3⟩ : ∃ w3, (w2.alloc (.cells #[.int .u8 0, .bool false, .int .u32 3] 37)).alloc (.cells #[.int .u8 0, .bool false, .int .u32 4] 37) = w3 := ⟨_, rfl⟩
          have hb : Below w2.heap.size w2 w3 := by rw [← hw3]; exact bel2 w2 _ _
          have KT := Lib.hid (show Bk w3 (w2.heap.size + 1) 37 [.int .u8 0, .bool false, .int .u32 4] by
            have := Bk.new (w2.alloc (.cells #[.int .u8 0, .bool false, .int .u32 3] 37)) 37 [.int .u8 0, .bool false, .int .u32 4]
            rw [World.size_alloc] at this
            rw [← hw3]; exact this)
          have HW3 := Lib.hid hw3
          clear hw3
          have Q0 := Lib.hid (Q0.out.below hb)
          have R5 := Lib.hid (R5.out.below hb)
          have KE := Lib.hid (KE.out.below hb KE.out.lt)
          have B3 := bt B2 (Lib.hid hb)
          clear hb B2
          go_wp2_with fail
          clear k0 k1 k2 k3 k4 kz
          rw [HW3.out]
          refine (HOF1.out w3 Q0.out).mono ?_
          rintro e w4 ⟨A6, n6, hl, rfl, hr, hb, hq⟩
          obtain rfl : 0 = n6 := hl
          clear hq
          have R6 := Lib.hid hr
          clear hr
          have Q0 := Lib.hid (Q0.out.below hb)
          have R5 := Lib.hid (R5.out.below hb)
          have KE := Lib.hid (KE.out.below hb KE.out.lt)
          have KT := Lib.hid (KT.out.below hb KT.out.lt)
          have B4 := bt B3 (Lib.hid hb)
          clear hb B3
          go_wp2_with fail
          refine (rbytes_nil w4).mono ?_
          rintro e w5 ⟨A7, n7, c7, hl, rfl, hr, hc1, hc2, hb⟩
          obtain rfl : 0 = n7 := hl
          clear hr hc1 hc2
          have Q0 := Lib.hid (Q0.out.below hb)
          have KE := Lib.hid (KE.out.below hb KE.out.lt)
          have KT := Lib.hid (KT.out.below hb KT.out.lt)
          have B5 := bt B4 (Lib.hid hb)
          clear hb B4
          go_wp2_with fail
          refine (same_ok A6 A7 [] c7 0 1 w5 Rb.nil Rb.nil rfl).mono ?_
          rintro e w' ⟨rfl, rfl⟩
          obtain ⟨k0, k1, k2, k3, k4, kz⟩ := Bk.five KE.out
          have hnn : ((n2 : Int) != (n2 : Int)) = false := by simp
          go_wp2_with fail
          clear k0 k1 k2 k3 k4 kz hnn
          refine (HOO1.out w5 Q0.out).mono ?_
          rintro e w6 ⟨A8, n8, hl, rfl, hr, hb, hq⟩
          obtain rfl : 0 = n8 := hl
          clear hq
          have R8 := Lib.hid hr
          clear hr
          have Q0 := Lib.hid (Q0.out.below hb)
          have KE := Lib.hid (KE.out.below hb KE.out.lt)
          have KT := Lib.hid (KT.out.below hb KT.out.lt)
          have B6 := bt B5 (Lib.hid hb)
          clear hb B5
          obtain ⟨k0, k1, k2, k3, k4, kz⟩ := Bk.five KE.out
          obtain ⟨t0, t1, t2, tz⟩ := three KT.out
          go_wp2_with fail
          clear k0 k1 k2 k3 k4 kz t0 t1 t2 tz
          refine (same_nil w6 A8 9).mono ?_
          rintro e w7 ⟨rfl, hb⟩
          have KE := Lib.hid (KE.out.below hb KE.out.lt)
          have KT := Lib.hid (KT.out.below hb KT.out.lt)
          have B7 := bt B6 (Lib.hid hb)
          clear hb B6
          go_wp2_with fail
          refine (lives1 w7).mono ?_
          rintro e w8 ⟨rfl, hb⟩
          have B8 := bt B7 (Lib.hid hb)
          clear hb B7
          go_wp2_with fail
          go_ret
          exact ⟨rfl, B8.out⟩
        · obtain rfl : S = 0 := by omega
          clear hS
          have HOF1 := Lib.hid (fun (W : World) (hW : Rb W A2 l2) => (show Calls Try.prog 16 #[elV 0 3 false (.slice A2 L2 ca) (.slice B 0 cb)] W (GiveG W b2 n2 f2) by
            have h1 := HOF.out W hW
            rw [show wrg 0 3 false 0 3 = 0 from wrg_0 (by omega)] at h1
            exact h1))
          have HOO1 := Lib.hid (fun (W : World) (hW : Rb W A2 l2) => (show Calls Try.prog 26 #[elV 0 3 false (.slice A2 L2 ca) (.slice B 0 cb)] W (GiveF W [] 9) by
            have h1 := HOO.out W hW
            rw [show wrg 0 3 false 0 4 = 9 from (wrg_9 (by simp))] at h1
            exact h1))
          clear HOF HOO
          obtain ⟨w3, hw3⟩ : ∃ w3, (w2.alloc (.cells #[.int .u8 0, .bool false, .int .u32 3] 37)).alloc (.cells #[.int .u8 0, .bool false, .int .u32 4] 37) = w3 := ⟨_, rfl⟩
          have hb : Below w2.heap.size w2 w3 := by rw [← hw3]; exact bel2 w2 _ _
          have KT := Lib.hid (show Bk w3 (w2.heap.size + 1) 37 [.int .u8 0, .bool false, .int .u32 4] by
            have := Bk.new (w2.alloc (.cells #[.int .u8 0, .bool false, .int .u32 3] 37)) 37 [.int .u8 0, .bool false, .int .u32 4]
            rw [World.size_alloc] at this
            rw [← hw3]; exact this)
          have HW3 := Lib.hid hw3
          clear hw3
          have Q0 := Lib.hid (Q0.out.below hb)
          have R5 := Lib.hid (R5.out.below hb)
          have KE := Lib.hid (KE.out.below hb KE.out.lt)
          have B3 := bt B2 (Lib.hid hb)
          clear hb B2
          go_wp2_with fail
          clear k0 k1 k2 k3 k4 kz
          rw [HW3.out]
          refine (HOF1.out w3 Q0.out).mono ?_
          rintro e w4 ⟨A6, n6, hl, rfl, hr, hb, hq⟩
          have L6 := Lib.hid hl
          clear hl hq
          have R6 := Lib.hid hr
          clear hr
          have Q0 := Lib.hid (Q0.out.below hb)
          have R5 := Lib.hid (R5.out.below hb)
          have KE := Lib.hid (KE.out.below hb KE.out.lt)
          have KT := Lib.hid (KT.out.below hb KT.out.lt)
          have B4 := bt B3 (Lib.hid hb)
          clear hb B3
          go_wp2_with fail
          refine (HBY.out w4 A5 c5 R5.out).mono ?_
          rintro e w5 ⟨A7, n7, c7, hl, rfl, hr, hc1, hc2, hb⟩
          obtain rfl : n6 = n7 := L6.out.symm.trans hl
          clear hl hc1 hc2
          have R7 := Lib.hid hr
          clear hr
          have Q0 := Lib.hid (Q0.out.below hb)
          have R6 := Lib.hid (R6.out.below hb)
          have KE := Lib.hid (KE.out.below hb KE.out.lt)
          have KT := Lib.hid (KT.out.below hb KT.out.lt)
          have B5 := bt B4 (Lib.hid hb)
          clear hb B4
          go_wp2_with fail
          refine (same_ok A6 A7 b2 c7 n6 f2 w5 R6.out R7.out L6.out).mono ?_
          rintro e w' ⟨rfl, rfl⟩
          clear R6 R7
          obtain ⟨k0, k1, k2, k3, k4, kz⟩ := Bk.five KE.out
          have hnn : ((n2 : Int) != (n2 : Int)) = false := by simp
          go_wp2_with fail
          clear k0 k1 k2 k3 k4 kz hnn
          refine (HOO1.out w5 Q0.out).mono ?_
          rintro e w6 ⟨A8, n8, hl, rfl, hr, hb, hq⟩
          obtain rfl : 0 = n8 := hl
          clear hq
          have R8 := Lib.hid hr
          clear hr
          have Q0 := Lib.hid (Q0.out.below hb)
          have KE := Lib.hid (KE.out.below hb KE.out.lt)
          have KT := Lib.hid (KT.out.below hb KT.out.lt)
          have B6 := bt B5 (Lib.hid hb)
          clear hb B5
          obtain ⟨k0, k1, k2, k3, k4, kz⟩ := Bk.five KE.out
          obtain ⟨t0, t1, t2, tz⟩ := three KT.out
          go_wp2_with fail
          clear k0 k1 k2 k3 k4 kz t0 t1 t2 tz
          refine (same_nil w6 A8 9).mono ?_
          rintro e w7 ⟨rfl, hb⟩
          have KE := Lib.hid (KE.out.below hb KE.out.lt)
          have KT := Lib.hid (KT.out.below hb KT.out.lt)
          have B7 := bt B6 (Lib.hid hb)
          clear hb B6
          go_wp2_with fail
          refine (lives1 w7).mono ?_
          rintro e w8 ⟨rfl, hb⟩
          have B8 := bt B7 (Lib.hid hb)
          clear hb B7
          go_wp2_with fail
          go_ret
          exact ⟨rfl, B8.out⟩
      · by_cases hen4 : en = 4
        · subst hen4
          clear hen3
          by_cases hS : 0 < S
          · have HOF1 := Lib.hid (fun (W : World) (hW : Rb W A2 l2) => (show Calls Try.prog 16 #[elV 0 4 false (.slice A2 L2 ca) (.slice B S cb)] W (GiveG W [] 0 9) by
              have h1 := HOF.out W hW
              rw [show wrg 0 4 false S 3 = 9 from (wrg_9 (by simp))] at h1
              exact h1))
            have HOO1 := Lib.hid (fun (W : World) (hW : Rb W A2 l2) => (show Calls Try.prog 26 #[elV 0 4 false (.slice A2 L2 ca) (.slice B S cb)] W (GiveF W [] 1) by
              have h1 := HOO.out W hW
              rw [show wrg 0 4 false S 4 = 1 from wrg_1 hS] at h1
              exact h1))
            clear HOF HOO
            have hSI : (0 : Int) < (S : Int) := by omega
            clear hS
            obtain ⟨w3, hw3⟩ : ∃ w3, (w2.alloc (.cells #[.int .u8 0, .bool false, .int .u32 3] 37)).alloc (.cells #[.int .u8 0, .bool false, .int .u32 4] 37) = w3 := ⟨_, rfl⟩
            have hb : Below w2.heap.size w2 w3 := by rw [← hw3]; exact bel2 w2 _ _
            have KT := Lib.hid (show Bk w3 (w2.heap.size + 1) 37 [.int .u8 0, .bool false, .int .u32 4] by
              have := Bk.new (w2.alloc (.cells #[.int .u8 0, .bool false, .int .u32 3] 37)) 37 [.int .u8 0, .bool false, .int .u32 4]
              rw [World.size_alloc] at this
              rw [← hw3]; exact this)
            have HW3 := Lib.hid hw3
            clear hw3
            have Q0 := Lib.hid (Q0.out.below hb)
            have R5 := Lib.hid (R5.out.below hb)
            have KE := Lib.hid (KE.out.below hb KE.out.lt)
            have B3 := bt B2 (Lib.hid hb)
            clear hb B2
            go_wp2_with fail
            clear k0 k1 k2 k3 k4 kz
            rw [HW3.out]
            refine (HOF1.out w3 Q0.out).mono ?_
            rintro e w4 ⟨A6, n6, hl, rfl, hr, hb, hq⟩
            obtain rfl : 0 = n6 := hl
            clear hq
            have R6 := Lib.hid hr
            clear hr
            have Q0 := Lib.hid (Q0.out.below hb)
            have R5 := Lib.hid (R5.out.below hb)
            have KE := Lib.hid (KE.out.below hb KE.out.lt)
            have KT := Lib.hid (KT.out.below hb KT.out.lt)
            have B4 := bt B3 (Lib.hid hb)
            clear hb B3
            go_wp2_with fail
            refine (rbytes_nil w4).mono ?_
            rintro e w5 ⟨A7, n7, c7, hl, rfl, hr, hc1, hc2, hb⟩
            obtain rfl : 0 = n7 := hl
            clear hr hc1 hc2
            have Q0 := Lib.hid (Q0.out.below hb)
            have KE := Lib.hid (KE.out.below hb KE.out.lt)
            have KT := Lib.hid (KT.out.below hb KT.out.lt)
            have B5 := bt B4 (Lib.hid hb)
            clear hb B4
            go_wp2_with fail
            refine (same_ok A6 A7 [] c7 0 9 w5 Rb.nil Rb.nil rfl).mono ?_
            rintro e w' ⟨rfl, rfl⟩
            obtain ⟨k0, k1, k2, k3, k4, kz⟩ := Bk.five KE.out
            have hnn : ((n2 : Int) != (n2 : Int)) = false := by simp
            go_wp2_with fail
            clear k0 k1 k2 k3 k4 kz hnn
            refine (HOO1.out w5 Q0.out).mono ?_
            rintro e w6 ⟨A8, n8, hl, rfl, hr, hb, hq⟩
            obtain rfl : 0 = n8 := hl
            clear hq
            have R8 := Lib.hid hr
            clear hr
            have Q0 := Lib.hid (Q0.out.below hb)
            have KE := Lib.hid (KE.out.below hb KE.out.lt)
            have KT := Lib.hid (KT.out.below hb KT.out.lt)
            have B6 := bt B5 (Lib.hid hb)
            clear hb B5
            obtain ⟨k0, k1, k2, k3, k4, kz⟩ := Bk.five KE.out
            obtain ⟨t0, t1, t2, tz⟩ := three KT.out
            go_wp2_with fail
            clear k0 k1 k2 k3 k4 kz t0 t1 t2 tz
            refine (same_nil w6 A8 1).mono ?_
            rintro e w7 ⟨rfl, hb⟩
            have KE := Lib.hid (KE.out.below hb KE.out.lt)
            have KT := Lib.hid (KT.out.below hb KT.out.lt)
            have B7 := bt B6 (Lib.hid hb)
            clear hb B6
            go_wp2_with fail
            refine (lives1 w7).mono ?_
            rintro e w8 ⟨rfl, hb⟩
            have B8 := bt B7 (Lib.hid hb)
            clear hb B7
            go_wp2_with fail
            go_ret
            exact ⟨rfl, B8.out⟩
          · obtain rfl : S = 0 := by omega
            clear hS
            have HOF1 := Lib.hid (fun (W : World) (hW : Rb W A2 l2) => (show Calls Try.prog 16 #[elV 0 4 false (.slice A2 L2 ca) (.slice B 0 cb)] W (GiveG W [] 0 9) by
              have h1 := HOF.out W hW
              rw [show wrg 0 4 false 0 3 = 9 from (wrg_9 (by simp))] at h1
              exact h1))
            have HOO1 := Lib.hid (fun (W : World) (hW : Rb W A2 l2) => (show Calls Try.prog 26 #[elV 0 4 false (.slice A2 L2 ca) (.slice B 0 cb)] W (GiveF W l2 0) by
              have h1 := HOO.out W hW
              rw [show wrg 0 4 false 0 4 = 0 from wrg_0 (by omega)] at h1
              exact h1))
            clear HOF HOO
            obtain ⟨w3, hw3⟩ : ∃ w3, (w2.alloc (.cells #[.int .u8 0, .bool false, .int .u32 3] 37)).alloc (.cells #[.int .u8 0, .bool false, .int .u32 4] 37) = w3 := ⟨_, rfl⟩
            have hb : Below w2.heap.size w2 w3 := by rw [← hw3]; exact bel2 w2 _ _
            have KT := Lib.hid (show Bk w3 (w2.heap.size + 1) 37 [.int .u8 0, .bool false, .int .u32 4] by
              have := Bk.new (w2.alloc (.cells #[.int .u8 0, .bool false, .int .u32 3] 37)) 37 [.int .u8 0, .bool false, .int .u32 4]
              rw [World.size_alloc] at this
              rw [← hw3]; exact this)
            have HW3 := Lib.hid hw3
            clear hw3
            have Q0 := Lib.hid (Q0.out.below hb)
            have R5 := Lib.hid (R5.out.below hb)
            have KE := Lib.hid (KE.out.below hb KE.out.lt)
            have B3 := bt B2 (Lib.hid hb)
            clear hb B2
            go_wp2_with fail
            clear k0 k1 k2 k3 k4 kz
            rw [HW3.out]
            refine (HOF1.out w3 Q0.out).mono ?_
            rintro e w4 ⟨A6, n6, hl, rfl, hr, hb, hq⟩
            obtain rfl : 0 = n6 := hl
            clear hq
            have R6 := Lib.hid hr
            clear hr
            have Q0 := Lib.hid (Q0.out.below hb)
            have R5 := Lib.hid (R5.out.below hb)
            have KE := Lib.hid (KE.out.below hb KE.out.lt)
            have KT := Lib.hid (KT.out.below hb KT.out.lt)
            have B4 := bt B3 (Lib.hid hb)
            clear hb B3
            go_wp2_with fail
            refine (rbytes_nil w4).mono ?_
            rintro e w5 ⟨A7, n7, c7, hl, rfl, hr, hc1, hc2, hb⟩
            obtain rfl : 0 = n7 := hl
            clear hr hc1 hc2
            have Q0 := Lib.hid (Q0.out.below hb)
            have KE := Lib.hid (KE.out.below hb KE.out.lt)
            have KT := Lib.hid (KT.out.below hb KT.out.lt)
            have B5 := bt B4 (Lib.hid hb)
            clear hb B4
            go_wp2_with fail
            refine (same_ok A6 A7 [] c7 0 9 w5 Rb.nil Rb.nil rfl).mono ?_
            rintro e w' ⟨rfl, rfl⟩
            obtain ⟨k0, k1, k2, k3, k4, kz⟩ := Bk.five KE.out
            have hnn : ((n2 : Int) != (n2 : Int)) = false := by simp
            go_wp2_with fail
            clear k0 k1 k2 k3 k4 kz hnn
            refine (HOO1.out w5 Q0.out).mono ?_
            rintro e w6 ⟨A8, n8, hl, rfl, hr, hb, hq⟩
            obtain rfl : L2 = n8 := HL.out.symm.trans hl
            clear hl hq
            have R8 := Lib.hid hr
            clear hr
            have Q0 := Lib.hid (Q0.out.below hb)
            have KE := Lib.hid (KE.out.below hb KE.out.lt)
            have KT := Lib.hid (KT.out.below hb KT.out.lt)
            have B6 := bt B5 (Lib.hid hb)
            clear hb B5
            obtain ⟨k0, k1, k2, k3, k4, kz⟩ := Bk.five KE.out
            obtain ⟨t0, t1, t2, tz⟩ := three KT.out
            go_wp2_with fail
            clear k0 k1 k2 k3 k4 kz t0 t1 t2 tz
            refine (HOC.out w6 A8 L2 R8.out).mono ?_
            rintro e w7 ⟨A9, n9, hl, rfl, hr, hb⟩
            obtain rfl : L2 = n9 := HL.out.symm.trans hl
            clear hl
            have R9 := Lib.hid hr
            clear hr
            have Q0 := Lib.hid (Q0.out.below hb)
            have R8 := Lib.hid (R8.out.below hb)
            have KE := Lib.hid (KE.out.below hb KE.out.lt)
            have KT := Lib.hid (KT.out.below hb KT.out.lt)
            have B7 := bt B6 (Lib.hid hb)
            clear hb B6
            obtain ⟨D, wz, w8, hD, hwz, hkz, hw3, hk3, hb⟩ := var5 w7 4 A9 L2
            obtain ⟨z0, z1, z2, z3, z4, zz⟩ := Bk.five hkz
            obtain ⟨y0, y1, y2, y3, y4⟩ := Bk.free5 hkz
            obtain ⟨x0, x1, x2, x3, x4, xz⟩ := Bk.five hk3
            have KY := Lib.hid hk3
            clear hkz hk3
            have Q0 := Lib.hid (Q0.out.below hb)
            have R8 := Lib.hid (R8.out.below hb)
            have R9 := Lib.hid (R9.out.below hb)
            have KE := Lib.hid (KE.out.below hb KE.out.lt)
            have B8 := bt B7 (Lib.hid hb)
            clear hb B7
            obtain ⟨k0, k1, k2, k3, k4, kz⟩ := Bk.five KE.out
            go_wp2_with fail
            clear z0 z1 z2 z3 z4 zz y0 y1 y2 y3 y4 hw3 hwz hD x0 x1 x2 x3 x4 xz k0 k1 k2 k3 k4 kz
            refine (same_ok A8 A2 l2 ca L2 0 w8 R8.out Q0.out HL.out).mono ?_
            rintro e w' ⟨rfl, rfl⟩
            obtain ⟨k0, k1, k2, k3, k4, kz⟩ := Bk.five KE.out
            obtain ⟨x0, x1, x2, x3, x4, xz⟩ := Bk.five KY.out
            go_wp2_with fail
            clear k0 k1 k2 k3 k4 kz x0 x1 x2 x3 x4 xz
            refine (is_ok A9 A2 l2 4 L2 ca w8 R9.out Q0.out HL.out).mono ?_
            rintro e w9 ⟨rfl, hb⟩
            have B9 := bt B8 (Lib.hid hb)
            clear hb B8
            go_wp2_with fail
            refine (lives1 w9).mono ?_
            rintro e w10 ⟨rfl, hb⟩
            have B10 := bt B9 (Lib.hid hb)
            clear hb B9
            go_wp2_with fail
            go_ret
            exact ⟨rfl, B10.out⟩
        · by_cases hS : 0 < S
          · have HOF1 := Lib.hid (fun (W : World) (hW : Rb W A2 l2) => (show Calls Try.prog 16 #[elV 0 en false (.slice A2 L2 ca) (.slice B S cb)] W (GiveG W [] 0 9) by
              have h1 := HOF.out W hW
              rw [show wrg 0 en false S 3 = 9 from (wrg_9 (fun hx => hen3 hx.2.2))] at h1
              exact h1))
            have HOO1 := Lib.hid (fun (W : World) (hW : Rb W A2 l2) => (show Calls Try.prog 26 #[elV 0 en false (.slice A2 L2 ca) (.slice B S cb)] W (GiveF W [] 9) by
              have h1 := HOO.out W hW
              rw [show wrg 0 en false S 4 = 9 from (wrg_9 (fun hx => hen4 hx.2.2))] at h1
              exact h1))
            clear HOF HOO
            have hnb3 : ((en : Int) == 3) = false := by simp; omega
            have hnb4 : ((en : Int) == 4) = false := by simp; omega
            have hnc3 : ((en : Int) != 3) = true := by simp; omega
            have hnc4 : ((en : Int) != 4) = true := by simp; omega
            clear hen3 hen4
            have hSI : (0 : Int) < (S : Int) := by omega
            clear hS
            obtain ⟨w3, hw3⟩ : ∃ w3, (w2.alloc (.cells #[.int .u8 0, .bool false, .int .u32 3] 37)).alloc (.cells #[.int .u8 0, .bool false, .int .u32 4] 37) = w3 := ⟨_, rfl⟩
            have hb : Below w2.heap.size w2 w3 := by rw [← hw3]; exact bel2 w2 _ _
            have KT := Lib.hid (show Bk w3 (w2.heap.size + 1) 37 [.int .u8 0, .bool false, .int .u32 4] by
              have := Bk.new (w2.alloc (.cells #[.int .u8 0, .bool false, .int .u32 3] 37)) 37 [.int .u8 0, .bool false, .int .u32 4]
              rw [World.size_alloc] at this
              rw [← hw3]; exact this)
            have HW3 := Lib.hid hw3
            clear hw3
            have Q0 := Lib.hid (Q0.out.below hb)
            have R5 := Lib.hid (R5.out.below hb)
            have KE := Lib.hid (KE.out.below hb KE.out.lt)
            have B3 := bt B2 (Lib.hid hb)
            clear hb B2
            go_wp2_with fail
            clear k0 k1 k2 k3 k4 kz
            rw [HW3.out]
            refine (HOF1.out w3 Q0.out).mono ?_
            rintro e w4 ⟨A6, n6, hl, rfl, hr, hb, hq⟩
            obtain rfl : 0 = n6 := hl
            clear hq
            have R6 := Lib.hid hr
            clear hr
            have Q0 := Lib.hid (Q0.out.below hb)
            have R5 := Lib.hid (R5.out.below hb)
            have KE := Lib.hid (KE.out.below hb KE.out.lt)
            have KT := Lib.hid (KT.out.below hb KT.out.lt)
            have B4 := bt B3 (Lib.hid hb)
            clear hb B3
            go_wp2_with fail
            refine (rbytes_nil w4).mono ?_
            rintro e w5 ⟨A7, n7, c7, hl, rfl, hr, hc1, hc2, hb⟩
            obtain rfl : 0 = n7 := hl
            clear hr hc1 hc2
            have Q0 := Lib.hid (Q0.out.below hb)
            have KE := Lib.hid (KE.out.below hb KE.out.lt)
            have KT := Lib.hid (KT.out.below hb KT.out.lt)
            have B5 := bt B4 (Lib.hid hb)
            clear hb B4
            go_wp2_with fail
            refine (same_ok A6 A7 [] c7 0 9 w5 Rb.nil Rb.nil rfl).mono ?_
            rintro e w' ⟨rfl, rfl⟩
            obtain ⟨k0, k1, k2, k3, k4, kz⟩ := Bk.five KE.out
            have hnn : ((n2 : Int) != (n2 : Int)) = false := by simp
            go_wp2_with fail
            clear k0 k1 k2 k3 k4 kz hnn
            refine (HOO1.out w5 Q0.out).mono ?_
            rintro e w6 ⟨A8, n8, hl, rfl, hr, hb, hq⟩
            obtain rfl : 0 = n8 := hl
            clear hq
            have R8 := Lib.hid hr
            clear hr
            have Q0 := Lib.hid (Q0.out.below hb)
            have KE := Lib.hid (KE.out.below hb KE.out.lt)
            have KT := Lib.hid (KT.out.below hb KT.out.lt)
            have B6 := bt B5 (Lib.hid hb)
            clear hb B5
            obtain ⟨k0, k1, k2, k3, k4, kz⟩ := Bk.five KE.out
            obtain ⟨t0, t1, t2, tz⟩ := three KT.out
            go_wp2_with fail
            clear k0 k1 k2 k3 k4 kz t0 t1 t2 tz
            refine (same_nil w6 A8 9).mono ?_
            rintro e w7 ⟨rfl, hb⟩
            have KE := Lib.hid (KE.out.below hb KE.out.lt)
            have KT := Lib.hid (KT.out.below hb KT.out.lt)
            have B7 := bt B6 (Lib.hid hb)
            clear hb B6
            go_wp2_with fail
            refine (lives1 w7).mono ?_
            rintro e w8 ⟨rfl, hb⟩
            have B8 := bt B7 (Lib.hid hb)
            clear hb B7
            go_wp2_with fail
            go_ret
            exact ⟨rfl, B8.out⟩
          · obtain rfl : S = 0 := by omega
            clear hS
            have HOF1 := Lib.hid (fun (W : World) (hW : Rb W A2 l2) => (show Calls Try.prog 16 #[elV 0 en false (.slice A2 L2 ca) (.slice B 0 cb)] W (GiveG W [] 0 9) by
              have h1 := HOF.out W hW
              rw [show wrg 0 en false 0 3 = 9 from (wrg_9 (fun hx => hen3 hx.2.2))] at h1
              exact h1))
            have HOO1 := Lib.hid (fun (W : World) (hW : Rb W A2 l2) => (show Calls Try.prog 26 #[elV 0 en false (.slice A2 L2 ca) (.slice B 0 cb)] W (GiveF W [] 9) by
              have h1 := HOO.out W hW
              rw [show wrg 0 en false 0 4 = 9 from (wrg_9 (fun hx => hen4 hx.2.2))] at h1
              exact h1))
            clear HOF HOO
            have hnb3 : ((en : Int) == 3) = false := by simp; omega
            have hnb4 : ((en : Int) == 4) = false := by simp; omega
            have hnc3 : ((en : Int) != 3) = true := by simp; omega
            have hnc4 : ((en : Int) != 4) = true := by simp; omega
            clear hen3 hen4
            obtain ⟨w3, hw3⟩ : ∃ w3, (w2.alloc (.cells #[.int .u8 0, .bool false, .int .u32 3] 37)).alloc (.cells #[.int .u8 0, .bool false, .int .u32 4] 37) = w3 := ⟨_, rfl⟩
            have hb : Below w2.heap.size w2 w3 := by rw [← hw3]; exact bel2 w2 _ _
            have KT := Lib.hid (show Bk w3 (w2.heap.size + 1) 37 [.int .u8 0, .bool false, .int .u32 4] by
              have := Bk.new (w2.alloc (.cells #[.int .u8 0, .bool false, .int .u32 3] 37)) 37 [.int .u8 0, .bool false, .int .u32 4]
              rw [World.size_alloc] at this
              rw [← hw3]; exact this)
            have HW3 := Lib.hid hw3
            clear hw3
            have Q0 := Lib.hid (Q0.out.below hb)
            have R5 := Lib.hid (R5.out.below hb)
            have KE := Lib.hid (KE.out.below hb KE.out.lt)
            have B3 := bt B2 (Lib.hid hb)
            clear hb B2
            go_wp2_with fail
            clear k0 k1 k2 k3 k4 kz
            rw [HW3.out]
            refine (HOF1.out w3 Q0.out).mono ?_
            rintro e w4 ⟨A6, n6, hl, rfl, hr, hb, hq⟩
            obtain rfl : 0 = n6 := hl
            clear hq
            have R6 := Lib.hid hr
            clear hr
            have Q0 := Lib.hid (Q0.out.below hb)
            have R5 := Lib.hid (R5.out.below hb)
            have KE := Lib.hid (KE.out.below hb KE.out.lt)
            have KT := Lib.hid (KT.out.below hb KT.out.lt)
            have B4 := bt B3 (Lib.hid hb)
            clear hb B3
            go_wp2_with fail
            refine (rbytes_nil w4).mono ?_
            rintro e w5 ⟨A7, n7, c7, hl, rfl, hr, hc1, hc2, hb⟩
            obtain rfl : 0 = n7 := hl
            clear hr hc1 hc2
            have Q0 := Lib.hid (Q0.out.below hb)
            have KE := Lib.hid (KE.out.below hb KE.out.lt)
            have KT := Lib.hid (KT.out.below hb KT.out.lt)
            have B5 := bt B4 (Lib.hid hb)
            clear hb B4
            go_wp2_with fail
            refine (same_ok A6 A7 [] c7 0 9 w5 Rb.nil Rb.nil rfl).mono ?_
            rintro e w' ⟨rfl, rfl⟩
            obtain ⟨k0, k1, k2, k3, k4, kz⟩ := Bk.five KE.out
            have hnn : ((n2 : Int) != (n2 : Int)) = false := by simp
            go_wp2_with fail
            clear k0 k1 k2 k3 k4 kz hnn
            refine (HOO1.out w5 Q0.out).mono ?_
            rintro e w6 ⟨A8, n8, hl, rfl, hr, hb, hq⟩
            obtain rfl : 0 = n8 := hl
            clear hq
            have R8 := Lib.hid hr
            clear hr
            have Q0 := Lib.hid (Q0.out.below hb)
            have KE := Lib.hid (KE.out.below hb KE.out.lt)
            have KT := Lib.hid (KT.out.below hb KT.out.lt)
            have B6 := bt B5 (Lib.hid hb)
            clear hb B5
            obtain ⟨k0, k1, k2, k3, k4, kz⟩ := Bk.five KE.out
            obtain ⟨t0, t1, t2, tz⟩ := three KT.out
            go_wp2_with fail
            clear k0 k1 k2 k3 k4 kz t0 t1 t2 tz
            refine (same_nil w6 A8 9).mono ?_
            rintro e w7 ⟨rfl, hb⟩
            have KE := Lib.hid (KE.out.below hb KE.out.lt)
            have KT := Lib.hid (KT.out.below hb KT.out.lt)
            have B7 := bt B6 (Lib.hid hb)
            clear hb B6
            go_wp2_with fail
            refine (lives1 w7).mono ?_
            rintro e w8 ⟨rfl, hb⟩
            have B8 := bt B7 (Lib.hid hb)
            clear hb B7
            go_wp2_with fail
            go_ret
            exact ⟨rfl, B8.out⟩

open Go.ChangeShapes Go.WideShapes Go.ChangeAt
set_option maxRecDepth 100000 in
theorem bitstringsErrors_lifted (os : Os) (started : os.Started) (H : Type) (enc : TypeId × Value → H) :
    ReturnsInHanded {} Try.checked os 6 .any (Rows.bitstringsErrorsSpec.pre6 enc Try.prog Try.f6 Rows.bitstringsErrorsRow.domain false) (Rows.bitstringsErrorsSpec.post enc Try.prog Try.f6 false true false false) := by
  refine returnsInHanded_of_change (C := Try.checked) x_own started (by kernel_rfl) Try.func6
    (ChangeSpec.witness6 (enc := enc) (C := Try.checked) false ⟨#[], #[.slice none 0 0, .int .i64 0, .agg #[.int .u8 0, .bool false, .int .u32 0, .slice none 0 0, .slice none 0 0]], []⟩ 8 (by kernel_rfl) (by kernel_rfl) (by kernel_rfl) (by kernel_rfl)) ?_
  intro W base args ds gs before hval0 hW hcnd _
  have hval : ∀ (j : Nat) t v, Try.f6.params[j]? = some t → args[j]? = some v → Value.okWide Try.prog W .any base t v := hval0
  have hW' := hW
  obtain ⟨p, q, hA0, hV, rfl, hfz, hnd⟩ := hW
  have hA : DataW.TrodAll enc Try.prog W 0 (fun _ => true) true Try.f6.params.toList args.toList ds p := hA0
  rw [Try.params6] at hA hval
  obtain ⟨v0, v1, v2, d0, d1, d2, p0, p1, p2, rfl, rfl, rfl, h0, h1, h2⟩ := trodAll_three hA
  obtain ⟨rfl, rfl⟩ := trodVars_none hV
  obtain ⟨A, l, c, rfl, hR, hlc, hcm⟩ := open_bytes (hval 0 _ v0 rfl rfl) h0
  obtain ⟨z, rfl, hz1, hz2⟩ := open_i64 (hval 1 _ v1 rfl rfl) h1
  obtain ⟨ec, en, ek, A2, B2, l2, ca, S, cb, rfl, hec, hen, hR2, hl2, hca⟩ := open_elem (hval 2 _ v2 rfl rfl) h2
  clear hA0 hval0
  refine (errs_walk A l l.length c z ec en ek A2 B2 l2 l2.length ca S cb W hR rfl hlc hcm hR2 rfl hl2 hca hz1 hz2).mono fun e W' ⟨he, hb⟩ => ?_
  subst he
  exact ⟨_, rfl, law_post (tb := 4) x_laid (by decide +kernel) rfl rfl (by kernel_rfl) Try.underlying4 hW' hb⟩

/-- The statement. -/
theorem bitstringsErrors_holds : Rows.BitstringsErrorsSaid :=
  OpenClaim.holds_of_wide 6 Try.f6 rfl rfl rfl rfl rfl rfl rfl ⟨rfl, rfl, rfl, rfl, rfl⟩ rfl rfl rfl rfl rfl (by kernel_rfl) Try.func6 (by kernel_rfl)
    (of_decide_eq_true (by kernel_rfl)) (by unfold Func.isWrapper; first | (rw [if_pos (by decide +kernel)]; kernel_rfl) | (rw [if_neg (by decide +kernel)]; exact ⟨rfl, rfl⟩))
    (fun os started H enc _ => bitstringsErrors_lifted os started H enc)
end Go.Proofs.Ytnebjdgolbnkfaa.Bit
