/-
  The reference of layer 9: Check, Put.
  Conditions: Put is asked of a valid character string.
-/
import Derived.Test.YthefnfjhnallfaaDoorChsX
import Derived.Deep.RegionHeld3
namespace Go.Proofs.YthefnfjhnallfaaDoor.Chs
open Go.RowKit Go.Shelf

set_option linter.unusedSimpArgs false in
set_option linter.unusedVariables false in
set_option maxHeartbeats 4000000 in
set_option maxRecDepth 100000 in
theorem rchk_any (k : Nat) (hk : k < 4294967296) (l : List Nat) (h8 : All8 l) (hl : l.length ≤ 9000000000000000000) (w : World) :
    Calls Tryd.prog 11 #[chV k (bstr l)] w fun e w' => e = .returned (.int .i64 (chkC k l : Int)) ∧ Below w.heap.size w w' := by
  have CD := Lib.hid (fun (h : l.length ≤ 1000000) W => rdec_any l l.length h8 rfl h W)
  have CK := Lib.hid (fun W => rkind_any k W)
  have CH := Lib.hid (fun c W => rhas_any k c W)
  have hsz : (bstr l).size = l.length := size_bstr l
  obtain ⟨S, hS⟩ : ∃ S, bstr l = S := ⟨_, rfl⟩
  rw [hS] at CD hsz ⊢
  obtain ⟨T, hT⟩ : ∃ T, chkC k l = T := ⟨_, rfl⟩
  have HT := Lib.hid hT
  rw [hT]
  obtain ⟨w1, hw1⟩ : ∃ w1, w.alloc (.cells #[.int .u32 (k : Int), .string S] 24) = w1 := ⟨_, rfl⟩
  have B1 : Hid (Below w.heap.size w w1) := Lib.hid (by rw [← hw1]; exact bel1 w _)
  obtain ⟨g, hg⟩ : ∃ g, w.heap.size = g := ⟨_, rfl⟩
  have K1 : Hid (Bk w1 g 24 [.int .u32 (k : Int), .string S]) := Lib.hid (by rw [← hw1, ← hg]; exact Bk.new w _ [.int .u32 (k : Int), .string S])
  have HW1 := Lib.hid hw1
  have HG := Lib.hid hg
  clear hS h8 hw1 hg hT
  go_enter Tryd.func11, Tryd.ntmps11
  go_upto_region 1 with fail
  rw [HW1.out, HG.out]
  have c0 : w1.cell? ⟨g, 0, none⟩ = some (.int .u32 (k : Int)) := by rw [K1.out.cell]; rfl
  have c1 : w1.cell? ⟨g, 1, none⟩ = some (.string S) := by rw [K1.out.cell]; rfl
  cases hK : isK k
  · rw [hK] at CK
    have HE : Hid (T = 9) := Lib.hid (by rw [← HT.out, chkC_kind hK])
    clear hK
    go_wp2_with fail
    refine (CK.out _).mono ?_
    rintro e w' ⟨rfl, rfl⟩
    go_wp2_with fail
    go_ret
    rw [HE.out]
    exact ⟨rfl, B1.out⟩
  · have HK := Lib.hid hK
    rw [hK] at CK
    clear hK
    by_cases hlong : 65536 < l.length
    · have HE : Hid (T = 3) := Lib.hid (by rw [← HT.out, chkC_long HK.out hlong])
      have hli : (65536 : Int) < (l.length : Int) := by omega
      clear hlong
      go_wp2_with fail
      refine (CK.out _).mono ?_
      rintro e w' ⟨rfl, rfl⟩
      go_wp2_with fail
      go_ret
      rw [HE.out]
      exact ⟨rfl, B1.out⟩
    · have hli : ¬ (65536 : Int) < (l.length : Int) := by omega
      have HLL := Lib.hid hlong
      have CD1 := Lib.hid (fun W => CD.out (by omega) W)
      clear hlong CD
      go_wp2_with fail
      refine (CK.out _).mono ?_
      rintro e w' ⟨rfl, rfl⟩
      go_wp2_with fail
      refine (CD1.out _).mono ?_
      rintro e w2 ⟨hgv, hb⟩
      have B2 := bt B1 (Lib.hid hb)
      have K2 := kt K1 (Lib.hid hb)
      clear hb B1 K1 c0 c1
      cases hd : decS l with
      | none =>
        have HE : Hid (T = 11) := Lib.hid (by rw [← HT.out, chkC_bad HK.out HLL.out hd])
        rw [hd] at hgv
        dsimp only at hgv
        subst hgv
        clear hd
        go_wp2_with fail
        go_ret
        rw [HE.out]
        exact ⟨rfl, B2.out⟩
      | some cs =>
        have HE : Hid (T = if cs.all (hasN k) = true then 0 else 11) := Lib.hid (by rw [← HT.out, chkC_some HK.out HLL.out hd])
        rw [hd] at hgv
        obtain ⟨A2, c2, rfl, hr2, hc2, hm2⟩ := hgv
        have HR2 := Lib.hid hr2
        obtain ⟨M, hM⟩ : ∃ M, cs.length = M := ⟨_, rfl⟩
        have HM := Lib.hid hM
        have HLM : Hid (M ≤ 65536) := Lib.hid (by
          have h1 := (decS_iff.1 hd).1
          have h2 := (encS_len cs).1
          rw [← h1] at h2
          omega)
        rw [hM]
        clear hd hr2 hc2 hm2 hM
        go_upto_region 9 with fail
        go_loopw [5] (fun i wr => ∃ j : Nat, j ≤ M ∧ i = .int .i64 (j : Int) ∧ (∀ c ∈ cs.take j, hasN k c = true) ∧ Bk wr g 24 [.int .u32 (k : Int), .string S] ∧ Ri wr A2 cs ∧ Below w.heap.size w wr) (fun i _ => M - (intOf i).toNat)
        case atStart => exact ⟨0, Nat.zero_le _, rfl, fun c h => absurd h (by simp), K2.out, HR2.out, B2.out⟩
        case round =>
          obtain ⟨j, hj, rfl, hall, hk2, hr, hbl⟩ := hrel
          have HALL := Lib.hid hall
          have K3 := Lib.hid hk2
          have R3 := Lib.hid hr
          have BL := Lib.hid hbl
          clear hall hk2 hr hbl K2 HR2 B2
          rcases Nat.lt_or_ge j M with hlt | hge
          · have hlt2 : j < cs.length := by rw [HM.out]; exact hlt
            obtain ⟨b, off, rfl, hb, hc0⟩ := R3.out.at_ hlt2
            have a0 : wr.cell? ⟨g, 0, none⟩ = some (.int .u32 (k : Int)) := by rw [K3.out.cell]; rfl
            have CH1 := Lib.hid (fun W => CH.out cs[j] W)
            have HNX : Hid (hasN k cs[j] = true → ∀ c ∈ cs.take (j + 1), hasN k c = true) := Lib.hid (fun h c hc => by
              rw [List.take_succ_eq_append_getElem hlt2, List.mem_append, List.mem_singleton] at hc
              rcases hc with hc | rfl
              · exact HALL.out c hc
              · exact h)
            have HBD : Hid (hasN k cs[j] = false → T = 11) := Lib.hid (fun h => by
              rw [HE.out, if_neg]
              intro h2
              rw [List.all_eq_true] at h2
              rw [h2 _ (List.getElem_mem hlt2)] at h
              cases h)
            generalize cs[j] = x at *
            have hs1 := K3.out.lt
            have hli2 : (j : Int) < (M : Int) := by omega
            have hdr : Hid (Below wr.heap.size wr wr.drew) := Lib.hid (Below.refl _ _).drew
            have K4 := kt K3 hdr
            have R4 := Lib.hid (R3.out.below hdr.out)
            have BL4 := Lib.hid (BL.out.trans (hdr.out.mono BL.out.size))
            obtain ⟨v, hv⟩ : ∃ v, hasN k x = v := ⟨_, rfl⟩
            rw [hv] at CH1 HNX HBD
            have hM2 := HLM.out
            clear hv HALL K3 R3 BL hdr hlt2 hli hsz hl hk
            go_upto_region 11 with fail
            go_region_held3 (fun w' => w'.cell? ⟨g, 0, none⟩ = some (.int .u32 (k : Int)) ∧ w'.cell? ⟨b, off + j, none⟩ = some (.int .i64 (x : Int))) (exact ⟨a0, hc0⟩)
                (first | (go_at_call 31; refine (CH1.out _).mono ?_; rintro e w1 ⟨rfl, rfl⟩))
            clear a0 hc0 hs1 hb
            cases v
            · have HE2 : Hid (T = 11) := Lib.hid (HBD.out rfl)
              clear HNX HBD
              go_wp2_with fail
              go_ret
              rw [HE2.out]
              exact ⟨rfl, BL4.out⟩
            · have HN2 := Lib.hid (HNX.out rfl)
              clear HNX HBD
              go_wp2_with fail
              exact ⟨⟨j + 1, by omega, by go_num, HN2.out, K4.out, R4.out, BL4.out⟩, by simp [intOf]; omega⟩
          · obtain rfl : j = M := by omega
            have HE2 : Hid (T = 0) := Lib.hid (by
              rw [HE.out, if_pos]
              rw [List.all_eq_true]
              have := HALL.out
              rwa [List.take_of_length_le (by rw [HM.out]; exact Nat.le_refl _)] at this)
            clear HALL
            go_wp2_with fail
            go_ret
            rw [HE2.out]
            exact ⟨rfl, BL.out⟩
end Go.Proofs.YthefnfjhnallfaaDoor.Chs
