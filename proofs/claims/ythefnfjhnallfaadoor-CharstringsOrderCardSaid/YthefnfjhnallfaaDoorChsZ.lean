/-
  The reference of layer 9: Put.
  Conditions: Put is asked of a valid character string.
-/
import Derived.Test.YthefnfjhnallfaaDoorChsY
import Derived.Lib.ConvBytes
namespace Go.Proofs.YthefnfjhnallfaaDoor.Chs
open Go.RowKit Go.Shelf

theorem bytes_below (w : World) (e : TypeId) (s : ByteArray) : Below w.heap.size w (Lib.bytesWorld w e s) :=
  ⟨rfl, rfl, rfl, by rw [Lib.bytesWorld_size]; omega, fun k hk => Lib.bytesWorld_at_old w e s k hk⟩
/-- '[]byte(s)'. -/
theorem conv_bytes (w : World) (l : List Nat) (h : All8 l) (S : ByteArray) (hS : S = bstr l) (hl : l.length ≤ 1000000) :
    ∃ c w', (convert 9 32 (.string S)).run Tryd.prog w = .ok (.slice (some ⟨w.heap.size, 0, none⟩) l.length c) w' ∧ Rb w' (some ⟨w.heap.size, 0, none⟩) l ∧ Below w.heap.size w w' ∧ l.length ≤ c ∧ c ≤ maxLen := by
  subst hS
  have hsz : (bstr l).size = l.length := by simp [bstr, ByteArray.size]
  have hrun := Lib.run_convert_string_bytes (P := Tryd.prog) w 9 32 5 (bstr l) Tryd.underlying9 Tryd.underlying32 Tryd.underlying5
  rw [hsz] at hrun
  refine ⟨_, _, hrun, ⟨fun _ => ⟨w.heap.size, 0, rfl, by rw [Lib.bytesWorld_size]; omega, fun j u hu => ?_⟩, h⟩, bytes_below _ _ _, grownCap_ge .., grownCap_le_maxLen _ _ _ _ (by unfold maxLen; omega)⟩
  obtain ⟨hj, rfl⟩ := List.getElem?_eq_some_iff.1 hu
  have hj2 : j < l.length := by rw [cs8_length] at hj; exact hj
  have hx := h _ (List.getElem_mem hj2)
  rw [Nat.zero_add, Lib.bytesWorld_cell _ _ _ _ (by rw [hsz]; exact hj2)]
  simp only [cs8, List.getElem_map, by8, bstr]
  rw [List.getD_eq_getElem?_getD, List.getElem?_map, List.getElem?_eq_getElem hj2, Option.map_some, Option.getD_some, UInt8.toNat_ofNat', Nat.mod_eq_of_lt (by omega)]
theorem has_small {k c : Nat} (hk : isK k = true) (h1 : k ≠ 12) (h2 : k ≠ 30) (h : hasN k c = true) : c < 128 := by
  have h22 : hasN 22 c = true := by
    rcases isK_cases hk with rfl | rfl | rfl | rfl | rfl
    · exact absurd rfl h1
    · exact has_26_22 (has_19_26 h)
    · exact h
    · exact has_26_22 h
    · exact absurd rfl h2
  have : (decide (0 < c) && decide (c ≤ 127)) = true := h22
  rw [Bool.and_eq_true, decide_eq_true_eq, decide_eq_true_eq] at this
  omega
theorem has_bmp {c : Nat} (h : hasN 30 c = true) : c ≤ 65535 := by
  have : (chO c && decide (c ≤ 65535)) = true := h
  rw [Bool.and_eq_true, decide_eq_true_eq] at this
  exact this.2
set_option linter.unusedSimpArgs false in
set_option linter.unusedVariables false in
set_option maxHeartbeats 4000000 in
set_option maxRecDepth 100000 in
theorem rput_any (k : Nat) (l : List Nat) (h8 : All8 l) (hv : chkC k l = 0) (w : World) :
    Calls Tryd.prog 20 #[chV k (bstr l)] w fun e w' => (∃ A c, e = .returned (.slice A (putL k l).length c) ∧ Rb w' A (putL k l) ∧ (putL k l).length ≤ c ∧ c ≤ maxLen) ∧ Below w.heap.size w w' := by
  obtain ⟨cs, hd, hle, hh, hpl, hcl, hll, hK⟩ := putL_val hv
  have CD := Lib.hid (fun W => rdec_any l l.length h8 rfl (by omega) W)
  rw [hd] at CD
  have HCB := Lib.hid (fun W => conv_bytes W l h8 (bstr l) rfl (by omega))
  have hsz : (bstr l).size = l.length := size_bstr l
  obtain ⟨S, hS⟩ : ∃ S, bstr l = S := ⟨_, rfl⟩
  rw [hS] at CD HCB ⊢
  have HH := Lib.hid hh
  have HP := Lib.hid hpl
  have HK := Lib.hid hK
  have HLE := Lib.hid hle
  obtain ⟨w1, hw1⟩ : ∃ w1, w.alloc (.cells #[.int .u32 (k : Int), .string S] 24) = w1 := ⟨_, rfl⟩
  have B1 : Hid (Below w.heap.size w w1) := Lib.hid (by rw [← hw1]; exact bel1 w _)
  obtain ⟨g, hg⟩ : ∃ g, w.heap.size = g := ⟨_, rfl⟩
  have K1 : Hid (Bk w1 g 24 [.int .u32 (k : Int), .string S]) := Lib.hid (by rw [← hw1, ← hg]; exact Bk.new w _ [.int .u32 (k : Int), .string S])
  have HW1 := Lib.hid hw1
  have HG := Lib.hid hg
  clear hS hw1 hg hv hd hle hh hpl hK hll
  go_enter Tryd.func20, Tryd.ntmps20
  go_upto_region 1 with fail
  rw [HW1.out, HG.out]
  have c1 : w1.cell? ⟨g, 1, none⟩ = some (.string S) := by rw [K1.out.cell]; rfl
  clear hsz
  go_wp2_with fail
  refine (CD.out _).mono ?_
  rintro e w2 ⟨⟨A2, c2, rfl, hr2, hc2, hm2⟩, hb⟩
  have B2 := bt B1 (Lib.hid hb)
  have K2 := kt K1 (Lib.hid hb)
  have HR2 := Lib.hid hr2
  obtain ⟨M, hM⟩ : ∃ M, cs.length = M := ⟨_, rfl⟩
  have HM := Lib.hid hM
  rw [hM] at hcl ⊢
  have c0 : w2.cell? ⟨g, 0, none⟩ = some (.int .u32 (k : Int)) := by rw [K2.out.cell]; rfl
  have c1 : w2.cell? ⟨g, 1, none⟩ = some (.string S) := by rw [K2.out.cell]; rfl
  clear hb B1 K1 hr2 hc2 hm2 hM
  by_cases h12 : k = 12
  · subst h12
    obtain ⟨c3, w3, hrun, hr3, hb3, hc3, hm3⟩ := HCB.out w2
    have HE : Hid (putL 12 l = l) := Lib.hid (by rw [HP.out, pL_12, ← HLE.out])
    have R3 := Lib.hid hr3
    have B3 := bt B2 (Lib.hid hb3)
    obtain ⟨n, hn⟩ : ∃ n, l.length = n := ⟨_, rfl⟩
    rw [hn] at hrun
    have HN := Lib.hid hn
    have HLN : Hid (n ≤ c3 ∧ c3 ≤ maxLen) := Lib.hid ⟨by rw [← hn]; exact hc3, hm3⟩
    clear hr3 hb3 B2 hn hc3 hm3
    go_wp2_with fail
    go_ret
    rw [HE.out]
    exact ⟨⟨_, c3, by rw [HN.out]; rfl, R3.out, by rw [HN.out]; exact HLN.out.1, HLN.out.2⟩, B3.out⟩
  · have h12b : ((k : Int) == 12) = false := by rw [beq_eq_false_iff_ne]; omega
    have H12 := Lib.hid h12
    clear h12 c1
    obtain ⟨B0, hB0⟩ : ∃ B0, w2.heap.size = B0 := ⟨_, rfl⟩
    have START := Lib.hid (World.ownsRow_nil w2 B0 5 1)
    have BZ := Lib.hid (Below.refl B0 w2)
    have HB0 := Lib.hid hB0
    clear hB0
    go_upto_region 6 with fail
    go_loopw [5, 6] (fun v i wr => ∃ j : Nat, j ≤ M ∧ i = .int .i64 (j : Int) ∧ wr.ownsRow B0 5 1 v (pL k (cs.take j)).length (cs8 (pL k (cs.take j))) ∧ Below B0 w2 wr) (fun _ i _ => M - (intOf i).toNat)
    case atStart => exact ⟨0, Nat.zero_le _, rfl, START.out, BZ.out⟩
    case round =>
      obtain ⟨j, hj, rfl, hown, hbl⟩ := hrel
      have OWN := Lib.hid hown
      have BL := Lib.hid hbl
      clear hown hbl START BZ c0
      rcases Nat.lt_or_ge j M with hlt | hge
      · have hlt2 : j < cs.length := by rw [HM.out]; exact hlt
        obtain ⟨b, off, rfl, hb, hc0⟩ := HR2.out.at_ hlt2
        have hb2 : b < B0 := by rw [← HB0.out]; exact hb
        have hca := (BL.out.cell (p := ⟨b, off + j, none⟩) hb2).trans hc0
        have c0 : wr.cell? ⟨g, 0, none⟩ = some (.int .u32 (k : Int)) := by rw [(K2.out.below BL.out (by rw [← HB0.out]; exact K2.out.lt)).cell]; rfl
        have HAS : Hid (hasN k cs[j] = true) := Lib.hid (HH.out _ (List.getElem_mem hlt2))
        have HSN : Hid (pL k (cs.take (j + 1)) = pL k (cs.take j) ++ putB k cs[j]) := Lib.hid (by rw [List.take_succ_eq_append_getElem hlt2, pL_snoc])
        have HLN : Hid ((pL k (cs.take j)).length ≤ 500000) := Lib.hid (by
          have h1 := pL_len k (cs.take j)
          have h2 : (cs.take j).length ≤ j := List.length_take_le ..
          omega)
        have hsz0 : B0 ≤ wr.heap.size := by have := BL.out.size; have := HB0.out; omega
        generalize cs[j] = x at *
        obtain ⟨P0, hP0⟩ : ∃ P0, pL k (cs.take j) = P0 := ⟨_, rfl⟩
        rw [hP0] at OWN HSN HLN
        have hli2 : (j : Int) < (M : Int) := by omega
        have HSZ := Lib.hid hsz0
        have HBB := Lib.hid hb2
        clear hlt2 hb hc0 hP0 hsz0 hb2
        by_cases h30 : k = 30
        · have h30b : ((k : Int) == 30) = true := by rw [beq_iff_eq]; omega
          have hx := has_bmp (by rw [← h30]; exact HAS.out)
          obtain ⟨v1, w3, hrun1, hown1, hb1⟩ := appB OWN.out (x / 256) HSZ.out (by have := HLN.out; omega)
          have hsz1 : B0 ≤ w3.heap.size := Nat.le_trans HSZ.out (by have := hb1.size; have := HSZ.out; omega)
          obtain ⟨v2, w4, hrun2, hown2, hb2⟩ := appB hown1 (x % 256) hsz1 (by rw [List.length_append, List.length_singleton]; have := HLN.out; omega)
          have hc3 : w3.cell? ⟨b, off + j, none⟩ = some (.int .i64 (x : Int)) := (hb1.cell (p := ⟨b, off + j, none⟩) HBB.out).trans hca
          have OWN2 : Hid (w4.ownsRow B0 5 1 v2 (pL k (cs.take (j + 1))).length (cs8 (pL k (cs.take (j + 1))))) := Lib.hid (by
            rw [HSN.out, show putB k x = [x / 256] ++ [x % 256] from by rw [h30]; rfl, ← List.append_assoc]; exact hown2)
          have BL2 : Hid (Below B0 w2 w4) := Lib.hid ((BL.out.trans hb1).trans hb2)
          rw [show ((x / 256 : Nat) : Int) = (x : Int) / 256 by omega] at hrun1
          rw [show ((x % 256 : Nat) : Int) = (x : Int) % 256 by omega] at hrun2
          have HR1 := Lib.hid hrun1
          have HR2' := Lib.hid hrun2
          have hxi : (x : Int) ≤ 65535 := by omega
          clear hrun1 hrun2 hown1 hown2 hb1 hb2 hsz1 hx h30
          go_wp2_with (first | (at_builtin; refine wpList_app (o := ⟨some 36, _, _, _, _, _⟩) rfl _ _ _ _ rfl _ _ rfl rfl HR1.out ?_) | (at_builtin; refine wpList_app (o := ⟨some 45, _, _, _, _, _⟩) rfl _ _ _ _ rfl _ _ rfl rfl HR2'.out ?_))
          exact ⟨⟨j + 1, by omega, by go_num, OWN2.out, BL2.out⟩, by simp [intOf]; omega⟩
        · have h30b : ((k : Int) == 30) = false := by rw [beq_eq_false_iff_ne]; omega
          have hx := has_small HK.out H12.out h30 HAS.out
          obtain ⟨v1, w3, hrun1, hown1, hb1⟩ := appB OWN.out x HSZ.out (by have := HLN.out; omega)
          have OWN2 : Hid (w3.ownsRow B0 5 1 v1 (pL k (cs.take (j + 1))).length (cs8 (pL k (cs.take (j + 1))))) := Lib.hid (by
            rw [HSN.out, putB_one H12.out h30]; exact hown1)
          have BL2 : Hid (Below B0 w2 w3) := Lib.hid (BL.out.trans hb1)
          have HR1 := Lib.hid hrun1
          have hxi : (x : Int) < 128 := by omega
          have hxm : (x : Int) % 256 = (x : Int) := by omega
          clear hrun1 hown1 hb1 hx h30
          go_wp2_with (first | (at_builtin; refine wpList_app (o := ⟨some 45, _, _, _, _, _⟩) rfl _ _ _ _ rfl _ _ rfl rfl HR1.out ?_))
          exact ⟨⟨j + 1, by omega, by go_num, OWN2.out, BL2.out⟩, by simp [intOf]; omega⟩
      · obtain rfl : j = M := by omega
        have hfin : cs.take j = cs := by rw [← HM.out, List.take_length]
        rw [hfin, ← HP.out] at OWN
        obtain ⟨A3, c3, hv, hr, hc3, hm3⟩ := own_open (by rw [cs8_length]; exact OWN.out)
        rw [cs8_length] at hv hc3
        have h83 : All8 (putL k l) := by rw [HP.out]; exact pL_all (fun c hc => hasN_scal (HH.out c hc)) HH.out
        subst hv
        have FIN : Hid (∃ A c, Ending.returned (.slice A3 (putL k l).length c3) = .returned (.slice A (putL k l).length c) ∧ Rb wr A (putL k l) ∧ (putL k l).length ≤ c ∧ c ≤ maxLen) := Lib.hid ⟨A3, c3, rfl, ⟨hr, h83⟩, hc3, hm3⟩
        have B9 : Hid (Below w.heap.size w wr) := Lib.hid (B2.out.trans (BL.out.mono (by rw [← HB0.out]; exact B2.out.size)))
        obtain ⟨n, hn⟩ : ∃ n, (putL k l).length = n := ⟨_, rfl⟩
        have HNN := Lib.hid hn
        rw [hn] at FIN
        clear hr hc3 hm3 hfin h83 OWN hn
        go_wp2_with fail
        go_ret
        rw [HNN.out]
        exact ⟨FIN.out, B9.out⟩
end Go.Proofs.YthefnfjhnallfaaDoor.Chs
