/-
  The reference of layer 2: the contract of Parse.
  Conditions: the text has at most 60 letters.
-/
import Derived.Test.YtcaolgcpcjodnaaDoorTagX
import Derived.Test.YtcaolgcpcjodnaaDoorTagY
namespace Go.Proofs.YtcaolgcpcjodnaaDoor
open Go.RowKit

theorem ttext_all (c n : Nat) (k : Bool) : All8 (ttext c n k) := by
  rw [ttext_eq]
  intro x hx
  simp only [List.mem_append, List.mem_cons] at hx
  rcases hx with h | rfl | h | h
  · exact cname_all c x h
  · omega
  · exact textL_all n x h
  · unfold sufk at h
    split at h
    · rcases List.mem_cons.1 h with rfl | h
      · omega
      · exact wcon_all x h
    · cases h
set_option linter.unusedSimpArgs false in
set_option maxRecDepth 100000 in
set_option maxHeartbeats 8000000 in
theorem rparse_any (l : List Nat) (w : World) (h8 : All8 l) (hl : l.length ≤ 60) :
    Calls Tryd.prog 24 #[.string (bstr l)] w (GiveU w (prsE l)) := by
  have hsz := bstr_size l
  rcases Nat.lt_or_ge (pre32 l).length l.length with hlt | hge
  · obtain ⟨f, F, E, D, hC, hn2, hn3, hn4⟩ : ∃ f F E D, Cuts l f F E D ∧ (10 ≤ D.length → prsE l = (0, 0, false, 6)) ∧ (∀ x ∈ D, x < 48 ∨ 57 < x → prsE l = (0, 0, false, 6)) ∧ ((∀ (c : Nat) (k : Bool), c ≤ 3 → dval D ≤ 268435455 → ttext c (dval D) k ≠ l) → prsE l = (0, 0, false, 6)) := ⟨_, _, _, _, cuts hlt, none2, fun x hx h => none3 hx h, none4⟩
    have HN2 := Lib.hid hn2
    have HN3 := Lib.hid hn3
    have HN4 := Lib.hid hn4
    have HC := Lib.hid hC
    have h1 := hC.lt
    have h2 := hC.hF
    have h3 := hC.hE
    have h4 := hC.le
    have HAT := Lib.hid (fun (k x : Nat) (h : l[k]? = some x) => And.intro (str_at h (h8 x (List.mem_of_getElem? h))) (str_byte h (h8 x (List.mem_of_getElem? h))))
    have HCMP := Lib.hid (fun (T : List Nat) (h : All8 T) => And.intro (fun (e : T = l) => (show ((bstr T).toList == (bstr l).toList) = true by rw [e]; exact bstr_self _)) (fun (e : T ≠ l) => bstr_ne h h8 e))
    obtain ⟨N, hN⟩ : ∃ N, l.length = N := ⟨_, rfl⟩
    have HC2 := Lib.hid (show E < N → l[E]? = some 32 from fun h => hC.b2 (by rw [hN]; exact h))
    rw [hN] at hsz hl h1 h4
    clear hlt hN hC hn2 hn3 hn4 h8
    generalize bstr l = s at *
    go_enter Tryd.func24, Tryd.ntmps24
    go_wp2_with fail
    obtain ⟨W, hW⟩ : ∃ W, w.alloc (.cells #[.int .u8 0, .bool false, .int .u32 0] 25) = W := ⟨_, rfl⟩
    have K0 : Kp w W := by rw [← hW]; exact kp_start w
    rw [hW]
    clear hW
    have HK := Lib.hid K0
    obtain ⟨r0, r1, r2, rf, hszW⟩ := kp_facts K0
    have f0 := rf 0
    have f1 := rf 1
    have f2 := rf 2
    clear rf K0
    go_loop [4] (fun i => ∃ k : Nat, k ≤ f ∧ i = .int .i64 (k : Int)) (fun i => f - (intOf i).toNat)
    case atStart => exact ⟨0, by omega, rfl⟩
    case round =>
      obtain ⟨k, hk, rfl⟩ := hrel
      by_cases hkf : k = f
      · subst hkf
        obtain ⟨g1, g2⟩ := HAT.out k 32 HC.out.a2
        have qF : IntKind.i64.wrap ((k : Int) + 1) = (F : Int) := (IntWalk.i64_in _ (by omega)).trans (by omega)
        obtain ⟨m, hm⟩ : ∃ m, E - k = m := ⟨_, rfl⟩
        have qm : IntKind.i64.wrap ((E : Int) - (k : Int)) = (m : Int) := (IntWalk.i64_in _ (by omega)).trans (by omega)
        go_wp2_with fail
        clear g1 g2
        go_loop [5] (fun i => ∃ t : Nat, F ≤ t ∧ t ≤ E ∧ i = .int .i64 (t : Int)) (fun i => E - (intOf i).toNat)
        case atStart => exact ⟨F, Nat.le_refl _, by omega, rfl⟩
        case round =>
          obtain ⟨t, hFt, htE, rfl⟩ := hrel
          by_cases htE2 : t = E
          · subst htE2
            by_cases htN : t = N
            · subst htN
              by_cases hD10 : 10 ≤ D.length
              · have hm10 : 10 < m := by omega
                have HQ := Lib.hid (HN2.out hD10)
                go_wp2_with fail
                have HS := Lib.hid (set3 (a' := .int .u8 0) (b' := .bool false) (c' := .int .u32 0) HK.out.2)
                have s0 := HS.out.cell 0
                have s1 := HS.out.cell 1
                have s2 := HS.out.cell 2
                simp only [List.getElem?_cons_zero, List.getElem?_cons_succ] at s0 s1 s2
                refine bodyPost_ret (v := .tuple #[tagV 0 0 false, .int .i64 6]) (by simp [results, Tryd.results24, go_sem, s0, s1, s2]) rfl ⟨?_, below3 HK.out.1 (Nat.le_refl _)⟩
                rw [HQ.out]
                try rfl
              · have hm10 : ¬ 10 < m := by omega
                have hEN : ¬ t < t := by omega
                go_wp2_with fail
                go_loop [6, 7] (fun v i => ∃ k : Nat, F ≤ k ∧ k ≤ t ∧ i = .int .i64 (k : Int) ∧ v = .int .i64 ((dval (D.take (k - F)) : Nat) : Int) ∧ dval (D.take (k - F)) < 10 ^ (k - F)) (fun _ i => t - (intOf i).toNat)
                case atStart => exact ⟨F, Nat.le_refl _, by omega, rfl, by rw [Nat.sub_self]; rfl, by rw [Nat.sub_self]; exact Nat.zero_lt_one⟩
                case round =>
                  obtain ⟨i, hFi, hiE, rfl, rfl, hvb⟩ := hrel
                  by_cases hiE2 : i = t
                  · subst hiE2
                    rw [show D.take (i - F) = D from List.take_of_length_le (by omega)] at hvb ⊢
                    have hv9 : dval D < 1000000000 := Nat.lt_of_lt_of_le hvb (Nat.pow_le_pow_right (n := 10) (by omega) (show _ ≤ 9 by omega))
                    clear hvb
                    obtain ⟨V, hV⟩ : ∃ V, dval D = V := ⟨_, rfl⟩
                    rw [hV] at hv9 HN4
                    have HN4' := Lib.hid HN4.out
                    have u32 : IntKind.u32.wrap (V : Int) = (V : Int) := IntWalk.u32_in _ (by omega)
                    simp only [hV]
                    clear hV
                    go_wp2_with fail
                    go_loopw [8] (fun c wr => ∃ k : Nat, k ≤ 4 ∧ c = .int .i64 (k : Int) ∧ (∀ (c' : Nat) (b : Bool), c' < k → V ≤ 268435455 → ttext c' V b ≠ l) ∧ Kp w wr) (fun c _ => 4 - (intOf c).toNat)
                    case atStart => exact ⟨0, by omega, rfl, fun c' b h => absurd h (by omega), HK.out⟩
                    case round =>
                      clear r0 r1 r2 f0 f1 f2 hszW
                      obtain ⟨k, hk, rfl, htr, hkp⟩ := hrel
                      have HTO := Lib.hid htr
                      clear htr
                      have HK5 := Lib.hid hkp
                      obtain ⟨r0, r1, r2, rf, hszW⟩ := kp_facts hkp
                      have f0 := rf 0
                      have f1 := rf 1
                      have f2 := rf 2
                      clear rf hkp
                      by_cases hk4 : k = 4
                      · subst hk4
                        have HQ := Lib.hid (HN4'.out (fun c b hc hv => HTO.out c b (by omega) hv))
                        go_wp2_with fail
                        have HS := Lib.hid (set3 (a' := .int .u8 0) (b' := .bool false) (c' := .int .u32 0) HK5.out.2)
                        have s0 := HS.out.cell 0
                        have s1 := HS.out.cell 1
                        have s2 := HS.out.cell 2
                        simp only [List.getElem?_cons_zero, List.getElem?_cons_succ] at s0 s1 s2
                        refine bodyPost_ret (v := .tuple #[tagV 0 0 false, .int .i64 6]) (by simp [results, Tryd.results24, go_sem, s0, s1, s2]) rfl ⟨?_, below3 HK5.out.1 (Nat.le_refl _)⟩
                        rw [HQ.out]
                        try rfl
                      · have hk3 : k < 4 := by omega
                        have hk3i : (k : Int) < 4 := by omega
                        have u8k : IntKind.u8.wrap (k : Int) = (k : Int) := IntWalk.u8_in _ (by omega)
                        clear hk4
                        go_wp2_with fail
                        go_loopw [9] (fun d wr => ∃ j : Nat, j ≤ 2 ∧ d = .int .i64 (j : Int) ∧ (∀ b : Bool, b.toNat < j → V ≤ 268435455 → ttext k V b ≠ l) ∧ Kp w wr) (fun d _ => 2 - (intOf d).toNat)
                        case atStart => exact ⟨0, by omega, rfl, fun b h => absurd h (by omega), HK5.out⟩
                        case round =>
                          clear r0 r1 r2 f0 f1 f2 hszW
                          obtain ⟨j, hj, rfl, htr, hkp⟩ := hrel
                          have HTR := Lib.hid htr
                          clear htr
                          have HKr := Lib.hid hkp
                          obtain ⟨r0, r1, r2, rf, hszW⟩ := kp_facts hkp
                          have f0 := rf 0
                          have f1 := rf 1
                          have f2 := rf 2
                          clear rf hkp
                          by_cases hj2 : j = 2
                          · subst hj2
                            go_wp2_with fail
                            exact ⟨⟨k + 1, by omega, by go_num, by
                              intro c' b hc hv
                              rcases (show c' < k ∨ c' = k by omega) with h | h
                              · exact HTO.out c' b h hv
                              · subst h
                                exact HTR.out b (by cases b <;> decide) hv, HKr.out⟩, by simp [intOf]; try omega⟩
                          · have hj2' : j < 2 := by omega
                            obtain ⟨b, HBJ, hbj⟩ : ∃ b : Bool, Hid (b.toNat = j) ∧ ((j : Int) == 1) = b := by
                              rcases (show j = 0 ∨ j = 1 by omega) with rfl | rfl
                              · exact ⟨false, Lib.hid rfl, rfl⟩
                              · exact ⟨true, Lib.hid rfl, rfl⟩
                            clear hj2
                            by_cases hv28 : V ≤ 268435455
                            · have hv28b : (V : Int) ≤ 268435455 := by omega
                              obtain ⟨T, hT⟩ : ∃ T, bstr (ttext k V b) = T := ⟨_, rfl⟩
                              have HT := Lib.hid hT
                              by_cases he : ttext k V b = l
                              · have hcmp := (HCMP.out _ (ttext_all k V b)).1 he
                                rw [hT] at hcmp
                                have HP := Lib.hid (prsE_text k V b (by omega) hv28)
                                rw [he] at HP
                                obtain ⟨e0, he0⟩ : ∃ e0, chk k V b = e0 := ⟨_, rfl⟩
                                have HX := Lib.hid he0
                                rw [he0] at HP
                                by_cases hz : e0 = 0
                                · subst hz
                                  have HP2 := Lib.hid (HP.out.trans (if_neg (by omega)))
                                  clear hT he he0 HP
                                  go_wp2_with (first | (go_at_call 23; refine (rtextT_any k V b _ (by omega) (by omega)).mono ?_; rintro e w1 ⟨rfl, hb1⟩; rw [HT.out]; obtain ⟨q0, q1, q2, hq⟩ := tag_cells hb1; have HK1 := Lib.hid (kp_step (kp_step HKr.out ((Below.refl _ _).alloc (Nat.le_refl _) _)) hb1); clear hb1) | (go_at_call 10; refine (rcheck_any k V b _ (by omega) (by omega)).mono ?_; rintro e w2 ⟨rfl, hb2⟩; rw [HX.out]; have p0 := (hb2.cell (p := ⟨wr.heap.size, 0, none⟩) hq).trans q0; have p1 := (hb2.cell (p := ⟨wr.heap.size, 1, none⟩) hq).trans q1; have p2 := (hb2.cell (p := ⟨wr.heap.size, 2, none⟩) hq).trans q2; have hk2 := kp_step HK1.out hb2; clear q0 q1 q2 r0 r1 r2 f0 f1 f2 hszW; obtain ⟨r0, r1, r2, rf, hszW⟩ := kp_facts hk2; have f0 := rf 0; have f1 := rf 1; have f2 := rf 2; have HK2 := Lib.hid hk2; clear hb2 hk2 rf))
                                  have HS := Lib.hid (set3 (a' := .int .u8 (k : Int)) (b' := .bool b) (c' := .int .u32 (V : Int)) HK2.out.2)
                                  have s0 := HS.out.cell 0
                                  have s1 := HS.out.cell 1
                                  have s2 := HS.out.cell 2
                                  simp only [List.getElem?_cons_zero, List.getElem?_cons_succ] at s0 s1 s2
                                  refine bodyPost_ret (v := .tuple #[tagV k V b, .int .i64 0]) (by simp [results, Tryd.results24, go_sem, s0, s1, s2]) rfl ⟨?_, below3 HK2.out.1 (Nat.le_refl _)⟩
                                  rw [HP2.out]
                                  try rfl
                                · have HP2 := Lib.hid (HP.out.trans (if_pos hz))
                                  have hzb : ((e0 : Int) != 0) = true := by rw [bne_iff_ne]; omega
                                  clear hT he he0 HP hz
                                  go_wp2_with (first | (go_at_call 23; refine (rtextT_any k V b _ (by omega) (by omega)).mono ?_; rintro e w1 ⟨rfl, hb1⟩; rw [HT.out]; obtain ⟨q0, q1, q2, hq⟩ := tag_cells hb1; have HK1 := Lib.hid (kp_step (kp_step HKr.out ((Below.refl _ _).alloc (Nat.le_refl _) _)) hb1); clear hb1) | (go_at_call 10; refine (rcheck_any k V b _ (by omega) (by omega)).mono ?_; rintro e w2 ⟨rfl, hb2⟩; rw [HX.out]; have p0 := (hb2.cell (p := ⟨wr.heap.size, 0, none⟩) hq).trans q0; have p1 := (hb2.cell (p := ⟨wr.heap.size, 1, none⟩) hq).trans q1; have p2 := (hb2.cell (p := ⟨wr.heap.size, 2, none⟩) hq).trans q2; have hk2 := kp_step HK1.out hb2; clear q0 q1 q2 r0 r1 r2 f0 f1 f2 hszW; obtain ⟨r0, r1, r2, rf, hszW⟩ := kp_facts hk2; have f0 := rf 0; have f1 := rf 1; have f2 := rf 2; have HK2 := Lib.hid hk2; clear hb2 hk2 rf))
                                  have HS := Lib.hid (set3 (a' := .int .u8 0) (b' := .bool false) (c' := .int .u32 0) HK2.out.2)
                                  have s0 := HS.out.cell 0
                                  have s1 := HS.out.cell 1
                                  have s2 := HS.out.cell 2
                                  simp only [List.getElem?_cons_zero, List.getElem?_cons_succ] at s0 s1 s2
                                  refine bodyPost_ret (v := .tuple #[tagV 0 0 false, .int .i64 (e0 : Int)]) (by simp [results, Tryd.results24, go_sem, s0, s1, s2]) rfl ⟨?_, below3 HK2.out.1 (Nat.le_refl _)⟩
                                  rw [HP2.out]
                                  try rfl
                              · have hcmp := (HCMP.out _ (ttext_all k V b)).2 he
                                rw [hT] at hcmp
                                have HNE := Lib.hid he
                                clear hT he
                                go_wp2_with (go_at_call 23; refine (rtextT_any k V b _ (by omega) (by omega)).mono ?_; rintro e w1 ⟨rfl, hb1⟩; rw [HT.out]; obtain ⟨q0, q1, q2, hq⟩ := tag_cells hb1; have HK1 := Lib.hid (kp_step (kp_step HKr.out ((Below.refl _ _).alloc (Nat.le_refl _) _)) hb1); clear hb1)
                                exact ⟨⟨j + 1, by omega, by go_num, by
                                  intro b' hb' h
                                  rcases (show b'.toNat < j ∨ b'.toNat = j by omega) with h1 | h1
                                  · exact HTR.out b' h1 h
                                  · have : b' = b := by
                                      have h2 := HBJ.out
                                      revert h1 h2
                                      cases b' <;> cases b <;> simp <;> omega
                                    rw [this]; exact HNE.out, HK1.out⟩, by simp [intOf]; try omega⟩
                            · have hv28b : ¬ (V : Int) ≤ 268435455 := by omega
                              go_wp2_with fail
                              exact ⟨⟨j + 1, by omega, by go_num, fun b hb h => absurd h hv28, kp_step HKr.out ((Below.refl _ _).alloc (Nat.le_refl _) _)⟩, by simp [intOf]; try omega⟩
                  · have hi : i < t := by omega
                    obtain ⟨x, hx, hx32, hdx⟩ := HC.out.b1 i hFi hi
                    obtain ⟨g1, g2⟩ := HAT.out i x hx
                    have hiN : i < t := by omega
                    by_cases h48 : x < 48
                    · have HQ := Lib.hid (HN3.out x (List.mem_of_getElem? hdx) (Or.inl h48))
                      clear hx hx32 hdx hvb
                      go_wp2_with fail
                      have HS := Lib.hid (set3 (a' := .int .u8 0) (b' := .bool false) (c' := .int .u32 0) HK.out.2)
                      have s0 := HS.out.cell 0
                      have s1 := HS.out.cell 1
                      have s2 := HS.out.cell 2
                      simp only [List.getElem?_cons_zero, List.getElem?_cons_succ] at s0 s1 s2
                      refine bodyPost_ret (v := .tuple #[tagV 0 0 false, .int .i64 6]) (by simp [results, Tryd.results24, go_sem, s0, s1, s2]) rfl ⟨?_, below3 HK.out.1 (Nat.le_refl _)⟩
                      rw [HQ.out]
                      try rfl
                    · by_cases h57 : 57 < x
                      · have HQ := Lib.hid (HN3.out x (List.mem_of_getElem? hdx) (Or.inr h57))
                        clear hx hx32 hdx hvb
                        go_wp2_with fail
                        have HS := Lib.hid (set3 (a' := .int .u8 0) (b' := .bool false) (c' := .int .u32 0) HK.out.2)
                        have s0 := HS.out.cell 0
                        have s1 := HS.out.cell 1
                        have s2 := HS.out.cell 2
                        simp only [List.getElem?_cons_zero, List.getElem?_cons_succ] at s0 s1 s2
                        refine bodyPost_ret (v := .tuple #[tagV 0 0 false, .int .i64 6]) (by simp [results, Tryd.results24, go_sem, s0, s1, s2]) rfl ⟨?_, below3 HK.out.1 (Nat.le_refl _)⟩
                        rw [HQ.out]
                        try rfl
                      · have hd := dval_snoc hdx
                        have hv9 : dval (D.take (i - F)) < 1000000000 := Nat.lt_of_lt_of_le hvb (Nat.pow_le_pow_right (n := 10) (by omega) (show _ ≤ 9 by omega))
                        have hpow : 10 ^ (i + 1 - F) = 10 * 10 ^ (i - F) := by rw [show i + 1 - F = (i - F) + 1 by omega, Nat.pow_succ, Nat.mul_comm]
                        rw [show i - F + 1 = i + 1 - F by omega] at hd
                        have hlt2 : dval (D.take (i + 1 - F)) < 10 ^ (i + 1 - F) := by rw [hd, hpow]; omega
                        obtain ⟨y, hy⟩ : ∃ y, x - 48 = y := ⟨_, rfl⟩
                        obtain ⟨U, hU⟩ : ∃ U, dval (D.take (i - F)) = U := ⟨_, rfl⟩
                        rw [hy, hU] at hd
                        rw [hU] at hv9
                        obtain ⟨U10, hU10⟩ : ∃ U10, 10 * U = U10 := ⟨_, rfl⟩
                        have m1 : IntKind.i64.wrap (10 * (U : Int)) = (U10 : Int) := (IntWalk.i64_in _ (by omega)).trans (by omega)
                        have m2 : IntKind.u8.wrap ((x : Int) - 48) = (y : Int) := (IntWalk.u8_in _ (by omega)).trans (by omega)
                        have m3 : IntKind.i64.wrap (y : Int) = (y : Int) := IntWalk.i64_in _ (by omega)
                        have m4 : IntKind.i64.wrap ((U10 : Int) + (y : Int)) = ((dval (D.take (i + 1 - F)) : Nat) : Int) := (IntWalk.i64_in _ (by omega)).trans (by rw [hd]; omega)
                        have HL2 := Lib.hid hlt2
                        obtain ⟨Z, hZ⟩ : ∃ Z, dval (D.take (i + 1 - F)) = Z := ⟨_, rfl⟩
                        rw [hZ] at m4 HL2
                        have HZ := Lib.hid hZ
                        simp only [hU]
                        clear hx hx32 hdx hvb hd hpow hlt2 hZ hU hy hU10
                        go_wp2_with fail
                        exact ⟨⟨i + 1, by omega, by omega, by go_num, by rw [HZ.out], by rw [HZ.out]; exact HL2.out⟩, by simp [intOf]; try omega⟩
            · have htN2 : t < N := by omega
              obtain ⟨g1, g2⟩ := HAT.out t 32 (HC2.out htN2)
              by_cases hD10 : 10 ≤ D.length
              · have hm10 : 10 < m := by omega
                have HQ := Lib.hid (HN2.out hD10)
                go_wp2_with fail
                have HS := Lib.hid (set3 (a' := .int .u8 0) (b' := .bool false) (c' := .int .u32 0) HK.out.2)
                have s0 := HS.out.cell 0
                have s1 := HS.out.cell 1
                have s2 := HS.out.cell 2
                simp only [List.getElem?_cons_zero, List.getElem?_cons_succ] at s0 s1 s2
                refine bodyPost_ret (v := .tuple #[tagV 0 0 false, .int .i64 6]) (by simp [results, Tryd.results24, go_sem, s0, s1, s2]) rfl ⟨?_, below3 HK.out.1 (Nat.le_refl _)⟩
                rw [HQ.out]
                try rfl
              · have hm10 : ¬ 10 < m := by omega
                have hEN : ¬ N < t := by omega
                go_wp2_with fail
                go_loop [6, 7] (fun v i => ∃ k : Nat, F ≤ k ∧ k ≤ t ∧ i = .int .i64 (k : Int) ∧ v = .int .i64 ((dval (D.take (k - F)) : Nat) : Int) ∧ dval (D.take (k - F)) < 10 ^ (k - F)) (fun _ i => t - (intOf i).toNat)
                case atStart => exact ⟨F, Nat.le_refl _, by omega, rfl, by rw [Nat.sub_self]; rfl, by rw [Nat.sub_self]; exact Nat.zero_lt_one⟩
                case round =>
                  obtain ⟨i, hFi, hiE, rfl, rfl, hvb⟩ := hrel
                  by_cases hiE2 : i = t
                  · subst hiE2
                    rw [show D.take (i - F) = D from List.take_of_length_le (by omega)] at hvb ⊢
                    have hv9 : dval D < 1000000000 := Nat.lt_of_lt_of_le hvb (Nat.pow_le_pow_right (n := 10) (by omega) (show _ ≤ 9 by omega))
                    clear hvb
                    obtain ⟨V, hV⟩ : ∃ V, dval D = V := ⟨_, rfl⟩
                    rw [hV] at hv9 HN4
                    have HN4' := Lib.hid HN4.out
                    have u32 : IntKind.u32.wrap (V : Int) = (V : Int) := IntWalk.u32_in _ (by omega)
                    simp only [hV]
                    clear hV
                    go_wp2_with fail
                    go_loopw [8] (fun c wr => ∃ k : Nat, k ≤ 4 ∧ c = .int .i64 (k : Int) ∧ (∀ (c' : Nat) (b : Bool), c' < k → V ≤ 268435455 → ttext c' V b ≠ l) ∧ Kp w wr) (fun c _ => 4 - (intOf c).toNat)
                    case atStart => exact ⟨0, by omega, rfl, fun c' b h => absurd h (by omega), HK.out⟩
                    case round =>
                      clear r0 r1 r2 f0 f1 f2 hszW
                      obtain ⟨k, hk, rfl, htr, hkp⟩ := hrel
                      have HTO := Lib.hid htr
                      clear htr
                      have HK5 := Lib.hid hkp
                      obtain ⟨r0, r1, r2, rf, hszW⟩ := kp_facts hkp
                      have f0 := rf 0
                      have f1 := rf 1
                      have f2 := rf 2
                      clear rf hkp
                      by_cases hk4 : k = 4
                      · subst hk4
                        have HQ := Lib.hid (HN4'.out (fun c b hc hv => HTO.out c b (by omega) hv))
                        go_wp2_with fail
                        have HS := Lib.hid (set3 (a' := .int .u8 0) (b' := .bool false) (c' := .int .u32 0) HK5.out.2)
                        have s0 := HS.out.cell 0
                        have s1 := HS.out.cell 1
                        have s2 := HS.out.cell 2
                        simp only [List.getElem?_cons_zero, List.getElem?_cons_succ] at s0 s1 s2
                        refine bodyPost_ret (v := .tuple #[tagV 0 0 false, .int .i64 6]) (by simp [results, Tryd.results24, go_sem, s0, s1, s2]) rfl ⟨?_, below3 HK5.out.1 (Nat.le_refl _)⟩
                        rw [HQ.out]
                        try rfl
                      · have hk3 : k < 4 := by omega
                        have hk3i : (k : Int) < 4 := by omega
                        have u8k : IntKind.u8.wrap (k : Int) = (k : Int) := IntWalk.u8_in _ (by omega)
                        clear hk4
                        go_wp2_with fail
                        go_loopw [9] (fun d wr => ∃ j : Nat, j ≤ 2 ∧ d = .int .i64 (j : Int) ∧ (∀ b : Bool, b.toNat < j → V ≤ 268435455 → ttext k V b ≠ l) ∧ Kp w wr) (fun d _ => 2 - (intOf d).toNat)
                        case atStart => exact ⟨0, by omega, rfl, fun b h => absurd h (by omega), HK5.out⟩
                        case round =>
                          clear r0 r1 r2 f0 f1 f2 hszW
                          obtain ⟨j, hj, rfl, htr, hkp⟩ := hrel
                          have HTR := Lib.hid htr
                          clear htr
                          have HKr := Lib.hid hkp
                          obtain ⟨r0, r1, r2, rf, hszW⟩ := kp_facts hkp
                          have f0 := rf 0
                          have f1 := rf 1
                          have f2 := rf 2
                          clear rf hkp
                          by_cases hj2 : j = 2
                          · subst hj2
                            go_wp2_with fail
                            exact ⟨⟨k + 1, by omega, by go_num, by
                              intro c' b hc hv
                              rcases (show c' < k ∨ c' = k by omega) with h | h
                              · exact HTO.out c' b h hv
                              · subst h
                                exact HTR.out b (by cases b <;> decide) hv, HKr.out⟩, by simp [intOf]; try omega⟩
                          · have hj2' : j < 2 := by omega
                            obtain ⟨b, HBJ, hbj⟩ : ∃ b : Bool, Hid (b.toNat = j) ∧ ((j : Int) == 1) = b := by
                              rcases (show j = 0 ∨ j = 1 by omega) with rfl | rfl
                              · exact ⟨false, Lib.hid rfl, rfl⟩
                              · exact ⟨true, Lib.hid rfl, rfl⟩
                            clear hj2
                            by_cases hv28 : V ≤ 268435455
                            · have hv28b : (V : Int) ≤ 268435455 := by omega
                              obtain ⟨T, hT⟩ : ∃ T, bstr (ttext k V b) = T := ⟨_, rfl⟩
                              have HT := Lib.hid hT
                              by_cases he : ttext k V b = l
                              · have hcmp := (HCMP.out _ (ttext_all k V b)).1 he
                                rw [hT] at hcmp
                                have HP := Lib.hid (prsE_text k V b (by omega) hv28)
                                rw [he] at HP
                                obtain ⟨e0, he0⟩ : ∃ e0, chk k V b = e0 := ⟨_, rfl⟩
                                have HX := Lib.hid he0
                                rw [he0] at HP
                                by_cases hz : e0 = 0
                                · subst hz
                                  have HP2 := Lib.hid (HP.out.trans (if_neg (by omega)))
                                  clear hT he he0 HP
                                  go_wp2_with (first | (go_at_call 23; refine (rtextT_any k V b _ (by omega) (by omega)).mono ?_; rintro e w1 ⟨rfl, hb1⟩; rw [HT.out]; obtain ⟨q0, q1, q2, hq⟩ := tag_cells hb1; have HK1 := Lib.hid (kp_step (kp_step HKr.out ((Below.refl _ _).alloc (Nat.le_refl _) _)) hb1); clear hb1) | (go_at_call 10; refine (rcheck_any k V b _ (by omega) (by omega)).mono ?_; rintro e w2 ⟨rfl, hb2⟩; rw [HX.out]; have p0 := (hb2.cell (p := ⟨wr.heap.size, 0, none⟩) hq).trans q0; have p1 := (hb2.cell (p := ⟨wr.heap.size, 1, none⟩) hq).trans q1; have p2 := (hb2.cell (p := ⟨wr.heap.size, 2, none⟩) hq).trans q2; have hk2 := kp_step HK1.out hb2; clear q0 q1 q2 r0 r1 r2 f0 f1 f2 hszW; obtain ⟨r0, r1, r2, rf, hszW⟩ := kp_facts hk2; have f0 := rf 0; have f1 := rf 1; have f2 := rf 2; have HK2 := Lib.hid hk2; clear hb2 hk2 rf))
                                  have HS := Lib.hid (set3 (a' := .int .u8 (k : Int)) (b' := .bool b) (c' := .int .u32 (V : Int)) HK2.out.2)
                                  have s0 := HS.out.cell 0
                                  have s1 := HS.out.cell 1
                                  have s2 := HS.out.cell 2
                                  simp only [List.getElem?_cons_zero, List.getElem?_cons_succ] at s0 s1 s2
                                  refine bodyPost_ret (v := .tuple #[tagV k V b, .int .i64 0]) (by simp [results, Tryd.results24, go_sem, s0, s1, s2]) rfl ⟨?_, below3 HK2.out.1 (Nat.le_refl _)⟩
                                  rw [HP2.out]
                                  try rfl
                                · have HP2 := Lib.hid (HP.out.trans (if_pos hz))
                                  have hzb : ((e0 : Int) != 0) = true := by rw [bne_iff_ne]; omega
                                  clear hT he he0 HP hz
                                  go_wp2_with (first | (go_at_call 23; refine (rtextT_any k V b _ (by omega) (by omega)).mono ?_; rintro e w1 ⟨rfl, hb1⟩; rw [HT.out]; obtain ⟨q0, q1, q2, hq⟩ := tag_cells hb1; have HK1 := Lib.hid (kp_step (kp_step HKr.out ((Below.refl _ _).alloc (Nat.le_refl _) _)) hb1); clear hb1) | (go_at_call 10; refine (rcheck_any k V b _ (by omega) (by omega)).mono ?_; rintro e w2 ⟨rfl, hb2⟩; rw [HX.out]; have p0 := (hb2.cell (p := ⟨wr.heap.size, 0, none⟩) hq).trans q0; have p1 := (hb2.cell (p := ⟨wr.heap.size, 1, none⟩) hq).trans q1; have p2 := (hb2.cell (p := ⟨wr.heap.size, 2, none⟩) hq).trans q2; have hk2 := kp_step HK1.out hb2; clear q0 q1 q2 r0 r1 r2 f0 f1 f2 hszW; obtain ⟨r0, r1, r2, rf, hszW⟩ := kp_facts hk2; have f0 := rf 0; have f1 := rf 1; have f2 := rf 2; have HK2 := Lib.hid hk2; clear hb2 hk2 rf))
                                  have HS := Lib.hid (set3 (a' := .int .u8 0) (b' := .bool false) (c' := .int .u32 0) HK2.out.2)
                                  have s0 := HS.out.cell 0
                                  have s1 := HS.out.cell 1
                                  have s2 := HS.out.cell 2
                                  simp only [List.getElem?_cons_zero, List.getElem?_cons_succ] at s0 s1 s2
                                  refine bodyPost_ret (v := .tuple #[tagV 0 0 false, .int .i64 (e0 : Int)]) (by simp [results, Tryd.results24, go_sem, s0, s1, s2]) rfl ⟨?_, below3 HK2.out.1 (Nat.le_refl _)⟩
                                  rw [HP2.out]
                                  try rfl
                              · have hcmp := (HCMP.out _ (ttext_all k V b)).2 he
                                rw [hT] at hcmp
                                have HNE := Lib.hid he
                                clear hT he
                                go_wp2_with (go_at_call 23; refine (rtextT_any k V b _ (by omega) (by omega)).mono ?_; rintro e w1 ⟨rfl, hb1⟩; rw [HT.out]; obtain ⟨q0, q1, q2, hq⟩ := tag_cells hb1; have HK1 := Lib.hid (kp_step (kp_step HKr.out ((Below.refl _ _).alloc (Nat.le_refl _) _)) hb1); clear hb1)
                                exact ⟨⟨j + 1, by omega, by go_num, by
                                  intro b' hb' h
                                  rcases (show b'.toNat < j ∨ b'.toNat = j by omega) with h1 | h1
                                  · exact HTR.out b' h1 h
                                  · have : b' = b := by
                                      have h2 := HBJ.out
                                      revert h1 h2
                                      cases b' <;> cases b <;> simp <;> omega
                                    rw [this]; exact HNE.out, HK1.out⟩, by simp [intOf]; try omega⟩
                            · have hv28b : ¬ (V : Int) ≤ 268435455 := by omega
                              go_wp2_with fail
                              exact ⟨⟨j + 1, by omega, by go_num, fun b hb h => absurd h hv28, kp_step HKr.out ((Below.refl _ _).alloc (Nat.le_refl _) _)⟩, by simp [intOf]; try omega⟩
                  · have hi : i < t := by omega
                    obtain ⟨x, hx, hx32, hdx⟩ := HC.out.b1 i hFi hi
                    obtain ⟨g1, g2⟩ := HAT.out i x hx
                    have hiN : i < N := by omega
                    by_cases h48 : x < 48
                    · have HQ := Lib.hid (HN3.out x (List.mem_of_getElem? hdx) (Or.inl h48))
                      clear hx hx32 hdx hvb
                      go_wp2_with fail
                      have HS := Lib.hid (set3 (a' := .int .u8 0) (b' := .bool false) (c' := .int .u32 0) HK.out.2)
                      have s0 := HS.out.cell 0
                      have s1 := HS.out.cell 1
                      have s2 := HS.out.cell 2
                      simp only [List.getElem?_cons_zero, List.getElem?_cons_succ] at s0 s1 s2
                      refine bodyPost_ret (v := .tuple #[tagV 0 0 false, .int .i64 6]) (by simp [results, Tryd.results24, go_sem, s0, s1, s2]) rfl ⟨?_, below3 HK.out.1 (Nat.le_refl _)⟩
                      rw [HQ.out]
                      try rfl
                    · by_cases h57 : 57 < x
                      · have HQ := Lib.hid (HN3.out x (List.mem_of_getElem? hdx) (Or.inr h57))
                        clear hx hx32 hdx hvb
                        go_wp2_with fail
                        have HS := Lib.hid (set3 (a' := .int .u8 0) (b' := .bool false) (c' := .int .u32 0) HK.out.2)
                        have s0 := HS.out.cell 0
                        have s1 := HS.out.cell 1
                        have s2 := HS.out.cell 2
                        simp only [List.getElem?_cons_zero, List.getElem?_cons_succ] at s0 s1 s2
                        refine bodyPost_ret (v := .tuple #[tagV 0 0 false, .int .i64 6]) (by simp [results, Tryd.results24, go_sem, s0, s1, s2]) rfl ⟨?_, below3 HK.out.1 (Nat.le_refl _)⟩
                        rw [HQ.out]
                        try rfl
                      · have hd := dval_snoc hdx
                        have hv9 : dval (D.take (i - F)) < 1000000000 := Nat.lt_of_lt_of_le hvb (Nat.pow_le_pow_right (n := 10) (by omega) (show _ ≤ 9 by omega))
                        have hpow : 10 ^ (i + 1 - F) = 10 * 10 ^ (i - F) := by rw [show i + 1 - F = (i - F) + 1 by omega, Nat.pow_succ, Nat.mul_comm]
                        rw [show i - F + 1 = i + 1 - F by omega] at hd
                        have hlt2 : dval (D.take (i + 1 - F)) < 10 ^ (i + 1 - F) := by rw [hd, hpow]; omega
                        obtain ⟨y, hy⟩ : ∃ y, x - 48 = y := ⟨_, rfl⟩
                        obtain ⟨U, hU⟩ : ∃ U, dval (D.take (i - F)) = U := ⟨_, rfl⟩
                        rw [hy, hU] at hd
                        rw [hU] at hv9
                        obtain ⟨U10, hU10⟩ : ∃ U10, 10 * U = U10 := ⟨_, rfl⟩
                        have m1 : IntKind.i64.wrap (10 * (U : Int)) = (U10 : Int) := (IntWalk.i64_in _ (by omega)).trans (by omega)
                        have m2 : IntKind.u8.wrap ((x : Int) - 48) = (y : Int) := (IntWalk.u8_in _ (by omega)).trans (by omega)
                        have m3 : IntKind.i64.wrap (y : Int) = (y : Int) := IntWalk.i64_in _ (by omega)
                        have m4 : IntKind.i64.wrap ((U10 : Int) + (y : Int)) = ((dval (D.take (i + 1 - F)) : Nat) : Int) := (IntWalk.i64_in _ (by omega)).trans (by rw [hd]; omega)
                        have HL2 := Lib.hid hlt2
                        obtain ⟨Z, hZ⟩ : ∃ Z, dval (D.take (i + 1 - F)) = Z := ⟨_, rfl⟩
                        rw [hZ] at m4 HL2
                        have HZ := Lib.hid hZ
                        simp only [hU]
                        clear hx hx32 hdx hvb hd hpow hlt2 hZ hU hy hU10
                        go_wp2_with fail
                        exact ⟨⟨i + 1, by omega, by omega, by go_num, by rw [HZ.out], by rw [HZ.out]; exact HL2.out⟩, by simp [intOf]; try omega⟩
          · have ht : t < E := by omega
            obtain ⟨x, hx, hx32, hdx⟩ := HC.out.b1 t hFt ht
            obtain ⟨g1, g2⟩ := HAT.out t x hx
            have htN : t < N := by omega
            have hxb : ((x : Int) != 32) = true := by rw [bne_iff_ne]; omega
            clear hx hx32 hdx
            go_wp2_with fail
            exact ⟨⟨t + 1, by omega, by omega, by go_num⟩, by simp [intOf]; try omega⟩
      · have hk2 : k < f := by omega
        obtain ⟨x, hx, hx32⟩ := HC.out.a1 k hk2
        obtain ⟨g1, g2⟩ := HAT.out k x hx
        have hkN : k < N := by omega
        have hxb : ((x : Int) != 32) = true := by rw [bne_iff_ne]; omega
        clear hx hx32 hkf
        go_wp2_with fail
        exact ⟨⟨k + 1, by omega, by go_num⟩, by simp [intOf]; try omega⟩
  · have hfl : (pre32 l).length = l.length := Nat.le_antisymm (pre32_le l) hge
    have HQ := Lib.hid (none1 hfl)
    have HA := Lib.hid (fun (k : Nat) (hk : k < l.length) => pre32_lt (l := l) (k := k) (by rw [hfl]; exact hk))
    obtain ⟨N, hN⟩ : ∃ N, l.length = N := ⟨_, rfl⟩
    rw [hN] at hsz hl HA
    have HAT := Lib.hid (fun (k x : Nat) (h : l[k]? = some x) => And.intro (str_at h (h8 x (List.mem_of_getElem? h))) (str_byte h (h8 x (List.mem_of_getElem? h))))
    clear hge hfl hN h8
    generalize bstr l = s at *
    go_enter Tryd.func24, Tryd.ntmps24
    go_wp2_with fail
    obtain ⟨W, hW⟩ : ∃ W, w.alloc (.cells #[.int .u8 0, .bool false, .int .u32 0] 25) = W := ⟨_, rfl⟩
    have K0 : Kp w W := by rw [← hW]; exact kp_start w
    rw [hW]
    clear hW
    have HK := Lib.hid K0
    obtain ⟨r0, r1, r2, rf, hszW⟩ := kp_facts K0
    have f0 := rf 0
    have f1 := rf 1
    have f2 := rf 2
    clear rf K0
    go_loop [4] (fun i => ∃ k : Nat, k ≤ N ∧ i = .int .i64 (k : Int)) (fun i => N - (intOf i).toNat)
    case atStart => exact ⟨0, by omega, rfl⟩
    case round =>
      obtain ⟨k, hk, rfl⟩ := hrel
      by_cases hkN : k = N
      · subst hkN
        have q1 : IntKind.i64.wrap ((k : Int) + 1) = ((k + 1 : Nat) : Int) := IntWalk.i64_in _ (by omega)
        obtain ⟨M, hM⟩ : ∃ M, k + 1 = M := ⟨_, rfl⟩
        rw [hM] at q1
        have hkM : k < M := by omega
        have hkM2 : ¬ M < k := by omega
        have q2 : IntKind.i64.wrap ((M : Int) - (k : Int)) = 1 := (IntWalk.i64_in _ (by omega)).trans (by omega)
        go_wp2_with fail
        go_loop [5] (fun i => i = .int .i64 (M : Int)) (fun _ => 0)
        case atStart => rfl
        case round =>
          subst hrel
          go_wp2_with fail
          have HS := Lib.hid (set3 (a' := .int .u8 0) (b' := .bool false) (c' := .int .u32 0) HK.out.2)
          have s0 := HS.out.cell 0
          have s1 := HS.out.cell 1
          have s2 := HS.out.cell 2
          simp only [List.getElem?_cons_zero, List.getElem?_cons_succ] at s0 s1 s2
          refine bodyPost_ret (v := .tuple #[tagV 0 0 false, .int .i64 6]) (by simp [results, Tryd.results24, go_sem, s0, s1, s2]) rfl ⟨?_, below3 HK.out.1 (Nat.le_refl _)⟩
          rw [HQ.out]
          try rfl
      · have hk2 : k < N := by omega
        obtain ⟨x, hx, hx32⟩ := HA.out k hk2
        obtain ⟨q1, q2⟩ := HAT.out k x hx
        have hxb : ((x : Int) != 32) = true := by rw [bne_iff_ne]; omega
        clear hx hx32 hkN
        go_wp2_with fail
        exact ⟨⟨k + 1, by omega, by go_num⟩, by simp [intOf]; try omega⟩
end Go.Proofs.YtcaolgcpcjodnaaDoor
