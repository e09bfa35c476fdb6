/-
  The reference of layer 9: Decode.
  Conditions: a string of at most 1000000 octets.
-/
import Derived.Test.YthefnfjhnallfaaDoorChsW
import Derived.Deep.DeepCutAuto
import Derived.Deep.CutBlock
namespace Go.Proofs.YthefnfjhnallfaaDoor.Chs
open Go.RowKit Go.Shelf

theorem infoI : (Tryd.prog.info? 3).map (fun i => (i.zero, i.size, i.bytes)) = some (some (.int .i64 0), 1, 8) := by kernel_rfl
theorem appI {w : World} {base : Nat} {v : Value} {l : List Nat} (hown : w.ownsRow base 3 1 v l.length (csI l)) (x : Nat) (hb : base ≤ w.heap.size) (hl : l.length ≤ 1000000) :
    ∃ v' w', (Builtin.append_ #[52, 52] 52 #[v, .slice (some ⟨w.heap.size, 0, none⟩) 1 1]).run Tryd.prog (w.alloc (.cells #[.int .i64 (x : Int)] 3)) = .ok v' w' ∧ w'.ownsRow base 3 1 v' (l ++ [x]).length (csI (l ++ [x])) ∧ Below base w w' := by
  rw [← csI_length] at hown
  obtain ⟨v', w', h1, h2, h3⟩ := app_one (P := Tryd.prog) (ty := 52) Tryd.underlying52 infoI rfl hown (.int .i64 (x : Int)) rfl hb (by rw [csI_length]; omega) (by rw [csI_length]; unfold maxLen; omega)
  refine ⟨v', w', h1, ?_, h3⟩
  rw [csI_snoc, csI_length] at h2
  exact h2
theorem idx_str (l : List Nat) (h8 : All8 l) (j : Nat) (hj : j < l.length) (W : World) : (Instr.index 9 (.string (bstr l)) (.int .i64 (j : Int))).run Tryd.prog W = .ok (.int .u8 (l[j] : Int)) W := by
  have hs : (bstr l).size = l.length := size_bstr l
  rw [run_index_string (P := Tryd.prog) W 9 (bstr l) .i64 (j : Int) Tryd.underlying9, dif_pos ⟨by omega, by omega⟩]
  have h := get_bstr l h8 j
  rw [List.getD_eq_getElem?_getD, List.getElem?_eq_getElem hj, Option.getD_some] at h
  have h2 : ((bstr l)[(j : Int).toNat]'(by have := size_bstr l; omega)).toNat = l[j] := by
    rw [← h]
    congr 1
    show (bstr l)[j]'(by omega) = (bstr l).get! j
    exact (getElem!_pos (bstr l).data j (by show j < (bstr l).size; omega)).symm
  rw [h2]
theorem dec_none {x : Nat} {r : List Nat} (h : hd3 x = none) : dec1 (x :: r) = none := by rw [dec1_head, h]
theorem dec_short {x m c least : Nat} {r : List Nat} (h : hd3 x = some (m, c, least)) (h2 : r.length < m) : dec1 (x :: r) = none := by rw [dec1_head, h]; dsimp only; rw [if_pos h2]
theorem dec_bad {x m c least : Nat} {r : List Nat} (h : hd3 x = some (m, c, least)) (h2 : dgo m c r = none) : dec1 (x :: r) = none := by rw [dec1_head, h]; dsimp only; rw [h2]; simp
theorem dec_out {x m c least c' : Nat} {r : List Nat} (h : hd3 x = some (m, c, least)) (h2 : dgo m c r = some c') (h3 : c' < least ∨ 1114111 < c' ∨ (55296 ≤ c' ∧ c' < 57344)) : dec1 (x :: r) = none := by rw [dec1_head, h]; dsimp only; rw [h2]; dsimp only; rw [if_pos h3]; simp
theorem dec_ok {x m c least c' : Nat} {r : List Nat} (h : hd3 x = some (m, c, least)) (h1 : ¬ r.length < m) (h2 : dgo m c r = some c') (h3 : ¬ (c' < least ∨ 1114111 < c' ∨ (55296 ≤ c' ∧ c' < 57344))) : dec1 (x :: r) = some (c', m + 1) := by rw [dec1_head, h]; dsimp only; rw [h2]; dsimp only; rw [if_neg h3, if_neg h1]
/-- What Decode gives. -/
def GiveD (w : World) (r : Option (List Nat)) (e : Ending) (w' : World) : Prop :=
  (match r with
  | none => e = .returned (.tuple #[.slice none 0 0, .bool false])
  | some cs => ∃ A c, e = .returned (.tuple #[.slice A cs.length c, .bool true]) ∧ Ri w' A cs ∧ cs.length ≤ c ∧ c ≤ maxLen) ∧ Below w.heap.size w w'
theorem giveD_none {w w' : World} {r : Option (List Nat)} (h : r = none) (hb : Below w.heap.size w w') : GiveD w r (.returned (.tuple #[.slice none 0 0, .bool false])) w' := by
  subst h
  exact ⟨rfl, hb⟩
set_option linter.unusedSimpArgs false in
set_option linter.unusedVariables false in
set_option maxHeartbeats 4000000 in
set_option maxRecDepth 100000 in
theorem rdec_any (l : List Nat) (N : Nat) (h8 : All8 l) (hN : l.length = N) (hm : N ≤ 1000000) (w : World) :
    Calls Tryd.prog 23 #[.string (bstr l)] w (GiveD w (decS l)) := by
  have HIX := Lib.hid (fun j (hj : j < l.length) W => idx_str l h8 j hj W)
  have H8 := Lib.hid h8
  have HN := Lib.hid hN
  have hsz : (bstr l).size = N := by rw [size_bstr, hN]
  obtain ⟨R, hR⟩ : ∃ R, decS l = R := ⟨_, rfl⟩
  have HR := Lib.hid hR
  rw [hR]
  obtain ⟨S, hS⟩ : ∃ S, bstr l = S := ⟨_, rfl⟩
  rw [hS] at HIX hsz ⊢
  have START := Lib.hid (World.ownsRow_nil w w.heap.size 3 1)
  have B0 := Lib.hid (Below.refl w.heap.size w)
  clear h8 hN hR hS
  go_enter Tryd.func23, Tryd.ntmps23
  go_upto_region 3 with fail
  go_loopw [4, 5] (fun v i wr => ∃ (p : Nat) (pre : List Nat), p ≤ N ∧ i = .int .i64 (p : Int) ∧ pre.length ≤ p ∧ wr.ownsRow w.heap.size 3 1 v pre.length (csI pre) ∧ Below w.heap.size w wr ∧ R = (decS (l.drop p)).map (pre ++ ·)) (fun _ i _ => N - (intOf i).toNat)
  case atStart => exact ⟨0, [], Nat.zero_le _, rfl, Nat.le_refl _, START.out, B0.out, by rw [List.drop_zero, HR.out]; simp⟩
  case round =>
    obtain ⟨p, pre, hp, rfl, hpre, hown, hbl, hrd⟩ := hrel
    have OWN := Lib.hid hown
    have BL := Lib.hid hbl
    have RD := Lib.hid hrd
    have HPRE := Lib.hid hpre
    clear hown hbl START B0 hrd HR hpre
    rcases Nat.lt_or_ge p N with hlt | hge
    · have hlt2 : p < l.length := by rw [HN.out]; exact hlt
      have hdr : l.drop p = l[p] :: l.drop (p + 1) := List.drop_eq_getElem_cons hlt2
      have hix0 := HIX.out p hlt2
      have hx8 : l[p] < 256 := H8.out.get hlt2
      obtain ⟨x, hx⟩ : ∃ x, l[p] = x := ⟨_, rfl⟩
      rw [hx] at hdr hix0 hx8
      have HDR := Lib.hid hdr
      have FAIL : Hid (dec1 (x :: l.drop (p + 1)) = none → R = none) := Lib.hid (fun h => by
        rw [← HDR.out] at h
        rw [RD.out, decS_bad (by rw [HDR.out]; simp) h]; rfl)
      have HRL : Hid ((l.drop (p + 1)).length = N - p - 1) := Lib.hid (by rw [List.length_drop, HN.out]; omega)
      have hpi : (p : Int) < (N : Int) := by omega
      clear hdr hx hlt2
      go_upto_block 2 with fail
      go_cut [7, 8, 9] (fun a b d wx => ∃ m c least : Nat, a = .int .i64 (m : Int) ∧ b = .int .i64 (c : Int) ∧ d = .int .i64 (least : Int) ∧ hd3 x = some (m, c, least) ∧ wr = wx)
      case first =>
        by_cases a1 : x < 128
        · have hh : Hid (hd3 x = some (0, x, 0)) := Lib.hid (by unfold hd3; rw [if_pos a1])
          have b1 : (x : Int) < 128 := by omega
          clear a1
          go_wp2_with fail
          go_meet
          exact ⟨0, x, 0, rfl, rfl, rfl, hh.out, rfl⟩
        · have b1 : ¬ (x : Int) < 128 := by omega
          by_cases a2 : 194 ≤ x ∧ x < 224
          · have hh : Hid (hd3 x = some (1, x - 192, 128)) := Lib.hid (by unfold hd3; rw [if_neg a1, if_pos a2])
            have b2 : (194 : Int) ≤ (x : Int) := by omega
            have b3 : (x : Int) < 224 := by omega
            have b4 : Hid (((x - 192 : Nat) : Int) = (x : Int) - 192) := Lib.hid (by omega)
            clear a1 a2
            go_wp2_with fail
            go_meet
            exact ⟨1, x - 192, 128, rfl, by rw [b4.out], rfl, hh.out, rfl⟩
          · by_cases a3 : 224 ≤ x ∧ x < 240
            · have hh : Hid (hd3 x = some (2, x - 224, 2048)) := Lib.hid (by unfold hd3; rw [if_neg a1, if_neg a2, if_pos a3])
              have b2 : (194 : Int) ≤ (x : Int) := by omega
              have b3 : ¬ (x : Int) < 224 := by omega
              have b5 : (224 : Int) ≤ (x : Int) := by omega
              have b6 : (x : Int) < 240 := by omega
              have b4 : Hid (((x - 224 : Nat) : Int) = (x : Int) - 224) := Lib.hid (by omega)
              clear a1 a2 a3
              go_wp2_with fail
              go_meet
              exact ⟨2, x - 224, 2048, rfl, by rw [b4.out], rfl, hh.out, rfl⟩
            · by_cases a4 : 240 ≤ x ∧ x < 245
              · have hh : Hid (hd3 x = some (3, x - 240, 65536)) := Lib.hid (by unfold hd3; rw [if_neg a1, if_neg a2, if_neg a3, if_pos a4])
                have b2 : (194 : Int) ≤ (x : Int) := by omega
                have b3 : ¬ (x : Int) < 224 := by omega
                have b5 : (224 : Int) ≤ (x : Int) := by omega
                have b6 : ¬ (x : Int) < 240 := by omega
                have b7 : (240 : Int) ≤ (x : Int) := by omega
                have b8 : (x : Int) < 245 := by omega
                have b4 : Hid (((x - 240 : Nat) : Int) = (x : Int) - 240) := Lib.hid (by omega)
                clear a1 a2 a3 a4
                go_wp2_with fail
                go_meet
                exact ⟨3, x - 240, 65536, rfl, by rw [b4.out], rfl, hh.out, rfl⟩
              · have hn : Hid (R = none) := Lib.hid (FAIL.out (dec_none (by unfold hd3; rw [if_neg a1, if_neg a2, if_neg a3, if_neg a4])))
                have hc : ¬ (194 : Int) ≤ (x : Int) ∧ ¬ (224 : Int) ≤ (x : Int) ∧ ¬ (240 : Int) ≤ (x : Int) ∨ ((194 : Int) ≤ (x : Int) ∧ ¬ (x : Int) < 224 ∧ (224 : Int) ≤ (x : Int) ∧ ¬ (x : Int) < 240 ∧ (240 : Int) ≤ (x : Int) ∧ ¬ (x : Int) < 245) := by omega
                clear a1 a2 a3 a4
                rcases hc with ⟨c1, c2, c3⟩ | ⟨c1, c2, c3, c4, c5, c6⟩
                · go_wp2_with fail
                  go_ret2
                  exact giveD_none hn.out BL.out
                · go_wp2_with fail
                  go_ret2
                  exact giveD_none hn.out BL.out
      case rest =>
        obtain ⟨m, c, least, rfl, rfl, rfl, hh, rfl⟩ := hcut
        have hmc := hd3_lt hh
        have hm3 := hmc.1
        have HC := Lib.hid hmc.2
        have HH := Lib.hid hh
        clear hh hmc
        rcases Nat.lt_or_ge (N - p - 1) m with hs | hs
        · have hn : Hid (R = none) := Lib.hid (FAIL.out (dec_short HH.out (by rw [HRL.out]; exact hs)))
          have hsi : (N : Int) ≤ (p : Int) + (m : Int) := by omega
          clear hs
          go_wp2_with fail
          go_ret2
          exact giveD_none hn.out BL.out
        · have hsi : ¬ (N : Int) ≤ (p : Int) + (m : Int) := by omega
          have HS : Hid (p + m < N) := Lib.hid (by omega)
          clear hs
          go_upto_region 17 with fail
          go_loopw [8, 10] (fun a b wx => ∃ k c' : Nat, a = .int .i64 (c' : Int) ∧ b = .int .i64 (k : Int) ∧ 1 ≤ k ∧ k ≤ m + 1 ∧ dgo m c (l.drop (p + 1)) = dgo (m + 1 - k) c' (l.drop (p + k)) ∧ (c' < 128 ∧ k = 1 ∨ c' < 8192 ∧ k = 2 ∨ c' < 524288 ∧ k = 3 ∨ c' < 33554432 ∧ k = 4) ∧ wr = wx) (fun _ b _ => m + 1 - (intOf b).toNat)
          case atStart => exact ⟨1, c, rfl, rfl, Nat.le_refl _, by omega, rfl, .inl ⟨HC.out, rfl⟩, rfl⟩
          case round =>
            obtain ⟨k, c', rfl, rfl, hk1, hk2, hgo, hbd, rfl⟩ := hrel
            have HGO := Lib.hid hgo
            clear hgo HC
            rcases Nat.lt_or_ge m k with hkm | hkm
            · have HG2 : Hid (dgo m c (l.drop (p + 1)) = some c') := Lib.hid (by rw [HGO.out, show m + 1 - k = 0 by omega, dgo])
              have hki : ¬ (k : Int) ≤ (m : Int) := by omega
              have hcb : c' < 33554432 := by omega
              clear HGO hkm hk1 hk2 hbd
              have hc5 : (c' < least) ∨ (¬ c' < least ∧ 1114111 < c') ∨ (¬ c' < least ∧ ¬ 1114111 < c' ∧ 55296 ≤ c' ∧ c' < 57344) ∨ (¬ c' < least ∧ ¬ 1114111 < c' ∧ ¬ 55296 ≤ c') ∨ (¬ c' < least ∧ ¬ 1114111 < c' ∧ 55296 ≤ c' ∧ ¬ c' < 57344) := by omega
              have DONE : Hid (¬ (c' < least ∨ 1114111 < c' ∨ (55296 ≤ c' ∧ c' < 57344)) → ∃ v' w1, (Builtin.append_ #[52, 52] 52 #[u4, .slice (some ⟨wr.heap.size, 0, none⟩) 1 1]).run Tryd.prog (wr.alloc (.cells #[.int .i64 (c' : Int)] 3)) = .ok v' w1 ∧ w1.ownsRow w.heap.size 3 1 v' (pre ++ [c']).length (csI (pre ++ [c'])) ∧ Below w.heap.size w w1 ∧ R = (decS (l.drop (p + (m + 1)))).map ((pre ++ [c']) ++ ·)) := Lib.hid (fun h => by
                obtain ⟨v', w1, h1, h2, h3⟩ := appI OWN.out c' BL.out.size (by have := HPRE.out; omega)
                refine ⟨v', w1, h1, h2, BL.out.trans h3, ?_⟩
                have hd := dec_ok HH.out (by rw [HRL.out]; have := HS.out; omega) HG2.out h
                rw [← HDR.out] at hd
                rw [RD.out, decS_step hd, List.drop_drop, Option.map_map]
                congr 1
                funext z
                simp)
              have OUT : Hid (c' < least ∨ 1114111 < c' ∨ (55296 ≤ c' ∧ c' < 57344) → R = none) := Lib.hid (fun h => FAIL.out (dec_out HH.out HG2.out h))
              rcases hc5 with d1 | ⟨d1, d2⟩ | ⟨d1, d2, d3, d4⟩ | ⟨d1, d2, d3⟩ | ⟨d1, d2, d3, d4⟩
              · have hn : Hid (R = none) := Lib.hid (OUT.out (.inl d1))
                have e1 : (c' : Int) < (least : Int) := by omega
                clear d1
                go_wp2_with fail
                go_ret2
                exact giveD_none hn.out BL.out
              · have hn : Hid (R = none) := Lib.hid (OUT.out (.inr (.inl d2)))
                have e1 : ¬ (c' : Int) < (least : Int) := by omega
                have e2 : (1114111 : Int) < (c' : Int) := by omega
                clear d1 d2
                go_wp2_with fail
                go_ret2
                exact giveD_none hn.out BL.out
              · have hn : Hid (R = none) := Lib.hid (OUT.out (.inr (.inr ⟨d3, d4⟩)))
                have e1 : ¬ (c' : Int) < (least : Int) := by omega
                have e2 : ¬ (1114111 : Int) < (c' : Int) := by omega
                have e3 : (55296 : Int) ≤ (c' : Int) := by omega
                have e4 : (c' : Int) < 57344 := by omega
                clear d1 d2 d3 d4
                go_wp2_with fail
                go_ret2
                exact giveD_none hn.out BL.out
              · obtain ⟨v', w1, hrun, h2, h3, h4⟩ := DONE.out (by omega)
                have N2 := Lib.hid h2
                have N3 := Lib.hid h3
                have N4 := Lib.hid h4
                have e1 : ¬ (c' : Int) < (least : Int) := by omega
                have e2 : ¬ (1114111 : Int) < (c' : Int) := by omega
                have e3 : ¬ (55296 : Int) ≤ (c' : Int) := by omega
                clear d1 d2 d3 h2 h3 h4
                go_wp2_with (at_builtin; refine wpList_app rfl _ _ _ _ rfl _ _ rfl rfl hrun ?_)
                exact ⟨⟨p + (m + 1), pre ++ [c'], by have := HS.out; omega, by go_num, by have := HPRE.out; rw [List.length_append, List.length_singleton]; omega, N2.out, N3.out, N4.out⟩, by simp [intOf]; omega⟩
              · obtain ⟨v', w1, hrun, h2, h3, h4⟩ := DONE.out (by omega)
                have N2 := Lib.hid h2
                have N3 := Lib.hid h3
                have N4 := Lib.hid h4
                have e1 : ¬ (c' : Int) < (least : Int) := by omega
                have e2 : ¬ (1114111 : Int) < (c' : Int) := by omega
                have e3 : (55296 : Int) ≤ (c' : Int) := by omega
                have e4 : ¬ (c' : Int) < 57344 := by omega
                clear d1 d2 d3 d4 h2 h3 h4
                go_wp2_with (at_builtin; refine wpList_app rfl _ _ _ _ rfl _ _ rfl rfl hrun ?_)
                exact ⟨⟨p + (m + 1), pre ++ [c'], by have := HS.out; omega, by go_num, by have := HPRE.out; rw [List.length_append, List.length_singleton]; omega, N2.out, N3.out, N4.out⟩, by simp [intOf]; omega⟩
            · have hpk : p + k < l.length := by have := HS.out; rw [HN.out]; omega
              have hix1 := HIX.out (p + k) hpk
              have hy8 : l[p + k] < 256 := H8.out.get hpk
              have hdk : l.drop (p + k) = l[p + k] :: l.drop (p + (k + 1)) := List.drop_eq_getElem_cons hpk
              obtain ⟨y, hy⟩ : ∃ y, l[p + k] = y := ⟨_, rfl⟩
              rw [hy] at hix1 hy8 hdk
              rw [Int.natCast_add] at hix1
              have HDK := Lib.hid hdk
              have hki : (k : Int) ≤ (m : Int) := by omega
              have hpi2 : (p : Int) + (k : Int) < (N : Int) := by have := HS.out; omega
              have hk0 : m + 1 - k = (m - k) + 1 := by omega
              have STEP : Hid (dgo (m + 1 - k) c' (l.drop (p + k)) = if 128 ≤ y ∧ y ≤ 191 then dgo (m - k) (64 * c' + (y - 128)) (l.drop (p + (k + 1))) else none) := Lib.hid (by rw [hk0, hdk, dgo])
              clear hdk hy hk0
              by_cases hyy : 128 ≤ y ∧ y ≤ 191
              · have HNX : Hid (dgo m c (l.drop (p + 1)) = dgo (m + 1 - (k + 1)) (64 * c' + (y - 128)) (l.drop (p + (k + 1)))) := Lib.hid (by rw [HGO.out, STEP.out, if_pos hyy, show m + 1 - (k + 1) = m - k by omega])
                have e1 : ¬ (y : Int) < 128 := by omega
                have e2 : ¬ (191 : Int) < (y : Int) := by omega
                have hcb : c' < 524288 := by omega
                have HB : Hid ((64 * c' + (y - 128)) < 128 ∧ k + 1 = 1 ∨ (64 * c' + (y - 128)) < 8192 ∧ k + 1 = 2 ∨ (64 * c' + (y - 128)) < 524288 ∧ k + 1 = 3 ∨ (64 * c' + (y - 128)) < 33554432 ∧ k + 1 = 4) := Lib.hid (by omega)
                have HK : Hid (1 ≤ k + 1 ∧ k + 1 ≤ m + 1) := Lib.hid (by omega)
                have HV : Hid ((64 * (c' : Int) + (y : Int) - 128) = ((64 * c' + (y - 128) : Nat) : Int)) := Lib.hid (by omega)
                clear HGO STEP hbd hyy hkm hk1 hk2
                go_wp2_with fail
                exact ⟨⟨k + 1, 64 * c' + (y - 128), by rw [← HV.out], by go_num, HK.out.1, HK.out.2, HNX.out, HB.out, by first | rfl | trivial⟩, by have := HK.out; simp [intOf]; omega⟩
              · have hn : Hid (R = none) := Lib.hid (FAIL.out (dec_bad HH.out (by rw [HGO.out, STEP.out, if_neg hyy])))
                have hyc : (y : Int) < 128 ∨ (¬ (y : Int) < 128 ∧ (191 : Int) < (y : Int)) := by omega
                clear HGO STEP hbd hyy
                rcases hyc with e1 | ⟨e1, e2⟩
                · go_wp2_with fail
                  go_ret2
                  exact giveD_none hn.out BL.out
                · go_wp2_with fail
                  go_ret2
                  exact giveD_none hn.out BL.out
    · obtain rfl : p = N := by omega
      have hfin : R = some pre := by
        rw [RD.out, List.drop_of_length_le (by rw [HN.out]; exact Nat.le_refl _)]
        show (decF 0 []).map _ = _
        simp [decF]
      obtain ⟨A2, c2, hv, hr, hc1, hc2⟩ := own_open (by rw [csI_length]; exact OWN.out)
      rw [csI_length] at hv hc1
      subst hv
      obtain ⟨M, hM⟩ : ∃ M, pre.length = M := ⟨_, rfl⟩
      rw [hM]
      have FIN : Hid (∃ A c, Ending.returned (.tuple #[.slice A2 M c2, .bool true]) = .returned (.tuple #[.slice A pre.length c, .bool true]) ∧ Ri wr A pre ∧ pre.length ≤ c ∧ c ≤ maxLen) := Lib.hid ⟨A2, c2, by rw [hM], hr, hc1, hc2⟩
      subst hfin
      clear hr hc1 hc2 hM OWN RD
      go_wp2_with fail
      go_ret2
      exact ⟨FIN.out, BL.out⟩
end Go.Proofs.YthefnfjhnallfaaDoor.Chs
