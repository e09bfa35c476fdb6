/-
  Package scalars: contracts of GetInt, PutInt.
  Conditions: slices read as bytes; the integer is in a word.
-/
import Derived.Test.YtdmbkbgnlmiilaaSclB
namespace Go.Proofs.Ytdmbkbgnlmiilaa.Scl
open Go.RowKit

theorem giE_11 {l : List Nat} (h : minB l = false) : giE l = 11 ∧ giV l = 0 := by
  have e : giE l = 11 := by unfold giE; rw [if_pos h]
  exact ⟨e, by unfold giV; rw [if_neg (by omega)]⟩
theorem giE_3 {l : List Nat} (h : minB l = true) (h2 : 8 < l.length) : giE l = 3 ∧ giV l = 0 := by
  have e : giE l = 3 := by unfold giE; rw [if_neg (by simp [h]), if_pos h2]
  exact ⟨e, by unfold giV; rw [if_neg (by omega)]⟩
theorem giE_0 {l : List Nat} (h : minB l = true) (h2 : ¬ 8 < l.length) : giE l = 0 ∧ giV l = tcv l := by
  have e : giE l = 0 := by unfold giE; rw [if_neg (by simp [h]), if_neg h2]
  exact ⟨e, by unfold giV; rw [if_pos e]⟩

set_option maxHeartbeats 1000000 in
theorem gint_any (A : Option Addr) (l : List Nat) (N c : Nat) (w : World) (h : Rb w A l) (hN : l.length = N) (hc : N ≤ c) (hm : c ≤ maxLen) :
    Calls Try.prog 36 #[.slice A N c] w fun e w' => e = .returned (.tuple #[.int .i64 (giV l), .int .i64 ((giE l : Nat) : Int)]) ∧ Below w.heap.size w w' := by
  have HMin := Lib.hid (min_any A l N c w h hN hc hm)
  unfold maxLen at hm
  obtain ⟨mb, hmb⟩ : ∃ mb, minB l = mb := ⟨_, rfl⟩
  have HMB := Lib.hid hmb
  rw [hmb] at HMin
  cases mb with
  | false =>
    obtain ⟨e1, e2⟩ := giE_11 hmb
    rw [e1, e2]
    clear h hN hmb e1 e2
    go_enter Try.func36, Try.ntmps36
    go_wp2_with fail
    refine HMin.out.mono ?_
    rintro e w1 ⟨rfl, hb⟩
    have HB := Lib.hid hb
    clear hb
    go_wp2_with fail
    go_ret2
    exact ⟨rfl, HB.out⟩
  | true =>
    by_cases h8 : 8 < N
    · obtain ⟨e1, e2⟩ := giE_3 hmb (by rw [hN]; exact h8)
      rw [e1, e2]
      clear h hN hmb e1 e2
      go_enter Try.func36, Try.ntmps36
      go_wp2_with fail
      refine HMin.out.mono ?_
      rintro e w1 ⟨rfl, hb⟩
      have HB := Lib.hid hb
      clear hb
      go_wp2_with fail
      go_ret2
      exact ⟨rfl, HB.out⟩
    · obtain ⟨e1, e2⟩ := giE_0 hmb (by rw [hN]; exact h8)
      rw [e1, e2]
      clear e1 e2
      have hne : l ≠ [] := by rintro rfl; cases hmb
      have hN1 : 1 ≤ N := by rw [← hN]; exact List.length_pos_iff.2 hne
      obtain ⟨x, t, rfl⟩ := List.exists_cons_of_ne_nil hne
      obtain ⟨b, off, rfl, hb0, hx, hcell⟩ := h.at_ (k := 0) (by simp)
      simp only [List.getElem_cons_zero, Nat.add_zero] at hx hcell
      have HR := Lib.hid h
      have HN := Lib.hid hN
      have HBD := Lib.hid fun k hk => tc_bd h.2 (by rw [hN]; omega) k hk
      have HT := Lib.hid (show tcv (x :: t) = fld (sgn (x :: t)) (x :: t) from rfl)
      have HS : Hid (sgn (x :: t) = if 128 ≤ x then -1 else 0) := by
        show _ = _
        by_cases h : 128 ≤ x
        · rw [if_pos h, sgn_hi _ h]
        · rw [if_neg h, sgn_lo _ h]
      clear h hN hmb hne
      generalize hl : x :: t = l at *
      clear hl
      go_enter Try.func36, Try.ntmps36
      go_wp2_with fail
      refine HMin.out.mono ?_
      rintro e w1 ⟨rfl, hb⟩
      have HB := Lib.hid hb
      have HR1 := Lib.hid (HR.out.below hb)
      have hcell1 : w1.cell? ⟨b, off, none⟩ = some (.int .u8 (x : Int)) := (hb.cell hb0).trans hcell
      have hb1 : b < w1.heap.size := Nat.lt_of_lt_of_le hb0 hb.size
      clear hb hcell HMin HMB
      go_wp2_with fail
      refine (neg_any b off x N c w1 (by omega) hb1 hcell1 hx).mono ?_
      rintro e w2 ⟨rfl, rfl⟩
      have hd8 : decide ((8 : Int) < (N : Int)) = false := by simp; omega
      by_cases hn : 128 ≤ x
      · have hs : Hid (sgn l = -1) := by show _ = _; rw [HS.out, if_pos hn]
        go_wp2_with fail
        go_loop [4, 17] (fun n i => ∃ k : Nat, k ≤ N ∧ i = .int .i64 (k : Int) ∧ n = .int .i64 (fld (sgn l) (l.take k))) (fun _ i => N - (intOf i).toNat)
        case atStart => exact ⟨0, Nat.zero_le _, rfl, by rw [hs.out]; rfl⟩
        case round =>
          obtain ⟨k, hk, rfl, rfl⟩ := hrel
          obtain ⟨b1, b2, b3⟩ := HBD.out k (by rw [HN.out]; exact hk)
          by_cases hlt : k < N
          · have hkl : k < l.length := by rw [HN.out]; exact hlt
            obtain ⟨b4, b5⟩ := b3 hkl
            obtain ⟨b', off', e, _, hy, hcy⟩ := HR1.out.at_ hkl
            simp only [Option.some.injEq, Addr.mk.injEq, and_true] at e
            obtain ⟨rfl, rfl⟩ := e
            have HF := Lib.hid (fld_take (s := sgn l) hkl)
            obtain ⟨y, hye⟩ : ∃ y, l[k] = y := ⟨_, rfl⟩
            rw [hye] at hcy hy HF
            obtain ⟨F, hF⟩ : ∃ F, fld (sgn l) (l.take k) = F := ⟨_, rfl⟩
            rw [hF] at b1 b2 b4 b5 HF ⊢
            have hor : bits .or .i64 (F * 256) (y : Int) = F * 256 + (y : Int) := i64_or8 (F * 256) y (by omega) (by omega) (by omega) (by omega) (by omega)
            clear b3 hye hF b1 b2
            go_wp2_with fail
            go_round
            case rel => exact ⟨k + 1, by omega, by go_num, by rw [HF.out]⟩
            case measure => simp [intOf]; omega
          · have hkN : k = N := by omega
            subst hkN
            have HTK := Lib.hid (show l.take k = l by rw [← HN.out, List.take_length])
            clear b1 b2 b3
            go_wp2_with fail
            go_ret2
            exact ⟨by rw [HTK.out, HT.out]; rfl, HB.out⟩
      · have hs : Hid (sgn l = 0) := by show _ = _; rw [HS.out, if_neg hn]
        go_wp2_with fail
        go_loop [4, 17] (fun n i => ∃ k : Nat, k ≤ N ∧ i = .int .i64 (k : Int) ∧ n = .int .i64 (fld (sgn l) (l.take k))) (fun _ i => N - (intOf i).toNat)
        case atStart => exact ⟨0, Nat.zero_le _, rfl, by rw [hs.out]; rfl⟩
        case round =>
          obtain ⟨k, hk, rfl, rfl⟩ := hrel
          obtain ⟨b1, b2, b3⟩ := HBD.out k (by rw [HN.out]; exact hk)
          by_cases hlt : k < N
          · have hkl : k < l.length := by rw [HN.out]; exact hlt
            obtain ⟨b4, b5⟩ := b3 hkl
            obtain ⟨b', off', e, _, hy, hcy⟩ := HR1.out.at_ hkl
            simp only [Option.some.injEq, Addr.mk.injEq, and_true] at e
            obtain ⟨rfl, rfl⟩ := e
            have HF := Lib.hid (fld_take (s := sgn l) hkl)
            obtain ⟨y, hye⟩ : ∃ y, l[k] = y := ⟨_, rfl⟩
            rw [hye] at hcy hy HF
            obtain ⟨F, hF⟩ : ∃ F, fld (sgn l) (l.take k) = F := ⟨_, rfl⟩
            rw [hF] at b1 b2 b4 b5 HF ⊢
            have hor : bits .or .i64 (F * 256) (y : Int) = F * 256 + (y : Int) := i64_or8 (F * 256) y (by omega) (by omega) (by omega) (by omega) (by omega)
            clear b3 hye hF b1 b2
            go_wp2_with fail
            go_round
            case rel => exact ⟨k + 1, by omega, by go_num, by rw [HF.out]⟩
            case measure => simp [intOf]; omega
          · have hkN : k = N := by omega
            subst hkN
            have HTK := Lib.hid (show l.take k = l by rw [← HN.out, List.take_length])
            clear b1 b2 b3
            go_wp2_with fail
            go_ret2
            exact ⟨by rw [HTK.out, HT.out]; rfl, HB.out⟩

/-- The array while it is filled. -/
def fil (z : Int) (k : Nat) : List Nat := (be8 z).take k ++ List.replicate (8 - k) 0
theorem fil_step {z : Int} {k : Nat} (h : k < 8) : (fil z k).set k ((z / 256 ^ (7 - k)) % 256).toNat = fil z (k + 1) := by
  have hl := be8_length z
  unfold fil
  have hg : (be8 z)[k]'(by omega) = ((z / 256 ^ (7 - k)) % 256).toNat := by
    have := be8_get (z := z) h
    rw [List.getElem?_eq_getElem (by omega)] at this
    exact Option.some.inj this
  rw [List.set_append, if_neg (by rw [List.length_take]; omega), List.length_take, Nat.min_eq_left (by omega), Nat.sub_self, List.take_succ_eq_append_getElem (by omega), hg,
    show 8 - k = 8 - (k + 1) + 1 from by omega, List.replicate_succ, List.set_cons_zero, List.append_assoc]
  rfl
theorem fil_all (z : Int) : fil z 8 = be8 z := by
  unfold fil
  rw [List.take_of_length_le (by rw [be8_length]; omega)]; simp
theorem cs8_set (l : List Nat) (n x : Nat) : (cs8 l).set n (.int .u8 (x : Int)) = cs8 (l.set n x) := by unfold cs8; rw [List.map_set]; rfl
theorem fil_at {z : Int} {k : Nat} (h : k < 8) : (fil z k)[k]? = some 0 := by
  have hl := be8_length z
  unfold fil
  rw [List.getElem?_append_right (by rw [List.length_take]; omega), List.length_take, Nat.min_eq_left (by omega), Nat.sub_self, List.getElem?_replicate, if_pos (by omega)]
theorem fil_store {w : World} {g k : Nat} {z v : Int} (h : Bk w g 68 (cs8 (fil z k))) (hk : k < 8) (hv : v = (z / 256 ^ (7 - k)) % 256) : Bk (w.setCell ⟨g, k, none⟩ (.int .u8 v)) g 68 (cs8 (fil z (k + 1))) := by
  have h0 : 0 ≤ (z / 256 ^ (7 - k)) % 256 := Int.emod_nonneg _ (by decide)
  have := h.store k (.int .u8 v)
  rw [← fil_step hk, ← cs8_set, Int.toNat_of_nonneg h0, ← hv]
  exact this
theorem z8 : ∀ w : World, (zeroValue 68).run Try.prog w = .ok (.agg (cs8 (List.replicate 8 0)).toArray) w := fun _ => by kernel_rfl
set_option maxHeartbeats 2000000 in
theorem pint_any (z : Int) (w : World) (h1 : -9223372036854775808 ≤ z) (h2 : z < 9223372036854775808) : Calls Try.prog 8 #[.int .i64 z] w (GiveN w (putI z)) := by
  go_enter Try.func8, Try.ntmps8
  go_wp2_with fail
  go_loopw [6] (fun i wr => ∃ k : Nat, k ≤ 8 ∧ i = .int .i64 (k : Int) ∧ Bk wr w.heap.size 68 (cs8 (fil z k)) ∧ Below w.heap.size w wr) (fun i _ => 8 - (intOf i).toNat)
  case atStart => exact ⟨0, Nat.zero_le _, rfl, Bk.new _ _ _, bel1 _ _⟩
  case round =>
    obtain ⟨k, hk, rfl, hB, hbel⟩ := hrel
    by_cases hlt : k < 8
    · have HB := Lib.hid hB
      have HBel := Lib.hid hbel
      have f0 := hB.free k
      have hsz := hB.lt
      have c0 : wr.cell? ⟨w.heap.size, k, none⟩ = some (.int .u8 0) := by rw [hB.cell]; unfold cs8; rw [List.getElem?_map, fil_at hlt]; rfl
      have hl := Nat.le_refl w.heap.size
      clear hB hbel
      rcases (show k = 0 ∨ k = 1 ∨ k = 2 ∨ k = 3 ∨ k = 4 ∨ k = 5 ∨ k = 6 ∨ k = 7 by omega) with rfl | rfl | rfl | rfl | rfl | rfl | rfl | rfl
      · go_wp2_with fail
        exact ⟨⟨1, by omega, rfl, fil_store HB.out hlt rfl, HBel.out.setCell (p := ⟨w.heap.size, 0, none⟩) hl _⟩, by simp [intOf]⟩
      · go_wp2_with fail
        exact ⟨⟨2, by omega, rfl, fil_store HB.out hlt rfl, HBel.out.setCell (p := ⟨w.heap.size, 1, none⟩) hl _⟩, by simp [intOf]⟩
      · go_wp2_with fail
        exact ⟨⟨3, by omega, rfl, fil_store HB.out hlt rfl, HBel.out.setCell (p := ⟨w.heap.size, 2, none⟩) hl _⟩, by simp [intOf]⟩
      · go_wp2_with fail
        exact ⟨⟨4, by omega, rfl, fil_store HB.out hlt rfl, HBel.out.setCell (p := ⟨w.heap.size, 3, none⟩) hl _⟩, by simp [intOf]⟩
      · go_wp2_with fail
        exact ⟨⟨5, by omega, rfl, fil_store HB.out hlt rfl, HBel.out.setCell (p := ⟨w.heap.size, 4, none⟩) hl _⟩, by simp [intOf]⟩
      · go_wp2_with fail
        exact ⟨⟨6, by omega, rfl, fil_store HB.out hlt rfl, HBel.out.setCell (p := ⟨w.heap.size, 5, none⟩) hl _⟩, by simp [intOf]⟩
      · go_wp2_with fail
        exact ⟨⟨7, by omega, rfl, fil_store HB.out hlt rfl, HBel.out.setCell (p := ⟨w.heap.size, 6, none⟩) hl _⟩, by simp [intOf]⟩
      · go_wp2_with fail
        exact ⟨⟨8, by omega, rfl, fil_store HB.out hlt (by simp), HBel.out.setCell (p := ⟨w.heap.size, 7, none⟩) hl _⟩, by simp [intOf]⟩
    · obtain rfl : k = 8 := by omega
      rw [fil_all] at hB
      have HB := Lib.hid hB
      have HBel := Lib.hid hbel
      have hsz := hB.lt
      clear hB hbel
      rw [show ((8 : Nat) : Int) = 8 from rfl]
      go_wp2_with fail
      go_loopw [5] (fun i wr => ∃ k : Nat, k < 8 ∧ i = .int .i64 (k : Int) ∧ (∀ j, j < k → minB ((be8 z).drop j) = false) ∧ Bk wr w.heap.size 68 (cs8 (be8 z)) ∧ Below w.heap.size w wr) (fun i _ => 8 - (intOf i).toNat)
      case atStart => exact ⟨0, by omega, rfl, fun j hj => absurd hj (by omega), HB.out, HBel.out⟩
      case round =>
        obtain ⟨k, hk, rfl, hj, hB, hbel⟩ := hrel
        have HJ := Lib.hid hj
        have HB := Lib.hid hB
        have HBel := Lib.hid hbel
        have hsz := hB.lt
        have hlk : ((be8 z).drop k).length = 8 - k := by rw [List.length_drop, be8_length]
        have hr : Rb wr (some ⟨w.heap.size, k, none⟩) ((be8 z).drop k) := by
          have := hB.rd k
          exact ⟨by unfold cs8 at *; rw [List.map_drop]; exact this, (be8_all z).drop k⟩
        have hM := min_any _ _ (8 - k) (8 - k) wr hr hlk (Nat.le_refl _) (by unfold maxLen; omega)
        have HM := Lib.hid hM
        have hs1 : (k : Int) ≤ 8 := by omega
        have hs2 : ((8 : Int) - (k : Int)).toNat = 8 - k := by omega
        obtain ⟨mb, hmb⟩ : ∃ mb, minB ((be8 z).drop k) = mb := ⟨_, rfl⟩
        have HMB := Lib.hid hmb
        rw [hmb] at HM
        have HR := Lib.hid hr
        clear hj hB hbel hr hM hmb
        cases mb with
        | false =>
          go_wp2_with fail
          refine HM.out.mono ?_
          rintro e w2 ⟨rfl, hb⟩
          have HB2 := Lib.hid (HB.out.below hb HB.out.lt)
          have HBel2 := Lib.hid (HBel.out.trans (hb.mono HBel.out.size))
          clear hb
          have hk7 : k ≠ 7 := by
            rintro rfl
            have h1 := HMB.out
            have h2 : ((be8 z).drop 7).length = 1 := hlk
            obtain ⟨x, hx⟩ := List.length_eq_one_iff.1 h2
            rw [hx] at h1
            cases h1
          have HJ2 : Hid (∀ j, j < k + 1 → minB ((be8 z).drop j) = false) := Lib.hid fun j hj => by
            rcases Nat.lt_succ_iff_lt_or_eq.1 hj with hj | rfl
            · exact HJ.out j hj
            · exact HMB.out
          go_wp2_with fail
          exact ⟨⟨k + 1, by omega, by go_num, HJ2.out, HB2.out, HBel2.out⟩, by simp [intOf]; omega⟩
        | true =>
          have HE : Hid ((be8 z).drop k = putI z) := by
            show _ = _
            rw [← cutI_be8 h1 h2, cutI_drop HJ.out (by rw [be8_length]; exact hk), cutI_self HMB.out]
          have HLN : Hid ((putI z).length = 8 - k) := by show _ = _; rw [← HE.out]; exact hlk
          go_wp2_with fail
          refine HM.out.mono ?_
          rintro e w2 ⟨rfl, hb⟩
          have HR2 := Lib.hid (HR.out.below hb)
          have HBel2 := Lib.hid (HBel.out.trans (hb.mono HBel.out.size))
          clear hb
          go_wp2_with fail
          go_ret
          exact ⟨_, by rw [HLN.out]; rfl, by rw [← HE.out]; exact HR2.out, HBel2.out, fun q e => by injection e with e; subst e; exact Nat.le_refl _⟩
end Go.Proofs.Ytdmbkbgnlmiilaa.Scl
