/-
  Package nats: contracts of Pow, Text, isDecimal, Parse.
  Conditions: slices are no longer than a word allows, and read as bytes.
-/
import Derived.Test.YtenbknmpkdidoaaNatsE
namespace Go.Proofs.Ytenbknmpkdidoaa
open Go.RowKit

theorem mulL_of {a b : List Nat} (ha : Nat64 a) (hb : Nat64 b) : mulL a b = limD (val a * val b) ∧ mulE a b = limE (val a * val b) := by
  have hE : bothE a b = 0 := by unfold bothE; rw [checkE_of ha, checkE_of hb]; rfl
  exact ⟨if_pos hE, if_pos hE⟩
theorem limD_lt {v : Nat} (h : v < 256 ^ 64) : limD v = dig v := if_pos h
theorem limE_lt {v : Nat} (h : v < 256 ^ 64) : limE v = 0 := if_pos h
theorem limD_ge {v : Nat} (h : ¬ v < 256 ^ 64) : limD v = [] := if_neg h
theorem limE_ge {v : Nat} (h : ¬ v < 256 ^ 64) : limE v = 3 := if_neg h

def powE (l : List Nat) (k : Int) : Int := if checkE l = 0 then (if k < 0 then 1 else limE (val l ^ k.toNat)) else checkE l
set_option maxHeartbeats 800000 in
/-- The loop of Pow, from a number above 1, or with at most one round. -/
theorem pow_ok (A : Option Addr) (l : List Nat) (c k : Nat) (w : World) (hk : k ≤ maxLen) (hlc : l.length ≤ c) (hc : c ≤ maxLen) (h : Rb w A l) (hl : Nat64 l) :
    Calls Try.prog 22 #[.slice A l.length c, .int .i64 k] w (GiveD w (limD (val l ^ k)) (limE (val l ^ k))) := by
  have c0 := check_any A l c w (by omega) h
  rw [checkE_of hl] at c0
  have C0 := Lib.hid c0
  have C1 := Lib.hid (of_any 1 w (by omega))
  have H := Lib.hid h
  have HL := Lib.hid hl
  obtain ⟨L, hL⟩ : ∃ L, limD (val l ^ k) = L := ⟨_, rfl⟩
  obtain ⟨E, hE⟩ : ∃ E, limE (val l ^ k) = E := ⟨_, rfl⟩
  rw [hL, hE]
  have HLD := Lib.hid hL
  have HED := Lib.hid hE
  have hl64 := hl.2.2
  have e1 : dig 1 = [1] := rfl
  rw [e1] at C1
  clear hL hE c0 h hl e1
  unfold maxLen at hk
  go_enter Try.func22, Try.ntmps22
  go_wp2_with fail
  refine C0.out.mono ?_
  rintro e w' ⟨rfl, rfl⟩
  go_wp2_with fail
  refine C1.out.mono ?_
  rintro e w1 ⟨A1, rfl, h1, hb1⟩
  have C2 := Lib.hid (cmp_any A A1 l [1] c 1 w1 hlc (by simp) hc (by simp [maxLen]) (H.out.below hb1) h1)
  have C3 := Lib.hid (of_any 1 w1 (by omega))
  have HB1 := Lib.hid hb1
  clear C0 C1 hb1 h1
  rw [show dig 1 = [1] from rfl, show val [1] = 1 from rfl] at *
  by_cases h2 : val l ≤ 1 ∧ 1 < k
  · obtain ⟨h2, hk1⟩ := h2
    have hcm : cmpI (val l) 1 ≤ 0 := by unfold cmpI; split <;> (try split) <;> omega
    generalize cmpI (val l) 1 = cm at C2 hcm
    have hv : val l = 0 ∨ val l = 1 := by omega
    have HEQ : Hid (val l ^ 1 = val l ^ k) := by
      show _ = _
      rcases hv with hv | hv <;> rw [hv]
      · rw [Nat.zero_pow (by omega), Nat.zero_pow (by omega)]
      · rw [Nat.one_pow, Nat.one_pow]
    have HBIG : Hid (∀ j, j < 1 → ¬ val l ^ (j + 1) < 256 ^ 64 → ¬ val l ^ k < 256 ^ 64) := fun j hj h => by
      have : j = 0 := by omega
      subst this
      rw [Nat.zero_add, HEQ.out] at h; exact h
    clear hv h2
    go_wp2_with fail
    refine C2.out.mono ?_
    rintro e w' ⟨rfl, rfl⟩
    go_wp2_with fail
    refine C3.out.mono ?_
    rintro e w2 ⟨A2, rfl, h3, hb3⟩
    have HB3 := Lib.hid hb3
    have H3 := Lib.hid h3
    clear C3 hb3 h3
    go_wp2_with fail
    go_loopw [7, 25] (fun p i wr => ∃ (j : Nat) (A' : Option Addr), j ≤ 1 ∧ val l ^ j < 256 ^ 64 ∧ i = .int .i64 j ∧ p = .slice A' (dig (val l ^ j)).length (dig (val l ^ j)).length ∧ Rb wr A' (dig (val l ^ j)) ∧ Below w.heap.size w wr) (fun _ i _ => 1 - (intOf i).toNat)
    case atStart => exact ⟨0, A2, Nat.zero_le _, by rw [Nat.pow_zero]; decide, rfl, by rw [Nat.pow_zero]; rfl, by rw [Nat.pow_zero]; exact H3.out, (HB1.out).trans ((HB3.out).mono (HB1.out).size)⟩
    case round =>
      obtain ⟨j, A', hj, hpj, rfl, rfl, hr, hbel⟩ := hrel
      have HBel := Lib.hid hbel
      have HJ := Lib.hid (Nat64.of _ hpj)
      have HPJ := Lib.hid hpj
      have h64 : (dig (val l ^ j)).length ≤ 64 := HJ.out.2.2
      have C4 := mul_any A' A (dig (val l ^ j)) l (dig (val l ^ j)).length c wr (by unfold maxLen; omega) (by unfold maxLen; omega) hr (H.out.below hbel)
      have HR := Lib.hid hr
      rw [(mulL_of HJ.out HL.out).1, (mulL_of HJ.out HL.out).2, val_dig, ← Nat.pow_succ] at C4
      have HC4 := Lib.hid C4
      clear hbel hr C4 hpj
      by_cases hlt : j < 1
      · by_cases hnext : val l ^ (j + 1) < 256 ^ 64
        · rw [limD_lt hnext, limE_lt hnext] at HC4
          have HNX := Lib.hid hnext
          clear hnext
          generalize dig (val l ^ j) = P at h64 HC4
          obtain ⟨P', hP'⟩ : ∃ P', dig (val l ^ (j + 1)) = P' := ⟨_, rfl⟩
          rw [hP'] at HC4
          have HP' := Lib.hid hP'
          clear hP' HR HJ
          go_wp2_with fail
          refine HC4.out.mono ?_
          rintro e w' ⟨A'', rfl, h', hb'⟩
          have HH := Lib.hid h'
          have HBB := Lib.hid hb'
          clear h' hb'
          go_wp2_with fail
          exact ⟨⟨j + 1, A'', by omega, HNX.out, by go_num, by rw [HP'.out], by rw [HP'.out]; exact HH.out, (HBel.out).trans ((HBB.out).mono (HBel.out).size)⟩, by simp [intOf]; omega⟩
        · rw [limD_ge hnext, limE_ge hnext] at HC4
          have HNX := Lib.hid hnext
          clear hnext
          generalize dig (val l ^ j) = P at h64 HC4
          clear HR HJ
          go_wp2_with fail
          refine HC4.out.mono ?_
          rintro e w' ⟨A'', rfl, h', hb'⟩
          have HH := Lib.hid h'
          have HBB := Lib.hid hb'
          clear h' hb'
          go_wp2_with fail
          go_ret2
          have hfin : ¬ val l ^ k < 256 ^ 64 := HBIG.out j hlt HNX.out
          unfold GiveD
          rw [← HLD.out, ← HED.out, limD_ge hfin, limE_ge hfin]
          exact ⟨_, rfl, Rb.nil, (HBel.out).trans ((HBB.out).mono (HBel.out).size)⟩
      · have hjk : j = 1 := by omega
        subst hjk
        clear HC4
        go_wp2_with fail
        go_ret2
        have hfin : val l ^ k < 256 ^ 64 := by have := HPJ.out; have := HEQ.out; omega
        unfold GiveD
        rw [← HLD.out, ← HED.out, limD_lt hfin, limE_lt hfin, ← HEQ.out]
        exact ⟨_, rfl, HR.out, HBel.out⟩
  · obtain ⟨kk, hkk⟩ : ∃ kk : Nat, kk = k := ⟨_, rfl⟩
    subst hkk
    have HEQ : Hid (val l ^ kk = val l ^ kk) := rfl
    have HBIG : Hid (∀ j, j < kk → ¬ val l ^ (j + 1) < 256 ^ 64 → ¬ val l ^ kk < 256 ^ 64) := fun j hj h => by
      rcases Nat.eq_zero_or_pos (val l) with h0 | h0
      · rw [h0, Nat.zero_pow (by omega)] at h
        exact absurd (by decide) h
      · have := Nat.pow_le_pow_right h0 (show j + 1 ≤ kk from hj)
        omega
    by_cases h3 : val l ≤ 1
    · have hk1 : ¬ 1 < (kk : Int) := fun h => h2 ⟨h3, by omega⟩
      have hk2 : (kk : Int) ≤ 1 := by omega
      have hcm : cmpI (val l) 1 ≤ 0 := by unfold cmpI; split <;> (try split) <;> omega
      generalize cmpI (val l) 1 = cm at C2 hcm
      clear h2 h3
      go_wp2_with fail
      refine C2.out.mono ?_
      rintro e w' ⟨rfl, rfl⟩
      go_wp2_with fail
      refine C3.out.mono ?_
      rintro e w2 ⟨A2, rfl, h3, hb3⟩
      have HB3 := Lib.hid hb3
      have H3 := Lib.hid h3
      clear C3 hb3 h3
      go_wp2_with fail
      go_loopw [7, 25] (fun p i wr => ∃ (j : Nat) (A' : Option Addr), j ≤ kk ∧ val l ^ j < 256 ^ 64 ∧ i = .int .i64 j ∧ p = .slice A' (dig (val l ^ j)).length (dig (val l ^ j)).length ∧ Rb wr A' (dig (val l ^ j)) ∧ Below w.heap.size w wr) (fun _ i _ => kk - (intOf i).toNat)
      case atStart => exact ⟨0, A2, Nat.zero_le _, by rw [Nat.pow_zero]; decide, rfl, by rw [Nat.pow_zero]; rfl, by rw [Nat.pow_zero]; exact H3.out, (HB1.out).trans ((HB3.out).mono (HB1.out).size)⟩
      case round =>
        obtain ⟨j, A', hj, hpj, rfl, rfl, hr, hbel⟩ := hrel
        have HBel := Lib.hid hbel
        have HJ := Lib.hid (Nat64.of _ hpj)
        have HPJ := Lib.hid hpj
        have h64 : (dig (val l ^ j)).length ≤ 64 := HJ.out.2.2
        have C4 := mul_any A' A (dig (val l ^ j)) l (dig (val l ^ j)).length c wr (by unfold maxLen; omega) (by unfold maxLen; omega) hr (H.out.below hbel)
        have HR := Lib.hid hr
        rw [(mulL_of HJ.out HL.out).1, (mulL_of HJ.out HL.out).2, val_dig, ← Nat.pow_succ] at C4
        have HC4 := Lib.hid C4
        clear hbel hr C4 hpj
        by_cases hlt : j < kk
        · by_cases hnext : val l ^ (j + 1) < 256 ^ 64
          · rw [limD_lt hnext, limE_lt hnext] at HC4
            have HNX := Lib.hid hnext
            clear hnext
            generalize dig (val l ^ j) = P at h64 HC4
            obtain ⟨P', hP'⟩ : ∃ P', dig (val l ^ (j + 1)) = P' := ⟨_, rfl⟩
            rw [hP'] at HC4
            have HP' := Lib.hid hP'
            clear hP' HR HJ
            go_wp2_with fail
            refine HC4.out.mono ?_
            rintro e w' ⟨A'', rfl, h', hb'⟩
            have HH := Lib.hid h'
            have HBB := Lib.hid hb'
            clear h' hb'
            go_wp2_with fail
            exact ⟨⟨j + 1, A'', by omega, HNX.out, by go_num, by rw [HP'.out], by rw [HP'.out]; exact HH.out, (HBel.out).trans ((HBB.out).mono (HBel.out).size)⟩, by simp [intOf]; omega⟩
          · rw [limD_ge hnext, limE_ge hnext] at HC4
            have HNX := Lib.hid hnext
            clear hnext
            generalize dig (val l ^ j) = P at h64 HC4
            clear HR HJ
            go_wp2_with fail
            refine HC4.out.mono ?_
            rintro e w' ⟨A'', rfl, h', hb'⟩
            have HH := Lib.hid h'
            have HBB := Lib.hid hb'
            clear h' hb'
            go_wp2_with fail
            go_ret2
            have hfin : ¬ val l ^ kk < 256 ^ 64 := HBIG.out j hlt HNX.out
            unfold GiveD
            rw [← HLD.out, ← HED.out, limD_ge hfin, limE_ge hfin]
            exact ⟨_, rfl, Rb.nil, (HBel.out).trans ((HBB.out).mono (HBel.out).size)⟩
        · have hjk : j = kk := by omega
          subst hjk
          clear HC4
          go_wp2_with fail
          go_ret2
          have hfin := HPJ.out
          unfold GiveD
          rw [← HLD.out, ← HED.out, limD_lt hfin, limE_lt hfin]
          exact ⟨_, rfl, HR.out, HBel.out⟩
    · have hcm : cmpI (val l) 1 = 1 := by unfold cmpI; rw [if_neg (by omega), if_pos (by omega)]
      rw [hcm] at C2
      clear h2 h3 hcm
      go_wp2_with fail
      refine C2.out.mono ?_
      rintro e w' ⟨rfl, rfl⟩
      go_wp2_with fail
      refine C3.out.mono ?_
      rintro e w2 ⟨A2, rfl, h3, hb3⟩
      have HB3 := Lib.hid hb3
      have H3 := Lib.hid h3
      clear C3 hb3 h3
      go_wp2_with fail
      go_loopw [7, 25] (fun p i wr => ∃ (j : Nat) (A' : Option Addr), j ≤ kk ∧ val l ^ j < 256 ^ 64 ∧ i = .int .i64 j ∧ p = .slice A' (dig (val l ^ j)).length (dig (val l ^ j)).length ∧ Rb wr A' (dig (val l ^ j)) ∧ Below w.heap.size w wr) (fun _ i _ => kk - (intOf i).toNat)
      case atStart => exact ⟨0, A2, Nat.zero_le _, by rw [Nat.pow_zero]; decide, rfl, by rw [Nat.pow_zero]; rfl, by rw [Nat.pow_zero]; exact H3.out, (HB1.out).trans ((HB3.out).mono (HB1.out).size)⟩
      case round =>
        obtain ⟨j, A', hj, hpj, rfl, rfl, hr, hbel⟩ := hrel
        have HBel := Lib.hid hbel
        have HJ := Lib.hid (Nat64.of _ hpj)
        have HPJ := Lib.hid hpj
        have h64 : (dig (val l ^ j)).length ≤ 64 := HJ.out.2.2
        have C4 := mul_any A' A (dig (val l ^ j)) l (dig (val l ^ j)).length c wr (by unfold maxLen; omega) (by unfold maxLen; omega) hr (H.out.below hbel)
        have HR := Lib.hid hr
        rw [(mulL_of HJ.out HL.out).1, (mulL_of HJ.out HL.out).2, val_dig, ← Nat.pow_succ] at C4
        have HC4 := Lib.hid C4
        clear hbel hr C4 hpj
        by_cases hlt : j < kk
        · by_cases hnext : val l ^ (j + 1) < 256 ^ 64
          · rw [limD_lt hnext, limE_lt hnext] at HC4
            have HNX := Lib.hid hnext
            clear hnext
            generalize dig (val l ^ j) = P at h64 HC4
            obtain ⟨P', hP'⟩ : ∃ P', dig (val l ^ (j + 1)) = P' := ⟨_, rfl⟩
            rw [hP'] at HC4
            have HP' := Lib.hid hP'
            clear hP' HR HJ
            go_wp2_with fail
            refine HC4.out.mono ?_
            rintro e w' ⟨A'', rfl, h', hb'⟩
            have HH := Lib.hid h'
            have HBB := Lib.hid hb'
            clear h' hb'
            go_wp2_with fail
            exact ⟨⟨j + 1, A'', by omega, HNX.out, by go_num, by rw [HP'.out], by rw [HP'.out]; exact HH.out, (HBel.out).trans ((HBB.out).mono (HBel.out).size)⟩, by simp [intOf]; omega⟩
          · rw [limD_ge hnext, limE_ge hnext] at HC4
            have HNX := Lib.hid hnext
            clear hnext
            generalize dig (val l ^ j) = P at h64 HC4
            clear HR HJ
            go_wp2_with fail
            refine HC4.out.mono ?_
            rintro e w' ⟨A'', rfl, h', hb'⟩
            have HH := Lib.hid h'
            have HBB := Lib.hid hb'
            clear h' hb'
            go_wp2_with fail
            go_ret2
            have hfin : ¬ val l ^ kk < 256 ^ 64 := HBIG.out j hlt HNX.out
            unfold GiveD
            rw [← HLD.out, ← HED.out, limD_ge hfin, limE_ge hfin]
            exact ⟨_, rfl, Rb.nil, (HBel.out).trans ((HBB.out).mono (HBel.out).size)⟩
        · have hjk : j = kk := by omega
          subst hjk
          clear HC4
          go_wp2_with fail
          go_ret2
          have hfin := HPJ.out
          unfold GiveD
          rw [← HLD.out, ← HED.out, limD_lt hfin, limE_lt hfin]
          exact ⟨_, rfl, HR.out, HBel.out⟩

set_option maxHeartbeats 400000 in
theorem pow_err (A : Option Addr) (l : List Nat) (c : Nat) (k : Int) (w : World) (hl : l.length ≤ maxLen) (h : Rb w A l) (hE : checkE l ≠ 0 ∨ k < 0) :
    Calls Try.prog 22 #[.slice A l.length c, .int .i64 k] w (GiveD w [] (if checkE l = 0 then 1 else checkE l)) := by
  have C0 := Lib.hid (check_any A l c w hl h)
  by_cases h0 : checkE l = 0
  · have hk : k < 0 := by rcases hE with h1 | h1; exact absurd h0 h1; exact h1
    rw [if_pos h0]
    rw [h0] at C0
    clear hE h0 h
    go_enter Try.func22, Try.ntmps22
    go_wp2_with fail
    refine C0.out.mono ?_
    rintro e w' ⟨rfl, rfl⟩
    go_wp2_with fail
    go_ret2
    exact ⟨_, rfl, Rb.nil, Below.refl _ _⟩
  · rw [if_neg h0]
    generalize checkE l = x at C0 h0
    have hx2 : (x != 0) = true := by simpa using h0
    clear hE h
    go_enter Try.func22, Try.ntmps22
    go_wp2_with fail
    refine C0.out.mono ?_
    rintro e w' ⟨rfl, rfl⟩
    go_wp2_with fail
    go_ret2
    exact ⟨_, rfl, Rb.nil, Below.refl _ _⟩

/-! Text. -/
/-- The decimal form of a number, as bytes. -/
def textL (v : Nat) : List Nat := if v = 0 then [48] else (dgs 10 v).reverse.map (48 + ·)
theorem z155 : ∀ w : World, (zeroValue 75).run Try.prog w = .ok (.agg (cs8 (List.replicate 155 0)).toArray) w := fun _ => by kernel_rfl
theorem run_str8 {w : World} {A : Option Addr} {l : List Nat} (h : Rb w A l) (c : Nat) : (convert 22 9 (.slice A l.length c)).run Try.prog w = .ok (.string (bstr l)) w :=
  run_str Try.underlying22 Try.underlying5 Try.underlying9 h c
theorem slice155 (B f : Nat) (w : World) (hf : f < 155) : (Instr.sliceAt 75 (.pointer (some ⟨B, 0, none⟩)) (some (.int .i64 (f : Int))) none none).run Try.prog w = .ok (.slice (some ⟨B, f, none⟩) (155 - f) (155 - f)) w := by
  have ha : Try.prog.arrayLen 75 = 155 := by kernel_rfl
  have h := run_sliceAt_array_l (P := Try.prog) w 75 ⟨B, 0, none⟩ (by kernel_rfl) .i64 (f : Int) (by omega) (by rw [ha]; omega)
  have hs : (sizeOf (Try.prog.elem 75)).run Try.prog w = .ok 1 w := by kernel_rfl
  rw [h, hs, ha, Int.toNat_natCast]
  simp only [Result.andThen, slicedAt]
  rw [if_neg (by omega), addr_add, Nat.zero_add, Nat.mul_one]
set_option maxHeartbeats 1600000 in
theorem text_ok (A : Option Addr) (l : List Nat) (c : Nat) (w : World) (hlc : l.length ≤ c) (hc : c ≤ maxLen) (h : Rb w A l) (hl : Nat64 l) :
    Calls Try.prog 24 #[.slice A l.length c] w fun e w' => e = .returned (.string (bstr (textL (val l)))) ∧ Below w.heap.size w w' := by
  have c0 := check_any A l c w (by omega) h
  rw [checkE_of hl] at c0
  have C0 := Lib.hid c0
  clear c0
  by_cases hn : l = []
  · subst hn
    go_enter Try.func24, Try.ntmps24
    go_wp2_with fail
    refine C0.out.mono ?_
    rintro e w' ⟨rfl, rfl⟩
    go_wp2_with fail
    go_ret
    exact ⟨rfl, Below.refl _ _⟩
  · have hpos : 0 < l.length := List.length_pos_iff.2 hn
    have hb0 : ((l.length : Int) == 0) = false := by simp; omega
    have hv0 : val l ≠ 0 := by
      intro e
      have := hl.dig
      rw [e, dig_zero] at this
      exact hn this.symm
    have HT := Lib.hid (show textL (val l) = (dgs 10 (val l)).reverse.map (48 + ·) from if_neg hv0)
    have hmax : (dgs 10 (val l)).length ≤ 155 := (dgs_length (by omega) _ _).2 (Nat.lt_of_lt_of_le hl.lt (by decide))
    have hz := z155
    obtain ⟨Z, hZ⟩ : ∃ Z, cs8 (List.replicate 155 0) = Z := ⟨_, rfl⟩
    have HZ := Lib.hid hZ
    rw [hZ] at hz
    have HNW : Hid (∀ q, A = some q → q.block ≠ w.heap.size) := by
      obtain ⟨b, off, rfl, hb, _⟩ := h.at_ hpos
      intro q hq
      injection hq with hq
      subst hq
      exact Nat.ne_of_lt hb
    have H := Lib.hid h
    have HL := Lib.hid hl
    obtain ⟨v, hv⟩ : ∃ v, val l = v := ⟨_, rfl⟩
    have HV := Lib.hid hv
    rw [hv] at HT hmax ⊢
    clear hZ h hn hv0 hl hv
    go_enter Try.func24, Try.ntmps24
    go_wp2_with fail
    refine C0.out.mono ?_
    rintro e w' ⟨rfl, rfl⟩
    clear C0
    go_wp2_with fail
    go_loopw [0, 4] (fun s i wr => ∃ (f : Nat) (A' : Option Addr) (u : Nat) (done ds : List Nat) (c' : Nat), f + done.length = 155 ∧ i = .int .i64 f ∧ s = .slice A' (dig u).length c' ∧ (dig u).length ≤ c' ∧ c' ≤ maxLen ∧ (dig u).length ≤ 64 ∧
      Rb wr A' (dig u) ∧ (∀ q, A' = some q → q.block ≠ w.heap.size) ∧ dgs 10 v = done ++ dgs 10 u ∧ ds.length = 155 ∧ Lt 256 ds ∧ ds.drop f = done.reverse.map (48 + ·) ∧ Bk wr w.heap.size 75 (cs8 ds) ∧ Below w.heap.size w wr) (fun _ i _ => (intOf i).toNat)
    case atStart =>
      have hd : dig v = l := by rw [← HV.out]; exact HL.out.dig
      have hw1 : Below w.heap.size w (w.alloc (.cells Z.toArray 75)) := (Below.refl _ _).alloc (Nat.le_refl _) _
      exact ⟨155, A, v, [], List.replicate 155 0, c, rfl, rfl, by rw [hd], by rw [hd]; exact hlc, hc, by rw [hd]; exact HL.out.2.2, by rw [hd]; exact H.out.below hw1, HNW.out, rfl, by simp, by intro x hx; simp at hx; omega,
        by rw [List.drop_eq_nil_of_le (by simp)]; rfl, by rw [HZ.out]; exact Bk.new _ _ _, hw1⟩
    case round =>
      obtain ⟨f, A', u, done, ds, c', hf, rfl, rfl, hlc', hc', hl64, hr, hnw, hdg, hds, hd8, hdrop, hB, hbel⟩ := hrel
      have HR := Lib.hid hr
      clear hnw
      have HF := Lib.hid hf
      have HDG := Lib.hid hdg
      have HD := Lib.hid hds
      have HDR := Lib.hid hdrop
      have HB := Lib.hid hB
      have HBel := Lib.hid hbel
      clear hr hf hdg hds hdrop hB hbel
      by_cases hu : u = 0
      · have h0 : (dig u).length = 0 := by rw [hu]; rfl
        rw [h0]
        have hdone : dgs 10 v = done := by rw [HDG.out, hu, dgs_zero, List.append_nil]
        have HDN := Lib.hid hdone
        have hlen : (ds.drop f).length = 155 - f := by rw [List.length_drop, HD.out]
        have hrb : Rb wr (some ⟨w.heap.size, f, none⟩) (ds.drop f) := ⟨by have := HB.out.rd f; simpa [cs8] using this, fun y hy => hd8 y (List.mem_of_mem_drop hy)⟩
        have hstr := run_str8 hrb (155 - f)
        rw [hlen] at hstr
        have hf155 : f < 155 := by
          have h1 := HF.out
          have h2 : (dgs 10 v).length ≠ 0 := by
            intro e
            have h3 := vl_dgs (b := 10) (by omega) v
            rw [List.eq_nil_of_length_eq_zero e] at h3
            have h4 : val l = 0 := by rw [HV.out, ← h3]; rfl
            have h5 := HL.out.dig
            rw [h4, dig_zero] at h5
            rw [← h5] at hpos
            simp at hpos
          rw [hdone] at h2
          omega
        have hsl := slice155 w.heap.size f wr hf155
        clear hdone hrb hlen hu
        go_wp2_with fail
        go_ret
        refine ⟨?_, HBel.out⟩
        rw [HT.out, HDN.out, ← HDR.out]
        rfl
      · have hul : 0 < (dig u).length := by
          rcases Nat.eq_zero_or_pos (dig u).length with h | h
          · exact absurd (dig_nil.1 (List.eq_nil_of_length_eq_zero h)) hu
          · exact h
        have C1 := divide_any A' (dig u) c' 10 wr hl64 HR.out (by omega) (by omega)
        rw [val_dig] at C1
        have HC1 := Lib.hid C1
        have hd2 : dgs 10 v = (done ++ [u % 10]) ++ dgs 10 (u / 10) := by rw [HDG.out, dgs_pos (by omega) hu, List.append_assoc]; rfl
        have hf0 : 0 < f := by
          have h1 := HF.out
          have h2 := congrArg List.length hd2
          rw [List.length_append, List.length_append, List.length_singleton] at h2
          omega
        obtain ⟨g, hg⟩ : ∃ g, f = g + 1 := ⟨f - 1, by omega⟩
        subst hg
        have hg155 : g < 155 := by have := HF.out; omega
        have hm : u % 10 < 10 := Nat.mod_lt _ (by omega)
        have HD2 := Lib.hid hd2
        have hu2 : (dig (u / 10)).length ≤ 64 := by
          refine (dig_length _ _).2 (Nat.lt_of_le_of_lt (Nat.div_le_self _ _) ((dig_length u 64).1 hl64))
        obtain ⟨m, hmm⟩ : ∃ m, u % 10 = m := ⟨_, rfl⟩
        have HM := Lib.hid hmm
        rw [hmm] at HC1 hm HD2
        clear C1 hd2 hu hf0 hmm
        generalize dig u = P at hul HC1 hl64 HR hlc'
        have e1 : ((g : Int) + 1) - 1 = (g : Int) := by omega
        go_wp2_with fail
        refine HC1.out.mono ?_
        rintro e w' ⟨A'', rfl, h', hb', hnq⟩
        have HNQ : Hid (∀ q, A'' = some q → q.block ≠ w.heap.size) := fun q hq => by have := hnq q hq; have := HB.out.lt; omega
        clear hnq
        have hB2 : Bk w' w.heap.size 75 (cs8 ds) := HB.out.below hb' (HB.out.lt)
        have hc2 : w'.cell? ⟨w.heap.size, g, none⟩ = some (.int .u8 ((ds[g]'(by rw [HD.out]; exact hg155) : Nat) : Int)) := by
          rw [hB2.cell, cs8_get (by rw [HD.out]; exact hg155)]
        have hfree : w'.frozen? ⟨w.heap.size, g, none⟩ = false := hB2.free _
        generalize ds[g]'(by rw [HD.out]; exact hg155) = old at hc2
        have HH := Lib.hid h'
        have HBB := Lib.hid hb'
        have HB2 := Lib.hid hB2
        clear h' hb' hB2 HB
        go_wp2_with fail
        refine ⟨⟨g, A'', u / 10, done ++ [m], ds.set g (48 + m), (dig (u / 10)).length, ?_, rfl, rfl, Nat.le_refl _, by unfold maxLen; omega, hu2, ?_, HNQ.out, HD2.out, by rw [List.length_set, HD.out], Lt.set hd8 (by omega), ?_, ?_, ?_⟩, by simp [intOf]⟩
        · have := HF.out; simp; omega
        · exact HH.out.far HNQ.out _
        · have e2 : (ds.set g (48 + m)).drop g = (48 + m) :: ds.drop (g + 1) := by
            rw [List.drop_eq_getElem_cons (by rw [List.length_set, HD.out]; exact hg155), List.getElem_set_self, List.drop_set_of_lt (by omega)]
          rw [e2, HDR.out]
          simp
        · have hs := HB2.out.store g (by8 (48 + m))
          rw [cs8_set] at hs
          exact hs
        · exact ((HBel.out).trans ((HBB.out).mono (HBel.out).size)).setCell (Nat.le_refl _) _
end Go.Proofs.Ytenbknmpkdidoaa
