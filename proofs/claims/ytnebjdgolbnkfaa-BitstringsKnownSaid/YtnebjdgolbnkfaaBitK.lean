/-
  The reference of layer 8: contracts of PutNamed, Check; of the statements' L.Of.
  Conditions: slices read as bytes or as bits, and are short.
-/
import Derived.Test.YtnebjdgolbnkfaaBitJ
namespace Go.Proofs.Ytnebjdgolbnkfaa.Bit
open Go.RowKit

set_option maxHeartbeats 1000000 in
set_option maxRecDepth 100000 in
theorem rputn_any (v : Nat) (w : World) (hv : v < 2 ^ 64) :
    Calls Try.prog 24 #[.int .u64 (v : Int)] w (GiveB w (pnB v)) := by
  have hv1 : (v : Int) ≤ 18446744073709551615 := by omega
  have HL := Lib.hid (dgs2_len hv)
  clear hv
  go_enter Try.func24, Try.ntmps24
  go_wp2_with fail
  go_loopw [0, 3] (fun s o wr => ∃ (r : Nat) (m : List Nat), (r : Int) ≤ 18446744073709551615 ∧ s = .int .u64 (r : Int) ∧ dgs 2 v = m ++ dgs 2 r ∧ wr.ownsRow w.heap.size 3 1 o m.length (csI m) ∧ Below w.heap.size w wr) (fun s _ _ => (intOf s).toNat)
  case atStart => exact ⟨v, [], hv1, rfl, rfl, World.ownsRow_nil _ _ _ _, Below.refl _ _⟩
  case round =>
    obtain ⟨r, m, hr, rfl, hd, hown, hbel⟩ := hrel
    by_cases h0 : r = 0
    · subst h0
      rw [dgs_zero, List.append_nil] at hd
      have HD := Lib.hid hd
      obtain ⟨A', c', hv', hr', hc1, hc2⟩ := own_open (by rw [csI_length]; exact hown)
      rw [csI_length] at hv' hc1
      obtain ⟨n, hn⟩ : ∃ n, m.length = n := ⟨_, rfl⟩
      have hn64 : n ≤ 64 := by rw [← hn, ← hd]; exact HL.out
      have HP := Lib.hid (rput_any A' m n c' wr hr' (hd ▸ dgs_lt (by omega) v) hn (by omega))
      have HPE := Lib.hid (show pnB v = putB m by unfold pnB; rw [hd])
      rw [hn] at hv'
      have HV := Lib.hid hv'
      have HBel := Lib.hid hbel
      clear hd hown hbel hr' hc1 hc2 hn hv'
      obtain rfl := HV.out
      go_wp2_with fail
      refine HP.out.mono ?_
      rintro e w1 ⟨A2, n2, c2, hl, rfl, hr2, hc1, hc2, hb⟩
      have HLn := Lib.hid hl
      have HR := Lib.hid hr2
      have HC := Lib.hid (And.intro hc1 hc2)
      have HB1 := bt HBel (Lib.hid hb)
      clear hl hr2 hc1 hc2 hb
      go_wp2_with fail
      go_ret
      rw [HPE.out]
      exact ⟨A2, n2, c2, HLn.out, rfl, HR.out, HC.out.1, HC.out.2, HB1.out⟩
    · have hstep := dgs_pos (b := 2) (by omega) h0
      have hml : m.length ≤ 64 := by
        have := HL.out
        rw [hd, List.length_append] at this; omega
      obtain ⟨v', w1, hrun, hown1, hb1⟩ := appI hown (r % 2) hbel.size (by omega)
      have hy : ((r % 2 : Nat) : Int) = (r : Int) % 2 := by omega
      rw [hy] at hrun
      have HD := Lib.hid (show dgs 2 v = (m ++ [r % 2]) ++ dgs 2 (r / 2) by rw [hd, hstep]; simp)
      have HOwn := Lib.hid hown1
      have HB1 := Lib.hid (hbel.trans (hb1.mono (Nat.le_refl _)))
      have hr0 : (0 : Int) < (r : Int) := by omega
      clear hd hown hbel hstep hown1 hb1 hy h0
      go_wp2_with (at_builtin; refine wpList_app rfl _ _ _ _ rfl _ _ rfl rfl hrun ?_)
      exact ⟨⟨r / 2, m ++ [r % 2], by omega, by go_num, HD.out, HOwn.out, HB1.out⟩, by simp [intOf]; omega⟩

/-- The bits of an L. -/
def parL (l : List Nat) : List Nat := (l.take 300).map (· % 2)
theorem parL_length (l : List Nat) : (parL l).length = min 300 l.length := by simp [parL]
theorem parL_lt (l : List Nat) : Lt 2 (parL l) := by
  intro x hx
  obtain ⟨y, _, rfl⟩ := List.mem_map.1 hx
  exact Nat.mod_lt _ (by omega)
theorem parL_take {l : List Nat} {i : Nat} (h : i < l.length) (h3 : i < 300) : (parL l).take (i + 1) = (parL l).take i ++ [l[i] % 2] := by
  have hl : i < (parL l).length := by rw [parL_length]; omega
  rw [List.take_succ_eq_append_getElem hl]
  congr 2
  simp [parL]
set_option maxHeartbeats 1000000 in
set_option maxRecDepth 100000 in
theorem lof_any (A : Option Addr) (l : List Nat) (N c : Nat) (w : World) (h : Rb w A l) (hN : l.length = N) (hm : N ≤ maxLen) :
    Calls Try.prog 8 #[.agg #[.slice A N c]] w (GiveL w (parL l)) := by
  unfold maxLen at hm
  have HN := Lib.hid hN
  have HK := Lib.hid (Bk.new w 24 [.slice A N c])
  have HB0 := Lib.hid (bel1 w (.cells #[.slice A N c] 24))
  have H := Lib.hid (h.below HB0.out)
  have HW := Lib.hid (show w.heap.size < (w.alloc (.cells #[.slice A N c] 24)).heap.size from HK.out.lt)
  obtain ⟨W, hW⟩ : ∃ W, w.alloc (.cells #[.slice A N c] 24) = W := ⟨_, rfl⟩
  rw [hW] at HB0 H HW
  have HK : Hid (Bk W w.heap.size 24 [.slice A N c]) := by rw [← hW]; exact HK
  clear h hN
  go_enter Try.func8, Try.ntmps8
  go_wp2_with fail
  have HWE := Lib.hid hW
  clear hW
  go_loopw [3, 4] (fun v i wr => ∃ k : Nat, k ≤ N ∧ k ≤ 300 ∧ i = .int .i64 (k : Int) ∧ wr.ownsRow W.heap.size 3 1 v ((parL l).take k).length (csI ((parL l).take k)) ∧ Below W.heap.size W wr) (fun _ i _ => N - (intOf i).toNat)
  case atStart => exact ⟨0, Nat.zero_le _, Nat.zero_le _, rfl, World.ownsRow_nil _ _ _ _, Below.refl _ _⟩
  case round =>
    obtain ⟨k, hk, hk3, rfl, hown, hbel⟩ := hrel
    have hc0 := (HK.out.below hbel HW.out).cell 0
    have hc0' : wr.cell? ⟨w.heap.size, 0, none⟩ = some (.slice A N c) := hc0
    have hsz := Nat.lt_of_lt_of_le HW.out hbel.size
    clear hc0
    by_cases hlt : k < N ∧ k < 300
    · obtain ⟨hl1, hl2⟩ := hlt
      have hl1' : k < l.length := by rw [HN.out]; exact hl1
      obtain ⟨b, off, rfl, hb, hx, hcell0⟩ := H.out.at_ (k := k) hl1'
      have hcell := (hbel.cell (p := ⟨b, off + k, none⟩) hb).trans hcell0
      obtain ⟨v', w1, hrun, hown1, hb1⟩ := appI hown (l[k] % 2) hbel.size (by rw [List.length_take]; omega)
      rw [← parL_take hl1' hl2] at hown1
      generalize l[k] = x at *
      have hy : ((x % 2 : Nat) : Int) = (x : Int) % 2 := by omega
      rw [hy] at hrun
      have HOwn := Lib.hid hown1
      have HB1 := Lib.hid (hbel.trans (hb1.mono (Nat.le_refl _)))
      clear hown hbel hown1 hb1 hy hcell0 hl1'
      go_wp2_with (at_builtin; refine wpList_app rfl _ _ _ _ rfl _ _ rfl rfl hrun ?_)
      exact ⟨⟨k + 1, by omega, by omega, by go_num, HOwn.out, HB1.out⟩, by simp [intOf]; omega⟩
    · have e : (parL l).take k = parL l := List.take_of_length_le (by rw [parL_length, HN.out]; omega)
      rw [e] at hown
      obtain ⟨A', c', hv', hr', hc1, hc2⟩ := own_open (by rw [csI_length]; exact hown)
      rw [csI_length] at hv' hc1
      obtain ⟨n, hn⟩ : ∃ n, (parL l).length = n := ⟨_, rfl⟩
      rw [hn] at hv' hc1
      have HR := Lib.hid (show Ri wr A' (parL l) from hr')
      have HC := Lib.hid (And.intro hc1 hc2)
      have HNn := Lib.hid hn
      have HV := Lib.hid hv'
      have HB1 := bt HB0 (Lib.hid hbel)
      clear hv' hr' hc1 hc2 e hown hn hbel
      obtain rfl := HV.out
      by_cases hkn : k < N
      · have h3 : ¬ (k : Int) < 300 := by omega
        have h3b : decide ((k : Int) < 300) = false := by simp; omega
        clear hlt
        go_wp2_with fail
        go_ret
        exact ⟨A', n, c', HNn.out, rfl, HR.out, HC.out.1, HC.out.2, HB1.out⟩
      · clear hlt
        have h3b : decide (k < N) = false := by simp; omega
        go_wp2_with fail
        go_ret
        exact ⟨A', n, c', HNn.out, rfl, HR.out, HC.out.1, HC.out.2, HB1.out⟩
end Go.Proofs.Ytnebjdgolbnkfaa.Bit
