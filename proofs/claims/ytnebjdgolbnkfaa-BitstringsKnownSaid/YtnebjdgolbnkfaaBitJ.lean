/-
  The reference of layer 8: contracts of Bytes, Put, PutNamed; of the statements' L.Of.
  Conditions: slices read as bytes or as bits, and are short.
-/
import Derived.Test.YtnebjdgolbnkfaaBitI
namespace Go.Proofs.Ytnebjdgolbnkfaa.Bit
open Go.RowKit

set_option maxHeartbeats 1000000 in
set_option maxRecDepth 100000 in
theorem rbytes_any (A : Option Addr) (l : List Nat) (N c : Nat) (w : World) (h : Ri w A l) (h2 : Lt 2 l) (hN : l.length = N) (hm : N ≤ 10000) :
    Calls Try.prog 9 #[.slice A N c] w (GiveB w (byt l)) := by
  have H := Lib.hid h
  have HN := Lib.hid hN
  have H2 := Lib.hid h2
  clear h hN h2
  go_enter Try.func9, Try.ntmps9
  go_wp2_with fail
  go_loopw [3, 4] (fun v i wr => ∃ j : Nat, j ≤ (N + 7) / 8 ∧ i = .int .i64 ((8 * j : Nat) : Int) ∧ wr.ownsRow w.heap.size 5 1 v ((byt l).take j).length (cs8 ((byt l).take j)) ∧ Below w.heap.size w wr) (fun _ i _ => N + 8 - (intOf i).toNat)
  case atStart => exact ⟨0, Nat.zero_le _, rfl, World.ownsRow_nil _ _ _ _, Below.refl _ _⟩
  case round =>
    obtain ⟨j, hj, rfl, hown, hbel⟩ := hrel
    have HOwn := Lib.hid hown
    have HBel := Lib.hid hbel
    clear hown hbel
    by_cases hlt : j < (N + 7) / 8
    · have hlt2 : 8 * j < N := by omega
      obtain ⟨i, hi⟩ : ∃ i, 8 * j = i := ⟨_, rfl⟩
      rw [hi] at hlt2 ⊢
      have HI := Lib.hid hi
      have hltI : (i : Int) < (N : Int) := by omega
      clear hi
      go_wp2_with fail
      go_loop [5, 6] (fun s t => ∃ m : Nat, m ≤ 8 ∧ t = .int .i64 (m : Int) ∧ s = .int .i64 ((vP l i m : Nat) : Int)) (fun _ t => 8 - (intOf t).toNat)
      case atStart => exact ⟨0, Nat.zero_le _, rfl, rfl⟩
      case round =>
        obtain ⟨m, hm8, rfl, rfl⟩ := hrel
        have hv := vP_lt H2.out i m
        have hp : 2 ^ m ≤ 2 ^ 8 := Nat.pow_le_pow_right (by omega) hm8
        by_cases hml : m < 8
        · have HS := Lib.hid (show vP l i (m + 1) = 2 * vP l i m + l.getD (i + m) 0 from rfl)
          generalize vP l i m = x at *
          have hx : x < 256 := by omega
          clear hv hp
          by_cases hin : i + m < N
          · obtain ⟨b, off, rfl, hb, hcell0⟩ := H.out.at_ (k := i + m) (by rw [HN.out]; exact hin)
            have hcell : wr.cell? ⟨b, off + (i + m), none⟩ = some (.int .i64 ((l[i + m]'(by rw [HN.out]; exact hin) : Nat) : Int)) := (HBel.out.cell (p := ⟨b, off + (i + m), none⟩) hb).trans hcell0
            have hy : l[i + m]'(by rw [HN.out]; exact hin) < 2 := H2.out _ (List.getElem_mem _)
            have HG := Lib.hid (show l.getD (i + m) 0 = l[i + m]'(by rw [HN.out]; exact hin) by rw [List.getD_eq_getElem?_getD, List.getElem?_eq_getElem (by rw [HN.out]; exact hin)]; rfl)
            generalize l[i + m]'(by rw [HN.out]; exact hin) = y at *
            clear hcell0
            have hinI : ((i : Int) + (m : Int)) < (N : Int) := by omega
            have hnn : 0 ≤ (i : Int) + (m : Int) := by omega
            have hnat : ((i : Int) + (m : Int)).toNat = i + m := by omega
            go_wp2_with fail
            exact ⟨⟨m + 1, by omega, by go_num, by rw [HS.out, HG.out]; go_num⟩, by simp [intOf]; omega⟩
          · have HG := Lib.hid (show l.getD (i + m) 0 = 0 by rw [List.getD_eq_getElem?_getD, List.getElem?_eq_none (by rw [HN.out]; omega)]; rfl)
            have hinI : ¬ ((i : Int) + (m : Int)) < (N : Int) := by omega
            go_wp2_with fail
            exact ⟨⟨m + 1, by omega, by go_num, by rw [HS.out, HG.out]; go_num⟩, by simp [intOf]; omega⟩
        · obtain rfl : m = 8 := by omega
          have hl3 : ((byt l).take j).length ≤ 1000000 := by rw [List.length_take]; omega
          obtain ⟨v', w1, hrun, hown1, hb1⟩ := appB HOwn.out (vP l i 8) HBel.out.size hl3
          have e1 : (byt l).take j ++ [vP l i 8] = (byt l).take (j + 1) := by rw [byt_take (by rw [HN.out]; exact hlt), HI.out]
          rw [e1] at hown1
          have HOwn1 := Lib.hid hown1
          have HB1 := Lib.hid (HBel.out.trans (hb1.mono (Nat.le_refl _)))
          have hx : vP l i 8 < 256 := hv
          generalize vP l i 8 = x at *
          have hmod : (x : Int) % 256 = (x : Int) := by omega
          have hlt3 : j + 1 ≤ (N + 7) / 8 := hlt
          clear hown1 hb1 e1 hl3 hv hp HOwn hlt
          rw [show ((8 : Nat) : Int) = 8 from rfl]
          go_wp2_with (at_builtin; refine wpList_app rfl _ _ _ _ rfl _ _ rfl rfl hrun ?_)
          exact ⟨⟨j + 1, hlt3, by rw [← HI.out]; go_num, HOwn1.out, HB1.out⟩, by simp [intOf]; omega⟩
    · obtain rfl : j = (N + 7) / 8 := by omega
      have e : (byt l).take ((N + 7) / 8) = byt l := List.take_of_length_le (by rw [byt_length, HN.out]; omega)
      rw [e] at HOwn
      obtain ⟨A', c', hv', hr', hc1, hc2⟩ := own_open (by rw [cs8_length]; exact HOwn.out)
      rw [cs8_length] at hv' hc1
      have HR := Lib.hid (show Rb wr A' (byt l) from ⟨hr', byt_all H2.out⟩)
      have HC := Lib.hid (And.intro hc1 hc2)
      have HV := Lib.hid hv'
      have hge : ¬ ((8 * ((N + 7) / 8) : Nat) : Int) < (N : Int) := by omega
      clear hv' hr' hc1 hc2 e HOwn hlt hj
      obtain ⟨n, hn⟩ : ∃ n, (byt l).length = n := ⟨_, rfl⟩
      rw [hn] at HV HC
      have HNn := Lib.hid hn
      clear hn
      obtain rfl := HV.out
      generalize 8 * ((N + 7) / 8) = i at *
      go_wp2_with fail
      go_ret
      exact ⟨A', n, c', HNn.out, rfl, HR.out, HC.out.1, HC.out.2, HBel.out⟩

/-- 'append([]byte{x}, b...)'. -/
theorem cons_own (w : World) (x : Nat) (hx : x < 256) {B : Option Addr} {m : List Nat} {M c : Nat} (h : Rb w B m) (hM : m.length = M) (hm : M ≤ 1000000) :
    ∃ g c2 w2, (Builtin.append_ #[22, 22] 22 #[.slice (some ⟨w.heap.size, 0, none⟩) 1 1, .slice B M c]).run Try.prog (w.alloc (.cells #[.int .u8 (x : Int)] 5)) = .ok (.slice (some g) (M + 1) c2) w2 ∧
      Rb w2 (some g) (x :: m) ∧ M + 1 ≤ c2 ∧ c2 ≤ maxLen ∧ Below w.heap.size w w2 := by
  subst hM
  have hb2 := bel1 w (.cells #[.int .u8 (x : Int)] 5)
  obtain ⟨v', w2, hrun, hown2, hb3⟩ := app_src (P := Try.prog) (ty := 22) Try.underlying22 info5 rfl (own_lit w 5 (.int .u8 (x : Int))) (c := c) ((h.below hb2).1) (by intro u hu; obtain ⟨n, _, rfl⟩ := List.mem_map.1 hu; rfl) (by simp) (by rw [cs8_length, List.length_singleton]; omega) (by rw [cs8_length, List.length_singleton]; unfold maxLen; omega)
  rw [cs8_length] at hrun
  obtain ⟨B2, c2, rfl, hr2, hc2, hc3⟩ := own_open hown2
  have e1 : [Value.int .u8 (x : Int)] ++ cs8 m = cs8 (x :: m) := rfl
  rw [e1] at hr2 hc2 hrun
  rw [cs8_length, List.length_cons] at hc2 hrun
  obtain ⟨b, off, rfl, _⟩ := hr2 (by simp [cs8])
  exact ⟨_, c2, w2, hrun, ⟨hr2, All8.cons hx h.2⟩, hc2, hc3, hb2.trans hb3⟩

set_option maxHeartbeats 1000000 in
set_option maxRecDepth 100000 in
theorem rput_any (A : Option Addr) (l : List Nat) (N c : Nat) (w : World) (h : Ri w A l) (h2 : Lt 2 l) (hN : l.length = N) (hm : N ≤ 10000) :
    Calls Try.prog 10 #[.slice A N c] w (GiveB w (putB l)) := by
  have HB := Lib.hid (rbytes_any A l N c w h h2 hN hm)
  have HP := Lib.hid (show putB l = (8 * ((N + 7) / 8) - N) :: byt l by unfold putB; rw [hN])
  have HL := Lib.hid (show (byt l).length = (N + 7) / 8 by rw [byt_length, hN])
  generalize byt l = b at *
  clear h h2 hN
  go_enter Try.func10, Try.ntmps10
  go_wp2_with fail
  refine HB.out.mono ?_
  rintro e w1 ⟨A1, n1, c1, hl, rfl, hr, hc1, hc2, hb⟩
  have hn1 : n1 = (N + 7) / 8 := hl.symm.trans HL.out
  obtain ⟨u, hu⟩ : ∃ u, 8 * n1 - N = u := ⟨_, rfl⟩
  have hui : 8 * (n1 : Int) - (N : Int) = (u : Int) := by omega
  have hu8 : u < 8 := by omega
  have hn6 : n1 ≤ 2000 := by omega
  obtain ⟨g, c3, w2, hrun, hr2, hc3, hc4, hb2⟩ := cons_own (c := c1) w1 u (by omega) hr hl (by omega)
  have HR := Lib.hid hr2
  have HC := Lib.hid (And.intro hc3 hc4)
  have HB2 := Lib.hid (hb.trans (hb2.mono hb.size))
  have HLn := Lib.hid (show (u :: b).length = n1 + 1 by rw [List.length_cons, hl])
  have HPU := Lib.hid (show putB l = u :: b by rw [HP.out, ← hn1, hu])
  have HRUN := Lib.hid hrun
  have hm8 : (u : Int) % 256 = (u : Int) := by omega
  clear hl hr hc1 hc2 hb hn1 hu hr2 hc3 hc4 hb2 hrun HB HP HL
  go_wp2_with (at_builtin; refine wpList_app rfl _ _ _ _ rfl _ _ rfl rfl HRUN.out ?_)
  go_ret
  rw [HPU.out]
  exact ⟨_, n1 + 1, c3, HLn.out, rfl, HR.out, HC.out.1, HC.out.2, HB2.out⟩
end Go.Proofs.Ytnebjdgolbnkfaa.Bit
