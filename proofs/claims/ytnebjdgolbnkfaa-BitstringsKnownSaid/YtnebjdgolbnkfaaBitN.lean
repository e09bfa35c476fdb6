/-
  The reference of layer 8: the contract of GetNamed.
  Conditions: slices read as bytes, and are short.
-/
import Derived.Test.YtnebjdgolbnkfaaBitM
namespace Go.Proofs.Ytnebjdgolbnkfaa.Bit
open Go.RowKit

theorem gtL_ok {l : List Nat} (h : l.length ≤ 1000) (hs : szE l = 0) : gtE l = 0 ∧ gtL l = (bts l.tail).take (szN l) ∧ (gtL l).length = szN l ∧ (∀ k, k < szN l → (gtL l)[k]? = some (bt1 l.tail k)) := by
  have e : gtE l = 0 := by rw [gt_small h, hs]
  have e2 : gtL l = (bts l.tail).take (szN l) := by unfold gtL; rw [if_pos e]
  obtain ⟨u, t, rfl, _, x2, x3, x4⟩ := szE_0 hs
  refine ⟨e, e2, ?_, fun k hk => ?_⟩
  · rw [e2, List.length_take, bts_length, x2, List.tail_cons]; omega
  · rw [e2, List.getElem?_take, if_pos hk, List.tail_cons, bts_get (by rw [x2] at hk; omega)]

set_option maxHeartbeats 1000000 in
set_option maxRecDepth 100000 in
theorem rgetn_any (A : Option Addr) (l : List Nat) (N c : Nat) (w : World) (h : Rb w A l) (hN : l.length = N) (hm : N ≤ 1000) (hc : N ≤ c) :
    Calls Try.prog 21 #[.slice A N c] w (GiveV w (gnV l) (gnE l)) := by
  have HG := Lib.hid (rget_any A l N c w h hN hm hc)
  have hlen : l.length ≤ 1000 := by rw [hN]; exact hm
  rcases szE_or l with hs | hs
  rotate_left
  · rw [(gnE_sz hs).1, (gnE_sz hs).2]
    rw [(gt_bad hlen hs).1, (gt_bad hlen hs).2] at HG
    clear h hN hs hlen
    go_enter Try.func21, Try.ntmps21
    go_wp2_with fail
    refine HG.out.mono ?_
    rintro e w1 ⟨A1, n1, c1, hl, rfl, hr, hc1, hc2, hb⟩
    obtain rfl : 0 = n1 := hl
    have HB1 := Lib.hid hb
    clear hr hc1 hc2 hb
    go_wp2_with fail
    go_ret2
    exact ⟨rfl, HB1.out⟩
  obtain ⟨e1, e2, e3, e4⟩ := gtL_ok hlen hs
  have HG0 := Lib.hid (gnE_zero hs)
  have HG1 := Lib.hid (gnE_big hs)
  have HG2 := Lib.hid (gnE_ok hs)
  rw [← e2] at HG2
  rw [e1] at HG
  have H4 := Lib.hid e4
  have H3 := Lib.hid e3
  have hn8 : szN l ≤ 8000 := by
    obtain ⟨u, t, rfl, _, x2, _, _⟩ := szE_0 hs
    rw [x2]; simp at hlen; omega
  generalize gtL l = L at *
  generalize szN l = n at *
  generalize gnE l = E at *
  generalize gnV l = V at *
  clear h hN hs hlen e1 e2 e3 e4
  go_enter Try.func21, Try.ntmps21
  go_wp2_with fail
  refine HG.out.mono ?_
  rintro e w1 ⟨A1, n1, c1, hl, rfl, hr, hc1, hc2, hb⟩
  obtain rfl : n1 = n := hl.symm.trans H3.out
  have HR := Lib.hid hr
  have HB1 := Lib.hid hb
  have HLL := Lib.hid hl
  clear hr hc1 hc2 hb hl HG
  by_cases hz : n1 = 0
  · subst hz
    obtain ⟨rfl, rfl⟩ := HG2.out (by omega) (by omega)
    have HL0 := Lib.hid (List.eq_nil_of_length_eq_zero HLL.out)
    clear HG0 HG1 HG2
    go_wp2_with fail
    go_loop [6, 7] (fun v i => v = .int .u64 0 ∧ i = .int .i64 (-1)) (fun _ _ => 0)
    case atStart => exact ⟨rfl, rfl⟩
    case round =>
      obtain ⟨rfl, rfl⟩ := hrel
      go_wp2_with fail
      go_ret2
      exact ⟨by rw [HL0.out]; rfl, HB1.out⟩
  have hn0 : (0 : Int) < (n1 : Int) := by omega
  have hcast : ((n1 : Int) - 1).toNat = n1 - 1 := by omega
  have HCL := Lib.hid (show ∀ k, k < n1 → ∃ b off, A1 = some ⟨b, off, none⟩ ∧ b < w1.heap.size ∧ w1.cell? ⟨b, off + k, none⟩ = some (.int .i64 ((bt1 l.tail k : Nat) : Int)) from fun k hk => by
    have hlk : k < L.length := by rw [HLL.out]; exact hk
    obtain ⟨b, off, e, hb, hcc⟩ := HR.out.at_ hlk
    have h4 := H4.out k hk
    rw [List.getElem?_eq_getElem hlk] at h4
    exact ⟨b, off, e, hb, by rw [hcc, Option.some.inj h4]⟩)
  obtain ⟨b, off, rfl, hb, hcell⟩ := HCL.out (n1 - 1) (by omega)
  rcases bt1_or l.tail (n1 - 1) with hb0 | hb0
  · obtain ⟨rfl, rfl⟩ := HG0.out (by omega) hb0
    rw [hb0] at hcell
    clear HG0 HG1 HG2 hb0 HCL H4
    go_wp2_with fail
    go_ret2
    exact ⟨rfl, HB1.out⟩
  rw [hb0] at hcell
  by_cases h64 : 64 < n1
  · obtain ⟨rfl, rfl⟩ := HG1.out (by omega) h64
    clear HG0 HG1 HG2 hb0 HCL H4
    go_wp2_with fail
    go_ret2
    exact ⟨rfl, HB1.out⟩
  obtain ⟨rfl, hV⟩ := HG2.out (by omega) h64
  have HV := Lib.hid hV
  have hn64 : n1 ≤ 64 := by omega
  clear HG0 HG1 HG2 hb0 hV
  go_wp2_with fail
  go_loop [6, 7] (fun v i => ∃ k : Nat, k ≤ n1 ∧ i = .int .i64 ((k : Int) - 1) ∧ v = .int .u64 ((vl 2 (L.drop k) : Nat) : Int)) (fun _ i => (intOf i + 1).toNat)
  case atStart => exact ⟨n1, Nat.le_refl _, rfl, by rw [List.drop_of_length_le (by rw [HLL.out]; exact Nat.le_refl _)]; rfl⟩
  case round =>
    obtain ⟨k, hk, rfl, rfl⟩ := hrel
    by_cases h0 : k = 0
    · subst h0
      have e1 : ((0 : Nat) : Int) - 1 = -1 := rfl
      rw [e1]
      have HV2 := Lib.hid (show V = vl 2 (L.drop 0) by rw [HV.out, List.drop_zero])
      obtain rfl := HV2.out
      clear HV HV2 e1
      generalize vl 2 (L.drop 0) = x at *
      go_wp2_with fail
      go_ret2
      exact ⟨rfl, HB1.out⟩
    · obtain ⟨q, rfl⟩ : ∃ q, k = q + 1 := ⟨k - 1, by omega⟩
      have hlq : q < L.length := by rw [HLL.out]; omega
      obtain ⟨b2, off2, e, hb2, hcell⟩ := HCL.out q (by omega)
      simp only [Option.some.injEq, Addr.mk.injEq, and_true] at e
      obtain ⟨rfl, rfl⟩ := e
      have hbit := bt1_lt l.tail q
      have HS := Lib.hid (show vl 2 (L.drop q) = bt1 l.tail q + 2 * vl 2 (L.drop (q + 1)) by
        rw [List.drop_eq_getElem_cons hlq, vl]
        have h4 := H4.out q (by omega)
        rw [List.getElem?_eq_getElem hlq] at h4
        rw [Option.some.inj h4])
      have hv64 : 2 * vl 2 (L.drop (q + 1)) + bt1 l.tail q < 2 ^ 64 := by
        rw [Nat.add_comm, ← HS.out]
        have hlt2 : Lt 2 L := by
          intro x hx
          obtain ⟨i, hi⟩ := List.getElem?_of_mem hx
          have hi2 : i < n1 := by rw [← HLL.out]; exact (List.getElem?_eq_some_iff.1 hi).1
          rw [H4.out i hi2] at hi
          rw [← Option.some.inj hi]; exact bt1_lt _ _
        exact vl2_lt (fun x hx => hlt2 x (List.mem_of_mem_drop hx)) (by rw [List.length_drop, HLL.out]; omega)
      have e1 : ((q + 1 : Nat) : Int) - 1 = (q : Int) := by omega
      rw [e1]
      generalize bt1 l.tail q = y at *
      generalize vl 2 (L.drop (q + 1)) = x at *
      have hx0 : (0 : Int) ≤ 2 * (x : Int) + (y : Int) := by omega
      have hx1 : 2 * (x : Int) + (y : Int) ≤ 18446744073709551615 := by omega
      have hx2 : 2 * (x : Int) ≤ 18446744073709551615 := by omega
      clear hv64 h0 hlq e1
      go_wp2_with fail
      exact ⟨⟨q, by omega, by go_num, by rw [HS.out]; go_num⟩, by simp [intOf]⟩
end Go.Proofs.Ytnebjdgolbnkfaa.Bit
