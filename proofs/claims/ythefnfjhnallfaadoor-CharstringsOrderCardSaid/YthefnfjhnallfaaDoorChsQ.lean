/-
  The reference of layer 9: Encode.
  Conditions: the slice reads as characters.
-/
import Derived.Test.YthefnfjhnallfaaDoorChsP
namespace Go.Proofs.YthefnfjhnallfaaDoor.Chs
open Go.RowKit Go.Shelf

/-- 'append(v, ..)' of some bytes. -/
theorem appBs {w : World} {base : Nat} {v : Value} {l : List Nat} (hown : w.ownsRow base 5 1 v l.length (cs8 l)) (ys : List Nat) (n : Nat) (hn : ys.length = n) (h0 : n ≤ 4) (hb : base ≤ w.heap.size) (hl : l.length ≤ 1000000) :
    ∃ v' w', (Builtin.append_ #[32, 32] 32 #[v, .slice (some ⟨w.heap.size, 0, none⟩) n n]).run Tryd.prog (w.alloc (.cells (cs8 ys).toArray 5)) = .ok v' w' ∧ w'.ownsRow base 5 1 v' (l ++ ys).length (cs8 (l ++ ys)) ∧ Below base w w' := by
  rw [← cs8_length] at hown
  obtain ⟨i, hi, hz0, hz1, hz2⟩ := info_parts infoB
  obtain ⟨v', w', hrun, h2, h3, _⟩ := run_append_own (P := Tryd.prog) (w.alloc (.cells (cs8 ys).toArray 5)) base 32 32 5 i _ 1 1 Tryd.underlying32 hi hz0 hz1 hz2 rfl (by omega) v (cs8 l).length (cs8 l) (hown.alloc _) ⟨w.heap.size, 0, none⟩ n n (cs8 ys) (by rw [cs8_length, hn, Nat.mul_one])
    (fun j u hu => by
      have := ((Bk.new w 5 (cs8 ys)).cell j).trans hu
      rwa [show (⟨w.heap.size, 0, none⟩ : Addr).add j = ⟨w.heap.size, j, none⟩ by unfold Addr.add; split <;> simp_all]) (fun u hu => by obtain ⟨_, _, rfl⟩ := List.mem_map.1 hu; rfl) (by rw [cs8_length]; unfold maxLen; omega) (by rw [cs8_length]; omega) (by simp; omega)
  refine ⟨v', w', hrun, ?_, ((Below.refl base w).alloc hb _).grown h3 (by simp; omega) (fun k hk => (hown.lt k hk).1)⟩
  rw [cs8_app, cs8_length, ← hn] at h2
  rw [List.length_append]
  exact h2

set_option linter.unusedSimpArgs false in
set_option maxHeartbeats 4000000 in
set_option maxRecDepth 100000 in
theorem renc_any (A : Option Addr) (cs : List Nat) (N d : Nat) (hN : cs.length = N) (hm : N ≤ 200000) (hs : ∀ c ∈ cs, scal c = true) (w : World) (hA : Ri w A cs) :
    Calls Tryd.prog 37 #[.slice A N d] w fun e w' => e = .returned (.string (bstr (encS cs))) ∧ Below w.heap.size w w' := by
  have HA := Lib.hid hA
  have HS := Lib.hid hs
  have HN := Lib.hid hN
  obtain ⟨T, hT⟩ : ∃ T, bstr (encS cs) = T := ⟨_, rfl⟩
  have HT := Lib.hid hT
  rw [hT]
  have START := Lib.hid (World.ownsRow_nil w w.heap.size 5 1)
  have B0 := Lib.hid (Below.refl w.heap.size w)
  clear hA hs hN hT
  go_enter Tryd.func37, Tryd.ntmps37
  go_upto_region 3 with fail
  go_loopw [3, 4] (fun v i wr => ∃ j : Nat, j ≤ N ∧ i = .int .i64 (j : Int) ∧ wr.ownsRow w.heap.size 5 1 v (encS (cs.take j)).length (cs8 (encS (cs.take j))) ∧ Below w.heap.size w wr) (fun _ i _ => N - (intOf i).toNat)
  case atStart => exact ⟨0, Nat.zero_le _, rfl, START.out, B0.out⟩
  case round =>
    obtain ⟨j, hj, rfl, hown, hbl⟩ := hrel
    have OWN := Lib.hid hown
    have BL := Lib.hid hbl
    clear hown hbl START B0
    rcases Nat.lt_or_ge j N with hlt | hge
    · have hlt2 : j < cs.length := by rw [HN.out]; exact hlt
      obtain ⟨b, off, rfl, hb, hc0⟩ := HA.out.at_ hlt2
      have hc := (BL.out.cell (p := ⟨b, off + j, none⟩) hb).trans hc0
      have hsc := scal_iff.1 (HS.out _ (List.getElem_mem hlt2))
      have hel := (encS_len (cs.take j)).2
      rw [List.length_take] at hel
      obtain ⟨c, hcc⟩ : ∃ c, cs[j] = c := ⟨_, rfl⟩
      rw [hcc] at hc hsc
      obtain ⟨v', w1, hrun, hown1, hb1⟩ := appBs OWN.out (enc1 c) (enc1 c).length rfl (enc1_len c).2 BL.out.size (by omega)
      rw [← encS_snoc, ← hcc, ← List.take_succ_eq_append_getElem hlt2] at hown1
      have OWN1 := Lib.hid hown1
      have BL1 := Lib.hid (BL.out.trans hb1)
      have hli : (j : Int) < (N : Int) := by omega
      clear hown1 hb1 hcc hb hel hc0
      by_cases h1 : c < 128
      · rw [show enc1 c = [c] from if_pos h1] at hrun
        have hrun : (Builtin.append_ #[32, 32] 32 #[_, .slice (some ⟨wr.heap.size, 0, none⟩) 1 1]).run Tryd.prog (wr.alloc (.cells #[.int .u8 (c : Int)] 5)) = .ok v' w1 := hrun
        have hi1 : (c : Int) < 128 := by omega
        clear hsc h1
        go_wp2_with (at_builtin; refine wpList_app rfl _ _ _ _ rfl _ _ rfl rfl hrun ?_)
        exact ⟨⟨j + 1, by omega, by go_num, OWN1.out, BL1.out⟩, by simp [intOf]; omega⟩
      · have hi1 : ¬ (c : Int) < 128 := by omega
        by_cases h2 : c < 2048
        · have hi2 : (c : Int) < 2048 := by omega
          rw [show enc1 c = [192 + c / 64, 128 + c % 64] from by unfold enc1; rw [if_neg h1, if_pos h2]] at hrun
          have hrun : (Builtin.append_ #[32, 32] 32 #[_, .slice (some ⟨wr.heap.size, 0, none⟩) 2 2]).run Tryd.prog (wr.alloc (.cells #[.int .u8 ((192 + c / 64 : Nat) : Int), .int .u8 ((128 + c % 64 : Nat) : Int)] 5)) = .ok v' w1 := hrun
          rw [show ((192 + c / 64 : Nat) : Int) = 192 + (c : Int) / 64 by omega] at hrun
          rw [show ((128 + c % 64 : Nat) : Int) = 128 + (c : Int) % 64 by omega] at hrun
          clear h1
          go_wp2_with (at_builtin; refine wpList_app rfl _ _ _ _ rfl _ _ rfl rfl hrun ?_)
          exact ⟨⟨j + 1, by omega, by go_num, OWN1.out, BL1.out⟩, by simp [intOf]; omega⟩
        · have hi2 : ¬ (c : Int) < 2048 := by omega
          by_cases h3 : c < 65536
          · have hi3 : (c : Int) < 65536 := by omega
            rw [show enc1 c = [224 + c / 4096, 128 + c / 64 % 64, 128 + c % 64] from by unfold enc1; rw [if_neg h1, if_neg h2, if_pos h3]] at hrun
            have hrun : (Builtin.append_ #[32, 32] 32 #[_, .slice (some ⟨wr.heap.size, 0, none⟩) 3 3]).run Tryd.prog (wr.alloc (.cells #[.int .u8 ((224 + c / 4096 : Nat) : Int), .int .u8 ((128 + c / 64 % 64 : Nat) : Int), .int .u8 ((128 + c % 64 : Nat) : Int)] 5)) = .ok v' w1 := hrun
            rw [show ((224 + c / 4096 : Nat) : Int) = 224 + (c : Int) / 4096 by omega] at hrun
            rw [show ((128 + c / 64 % 64 : Nat) : Int) = 128 + (c : Int) / 64 % 64 by omega] at hrun
            rw [show ((128 + c % 64 : Nat) : Int) = 128 + (c : Int) % 64 by omega] at hrun
            clear h1 h2
            go_wp2_with (at_builtin; refine wpList_app rfl _ _ _ _ rfl _ _ rfl rfl hrun ?_)
            exact ⟨⟨j + 1, by omega, by go_num, OWN1.out, BL1.out⟩, by simp [intOf]; omega⟩
          · have hi3 : ¬ (c : Int) < 65536 := by omega
            have hi4 : (c : Int) ≤ 1114111 := by omega
            rw [show enc1 c = [240 + c / 262144, 128 + c / 4096 % 64, 128 + c / 64 % 64, 128 + c % 64] from by unfold enc1; rw [if_neg h1, if_neg h2, if_neg h3]] at hrun
            have hrun : (Builtin.append_ #[32, 32] 32 #[_, .slice (some ⟨wr.heap.size, 0, none⟩) 4 4]).run Tryd.prog (wr.alloc (.cells #[.int .u8 ((240 + c / 262144 : Nat) : Int), .int .u8 ((128 + c / 4096 % 64 : Nat) : Int), .int .u8 ((128 + c / 64 % 64 : Nat) : Int), .int .u8 ((128 + c % 64 : Nat) : Int)] 5)) = .ok v' w1 := hrun
            rw [show ((240 + c / 262144 : Nat) : Int) = 240 + (c : Int) / 262144 by omega] at hrun
            rw [show ((128 + c / 4096 % 64 : Nat) : Int) = 128 + (c : Int) / 4096 % 64 by omega] at hrun
            rw [show ((128 + c / 64 % 64 : Nat) : Int) = 128 + (c : Int) / 64 % 64 by omega] at hrun
            rw [show ((128 + c % 64 : Nat) : Int) = 128 + (c : Int) % 64 by omega] at hrun
            clear h1 h2 h3
            go_wp2_with (at_builtin; refine wpList_app rfl _ _ _ _ rfl _ _ rfl rfl hrun ?_)
            exact ⟨⟨j + 1, by omega, by go_num, OWN1.out, BL1.out⟩, by simp [intOf]; omega⟩
    · obtain rfl : j = N := by omega
      have hfin : cs.take j = cs := by rw [← HN.out, List.take_length]
      rw [hfin] at OWN
      obtain ⟨A2, c2, hv, hr, -, -⟩ := own_open (by rw [cs8_length]; exact OWN.out)
      rw [cs8_length] at hv
      have hst := run_str8 (l := encS cs) (w := wr) (A := A2) ⟨hr, encS_all HS.out⟩ c2
      subst hv
      rw [HT.out] at hst
      obtain ⟨M, hM⟩ : ∃ M, (encS cs).length = M := ⟨_, rfl⟩
      rw [hM] at hst ⊢
      clear hr hfin hM OWN
      go_wp2_with fail
      go_ret
      exact ⟨rfl, BL.out⟩
end Go.Proofs.YthefnfjhnallfaaDoor.Chs
