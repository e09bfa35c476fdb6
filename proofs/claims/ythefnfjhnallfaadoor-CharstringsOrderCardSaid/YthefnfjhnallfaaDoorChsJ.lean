/-
  Layer 9: the contract of Put.
  Conditions: unicode/utf8's tables hold what its text lays.
-/
import Derived.Test.YthefnfjhnallfaaDoorChsI
namespace Go.Proofs.YthefnfjhnallfaaDoor.Chs
open Go.RowKit Go.Shelf

/-- The bytes of characters of a kind. -/
def pL (k : Nat) (cs : List Nat) : List Nat := cs.flatMap (putB k)
theorem pL_snoc (k : Nat) (cs : List Nat) (c : Nat) : pL k (cs ++ [c]) = pL k cs ++ putB k c := by unfold pL; rw [List.flatMap_append]; show _ ++ (putB k c ++ []) = _; rw [List.append_nil]
theorem pL_len (k : Nat) : ∀ cs : List Nat, (pL k cs).length ≤ 4 * cs.length
  | [] => Nat.le_refl _
  | c :: cs => by
    have := pL_len k cs
    have := (putB_len k c).2
    show (putB k c ++ pL k cs).length ≤ _
    rw [List.length_append, List.length_cons]
    omega
theorem putB_all {k c : Nat} (hs : scal c = true) (hh : hasN k c = true) : All8 (putB k c) := by
  unfold putB
  by_cases h12 : k = 12
  · rw [if_pos h12]; exact enc1_all hs
  · rw [if_neg h12]
    unfold hasN at hh
    rw [if_neg h12] at hh
    by_cases h30 : k = 30
    · subst h30
      simp at hh
      intro x hx
      simp at hx
      omega
    · rw [if_neg h30]
      intro x hx
      simp at hx
      subst hx
      split at hh
      · simp at hh; omega
      · split at hh
        · simp at hh; omega
        · unfold prB othL at hh
          simp at hh
          omega
theorem pL_all {k : Nat} {cs : List Nat} (hs : ∀ c ∈ cs, scal c = true) (hh : ∀ c ∈ cs, hasN k c = true) : All8 (pL k cs) := fun x hx => by
  obtain ⟨c, hc, hx⟩ := List.mem_flatMap.1 hx
  exact putB_all (hs c hc) (hh c hc) x hx
/-- What Put answers. -/
def putL (k : Nat) (l : List Nat) : List Nat := if chkC k l = 0 then pL k ((decS l).getD []) else []

set_option linter.unusedSimpArgs false in
set_option maxHeartbeats 4000000 in
set_option maxRecDepth 100000 in
theorem put9_any (k : Nat) (hk : k < 4294967296) (l : List Nat) (h8 : All8 l) (hl : l.length ≤ 9000000000000000000) (w : World) (hT : Tab w) :
    Calls Tryd.prog 15 #[chV k (bstr l)] w fun e w' => (∃ A, e = .returned (.tuple #[.slice A (putL k l).length (putL k l).length, .int .i64 (chkC k l : Int)]) ∧ Rb w' A (putL k l) ∧ ∀ q, A = some q → w.heap.size ≤ q.block) ∧ Below w.heap.size w w' := by
  have hz := zeroAl
  obtain ⟨az, haz⟩ : ∃ az, a0 = az := ⟨_, rfl⟩
  have hzl : az.length = 4 := by rw [← haz]; rfl
  rw [haz] at hz
  clear haz
  have C1 := Lib.hid (fun W h => check_any k hk l h8 hl W h)
  have CF := Lib.hid (fun W => find_any k hk W)
  have hal := (alOf_ok k).1
  have hone := (alOf_ok k).2
  have HZE : Hid (chkC k l = 0 → isK k = true ∧ l.length ≤ 65536 ∧ ∃ cs, decS l = some cs ∧ ∀ c ∈ cs, hasN k c = true) := Lib.hid chkC_zero
  obtain ⟨PL, hPL⟩ : ∃ P, putL k l = P := ⟨_, rfl⟩
  have HPL := Lib.hid hPL
  rw [hPL]
  obtain ⟨S, hS⟩ : ∃ S, bstr l = S := ⟨_, rfl⟩
  have HS := Lib.hid hS
  rw [hS] at C1 ⊢
  obtain ⟨f1, hf1⟩ : ∃ f, chkC k l = f := ⟨_, rfl⟩
  have HF1 := Lib.hid hf1
  rw [hf1] at C1 HZE ⊢
  have T0 := Lib.hid hT
  obtain ⟨AL, hAL⟩ : ∃ AL, alOf k = AL := ⟨_, rfl⟩
  have HAL := Lib.hid hAL
  rw [hAL] at hal hone CF
  obtain ⟨w1, hw1⟩ : ∃ w1, w.alloc (.cells #[.int .u32 (k : Int), .string S] 24) = w1 := ⟨_, rfl⟩
  have B1 : Hid (Below w.heap.size w w1) := Lib.hid (by rw [← hw1]; exact bel1 w _)
  obtain ⟨g, hg⟩ : ∃ g, w.heap.size = g := ⟨_, rfl⟩
  have K1 : Hid (Bk w1 g 24 (chL k S)) := Lib.hid (by rw [← hw1, ← hg]; exact Bk.new w _ (chL k S))
  have HW1 := Lib.hid hw1
  have HG := Lib.hid hg
  clear hT hS h8 hw1 hg hf1 hAL hPL
  go_enter Tryd.func15, Tryd.ntmps15
  go_upto_region 1 with fail
  rw [HW1.out, HG.out]
  go_wp2_with (refine wpList_loadG rfl (.tmp 1) rfl rfl (rangeB K1.out) Tryd.underlying24 rfl infoCh ?_)
  refine (C1.out _ (T0.out.below B1.out)).mono ?_
  rintro e w2 ⟨rfl, hb⟩
  have B2 := bt B1 (Lib.hid hb)
  have K2 := kt K1 (Lib.hid hb)
  clear hb B1 K1
  by_cases h1 : f1 = 0
  rotate_left
  · have hfb : ((f1 : Int) != 0) = true := by rw [bne_iff_ne]; omega
    have HE : Hid (PL = []) := Lib.hid (by rw [← HPL.out]; unfold putL; rw [HF1.out, if_neg h1])
    clear h1
    go_wp2_with fail
    go_ret2
    rw [HE.out]
    exact ⟨⟨none, rfl, Rb.nil, fun q e => by cases e⟩, B2.out⟩
  · subst h1
    obtain ⟨hik, hlen, cs, hd, hhas⟩ := HZE.out rfl
    have HE : Hid (PL = pL k cs) := Lib.hid (by rw [← HPL.out]; unfold putL; rw [HF1.out, if_pos rfl, hd]; rfl)
    obtain ⟨hle, hsc⟩ := decS_iff.1 hd
    have HK := Lib.hid hik
    have HSC := Lib.hid hsc
    have HHAS := Lib.hid hhas
    have HSE : Hid (bstr (encS cs) = S) := Lib.hid (by rw [← hle]; exact HS.out)
    have hsz2 : S.size = (encS cs).length := by rw [← HS.out, size_bstr, hle]
    have hcl : cs.length ≤ 65536 := Nat.le_trans (encS_len cs).1 (by rw [← hle]; exact hlen)
    rw [hle] at hl hlen
    clear hd hle hsc hik hhas HZE HS
    have c0 : w2.cell? ⟨g, 0, none⟩ = some (.int .u32 (k : Int)) := by rw [K2.out.cell]; rfl
    go_wp2_with fail
    refine (CF.out _).mono ?_
    rintro e w3 ⟨rfl, hb⟩
    have B3 := bt B2 (Lib.hid hb)
    have K3 := kt K2 (Lib.hid hb)
    clear hb B2 K2 c0
    obtain ⟨g3, hg3⟩ : ∃ g3, w3.heap.size = g3 := ⟨_, rfl⟩
    obtain ⟨w4, hw4⟩ : ∃ w4, w3.alloc (.cells az.toArray 74) = w4 := ⟨_, rfl⟩
    have A4 : Hid (Bk w4 g3 74 az) := Lib.hid (by rw [← hw4, ← hg3]; exact Bk.new w3 _ az)
    have hb4 : Hid (Below w3.heap.size w3 w4) := Lib.hid (by rw [← hw4]; exact bel1 w3 _)
    have B4 := bt B3 hb4
    have K4 := kt K3 hb4
    have HGS : Hid (w.heap.size ≤ g3) := Lib.hid (by rw [← hg3]; exact B3.out.size)
    have HLT : Hid (g < g3) := Lib.hid (by rw [← hg3]; exact K3.out.lt)
    have HW4 := Lib.hid hw4
    have HG3 := Lib.hid hg3
    clear hb4 hw4 hg3 B3 K3
    go_upto_region 6 with (rw [HW4.out, HG3.out]
                           refine wpList_storeG rfl (.tmp 5) (.tmp 19) rfl rfl rfl A4.out (by rw [hal]; exact infoAl) (by rw [hzl, hal]) hone ?_
                           intro w5 A5 hg5 hz5
                           have HA5 := Lib.hid A5
                           have B5 := Lib.hid (B4.out.grown hg5 B4.out.size (fun k e => by injection e with e; have := HGS.out; omega))
                           have K5 := Lib.hid (K4.out.only hg5 (by intro e; injection e with e; have := HLT.out; omega))
                           clear A5 hg5 hz5 A4 B4 K4)
    have c1 : w5.cell? ⟨g, 1, none⟩ = some (.string S) := by rw [K5.out.cell]; rfl
    go_upto_region 7 with fail
    obtain ⟨g6, hg6⟩ : ∃ g6, w5.heap.size = g6 := ⟨_, rfl⟩
    have hit0 := World.iter_heap w5 S 0
    have hb6 : Below w5.heap.size w5 (w5.iter S 0) := bel1 w5 _
    have B6 := bt B5 (Lib.hid hb6)
    have A6 := kt HA5 (Lib.hid hb6)
    have HGL : Hid (w.heap.size ≤ g6 ∧ g3 < g6) := Lib.hid ⟨by rw [← hg6]; exact B5.out.size, by rw [← hg6]; exact HA5.out.lt⟩
    rw [hg6] at hit0 ⊢
    have HIT0 := Lib.hid hit0
    generalize w5.iter S 0 = w6 at *
    have START := Lib.hid (World.ownsRow_nil w6 (g6 + 1) 5 1)
    clear c1 hb6 hit0 hg6 B5 HA5 K5
    go_loopw [7] (fun v wr => ∃ j : Nat, j ≤ cs.length ∧ wr.heap[g6]? = some (.stringIter S (encS (cs.take j)).length) ∧ wr.ownsRow (g6 + 1) 5 1 v (pL k (cs.take j)).length (cs8 (pL k (cs.take j))) ∧ Bk wr g3 74 AL ∧ Below w.heap.size w wr) (fun _ wr => (encS cs).length - wr.iterPos g6)
    case atStart => exact ⟨0, Nat.zero_le _, HIT0.out, START.out, A6.out, B6.out⟩
    case round =>
      obtain ⟨j, hj, hit, hown, ha, hbl⟩ := hrel
      have OWN := Lib.hid hown
      have HA := Lib.hid ha
      have BL := Lib.hid hbl
      have hpos0 := iterPos_of hit
      clear hown ha hbl B6 A6 HIT0 START
      rcases Nat.lt_or_ge j cs.length with hlt | hge
      · obtain ⟨hdc, hplt, hpn⟩ := decode_char HSC.out hlt
        rw [HSE.out] at hdc
        have hp : (encS (cs.take j)).length < S.size := by rw [hsz2]; exact hplt
        have hnx : ∀ ty, (Instr.next (.pointer (some ⟨g6, 0, none⟩)) true ty).run Tryd.prog wr = _ := fun ty => Lib.run_next_any_at wr g6 S _ ty hit hp
        have hit2 := Lib.iterAt_heap wr g6 S _ ((encS (cs.take j)).length + (Utf8.decode S (encS (cs.take j)).length).2) hit
        have hb2 := Lib.below_iterAt (Below.refl g6 wr) (Nat.le_refl g6) S ((encS (cs.take j)).length + (Utf8.decode S (encS (cs.take j)).length).2)
        have hown2 := ownsRow_iterAt OWN.out (Nat.lt_succ_self g6) S ((encS (cs.take j)).length + (Utf8.decode S (encS (cs.take j)).length).2)
        rw [hdc] at hnx hit2 hb2 hown2
        dsimp only at hnx hit2 hb2 hown2
        rw [hpn] at hnx hit2 hb2 hown2
        obtain ⟨w7, hw7⟩ : ∃ w7, wr.iterAt g6 S (encS (cs.take (j + 1))).length = w7 := ⟨_, rfl⟩
        rw [hw7] at hnx hit2 hb2 hown2
        have hA7 := HA.out.below hb2 HGL.out.2
        have HIT2 := Lib.hid hit2
        have A7 := Lib.hid hA7
        have B7 := Lib.hid (BL.out.trans (hb2.mono HGL.out.1))
        have HG6 : Hid (g6 < w7.heap.size) := Lib.hid (by rcases Nat.lt_or_ge g6 w7.heap.size with h | h; exact h; rw [Array.getElem?_eq_none h] at hit2; cases hit2)
        have hel := enc1_len cs[j]
        have HLS : Hid ((encS cs).length - (encS (cs.take (j + 1))).length < (encS cs).length - (encS (cs.take j)).length) := Lib.hid (by omega)
        have hcs := scal_lt (HSC.out _ (List.getElem_mem hlt))
        have hpl := pL_len k (cs.take j)
        rw [List.length_take] at hpl
        have CP := Lib.hid (put_any HK.out cs[j] (HSC.out _ (List.getElem_mem hlt)) (HHAS.out _ (List.getElem_mem hlt)) hown2 HG6.out (by omega))
        have HNX : Hid (pL k (cs.take j) ++ putB k cs[j] = pL k (cs.take (j + 1))) := Lib.hid (by rw [List.take_succ_eq_append_getElem hlt, pL_snoc])
        rw [HNX.out] at CP
        have c2 : w7.cell? ⟨g3, 2, none⟩ = some (fv (putF k)) := by rw [hA7.cell, ← HAL.out, alOf_form HK.out]; rfl
        have hent := fun args W => put_enter HK.out args W
        have HP0 := Lib.hid hpos0
        clear hw7 hit2 hb2 hA7 hdc hpn hp hit HA BL hel hplt hpos0 hown2 OWN hpl HNX
        generalize cs[j] = c at *
        generalize putF k = F at *
        go_wp2_with fail
        refine CP.out.mono ?_
        rintro e w8 ⟨v', rfl, hown8, hb⟩
        have OWN8 := Lib.hid hown8
        have B8 := Lib.hid (B7.out.trans (hb.mono (Nat.le_trans HGL.out.1 (Nat.le_succ _))))
        have A8 := Lib.hid (A7.out.below hb (Nat.lt_succ_of_lt HGL.out.2))
        have HIT8 : Hid (w8.heap[g6]? = some (.stringIter S (encS (cs.take (j + 1))).length)) := Lib.hid ((hb.block g6 (Nat.lt_succ_self _)).trans HIT2.out)
        clear hb B7 A7 HIT2 hown8
        go_wp2_with fail
        exact ⟨⟨j + 1, hlt, HIT8.out, OWN8.out, A8.out, B8.out⟩, by rw [iterPos_of HIT8.out, HP0.out]; exact HLS.out⟩
      · obtain rfl : j = cs.length := by omega
        rw [List.take_length] at hit OWN
        have hp : ¬ (encS cs).length < S.size := by rw [hsz2]; omega
        have hnx : ∀ ty, (Instr.next (.pointer (some ⟨g6, 0, none⟩)) true ty).run Tryd.prog wr = _ := fun ty => Lib.run_next_end_at wr g6 S _ ty hit hp
        rw [← HE.out] at OWN
        have CL := Lib.hid (clipB_any OWN.out)
        have HAL8 : Hid (All8 PL) := Lib.hid (by rw [HE.out]; exact pL_all HSC.out HHAS.out)
        clear hit hp HA
        go_wp2_with fail
        refine CL.out.mono ?_
        rintro e w8 ⟨⟨A, rfl, hrd, hfr⟩, rfl⟩
        have HRD := Lib.hid hrd
        have HFR := Lib.hid hfr
        clear hrd hfr
        go_wp2_with fail
        go_ret2
        exact ⟨⟨A, rfl, ⟨HRD.out, HAL8.out⟩, fun q e => Nat.le_trans HGL.out.1 (Nat.le_of_succ_le (HFR.out q e))⟩, BL.out⟩
end Go.Proofs.YthefnfjhnallfaaDoor.Chs
