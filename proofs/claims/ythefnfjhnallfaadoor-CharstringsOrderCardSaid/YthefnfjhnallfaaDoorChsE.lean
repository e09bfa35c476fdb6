/-
  Layer 9: the contract of Check.
  Conditions: unicode/utf8's tables hold what its text lays.
-/
import Derived.Test.YthefnfjhnallfaaDoorChsD
import Derived.Test.YthefnfjhnallfaaDoorValid
import Derived.Lib.OthersKept
import Derived.WalkSmall
namespace Go.Proofs.YthefnfjhnallfaaDoor.Chs
open Go.RowKit Go.Shelf

/-- unicode/utf8's tables. -/
def Tab (w : World) : Prop := Lib.Utf8Tabs (Tryd.laysValid_ren.g 3) (Tryd.laysValid_ren.g 4) w
theorem Tab.below {w w' : World} (h : Tab w) (hb : Below w.heap.size w w') : Tab w' := Utf8Tabs_below h hb
theorem tt {w w' : World} (h : Hid (Tab w)) (hb : Hid (Below w.heap.size w w')) : Hid (Tab w') := Lib.hid (h.out.below hb.out)
/-- What Check answers. -/
def chkC (k : Nat) (l : List Nat) : Nat := if isK k = false then 9 else if 65536 < l.length then 3 else match decS l with
  | none => 11
  | some cs => if cs.all (hasN k) = true then 0 else 11
@[reducible] def chV (k : Nat) (S : ByteArray) : Value := .agg #[.int .u32 (k : Int), .string S]
theorem valid_any (l : List Nat) (h8 : All8 l) (hl : l.length ≤ 9000000000000000000) (w : World) (hT : Tab w) : Calls Tryd.prog 33 #[.string (bstr l)] w fun e w' => e = .returned (.bool (decS l).isSome) ∧ Below w.heap.size w w' := by
  have := Any.utf8_ValidString Tryd.laysValid (bstr l) w (by rw [size_bstr]; omega) hT
  rw [valid_str h8] at this
  exact this
/-- The decoder at the j-th character. -/
theorem decode_char {cs : List Nat} (h : ∀ c ∈ cs, scal c = true) {j : Nat} (hj : j < cs.length) : Utf8.decode (bstr (encS cs)) (encS (cs.take j)).length = (cs[j], (enc1 cs[j]).length) ∧ (encS (cs.take j)).length < (encS cs).length ∧ (encS (cs.take j)).length + (enc1 cs[j]).length = (encS (cs.take (j + 1))).length := by
  have e : encS cs = encS (cs.take j) ++ (enc1 cs[j] ++ encS (cs.drop (j + 1))) := by
    rw [← encS_cons, ← List.drop_eq_getElem_cons hj, ← encS_app, List.take_append_drop]
  have hl := enc1_len cs[j]
  have hlt : (encS (cs.take j)).length < (encS cs).length := by rw [e, List.length_append, List.length_append]; omega
  refine ⟨?_, hlt, ?_⟩
  · rw [decode_at _ (encS_all h) _ hlt]
    have hd : (encS cs).drop (encS (cs.take j)).length = enc1 cs[j] ++ encS (cs.drop (j + 1)) := by rw [e]; exact List.drop_left
    rw [hd, dec_enc (h _ (List.getElem_mem hj))]
    rfl
  · rw [← List.length_append, ← encS_snoc, ← List.take_succ_eq_append_getElem hj]
theorem alOf_ok (k : Nat) : (alOf k).length = 4 ∧ (alOf k).all (·.oneCell') = true := by
  unfold alOf
  repeat' split
  all_goals exact ⟨rfl, rfl⟩
theorem chkC_kind {k : Nat} {l : List Nat} (h : isK k = false) : chkC k l = 9 := if_pos h
theorem chkC_long {k : Nat} {l : List Nat} (h : isK k = true) (hl : 65536 < l.length) : chkC k l = 3 := by unfold chkC; rw [if_neg (by rw [h]; decide), if_pos hl]
theorem chkC_bad {k : Nat} {l : List Nat} (h : isK k = true) (hl : ¬ 65536 < l.length) (hd : decS l = none) : chkC k l = 11 := by unfold chkC; rw [if_neg (by rw [h]; decide), if_neg hl, hd]
theorem chkC_some {k : Nat} {l cs : List Nat} (h : isK k = true) (hl : ¬ 65536 < l.length) (hd : decS l = some cs) : chkC k l = if cs.all (hasN k) = true then 0 else 11 := by unfold chkC; rw [if_neg (by rw [h]; decide), if_neg hl, hd]
theorem scal_lt {c : Nat} (h : scal c = true) : c ≤ 1114111 := by have := scal_iff.1 h; omega

set_option linter.unusedSimpArgs false in
set_option maxHeartbeats 4000000 in
set_option maxRecDepth 100000 in
theorem check_any (k : Nat) (hk : k < 4294967296) (l : List Nat) (h8 : All8 l) (hl : l.length ≤ 9000000000000000000) (w : World) (hT : Tab w) :
    Calls Tryd.prog 12 #[chV k (bstr l)] w fun e w' => e = .returned (.int .i64 (chkC k l : Int)) ∧ Below w.heap.size w w' := by
  have hz := zeroAl
  obtain ⟨az, haz⟩ : ∃ az, a0 = az := ⟨_, rfl⟩
  have hzl : az.length = 4 := by rw [← haz]; rfl
  rw [haz] at hz
  clear haz
  obtain ⟨T, hTT⟩ : ∃ T, chkC k l = T := ⟨_, rfl⟩
  have HT := Lib.hid hTT
  rw [hTT]
  have CV := Lib.hid (fun W (h : Tab W) => valid_any l h8 hl W h)
  have CF := Lib.hid (fun W => find_any k hk W)
  have hsz : (bstr l).size = l.length := size_bstr l
  obtain ⟨S, hS⟩ : ∃ S, bstr l = S := ⟨_, rfl⟩
  have HS := Lib.hid hS
  have H8 := Lib.hid h8
  rw [hS] at CV hsz ⊢
  have T0 := Lib.hid hT
  obtain ⟨w1, hw1⟩ : ∃ w1, w.alloc (.cells #[.int .u32 (k : Int), .string S] 24) = w1 := ⟨_, rfl⟩
  have B1 : Hid (Below w.heap.size w w1) := Lib.hid (by rw [← hw1]; exact bel1 w _)
  obtain ⟨g, hg⟩ : ∃ g, w.heap.size = g := ⟨_, rfl⟩
  have K1 : Hid (Bk w1 g 24 [.int .u32 (k : Int), .string S]) := Lib.hid (by rw [← hw1, ← hg]; exact Bk.new w _ [.int .u32 (k : Int), .string S])
  have HW1 := Lib.hid hw1
  have HG := Lib.hid hg
  have hal := (alOf_ok k).1
  have hone := (alOf_ok k).2
  obtain ⟨AL, hAL⟩ : ∃ AL, alOf k = AL := ⟨_, rfl⟩
  have HAL := Lib.hid hAL
  rw [hAL] at hal hone CF
  clear hT hTT hS h8 hw1 hg hAL
  go_enter Tryd.func12, Tryd.ntmps12
  go_upto_region 1 with fail
  rw [HW1.out, HG.out]
  have c0 : w1.cell? ⟨g, 0, none⟩ = some (.int .u32 (k : Int)) := by rw [K1.out.cell]; rfl
  go_wp2_with fail
  refine (CF.out _).mono ?_
  rintro e w2 ⟨rfl, hb⟩
  have B2 := bt B1 (Lib.hid hb)
  have K2 := kt K1 (Lib.hid hb)
  clear hb B1 K1 c0
  obtain ⟨g3, hg3⟩ : ∃ g3, w2.heap.size = g3 := ⟨_, rfl⟩
  obtain ⟨w3, hw3⟩ : ∃ w3, w2.alloc (.cells az.toArray 74) = w3 := ⟨_, rfl⟩
  have A3 : Hid (Bk w3 g3 74 az) := Lib.hid (by rw [← hw3, ← hg3]; exact Bk.new w2 _ az)
  have hb3 : Hid (Below w2.heap.size w2 w3) := Lib.hid (by rw [← hw3]; exact bel1 w2 _)
  have B3 := bt B2 hb3
  have K3 := kt K2 hb3
  have HGS : Hid (w.heap.size ≤ g3) := Lib.hid (by rw [← hg3]; exact B2.out.size)
  have HLT : Hid (g < g3) := Lib.hid (by rw [← hg3]; exact K2.out.lt)
  have HW3 := Lib.hid hw3
  have HG3 := Lib.hid hg3
  clear hb3 hw3 hg3 B2 K2
  go_upto_region 2 with (rw [HW3.out, HG3.out]
                         refine wpList_storeG rfl (.tmp 3) (.tmp 11) rfl rfl rfl A3.out (by rw [hal]; exact infoAl) (by rw [hzl, hal]) hone ?_
                         intro w4 A4 hg4 hz4
                         have HA4 := Lib.hid A4
                         have B4 := Lib.hid (B3.out.grown hg4 B3.out.size (fun k e => by injection e with e; have := HGS.out; omega))
                         have K4 := Lib.hid (K3.out.only hg4 (by intro e; injection e with e; have := HLT.out; omega))
                         clear A4 hg4 hz4 A3 B3 K3)
  cases hK : isK k
  · have HE : Hid (T = 9) := Lib.hid (by rw [← HT.out, chkC_kind hK])
    clear hK
    go_wp2_with fail
    go_ret
    rw [HE.out]
    exact ⟨rfl, B4.out⟩
  · have HK := Lib.hid hK
    clear hK
    have c1 : w4.cell? ⟨g, 1, none⟩ = some (.string S) := by rw [K4.out.cell]; rfl
    by_cases hlong : 65536 < l.length
    · have HE : Hid (T = 3) := Lib.hid (by rw [← HT.out, chkC_long HK.out hlong])
      have hli : (65536 : Int) < (l.length : Int) := by omega
      clear hlong
      go_wp2_with fail
      go_ret
      rw [HE.out]
      exact ⟨rfl, B4.out⟩
    · have hli : ¬ (65536 : Int) < (l.length : Int) := by omega
      have HLL := Lib.hid hlong
      clear hlong
      go_wp2_with fail
      refine (CV.out _ (T0.out.below B4.out)).mono ?_
      rintro e w5 ⟨rfl, hb⟩
      have B5 := bt B4 (Lib.hid hb)
      have K5 := kt K4 (Lib.hid hb)
      have A5 := kt HA4 (Lib.hid hb)
      clear hb B4 K4 HA4 c1
      have c1 : w5.cell? ⟨g, 1, none⟩ = some (.string S) := by rw [K5.out.cell]; rfl
      cases hd : decS l with
      | none =>
        have HE : Hid (T = 11) := Lib.hid (by rw [← HT.out, chkC_bad HK.out HLL.out hd])
        clear hd
        go_wp2_with fail
        go_ret
        rw [HE.out]
        exact ⟨rfl, B5.out⟩
      | some cs =>
        have HE : Hid (T = if cs.all (hasN k) = true then 0 else 11) := Lib.hid (by rw [← HT.out, chkC_some HK.out HLL.out hd])
        obtain ⟨hle, hsc⟩ := decS_iff.1 hd
        have HSC := Lib.hid hsc
        have HLE := Lib.hid hle
        have HSE : Hid (bstr (encS cs) = S) := Lib.hid (by rw [← hle]; exact HS.out)
        have hsz2 : S.size = (encS cs).length := by rw [hsz, hle]
        clear hd hle hsc hsz hli
        rw [HLE.out] at hl
        go_upto_region 9 with fail
        obtain ⟨g6, hg6⟩ : ∃ g6, w5.heap.size = g6 := ⟨_, rfl⟩
        have hit0 := World.iter_heap w5 S 0
        have hb6 : Below w5.heap.size w5 (w5.iter S 0) := bel1 w5 _
        have B6 := bt B5 (Lib.hid hb6)
        have A6 := kt A5 (Lib.hid hb6)
        have HGL : Hid (w.heap.size ≤ g6 ∧ g3 < g6) := Lib.hid ⟨by rw [← hg6]; exact B5.out.size, by rw [← hg6]; exact A5.out.lt⟩
        rw [hg6] at hit0 ⊢
        have HIT0 := Lib.hid hit0
        generalize w5.iter S 0 = w6 at *
        clear c1 hb6 hit0 hg6 B5 A5 K5
        go_loopw [] (fun wr => ∃ j : Nat, j ≤ cs.length ∧ wr.heap[g6]? = some (.stringIter S (encS (cs.take j)).length) ∧ (∀ c ∈ cs.take j, hasN k c = true) ∧ Bk wr g3 74 AL ∧ Below w.heap.size w wr) (fun wr => (encS cs).length - wr.iterPos g6)
        case atStart => exact ⟨0, Nat.zero_le _, HIT0.out, (fun c h => absurd h (by simp)), A6.out, B6.out⟩
        case round =>
          obtain ⟨j, hj, hit, hall, ha, hbl⟩ := hrel
          have HALL := Lib.hid hall
          have HA := Lib.hid ha
          have BL := Lib.hid hbl
          have hpos0 := iterPos_of hit
          clear hall ha hbl B6 A6 HIT0
          rcases Nat.lt_or_ge j cs.length with hlt | hge
          · obtain ⟨hdc, hplt, hpn⟩ := decode_char HSC.out hlt
            rw [HSE.out] at hdc
            have hp : (encS (cs.take j)).length < S.size := by rw [hsz2]; exact hplt
            have hnx : ∀ ty, (Instr.next (.pointer (some ⟨g6, 0, none⟩)) true ty).run Tryd.prog wr = _ := fun ty => Lib.run_next_any_at wr g6 S _ ty hit hp
            have hit2 := Lib.iterAt_heap wr g6 S _ ((encS (cs.take j)).length + (Utf8.decode S (encS (cs.take j)).length).2) hit
            have hb2 := Lib.below_iterAt (Below.refl g6 wr) (Nat.le_refl g6) S ((encS (cs.take j)).length + (Utf8.decode S (encS (cs.take j)).length).2)
            rw [hdc] at hnx hit2 hb2
            dsimp only at hnx hit2 hb2
            rw [hpn] at hnx hit2 hb2
            obtain ⟨w7, hw7⟩ : ∃ w7, wr.iterAt g6 S (encS (cs.take (j + 1))).length = w7 := ⟨_, rfl⟩
            rw [hw7] at hnx hit2 hb2
            have hA7 := HA.out.below hb2 HGL.out.2
            have HIT2 := Lib.hid hit2
            have A7 := Lib.hid hA7
            have B7 := Lib.hid (BL.out.trans (hb2.mono HGL.out.1))
            have HPN := Lib.hid hpn
            have hel := enc1_len cs[j]
            have HPL : Hid ((encS cs).length - (encS (cs.take (j + 1))).length < (encS cs).length - (encS (cs.take j)).length) := Lib.hid (by omega)
            have hcs := scal_lt (HSC.out _ (List.getElem_mem hlt))
            have CH := Lib.hid (fun W => has_any HK.out cs[j] (by omega) W)
            have HNX : Hid (hasN k cs[j] = true → ∀ c ∈ cs.take (j + 1), hasN k c = true) := Lib.hid (fun h c hc => by
              rw [List.take_succ_eq_append_getElem hlt, List.mem_append, List.mem_singleton] at hc
              rcases hc with hc | rfl
              · exact HALL.out c hc
              · exact h)
            have HBD : Hid (hasN k cs[j] = false → (if cs.all (hasN k) = true then 0 else 11) = 11) := Lib.hid (fun h => if_neg (by
              rw [Bool.not_eq_true, List.all_eq_false]
              exact ⟨cs[j], List.getElem_mem hlt, by rw [h]; decide⟩))
            have c2 : w7.cell? ⟨g3, 1, none⟩ = some (fv (hasF k)) := by rw [hA7.cell, ← HAL.out, alOf_form HK.out]; rfl
            have hent := fun args W => has_enter HK.out args W
            have HP0 := Lib.hid hpos0
            have HG6 : Hid (g6 < w7.heap.size) := Lib.hid (by rcases Nat.lt_or_ge g6 w7.heap.size with h | h; exact h; rw [Array.getElem?_eq_none h] at hit2; cases hit2)
            clear hw7 hit2 hb2 hA7 hdc hpn hp hit HA BL hel hplt hpos0
            generalize cs[j] = c at *
            generalize hasF k = F at *
            obtain ⟨hv, hhv⟩ : ∃ b, hasN k c = b := ⟨_, rfl⟩
            have HHV := Lib.hid hhv
            rw [hhv] at CH
            clear hhv
            go_wp2_with fail
            refine (CH.out _).mono ?_
            rintro e w8 ⟨rfl, hb⟩
            have B8 := bt B7 (Lib.hid hb)
            have A8 := kt A7 (Lib.hid hb)
            have HIT8 : Hid (w8.heap[g6]? = some (.stringIter S (encS (cs.take (j + 1))).length)) := Lib.hid ((hb.block g6 HG6.out).trans HIT2.out)
            clear hb B7 A7 HIT2
            cases hv with
            | true =>
              have HN2 := Lib.hid (HNX.out HHV.out)
              clear HNX HBD HHV
              go_wp2_with fail
              exact ⟨⟨j + 1, hlt, HIT8.out, HN2.out, A8.out, B8.out⟩, by rw [iterPos_of HIT8.out, HP0.out]; exact HPL.out⟩
            | false =>
              have HE2 : Hid (T = 11) := Lib.hid (by rw [HE.out]; exact HBD.out HHV.out)
              clear HNX HBD HHV
              go_wp2_with fail
              go_ret
              rw [HE2.out]
              exact ⟨rfl, B8.out⟩
          · obtain rfl : j = cs.length := by omega
            rw [List.take_length] at hit HALL
            have hp : ¬ (encS cs).length < S.size := by rw [hsz2]; omega
            have hnx : ∀ ty, (Instr.next (.pointer (some ⟨g6, 0, none⟩)) true ty).run Tryd.prog wr = _ := fun ty => Lib.run_next_end_at wr g6 S _ ty hit hp
            have HE2 : Hid (T = 0) := Lib.hid (by rw [HE.out, if_pos (List.all_eq_true.2 HALL.out)])
            clear hit hp HA
            go_wp2_with fail
            go_ret
            rw [HE2.out]
            exact ⟨rfl, BL.out⟩
end Go.Proofs.YthefnfjhnallfaaDoor.Chs
