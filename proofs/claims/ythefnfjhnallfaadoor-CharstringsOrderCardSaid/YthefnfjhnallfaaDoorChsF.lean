/-
  Layer 9: contracts of Convert and Length.
  Conditions: unicode/utf8's tables hold what its text lays.
-/
import Derived.Test.YthefnfjhnallfaaDoorChsE
namespace Go.Proofs.YthefnfjhnallfaaDoor.Chs
open Go.RowKit Go.Shelf

/-- The cells of a character string. -/
def chL (k : Nat) (S : ByteArray) : List Value := [.int .u32 (k : Int), .string S]
theorem chL_len (k : Nat) (S : ByteArray) : (chL k S).length = 2 := rfl
theorem chL_one (k : Nat) (S : ByteArray) : (chL k S).all (·.oneCell') = true := rfl
theorem infoCh : (Tryd.prog.info? 24).map (·.size) = some 2 := by kernel_rfl
def S0 : ByteArray := ⟨#[]⟩
theorem zeroCh : ∀ w : World, (zeroValue 24).run Tryd.prog w = .ok (.agg (chL 0 S0).toArray) w := fun _ => by kernel_rfl
theorem chkC_01 (k : Nat) (l : List Nat) : chkC k l = 0 ∨ chkC k l ≠ 0 := by omega
/-- What Convert answers. -/
def cvC (k : Nat) (l : List Nat) (k2 : Nat) : Nat := if chkC k l ≠ 0 then chkC k l else chkC k2 l
theorem loadCh {w : World} {g k : Nat} {S : ByteArray} {t : TypeId} (h : Bk w g t (chL k S)) : (loadVar 24 ⟨g, 0, none⟩).run Tryd.prog w = .ok (.agg (chL k S).toArray) w :=
  run_loadVar_row (P := Tryd.prog) _ _ _ _ _ _ _ h Tryd.underlying24 rfl (by rw [List.size_toArray]; exact infoCh)

set_option linter.unusedSimpArgs false in
set_option maxHeartbeats 4000000 in
set_option maxRecDepth 100000 in
theorem convert_any (k : Nat) (hk : k < 4294967296) (l : List Nat) (h8 : All8 l) (hl : l.length ≤ 9000000000000000000) (k2 : Nat) (hk2 : k2 < 4294967296) (w : World) (hT : Tab w) :
    Calls Tryd.prog 13 #[chV k (bstr l), .int .u32 (k2 : Int)] w fun e w' =>
      e = .returned (.tuple #[.agg (if cvC k l k2 = 0 then chL k2 (bstr l) else chL 0 S0).toArray, .int .i64 (cvC k l k2 : Int)]) ∧ Below w.heap.size w w' := by
  obtain ⟨Sz, hSz⟩ : ∃ s, S0 = s := ⟨_, rfl⟩
  have HSZ := Lib.hid hSz
  have hz : ∀ w : World, (zeroValue 24).run Tryd.prog w = .ok (.agg #[.int .u32 0, .string Sz]) w := by rw [← hSz]; exact zeroCh
  rw [hSz]
  clear hSz
  have C1 := Lib.hid (fun W h => check_any k hk l h8 hl W h)
  have C2 := Lib.hid (fun W h => check_any k2 hk2 l h8 hl W h)
  obtain ⟨T, hT2⟩ : ∃ T, cvC k l k2 = T := ⟨_, rfl⟩
  have HT := Lib.hid hT2
  rw [hT2]
  obtain ⟨S, hS⟩ : ∃ S, bstr l = S := ⟨_, rfl⟩
  rw [hS] at C1 C2 ⊢
  obtain ⟨R, hR⟩ : ∃ R, (if T = 0 then chL k2 S else chL 0 Sz) = R := ⟨_, rfl⟩
  have HR := Lib.hid hR
  rw [hR]
  obtain ⟨f1, hf1⟩ : ∃ f, chkC k l = f := ⟨_, rfl⟩
  obtain ⟨f2, hf2⟩ : ∃ f, chkC k2 l = f := ⟨_, rfl⟩
  have HF : Hid (T = if f1 ≠ 0 then f1 else f2) := Lib.hid (by rw [← hT2]; unfold cvC; rw [hf1, hf2])
  rw [hf1] at C1
  rw [hf2] at C2
  have T0 := Lib.hid hT
  obtain ⟨w1, hw1⟩ : ∃ w1, (w.alloc (.cells #[.int .u32 (k : Int), .string S] 24)).alloc (.cells #[.int .u32 0, .string Sz] 24) = w1 := ⟨_, rfl⟩
  have B1 : Hid (Below w.heap.size w w1) := Lib.hid (by rw [← hw1]; exact (bel1 w _).alloc (by simp) _)
  obtain ⟨g, hg⟩ : ∃ g, w.heap.size = g := ⟨_, rfl⟩
  obtain ⟨g2, hg2⟩ : ∃ g2, g + 1 = g2 := ⟨_, rfl⟩
  have K1 : Hid (Bk w1 g 24 (chL k S)) := Lib.hid (by rw [← hw1, ← hg]; exact (Bk.new w _ (chL k S)).alloc _)
  have R1 : Hid (Bk w1 g2 24 (chL 0 Sz)) := Lib.hid (by
    rw [← hw1, ← hg2, ← hg]
    have := Bk.new (w.alloc (.cells (chL k S).toArray 24)) 24 (chL 0 Sz)
    rwa [World.size_alloc] at this)
  have HW1 := Lib.hid hw1
  have HG := Lib.hid hg
  have HG2 := Lib.hid hg2
  clear hT hT2 hS h8 hw1 hg hg2 hf1 hf2 hR
  go_enter Tryd.func13, Tryd.ntmps13
  go_upto_region 1 with fail
  rw [HW1.out, HG.out, HG2.out]
  go_wp2_with (refine wpList_loadG rfl (.tmp 2) rfl rfl (rangeB K1.out) Tryd.underlying24 rfl infoCh ?_)
  refine (C1.out _ (T0.out.below B1.out)).mono ?_
  rintro e w2 ⟨rfl, hb⟩
  have B2 := bt B1 (Lib.hid hb)
  have K2 := kt K1 (Lib.hid hb)
  have R2 := kt R1 (Lib.hid hb)
  clear hb B1 K1 R1
  have c0 : w2.cell? ⟨g, 0, none⟩ = some (.int .u32 (k : Int)) := by rw [K2.out.cell]; rfl
  have c1 : w2.cell? ⟨g, 1, none⟩ = some (.string S) := by rw [K2.out.cell]; rfl
  by_cases h1 : f1 = 0
  rotate_left
  · have HE : Hid (T = f1) := Lib.hid (by rw [HF.out, if_pos h1])
    have HN : Hid (T ≠ 0) := Lib.hid (by rw [HE.out]; exact h1)
    have hfb : ((f1 : Int) != 0) = true := by rw [bne_iff_ne]; omega
    clear h1
    go_wp2_with (refine wpList_storeG rfl (.tmp 4) (.tmp 13) rfl rfl (ds := chL 0 Sz) rfl R2.out infoCh rfl (chL_one _ _) ?_
                 intro w3 R3 hg3 hz3
                 have HR3 := Lib.hid R3
                 have B3 := Lib.hid (B2.out.grown hg3 B2.out.size (fun k e => by injection e with e; have := HG.out; have := HG2.out; omega))
                 clear R3 hg3 hz3)
    exact retG2 rfl rfl rfl (loadCh HR3.out) rfl ⟨by rw [← HR.out, if_neg HN.out, HE.out]; rfl, B3.out⟩
  · subst h1
    have HE : Hid (T = f2) := Lib.hid (by rw [HF.out, if_neg (by simp)])
    obtain ⟨g3, hg3⟩ : ∃ g3, w2.heap.size = g3 := ⟨_, rfl⟩
    obtain ⟨w3, hw3⟩ : ∃ w3, w2.alloc (.cells #[.int .u32 0, .string Sz] 24) = w3 := ⟨_, rfl⟩
    have A3 : Hid (Bk w3 g3 24 (chL 0 Sz)) := Lib.hid (by rw [← hw3, ← hg3]; exact Bk.new w2 _ (chL 0 Sz))
    have hb3 : Hid (Below w2.heap.size w2 w3) := Lib.hid (by rw [← hw3]; exact bel1 w2 _)
    have B3 := bt B2 hb3
    have R3 := kt R2 hb3
    have HGS : Hid (w.heap.size ≤ g3) := Lib.hid (by rw [← hg3]; exact B2.out.size)
    have HLT : Hid (g2 < g3) := Lib.hid (by rw [← hg3]; exact R2.out.lt)
    have HW3 := Lib.hid hw3
    have HG3 := Lib.hid hg3
    clear hb3 hw3 hg3 B2 K2 R2
    go_upto_region 5 with (rw [HW3.out, HG3.out]
                           refine wpList_storeG rfl (.tmp 7) (.tmp 18) rfl rfl (ds := chL k2 S) rfl A3.out infoCh rfl (chL_one _ _) ?_
                           intro w4 A4 hg4 hz4
                           have HA4 := Lib.hid A4
                           have B4 := Lib.hid (B3.out.grown hg4 B3.out.size (fun k e => by injection e with e; have := HGS.out; omega))
                           have R4 := Lib.hid (R3.out.only hg4 (by intro e; injection e with e; have := HLT.out; omega))
                           clear A4 hg4 hz4 A3 B3 R3)
    go_wp2_with (refine wpList_loadG rfl (.tmp 7) rfl rfl (rangeB HA4.out) Tryd.underlying24 rfl infoCh ?_)
    refine (C2.out _ (T0.out.below B4.out)).mono ?_
    rintro e w5 ⟨rfl, hb⟩
    have B5 := bt B4 (Lib.hid hb)
    have A5 := kt HA4 (Lib.hid hb)
    have R5 := kt R4 (Lib.hid hb)
    clear hb B4 HA4 R4 c0 c1
    by_cases h2 : f2 = 0
    rotate_left
    · have HN : Hid (T ≠ 0) := Lib.hid (by rw [HE.out]; exact h2)
      have hfb : ((f2 : Int) != 0) = true := by rw [bne_iff_ne]; omega
      clear h2
      go_wp2_with (refine wpList_storeG rfl (.tmp 4) (.tmp 23) rfl rfl (ds := chL 0 Sz) rfl R5.out infoCh rfl (chL_one _ _) ?_
                   intro w6 R6 hg6 hz6
                   have HR6 := Lib.hid R6
                   have B6 := Lib.hid (B5.out.grown hg6 B5.out.size (fun k e => by injection e with e; have := HG.out; have := HG2.out; omega))
                   clear R6 hg6 hz6)
      exact retG2 rfl rfl rfl (loadCh HR6.out) rfl ⟨by rw [← HR.out, if_neg HN.out, HE.out]; rfl, B6.out⟩
    · subst h2
      go_wp2_with (first
        | (refine wpList_loadG rfl (.tmp 7) rfl rfl (rangeB A5.out) Tryd.underlying24 rfl infoCh ?_)
        | (refine wpList_storeG rfl (.tmp 4) (.tmp 25) rfl rfl (ds := chL k2 S) rfl R5.out infoCh rfl (chL_one _ _) ?_
           intro w6 R6 hg6 hz6
           have HR6 := Lib.hid R6
           have B6 := Lib.hid (B5.out.grown hg6 B5.out.size (fun k e => by injection e with e; have := HG.out; have := HG2.out; omega))
           clear R6 hg6 hz6))
      exact retG2 rfl rfl rfl (loadCh HR6.out) rfl ⟨by rw [← HR.out, if_pos HE.out, HE.out]; rfl, B6.out⟩
/-- What Length answers. -/
def lenC (k : Nat) (l : List Nat) : Nat := if chkC k l = 0 then ((decS l).getD []).length else 0
theorem chkC_zero {k : Nat} {l : List Nat} (h : chkC k l = 0) : isK k = true ∧ l.length ≤ 65536 ∧ ∃ cs, decS l = some cs ∧ ∀ c ∈ cs, hasN k c = true := by
  unfold chkC at h
  split at h
  · cases h
  · rename_i h1
    split at h
    · cases h
    · rename_i h2
      split at h
      · cases h
      · rename_i cs hcs
        split at h
        · rename_i h3
          exact ⟨by simpa using h1, by omega, cs, hcs, List.all_eq_true.1 h3⟩
        · cases h
set_option linter.unusedSimpArgs false in
set_option maxHeartbeats 4000000 in
set_option maxRecDepth 100000 in
theorem length_any (k : Nat) (hk : k < 4294967296) (l : List Nat) (h8 : All8 l) (hl : l.length ≤ 9000000000000000000) (w : World) (hT : Tab w) :
    Calls Tryd.prog 18 #[chV k (bstr l)] w fun e w' => e = .returned (.int .i64 (lenC k l : Int)) ∧ Below w.heap.size w w' := by
  have C1 := Lib.hid (fun W h => check_any k hk l h8 hl W h)
  have CR := Lib.hid (fun W => Tryd.utf8_RuneCountInString (bstr l) W (by rw [size_bstr]; omega))
  have HRC : Hid (chkC k l = 0 → Lib.runeCount (bstr l) = ((decS l).getD []).length) := Lib.hid (fun h => by
    obtain ⟨-, -, cs, hcs, -⟩ := chkC_zero h
    obtain ⟨h1, h2⟩ := decS_iff.1 hcs
    rw [hcs, h1, count_str h2]
    rfl)
  obtain ⟨T, hT2⟩ : ∃ T, lenC k l = T := ⟨_, rfl⟩
  have HT : Hid (T = if chkC k l = 0 then ((decS l).getD []).length else 0) := Lib.hid hT2.symm
  rw [hT2]
  obtain ⟨S, hS⟩ : ∃ S, bstr l = S := ⟨_, rfl⟩
  rw [hS] at C1 CR HRC ⊢
  obtain ⟨f1, hf1⟩ : ∃ f, chkC k l = f := ⟨_, rfl⟩
  rw [hf1] at C1 HT HRC
  have T0 := Lib.hid hT
  obtain ⟨w1, hw1⟩ : ∃ w1, w.alloc (.cells #[.int .u32 (k : Int), .string S] 24) = w1 := ⟨_, rfl⟩
  have B1 : Hid (Below w.heap.size w w1) := Lib.hid (by rw [← hw1]; exact bel1 w _)
  obtain ⟨g, hg⟩ : ∃ g, w.heap.size = g := ⟨_, rfl⟩
  have K1 : Hid (Bk w1 g 24 (chL k S)) := Lib.hid (by rw [← hw1, ← hg]; exact Bk.new w _ (chL k S))
  have HW1 := Lib.hid hw1
  have HG := Lib.hid hg
  clear hT hT2 hS h8 hw1 hg hf1
  go_enter Tryd.func18, Tryd.ntmps18
  go_upto_region 1 with fail
  rw [HW1.out, HG.out]
  go_wp2_with (refine wpList_loadG rfl (.tmp 1) rfl rfl (rangeB K1.out) Tryd.underlying24 rfl infoCh ?_)
  refine (C1.out _ (T0.out.below B1.out)).mono ?_
  rintro e w2 ⟨rfl, hb⟩
  have B2 := bt B1 (Lib.hid hb)
  have K2 := kt K1 (Lib.hid hb)
  clear hb B1 K1
  have c1 : w2.cell? ⟨g, 1, none⟩ = some (.string S) := by rw [K2.out.cell]; rfl
  by_cases h1 : f1 = 0
  · subst h1
    have HE : Hid (T = Lib.runeCount S) := Lib.hid (by rw [HT.out, if_pos rfl, HRC.out rfl])
    rw [← HE.out] at CR
    clear HRC HT
    go_wp2_with fail
    refine (CR.out _).mono ?_
    rintro e w3 ⟨rfl, pos, rfl⟩
    have B3 := bt B2 (Lib.hid (bel1 w2 (.stringIter S pos)))
    go_wp2_with fail
    go_ret
    exact ⟨rfl, B3.out⟩
  · have HE : Hid (T = 0) := Lib.hid (by rw [HT.out, if_neg h1])
    have hfb : ((f1 : Int) != 0) = true := by rw [bne_iff_ne]; omega
    clear h1
    go_wp2_with fail
    go_ret
    rw [HE.out]
    exact ⟨rfl, B2.out⟩
end Go.Proofs.YthefnfjhnallfaaDoor.Chs
