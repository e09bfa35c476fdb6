/-
  Layer 9: the contract of Get.
  Conditions: a slice that reads as bytes; unicode/utf8's tables hold what its text lays.
-/
import Derived.Test.YthefnfjhnallfaaDoorChsL
import Derived.Laws.Cover4
namespace Go.Proofs.YthefnfjhnallfaaDoor.Chs
open Go.RowKit Go.Shelf

/-- Cells of runes. -/
def csR (l : List Nat) : List Value := l.map fun (x : Nat) => .int .i32 (x : Int)
theorem csR_len (l : List Nat) : (csR l).length = l.length := by unfold csR; rw [List.length_map]
theorem csR_snoc (l : List Nat) (x : Nat) : csR l ++ [.int .i32 (x : Int)] = csR (l ++ [x]) := by unfold csR; rw [List.map_append]; rfl
theorem infoR : (Tryd.prog.info? 21).map (fun i => (i.zero, i.size, i.bytes)) = some (some (.int .i32 0), 1, 4) := by kernel_rfl
/-- 'append(v, x)' of one rune to what the call has built. -/
theorem appR {w : World} {base : Nat} {v : Value} {l : List Nat} (hown : w.ownsRow base 21 1 v l.length (csR l)) (x : Nat) (hb : base ≤ w.heap.size) (hl : l.length ≤ 1000000) :
    ∃ v' w', (Builtin.append_ #[88, 88] 88 #[v, .slice (some ⟨w.heap.size, 0, none⟩) 1 1]).run Tryd.prog (w.alloc (.cells #[.int .i32 (x : Int)] 21)) = .ok v' w' ∧ w'.ownsRow base 21 1 v' (l ++ [x]).length (csR (l ++ [x])) ∧ Below base w w' := by
  rw [← csR_len] at hown
  obtain ⟨v', w', h1, h2, h3⟩ := app_one (P := Tryd.prog) (ty := 88) Tryd.underlying88 infoR rfl hown (.int .i32 (x : Int)) rfl hb (by rw [csR_len]; omega) (by rw [csR_len]; unfold maxLen; omega)
  refine ⟨v', w', h1, ?_, h3⟩
  rw [csR_snoc, csR_len] at h2
  exact h2
/-- 'string(characters)'. -/
theorem conv_any {w : World} {base : Nat} {v : Value} {cs : List Nat} (hown : w.ownsRow base 21 1 v cs.length (csR cs)) (hs : ∀ c ∈ cs, scal c = true) : (convert 88 9 v).run Tryd.prog w = .ok (.string (bstr (encS cs))) w := by
  have hc := fun (g : Nat) (hg : v.ownBlock = some g) => hown.cells hg
  rcases hown.2 with ⟨rfl, h0⟩ | ⟨g, cap, cur, rfl, _⟩
  · rw [List.eq_nil_of_length_eq_zero h0]
    exact run_convert_runes_nil w _ _ 21 0 0 Tryd.underlying88 Tryd.underlying21 Tryd.underlying9
  · have := run_convert_runes (P := Tryd.prog) w 88 9 21 ⟨g, 0, none⟩ cs.length cap (cs.map Int.ofNat) (by simp) Tryd.underlying88 Tryd.underlying21 Tryd.underlying9 (fun j hj => by
      rw [List.length_map] at hj
      refine hc g rfl j _ ?_
      unfold csR
      rw [List.getElem?_map, List.getElem?_eq_getElem hj, List.getD_eq_getElem?_getD, List.getElem?_map, List.getElem?_eq_getElem hj]
      rfl)
    rw [this, show (cs.map Int.ofNat).take cs.length = cs.map Int.ofNat by rw [List.take_of_length_le]; simp, runes_str hs]
theorem hasN_scal {k c : Nat} (h : hasN k c = true) : scal c = true := by
  unfold hasN at h
  have hO : chO c = true → scal c = true := fun h => by unfold chO at h; simp at h; exact h.2
  rw [scal_iff]
  split at h
  · exact scal_iff.1 (hO h)
  · split at h
    · simp at h; omega
    · split at h
      · simp at h; omega
      · split at h
        · exact scal_iff.1 (hO (by rw [Bool.and_eq_true] at h; exact h.1))
        · unfold prB othL at h
          simp at h
          omega
/-- 'b[m:]'. -/
theorem slice_from (N c m : Nat) (A : Option Addr) (l : List Nat) (hN : l.length = N) (hm : m ≤ N) (hc : N ≤ c) :
    ∃ A' N2 c2, (l.drop m).length = N2 ∧ N2 ≤ c2 ∧ c2 ≤ c ∧ N2 = N - m ∧ (∀ W : World, (Instr.slice 32 (.slice A N c) (some (.int .i64 (m : Int))) none none).run Tryd.prog W = .ok (.slice A' N2 c2) W) ∧ (∀ W : World, (Instr.sliceAt 32 (.slice A N c) (some (.int .i64 (m : Int))) none none).run Tryd.prog W = .ok (.slice A' N2 c2) W) ∧ ∀ W, Rb W A l → Rb W A' (l.drop m) := by
  have hsz : ∀ W, (sizeOf (Tryd.prog.elem 32)).run Tryd.prog W = .ok 1 W := fun W => by kernel_rfl
  have q : ∀ W : World, (Instr.slice 32 (.slice A N c) (some (.int .i64 (m : Int))) none none).run Tryd.prog W = .ok (.slice (if c = m then A else A.map (·.add (m * 1))) (N - m) (c - m)) W := fun W => by
    rw [run_slice_l (P := Tryd.prog) W 32 A N c (by kernel_rfl) .i64 (m : Int) (by omega) (by omega), hsz W]
    simp only [Result.andThen, sliced, Int.toNat_natCast]
  refine ⟨_, N - m, c - m, by rw [List.length_drop, hN], by omega, by omega, rfl, q, fun W => ?_, fun W hA => ?_⟩
  · rw [← q W]; exact run_sliceAt_slice (P := Tryd.prog) W 32 _ _ _ _ (by kernel_rfl)
  · by_cases h0 : l.drop m = []
    · rw [h0]; exact Rb.nil
    · have hml : m < l.length := by
        rcases Nat.lt_or_ge m l.length with h | h
        · exact h
        · exact absurd (List.drop_of_length_le h) h0
      obtain ⟨b, off, rfl, _⟩ := hA.at_ (k := 0) (by omega)
      by_cases h : c = m
      · rw [if_pos h, List.drop_of_length_le (by omega)]; exact Rb.nil
      · rw [if_neg h, Option.map_some, addr_add, Nat.mul_one]; exact hA.drop_ m
/-- All characters of a kind of bytes. -/
def getR (k : Nat) : Nat → List Nat → Option (List Nat)
  | _, [] => some []
  | 0, _ :: _ => none
  | f + 1, x :: r => if hasN k (get1 k (x :: r)).1 = true then (getR k f ((x :: r).drop (get1 k (x :: r)).2)).map ((get1 k (x :: r)).1 :: ·) else none
theorem getR_step {k f : Nat} {l : List Nat} (hne : l ≠ []) : getR k (f + 1) l = if hasN k (get1 k l).1 = true then (getR k f (l.drop (get1 k l).2)).map ((get1 k l).1 :: ·) else none := by
  cases l with
  | nil => exact absurd rfl hne
  | cons x r => rfl
theorem getR_nil (k f : Nat) : getR k f [] = some [] := by cases f <;> rfl
def getC (k : Nat) (l : List Nat) : Option (List Nat) := getR k l.length l
/-- What Get answers. -/
def get9 (k : Nat) (l : List Nat) : Nat × List Nat × Nat := if isK k = false then (0, [], 9) else if 131072 < l.length then (0, [], 3) else match getC k l with
  | none => (0, [], 11)
  | some cs => if 65536 < (encS cs).length then (0, [], 3) else (k, encS cs, 0)
theorem get9_kind {k : Nat} {l : List Nat} (h : isK k = false) : get9 k l = (0, [], 9) := if_pos h
theorem get9_long {k : Nat} {l : List Nat} (h : isK k = true) (h2 : 131072 < l.length) : get9 k l = (0, [], 3) := by unfold get9; rw [if_neg (by rw [h]; decide), if_pos h2]
theorem get9_bad {k : Nat} {l : List Nat} (h : isK k = true) (h2 : ¬ 131072 < l.length) (h3 : getC k l = none) : get9 k l = (0, [], 11) := by unfold get9; rw [if_neg (by rw [h]; decide), if_neg h2, h3]
theorem get9_some {k : Nat} {l cs : List Nat} (h : isK k = true) (h2 : ¬ 131072 < l.length) (h3 : getC k l = some cs) : get9 k l = if 65536 < (encS cs).length then (0, [], 3) else (k, encS cs, 0) := by unfold get9; rw [if_neg (by rw [h]; decide), if_neg h2, h3]
/-- The length of a slice. -/
def slen : Value → Nat
  | .slice _ n _ => n
  | _ => 0

set_option linter.unusedSimpArgs false in
set_option maxHeartbeats 4000000 in
set_option maxRecDepth 100000 in
theorem get9_any (k : Nat) (hk : k < 4294967296) (l : List Nat) (A : Option Addr) (N c : Nat) (hN : l.length = N) (hc : N ≤ c) (hcm : c ≤ maxLen) (w : World) (hA : Rb w A l) (hT : Tab w) :
    Calls Tryd.prog 29 #[.int .u32 (k : Int), .slice A N c] w fun e w' => e = .returned (.tuple #[.agg (chL (get9 k l).1 (bstr (get9 k l).2.1)).toArray, .int .i64 ((get9 k l).2.2 : Int)]) ∧ Below w.heap.size w w' := by
  obtain ⟨Sz, hSz⟩ : ∃ s, S0 = s := ⟨_, rfl⟩
  have HSZ := Lib.hid hSz
  have hz : ∀ w : World, (zeroValue 24).run Tryd.prog w = .ok (.agg #[.int .u32 0, .string Sz]) w := by rw [← hSz]; exact zeroCh
  clear hSz
  have hza := zeroAl
  obtain ⟨az, haz⟩ : ∃ az, a0 = az := ⟨_, rfl⟩
  have hzl : az.length = 4 := by rw [← haz]; rfl
  rw [haz] at hza
  clear haz
  have CF := Lib.hid (fun W => find_any k hk W)
  have hal := (alOf_ok k).1
  have hone := (alOf_ok k).2
  obtain ⟨AL, hAL⟩ : ∃ AL, alOf k = AL := ⟨_, rfl⟩
  have HAL := Lib.hid hAL
  rw [hAL] at hal hone CF
  obtain ⟨T, hT2⟩ : ∃ T, get9 k l = T := ⟨_, rfl⟩
  have HT := Lib.hid hT2
  rw [hT2]
  have HA := Lib.hid hA
  have T0 := Lib.hid hT
  have HN := Lib.hid hN
  have HCM := Lib.hid hcm
  obtain ⟨w1, hw1⟩ : ∃ w1, w.alloc (.cells #[.int .u32 0, .string Sz] 24) = w1 := ⟨_, rfl⟩
  have B1 : Hid (Below w.heap.size w w1) := Lib.hid (by rw [← hw1]; exact bel1 w _)
  obtain ⟨g, hg⟩ : ∃ g, w.heap.size = g := ⟨_, rfl⟩
  have R1 : Hid (Bk w1 g 24 (chL 0 Sz)) := Lib.hid (by rw [← hw1, ← hg]; exact Bk.new w _ (chL 0 Sz))
  have HW1 := Lib.hid hw1
  have HG := Lib.hid hg
  clear hT hT2 hA hw1 hg hAL hN hcm
  go_enter Tryd.func29, Tryd.ntmps29
  go_upto_region 1 with fail
  rw [HW1.out, HG.out]
  go_wp2_with fail
  refine (CF.out _).mono ?_
  rintro e w3 ⟨rfl, hb⟩
  have B3 := bt B1 (Lib.hid hb)
  have R3 := kt R1 (Lib.hid hb)
  clear hb B1 R1
  obtain ⟨g3, hg3⟩ : ∃ g3, w3.heap.size = g3 := ⟨_, rfl⟩
  obtain ⟨w4, hw4⟩ : ∃ w4, w3.alloc (.cells az.toArray 74) = w4 := ⟨_, rfl⟩
  have A4 : Hid (Bk w4 g3 74 az) := Lib.hid (by rw [← hw4, ← hg3]; exact Bk.new w3 _ az)
  have hb4 : Hid (Below w3.heap.size w3 w4) := Lib.hid (by rw [← hw4]; exact bel1 w3 _)
  have B4 := bt B3 hb4
  have R4 := kt R3 hb4
  have HGS : Hid (w.heap.size ≤ g3) := Lib.hid (by rw [← hg3]; exact B3.out.size)
  have HLT : Hid (g < g3) := Lib.hid (by rw [← hg3]; exact R3.out.lt)
  have HW4 := Lib.hid hw4
  have HG3 := Lib.hid hg3
  clear hb4 hw4 hg3 B3 R3
  go_upto_region 2 with (rw [HW4.out, HG3.out]
                         refine wpList_storeG rfl (.tmp 6) (.tmp 15) rfl rfl rfl A4.out (by rw [hal]; exact infoAl) (by rw [hzl, hal]) hone ?_
                         intro w5 A5 hg5 hz5
                         have HA5 := Lib.hid A5
                         have B5 := Lib.hid (B4.out.grown hg5 B4.out.size (fun k e => by injection e with e; have := HGS.out; omega))
                         have R5 := Lib.hid (R4.out.only hg5 (by intro e; injection e with e; have := HLT.out; omega))
                         clear A5 hg5 hz5 A4 B4 R4)
  cases hK : isK k
  · have HE : Hid (T = (0, [], 9)) := Lib.hid (by rw [← HT.out, get9_kind hK])
    clear hK
    go_wp2_with (refine wpList_storeG rfl (.tmp 4) (.tmp 19) rfl rfl (ds := chL 0 Sz) rfl R5.out infoCh rfl (chL_one _ _) ?_
                 intro w6 R6 hg6 hz6
                 have HR6 := Lib.hid R6
                 have B6 := Lib.hid (B5.out.grown hg6 B5.out.size (fun k e => by injection e with e; have := HG.out; omega))
                 clear R6 hg6 hz6)
    exact retG2 rfl rfl rfl (loadCh HR6.out) rfl ⟨by rw [HE.out, ← HSZ.out]; rfl, B6.out⟩
  · have HK := Lib.hid hK
    clear hK
    by_cases hlong : 131072 < N
    · have HE : Hid (T = (0, [], 3)) := Lib.hid (by rw [← HT.out, get9_long HK.out (by rw [HN.out]; exact hlong)])
      have hli : (131072 : Int) < (N : Int) := by omega
      clear hlong
      go_wp2_with (refine wpList_storeG rfl (.tmp 4) (.tmp 23) rfl rfl (ds := chL 0 Sz) rfl R5.out infoCh rfl (chL_one _ _) ?_
                   intro w6 R6 hg6 hz6
                   have HR6 := Lib.hid R6
                   have B6 := Lib.hid (B5.out.grown hg6 B5.out.size (fun k e => by injection e with e; have := HG.out; omega))
                   clear R6 hg6 hz6)
      exact retG2 rfl rfl rfl (loadCh HR6.out) rfl ⟨by rw [HE.out, ← HSZ.out]; rfl, B6.out⟩
    · have hli : ¬ (131072 : Int) < (N : Int) := by omega
      have HLL := Lib.hid hlong
      clear hlong
      go_upto_region 7 with fail
      obtain ⟨B0, hB0⟩ : ∃ B0, w5.heap.size = B0 := ⟨_, rfl⟩
      have START := Lib.hid (World.ownsRow_nil w5 B0 21 1)
      have HBS : Hid (w.heap.size ≤ B0 ∧ g < B0 ∧ g3 < B0) := Lib.hid ⟨by rw [← hB0]; exact B5.out.size, by rw [← hB0]; exact R5.out.lt, by rw [← hB0]; exact HA5.out.lt⟩
      have HB0 := Lib.hid hB0
      obtain ⟨G, hG⟩ : ∃ G, getC k l = G := ⟨_, rfl⟩
      have HGC := Lib.hid hG
      clear hB0 hG
      go_loopw [1, 8] (fun u v wr => ∃ (l' acc : List Nat) (A' : Option Addr) (N' c' f : Nat), u = .slice A' N' c' ∧ l'.length = N' ∧ N' ≤ c' ∧ c' ≤ maxLen ∧ Rb w A' l' ∧ acc.length + N' ≤ N ∧ N' ≤ f ∧ (∀ x ∈ acc, hasN k x = true) ∧ G = (getR k f l').map (acc ++ ·) ∧ wr.ownsRow B0 21 1 v acc.length (csR acc) ∧ Bk wr g 24 (chL 0 Sz) ∧ Bk wr g3 74 AL ∧ Below w.heap.size w wr ∧ B0 ≤ wr.heap.size) (fun u _ _ => slen u)
      case atStart => exact ⟨l, [], A, N, c, N, rfl, HN.out, hc, HCM.out, HA.out, by simp, Nat.le_refl _, fun x h => absurd h (by simp), by rw [← HGC.out]; unfold getC; rw [HN.out]; simp, START.out, R5.out, HA5.out, B5.out, Nat.le_of_eq HB0.out.symm⟩
      case round =>
        obtain ⟨l', acc, A', N', c', f, rfl, hN', hc', hcm', hA', hacc, hf, hhas, hG', hown, hr, ha, hbl, hsz⟩ := hrel
        have OWN := Lib.hid hown
        have R := Lib.hid hr
        have HAL' := Lib.hid ha
        have BL := Lib.hid hbl
        have SZ := Lib.hid hsz
        have HA' := Lib.hid hA'
        have HG' := Lib.hid hG'
        have HHAS := Lib.hid hhas
        have HN' := Lib.hid hN'
        have HC' := Lib.hid (And.intro hc' hcm')
        have HAC := Lib.hid (And.intro hacc hf)
        clear hown hr ha hbl hsz hA' hG' hhas hN' hc' hcm' hacc hf START R5 HA5 B5 HB0
        by_cases h0 : 0 < N'
        · have hne : l' ≠ [] := fun e => by have := HN'.out; rw [e] at this; simp at this; omega
          have CG := Lib.hid (get1_any HK.out l' HA'.out.2 hne (HA'.out.below BL.out) N' c' HN'.out (T0.out.below BL.out))
          have hps := get1_pos (k := k) hne
          have CH := Lib.hid (fun W => has_any HK.out (get1 k l').1 (get1_lt HA'.out.2) W)
          have HST : Hid (∀ f, getR k (f + 1) l' = if hasN k (get1 k l').1 = true then (getR k f (l'.drop (get1 k l').2)).map ((get1 k l').1 :: ·) else none) := Lib.hid (fun f => getR_step hne)
          have c3 : wr.cell? ⟨g3, 3, none⟩ = some (fv (getF k)) := by rw [HAL'.out.cell, ← HAL.out, alOf_form HK.out]; rfl
          have c1 : wr.cell? ⟨g3, 1, none⟩ = some (fv (hasF k)) := by rw [HAL'.out.cell, ← HAL.out, alOf_form HK.out]; rfl
          have hent := fun args W => get_enter HK.out args W
          have hent2 := fun args W => has_enter HK.out args W
          obtain ⟨x, hx⟩ : ∃ x, (get1 k l').1 = x := ⟨_, rfl⟩
          obtain ⟨m, hm⟩ : ∃ m, (get1 k l').2 = m := ⟨_, rfl⟩
          rw [hx] at CG CH HST
          rw [hm] at CG HST hps
          rw [HN'.out] at hps
          obtain ⟨A2, N2, c2, hl2, hc2, hcc, hN2, hsl, -, hrb⟩ := slice_from N' c' m A' l' HN'.out hps.2 HC'.out.1
          have HS2 := Lib.hid (And.intro hl2 (And.intro hc2 (And.intro (Nat.le_trans hcc HC'.out.2) (And.intro hN2 (And.intro hps.1 hps.2)))))
          have HRB := Lib.hid hrb
          have hli0 : (0 : Int) < (N' : Int) := by omega
          clear hx hm hne hl2 hc2 hcc hN2 hrb hps
          generalize getF k = FG at *
          generalize hasF k = FH at *
          obtain ⟨hv, hhv⟩ : ∃ b, hasN k x = b := ⟨_, rfl⟩
          have HHV := Lib.hid hhv
          rw [hhv] at CH
          clear hhv
          go_wp2_with fail
          refine CG.out.mono ?_
          rintro e w6 ⟨rfl, hb⟩
          have c1 : w6.cell? ⟨g3, 1, none⟩ = some (fv FH) := (hb.cell (p := ⟨g3, 1, none⟩) HAL'.out.lt).trans c1
          have B6 := Lib.hid hb
          clear hb c3
          go_wp2_with fail
          refine (CH.out _).mono ?_
          rintro e w7 ⟨rfl, hb⟩
          have BR7 := bt B6 (Lib.hid hb)
          have R7 := kt R BR7
          have HAL7 := kt HAL' BR7
          have OWN7 := Lib.hid (own_bel OWN.out BR7.out)
          have B7 := bt BL BR7
          have SZ7 : Hid (B0 ≤ w7.heap.size) := Lib.hid (Nat.le_trans SZ.out BR7.out.size)
          have HA2 := Lib.hid (HRB.out w HA'.out)
          clear hb c1 B6 BR7 R HAL' OWN BL SZ HA' HRB
          cases hv with
          | false =>
            have HE : Hid (T = (0, [], 11)) := Lib.hid (by
              obtain ⟨f, rfl⟩ : ∃ f', f = f' + 1 := ⟨f - 1, by have := HAC.out.2; omega⟩
              rw [← HT.out]
              refine get9_bad HK.out (by rw [HN.out]; exact HLL.out) ?_
              rw [HGC.out, HG'.out, HST.out, if_neg (by rw [HHV.out]; decide)]
              rfl)
            go_wp2_with (refine wpList_storeG rfl (.tmp 4) (.tmp 39) rfl rfl (ds := chL 0 Sz) rfl R7.out infoCh rfl (chL_one _ _) ?_
                         intro w8 R8 hg8 hz8
                         have HR8 := Lib.hid R8
                         have B8 := Lib.hid (B7.out.grown hg8 B7.out.size (fun k e => by injection e with e; have := HG.out; omega))
                         clear R8 hg8 hz8)
            exact retG2 rfl rfl rfl (loadCh HR8.out) rfl ⟨by rw [HE.out, ← HSZ.out]; rfl, B8.out⟩
          | true =>
            obtain ⟨v', w8, hrun, hown8, hb8⟩ := appR OWN7.out x SZ7.out (by have := HAC.out.1; have := HLL.out; omega)
            have OWN8 := Lib.hid hown8
            have HB8 := Lib.hid hb8
            have R8 := Lib.hid (R7.out.below hb8 HBS.out.2.1)
            have HAL8 := Lib.hid (HAL7.out.below hb8 HBS.out.2.2)
            have BL8 : Hid (Below w.heap.size w w8) := Lib.hid (B7.out.trans (hb8.mono HBS.out.1))
            have SZ8 : Hid (B0 ≤ w8.heap.size) := Lib.hid (Nat.le_trans SZ7.out hb8.size)
            clear hown8 hb8
            go_wp2_with (at_builtin; refine wpList_app rfl _ _ _ _ rfl _ _ rfl rfl hrun ?_)
            exact ⟨⟨l'.drop m, acc ++ [x], A2, N2, c2, f - 1, rfl, HS2.out.1, HS2.out.2.1, HS2.out.2.2.1, HA2.out, by rw [List.length_append]; have := HAC.out.1; have := HS2.out.2.2.2; simp; omega, by have := HAC.out.2; have := HS2.out.2.2.2; omega, (fun y hy => by
              rcases List.mem_append.1 hy with h | h
              · exact HHAS.out y h
              · rw [List.mem_singleton.1 h]; exact HHV.out), (by
              obtain ⟨f, rfl⟩ : ∃ f', f = f' + 1 := ⟨f - 1, by have := HAC.out.2; omega⟩
              rw [HG'.out, HST.out, if_pos HHV.out, Option.map_map, Nat.add_sub_cancel]
              congr 1
              funext z
              simp), OWN8.out, R8.out, HAL8.out, BL8.out, SZ8.out⟩, by simp [slen]; have := HS2.out.2.2.2; omega⟩
        · obtain rfl : N' = 0 := by omega
          have hnil : l' = [] := List.eq_nil_of_length_eq_zero HN'.out
          have HGA : Hid (G = some acc) := Lib.hid (by rw [HG'.out, hnil, getR_nil]; simp)
          have hcv := conv_any OWN.out (fun x hx => hasN_scal (HHAS.out x hx))
          have hM : (bstr (encS acc)).size = (encS acc).length := size_bstr _
          have HE : Hid (T = if 65536 < (encS acc).length then (0, [], 3) else (k, encS acc, 0)) := Lib.hid (by
            rw [← HT.out]; exact get9_some HK.out (by rw [HN.out]; exact HLL.out) (by rw [HGC.out, HGA.out]))
          obtain ⟨SS, hSS⟩ : ∃ SS, bstr (encS acc) = SS := ⟨_, rfl⟩
          have HSS := Lib.hid hSS
          rw [hSS] at hcv hM
          obtain ⟨M, hMM⟩ : ∃ M, (encS acc).length = M := ⟨_, rfl⟩
          rw [hMM] at hM HE
          have hk32 : IntKind.u32.wrap (k : Int) = (k : Int) := by rw [IntKind.wrap_u32]; omega
          obtain ⟨g9, hg9⟩ : ∃ g9, wr.heap.size = g9 := ⟨_, rfl⟩
          obtain ⟨w9, hw9⟩ : ∃ w9, wr.alloc (.cells #[.int .u32 0, .string Sz] 24) = w9 := ⟨_, rfl⟩
          have A9 : Hid (Bk w9 g9 24 (chL 0 Sz)) := Lib.hid (by rw [← hw9, ← hg9]; exact Bk.new wr _ (chL 0 Sz))
          have hb9 : Hid (Below wr.heap.size wr w9) := Lib.hid (by rw [← hw9]; exact bel1 wr _)
          have B9 := bt BL hb9
          have R9 := kt R hb9
          have HGS9 : Hid (w.heap.size ≤ g9 ∧ g < g9) := Lib.hid ⟨by rw [← hg9]; exact BL.out.size, by rw [← hg9]; exact R.out.lt⟩
          have HW9 := Lib.hid hw9
          have HG9 := Lib.hid hg9
          clear hnil hSS hMM hb9 hw9 hg9 BL R
          go_upto_region 14 with (rw [HW9.out, HG9.out]
                                  refine wpList_storeG rfl (.tmp 11) (.tmp 50) rfl rfl (ds := chL k SS) rfl A9.out infoCh rfl (chL_one _ _) ?_
                                  intro w10 A10 hg10 hz10
                                  have HA10 := Lib.hid A10
                                  have B10 := Lib.hid (B9.out.grown hg10 B9.out.size (fun k e => by injection e with e; have := HGS9.out; omega))
                                  have R10 := Lib.hid (R9.out.only hg10 (by intro e; injection e with e; have := HGS9.out; omega))
                                  clear A10 hg10 hz10 A9 B9 R9)
          have c1 : w10.cell? ⟨g9, 1, none⟩ = some (.string SS) := by rw [HA10.out.cell]; rfl
          by_cases hbig : 65536 < M
          · rw [if_pos hbig] at HE
            have hbi : (65536 : Int) < (M : Int) := by omega
            clear hbig
            go_wp2_with (refine wpList_storeG rfl (.tmp 4) (.tmp 55) rfl rfl (ds := chL 0 Sz) rfl R10.out infoCh rfl (chL_one _ _) ?_
                         intro w11 R11 hg11 hz11
                         have HR11 := Lib.hid R11
                         have B11 := Lib.hid (B10.out.grown hg11 B10.out.size (fun k e => by injection e with e; have := HG.out; omega))
                         clear R11 hg11 hz11)
            exact retG2 rfl rfl rfl (loadCh HR11.out) rfl ⟨by rw [HE.out, ← HSZ.out]; rfl, B11.out⟩
          · rw [if_neg hbig] at HE
            have hbi : ¬ (65536 : Int) < (M : Int) := by omega
            clear hbig
            go_wp2_with (first
              | (refine wpList_loadG rfl (.tmp 11) rfl rfl (rangeB HA10.out) Tryd.underlying24 rfl infoCh ?_)
              | (refine wpList_storeG rfl (.tmp 4) (.tmp 56) rfl rfl (ds := chL k SS) rfl R10.out infoCh rfl (chL_one _ _) ?_
                 intro w11 R11 hg11 hz11
                 have HR11 := Lib.hid R11
                 have B11 := Lib.hid (B10.out.grown hg11 B10.out.size (fun k e => by injection e with e; have := HG.out; omega))
                 clear R11 hg11 hz11))
            exact retG2 rfl rfl rfl (loadCh HR11.out) rfl ⟨by rw [HE.out, ← HSS.out]; rfl, B11.out⟩
end Go.Proofs.YthefnfjhnallfaaDoor.Chs
