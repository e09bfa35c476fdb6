/-
  Layer 9: whole structs in memory; what a kind has: alphabets, find.
  Conditions: none.
-/
import Derived.Test.YthefnfjhnallfaaDoorMem
import Derived.Test.YthefnfjhnallfaaDoorProg
import Derived.Test.YthefnfjhnallfaaDoorChsV
import Derived.Deep.MidRow
import Derived.Deep.QuietTactic
import Derived.BigQuiet
import Derived.IntWalk
import Derived.Outline
import Derived.Deep.RegionHeld3
import Derived.Deep.DeepCutAuto
import Derived.Great.BuildSlice
namespace Go.Proofs.YthefnfjhnallfaaDoor.Chs
open Go.RowKit

theorem bt {a b c : World} (h1 : Hid (Below a.heap.size a b)) (h2 : Hid (Below b.heap.size b c)) : Hid (Below a.heap.size a c) := Lib.hid (h1.out.trans (h2.out.mono h1.out.size))
theorem bel1 (w : World) (o : Obj) : Below w.heap.size w (w.alloc o) := (Below.refl _ w).alloc (Nat.le_refl _) o
theorem kt {w w' : World} {g : Nat} {t : TypeId} {cs : List Value} (h : Hid (Bk w g t cs)) (hb : Hid (Below w.heap.size w w')) : Hid (Bk w' g t cs) := Lib.hid (h.out.below hb.out h.out.lt)
theorem rangeB {w : World} {g : Nat} {t : TypeId} {cs : List Value} (h : Bk w g t cs) : w.rangeAt g 0 cs := fun j v hj => by rw [Nat.zero_add, h.cell]; exact hj
/-- The walk's step at the load of a whole struct. -/
theorem wpList_loadG {t : TypeId} {d : TypeDesc} {ops : Array Oper} {rest : List Oper} {o : Oper} {a : Act} {w : World} {Q : Exit → Act → World → Prop} (hgd : o.guard = none) (x : Operand) (ho : o.op = .load t x)
    {g off : Nat} {cs : List Value} (hx : a.eval x = .pointer (some ⟨g, off, none⟩)) (hg : w.rangeAt g off cs) (hu : Tryd.prog.underlying t = some d) (hd : d.isRow = true) (hi : (Tryd.prog.info? t).map (·.size) = some cs.length)
    (h : wpList Tryd.prog ops Q rest (a.put o.dst (.agg cs.toArray)) w) : wpList Tryd.prog ops Q (o :: rest) a w :=
  wpList_load_mid hgd t x ho g off hx cs d hg hu hd hi h
/-- .. at its store. -/
theorem wpList_storeG {t t' : TypeId} {ops : Array Oper} {rest : List Oper} {o : Oper} {a : Act} {w : World} {Q : Exit → Act → World → Prop} (hgd : o.guard = none) (x v : Operand) (ho : o.op = .store t x v)
    {g : Nat} {ds cs : List Value} (hx : a.eval x = .pointer (some ⟨g, 0, none⟩)) (hv : a.eval v = .agg ds.toArray) (hg : Bk w g t' cs) (hi : (Tryd.prog.info? t).map (·.size) = some ds.length) (hc : cs.length = ds.length) (h1 : ds.all (·.oneCell') = true)
    (h : ∀ w', Bk w' g t' ds → w.grownBy w' (some g) → w'.heap.size = w.heap.size → wpList Tryd.prog ops Q rest (a.put o.dst undef) w') : wpList Tryd.prog ops Q (o :: rest) a w :=
  wpList_plain hgd fun K hK => by
    have hs := run_storeVar_row (P := Tryd.prog) w g t' t cs.toArray ds.toArray hg (by rw [List.size_toArray]; exact hi) (by simp [hc]) (by rw [List.all_toArray]; exact h1)
    have hK' := hK _ _ (h (w.setRow g ds.toArray) (setRow_heap w g _ _ _ _ hg) ⟨rfl, rfl, rfl, by simp [World.setRow], fun k hk hne => setRow_other w g k _ (fun e => hne (by rw [e]))⟩ (by simp [World.setRow]))
    unfold Oper.wp execOp
    simp only [ho, hx, hv, Instr.storeAt, Instr.sureAddr, Sem.run_bind, Sem.run_pure, Result.andThen_ok, hs]
    exact hK'
/-- A struct out of a variable, and one value more, are returned. -/
theorem retG2 {fn : Func} {p q : Tmp} {t : TypeId} (h : fn.results = #[.cell p t, .tmp q]) {a : Act} {w : World} {g : Nat} {cs : List Value} {v : Value} (hp : a.tmps.getD p undef = .pointer (some ⟨g, 0, none⟩)) (hq : a.tmps.getD q undef = v)
    (hl : (loadVar t ⟨g, 0, none⟩).run Tryd.prog w = .ok (.agg cs.toArray) w) (hdf : a.defers = [])
    {R : Ending → World → Prop} (hR : R (.returned (.tuple #[.agg cs.toArray, v])) w) : bodyPost Tryd.prog fn R .ret a w := by
  refine bodyPost_ret ?_ hdf hR
  have hp' : a.tmps[p]?.getD undef = .pointer (some ⟨g, 0, none⟩) := by simpa using hp
  have hq' : a.tmps[q]?.getD undef = v := by simpa using hq
  simp [results, h, hp', hq', asAddr, hl]
/-- A function's value. -/
@[reducible] def fv (F : FuncId) : Value := .func (.func F) #[] #[]
def alc (k : Nat) (h p g : FuncId) : List Value := [.int .u32 (k : Int), fv h, fv p, fv g]
def a12 : List Value := alc 12 44 45 46
def a19 : List Value := alc 19 47 48 49
def a22 : List Value := alc 22 50 48 49
def a26 : List Value := alc 26 51 48 49
def a30 : List Value := alc 30 52 53 54
def alRow : List Value := a12 ++ a19 ++ a22 ++ a26 ++ a30
set_option maxRecDepth 100000 in
theorem alphabets_any (w : World) : Calls Tryd.prog 38 #[] w fun e w' => e = .returned (.slice (some ⟨w.heap.size, 0, none⟩) 5 5) ∧ w' = w.alloc (.cells alRow.toArray 74) := by
  go_enter Tryd.func38, Tryd.ntmps38
  go_wp2_with fail
  go_ret
  exact ⟨rfl, rfl⟩
/-- What a kind that is none has. -/
def a0 : List Value := [.int .u32 0, .nilFunc, .nilFunc, .nilFunc]
theorem zeroAl : ∀ w : World, (zeroValue 74).run Tryd.prog w = .ok (.agg a0.toArray) w := fun _ => by kernel_rfl
theorem infoAl : (Tryd.prog.info? 74).map (·.size) = some 4 := by kernel_rfl
/-- What a kind has. -/
def alOf (k : Nat) : List Value := if k = 12 then a12 else if k = 19 then a19 else if k = 22 then a22 else if k = 26 then a26 else if k = 30 then a30 else a0
def isK (k : Nat) : Bool := k == 12 || k == 19 || k == 22 || k == 26 || k == 30
def kA (p : Nat) : List Value := (alRow.drop (p * 4)).take 4
def kN (p : Nat) : Nat := [12, 19, 22, 26, 30].getD p 0
theorem kA_cell {w : World} {g : Nat} {t : TypeId} (h : Bk w g t alRow) (p : Nat) : w.rangeAt g (p * 4) (kA p) := fun j v hj => by
  rw [h.cell]
  unfold kA at hj
  rw [List.getElem?_take] at hj
  split at hj
  · rw [List.getElem?_drop] at hj
    exact hj
  · cases hj
theorem kA_form {p : Nat} (h : p < 5) : ∃ a b c, kA p = [.int .u32 (kN p : Int), a, b, c] ∧ alOf (kN p) = kA p ∧ isK (kN p) = true ∧ kN p < 4294967296 ∧ (kA p).all (·.oneCell') = true := by
  rcases (show p = 0 ∨ p = 1 ∨ p = 2 ∨ p = 3 ∨ p = 4 by omega) with rfl | rfl | rfl | rfl | rfl
  all_goals exact ⟨_, _, _, rfl, rfl, rfl, by decide, rfl⟩
theorem not_kind {k : Nat} (h : ∀ q, q < 5 → k ≠ kN q) : isK k = false ∧ alOf k = a0 := by
  have h0 : k ≠ 12 := h 0 (by decide)
  have h1 : k ≠ 19 := h 1 (by decide)
  have h2 : k ≠ 22 := h 2 (by decide)
  have h3 : k ≠ 26 := h 3 (by decide)
  have h4 : k ≠ 30 := h 4 (by decide)
  unfold isK alOf
  rw [if_neg h0, if_neg h1, if_neg h2, if_neg h3, if_neg h4]
  simp [h0, h1, h2, h3, h4]

set_option linter.unusedSimpArgs false in
set_option maxHeartbeats 4000000 in
set_option maxRecDepth 100000 in
theorem find_any (k : Nat) (_hk : k < 4294967296) (w : World) : Calls Tryd.prog 32 #[.int .u32 (k : Int)] w fun e w' =>
    e = .returned (.tuple #[.agg (alOf k).toArray, .bool (isK k)]) ∧ Below w.heap.size w w' := by
  have hz := zeroAl
  obtain ⟨az, haz⟩ : ∃ az, a0 = az := ⟨_, rfl⟩
  have HAZ := Lib.hid haz
  have hzl : az.length = 4 := by rw [← haz]; rfl
  have hz1 : az.all (·.oneCell') = true := by rw [← haz]; rfl
  rw [haz] at hz
  clear haz
  have S0 := Lib.hid (Bk.new w 74 az)
  have B0 := Lib.hid (bel1 w (.cells az.toArray 74))
  obtain ⟨g, hg⟩ : ∃ g, w.heap.size = g := ⟨_, rfl⟩
  have HG := Lib.hid hg
  obtain ⟨AR, hAR⟩ : ∃ AR, alRow = AR := ⟨_, rfl⟩
  have HAR := Lib.hid hAR
  have CA := Lib.hid (fun W => alphabets_any W)
  rw [hAR] at CA
  rw [hg] at S0
  clear hg hAR
  go_enter Tryd.func32, Tryd.ntmps32
  go_upto_region 1 with fail
  rw [HG.out]
  generalize w.alloc (.cells az.toArray 74) = w1 at *
  have S1 := kt S0 (Lib.hid (bel1 w1 (.cells AR.toArray 74)))
  have R1 := Lib.hid (Bk.new w1 74 AR)
  have B1 := bt B0 (Lib.hid (bel1 w1 (.cells AR.toArray 74)))
  have HLT : Hid (g < w1.heap.size) := Lib.hid S0.out.lt
  clear S0 B0
  go_upto_region 2 with (refine (CA.out _).mono ?_; rintro e w2 ⟨rfl, rfl⟩)
  generalize w1.alloc (.cells AR.toArray 74) = w2 at *
  generalize w1.heap.size = g2 at *
  go_loopw [8] (fun i wr => ∃ p : Nat, p ≤ 5 ∧ i = .int .i64 (p : Int) ∧ (∀ q, q < p → k ≠ kN q) ∧ Bk wr g 74 az ∧ Bk wr g2 74 AR ∧ Below w.heap.size w wr) (fun i _ => 5 - (intOf i).toNat)
  case atStart => exact ⟨0, Nat.zero_le _, rfl, fun q h => by omega, S1.out, R1.out, B1.out⟩
  case round =>
    obtain ⟨p, hp, rfl, hall, hs, hr, hbl⟩ := hrel
    have HALL := Lib.hid hall
    have S := Lib.hid hs
    have R := Lib.hid hr
    have BL := Lib.hid hbl
    clear hall hs hr hbl S1 R1 B1
    rcases Nat.lt_or_ge p 5 with hlt | hge
    · obtain ⟨f1, f2, f3, hf, hal, hik, hk32, hone⟩ := kA_form hlt
      have hrg := kA_cell (HAR.out ▸ R.out) p
      have HAL := Lib.hid hal
      have HIK := Lib.hid hik
      obtain ⟨KA, hKA⟩ : ∃ KA, kA p = KA := ⟨_, rfl⟩
      rw [hKA] at hf hrg hone HAL
      have hkl : KA.length = 4 := by rw [hf]; rfl
      have HRG := Lib.hid hrg
      have HF := Lib.hid hf
      obtain ⟨n, hn⟩ : ∃ n, kN p = n := ⟨_, rfl⟩
      have HN := Lib.hid hn
      rw [hn] at hk32 HF
      obtain ⟨g3, hg3⟩ : ∃ g3, wr.heap.size = g3 := ⟨_, rfl⟩
      obtain ⟨w3, hw3⟩ : ∃ w3, wr.alloc (.cells az.toArray 74) = w3 := ⟨_, rfl⟩
      have T3 : Hid (Bk w3 g3 74 az) := Lib.hid (by rw [← hw3, ← hg3]; exact Bk.new wr _ az)
      have hb3 : Hid (Below wr.heap.size wr w3) := Lib.hid (by rw [← hw3]; exact bel1 wr _)
      have S3 := kt S hb3
      have R3 := kt R hb3
      have B3 := bt BL hb3
      have HGS : Hid (w.heap.size ≤ g3) := Lib.hid (by rw [← hg3]; exact BL.out.size)
      have HLG : Hid (g < g3) := Lib.hid (by rw [← hg3]; exact S.out.lt)
      have HW3 := Lib.hid hw3
      have HG3 := Lib.hid hg3
      clear hf hrg hn hal hik hKA hb3 hw3 hg3 BL S
      go_upto_region 4 with (first
        | (refine wpList_loadG rfl (.tmp 10) rfl rfl HRG.out Tryd.underlying74 rfl (by rw [hkl]; exact infoAl) ?_)
        | (rw [HW3.out, HG3.out]
           refine wpList_storeG rfl (.tmp 5) (.tmp 11) rfl rfl rfl T3.out (by rw [hkl]; exact infoAl) (by rw [hzl, hkl]) hone ?_
           intro w4 T4 hg4 hz4
           have HT4 := Lib.hid T4
           have S4 := Lib.hid (S3.out.only hg4 (by intro e; injection e with e; have := HLG.out; omega))
           have R4 := Lib.hid (R3.out.only hg4 (by intro e; injection e with e; have := HLG.out; have := R.out.lt; have := HG3.out; omega))
           have B4 := Lib.hid (B3.out.grown hg4 B3.out.size (fun k e => by injection e with e; have := HGS.out; omega))
           clear T4 hg4 hz4 S3 R3 B3))
      have c0 : w4.cell? ⟨g3, 0, none⟩ = some (.int .u32 (n : Int)) := by rw [HT4.out.cell, HF.out]; rfl
      by_cases hkn : k = n
      · subst hkn
        have HRES : Hid (alOf k = KA ∧ isK k = true) := Lib.hid ⟨by rw [← HN.out]; exact HAL.out, by rw [← HN.out]; exact HIK.out⟩
        go_wp2_with (first
          | (refine wpList_loadG rfl (.tmp 5) rfl rfl (rangeB HT4.out) Tryd.underlying74 rfl (by rw [hkl]; exact infoAl) ?_)
          | (refine wpList_storeG rfl (.tmp 2) (.tmp 16) rfl rfl rfl S4.out (by rw [hkl]; exact infoAl) (by rw [hzl, hkl]) hone ?_
             intro w5 T5 hg5 hz5
             have HT5 := Lib.hid T5
             have B5 := Lib.hid (B4.out.grown hg5 B4.out.size (fun k e => by injection e with e; have := HG.out; omega))
             clear T5 hg5 hz5))
        exact retG2 rfl rfl rfl (run_loadVar_row (P := Tryd.prog) _ _ _ _ _ _ _ HT5.out Tryd.underlying74 rfl (by rw [List.size_toArray, hkl]; exact infoAl)) rfl ⟨by rw [HRES.out.1, HRES.out.2]; rfl, B5.out⟩
      · have hb : ((n : Int) == (k : Int)) = false := by rw [beq_eq_false_iff_ne]; omega
        have HNX : Hid (∀ q, q < p + 1 → k ≠ kN q) := Lib.hid (fun q hq => by
          rcases Nat.lt_or_ge q p with h | h
          · exact HALL.out q h
          · obtain rfl : q = p := by omega
            rw [HN.out]; exact hkn)
        clear hkn
        go_wp2_with fail
        exact ⟨⟨p + 1, by omega, by go_num, HNX.out, S4.out, R4.out, B4.out⟩, by simp [intOf]; omega⟩
    · obtain rfl : p = 5 := by omega
      have hnk := not_kind HALL.out
      have HRES : Hid (alOf k = az ∧ isK k = false) := Lib.hid ⟨by rw [← HAZ.out]; exact hnk.2, hnk.1⟩
      clear hnk
      go_wp2_with (refine wpList_storeG rfl (.tmp 2) (.tmp 18) rfl rfl rfl S.out (by rw [hzl]; exact infoAl) rfl hz1 ?_
                   intro w5 T5 hg5 hz5
                   have HT5 := Lib.hid T5
                   have B5 := Lib.hid (BL.out.grown hg5 BL.out.size (fun k e => by injection e with e; have := HG.out; omega))
                   clear T5 hg5 hz5)
      exact retG2 rfl rfl rfl (run_loadVar_row (P := Tryd.prog) _ _ _ _ _ _ _ HT5.out Tryd.underlying74 rfl (by rw [List.size_toArray, hzl]; exact infoAl)) rfl ⟨by rw [HRES.out.1, HRES.out.2]; rfl, B5.out⟩
end Go.Proofs.YthefnfjhnallfaaDoor.Chs
