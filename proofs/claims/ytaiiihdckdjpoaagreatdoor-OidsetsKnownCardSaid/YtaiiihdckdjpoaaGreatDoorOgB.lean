/-
  Package oids: an OID in memory; the contracts of greatestSecond, counted and Check.
  Conditions: the OID's cells are in their kinds.
-/
import Derived.Test.YtaiiihdckdjpoaaGreatDoorOgA
import Derived.Test.YtaiiihdckdjpoaaGreatDoorProg
import Derived.Deep.MidRow
import Derived.Deep.QuietTactic
import Derived.BigQuiet
import Derived.IntWalk
import Derived.Outline
import Derived.Deep.RegionHeld3
import Derived.Deep.DeepCutAuto
import Derived.Laws.CopyOwn
import Derived.ChangeKeysEq
import Derived.RegionTactic
namespace Go.Proofs.YtaiiihdckdjpoaaGreatDoor
open Go.RowKit

/-- A word of 32 bits. -/
def by32 (x : Nat) : Value := .int .u32 (x : Int)
def cs32 (l : List Nat) : List Value := l.map by32
/-- The cells of an OID. -/
def oc (n : Nat) (l : List Nat) : List Value := .int .u8 (n : Int) :: cs32 l
@[reducible] def oV (n : Nat) (l : List Nat) : Value := .agg (oc n l).toArray
/-- What the cells of an OID may be. -/
structure OkO (n : Nat) (l : List Nat) : Prop where
  n8 : n < 256
  len : l.length = 16
  a32 : ∀ x ∈ l, x < 4294967296
theorem cs32_length (l : List Nat) : (cs32 l).length = l.length := by unfold cs32; rw [List.length_map]
theorem cs32_get {l : List Nat} {n : Nat} (h : n < l.length) : (cs32 l)[n]? = some (.int .u32 (l[n] : Int)) := by
  unfold cs32; rw [List.getElem?_map, List.getElem?_eq_getElem h]; rfl
theorem oc_length (n : Nat) (l : List Nat) : (oc n l).length = l.length + 1 := by unfold oc; rw [List.length_cons, cs32_length]
section
variable {w w' : World} {g n : Nat} {t : TypeId} {l : List Nat}
theorem oid_n (h : Bk w g t (oc n l)) : w.cell? ⟨g, 0, none⟩ = some (.int .u8 (n : Int)) := (h.cell 0).trans rfl
theorem oid_a (h : Bk w g t (oc n l)) {i : Nat} (hi : i < l.length) : w.cell? ⟨g, i + 1, none⟩ = some (.int .u32 (l[i] : Int)) := by
  rw [h.cell]; exact (List.getElem?_cons_succ ..).trans (cs32_get hi)
theorem oid_a' (h : Bk w g t (oc n l)) {i : Nat} (hi : i < l.length) : w.cell? ⟨g, 1 + i, none⟩ = some (.int .u32 (l[i] : Int)) := by
  rw [Nat.add_comm]; exact oid_a h hi
end
theorem info25 : (Tryz.prog.info? 26).map (·.size) = some 17 := by kernel_rfl
theorem info23 : (Tryz.prog.info? 24).map (·.size) = some 16 := by kernel_rfl
theorem load25 {w : World} {g n : Nat} {t : TypeId} {l : List Nat} (h : Bk w g t (oc n l)) (hl : l.length = 16) : (Instr.loadAt 26 (.pointer (some ⟨g, 0, none⟩))).run Tryz.prog w = .ok (oV n l) w :=
  run_loadAt_mid w g 0 _ (oc n l) _ (fun j v hj => by rw [Nat.zero_add, h.cell]; exact hj) Tryz.underlying26 rfl (by rw [oc_length, hl]; exact info25)

theorem second_any (a : Nat) (w : World) : Calls Tryz.prog 57 #[.int .u32 (a : Int)] w fun e w' => e = .returned (.int .u32 ((if a = 2 then 4294967215 else 39 : Nat) : Int)) ∧ w = w' := by
  by_cases h : a = 2
  · subst h
    go_enter Tryz.func57, Tryz.ntmps57
    go_wp2
    go_ret
    exact ⟨rfl, rfl⟩
  · have hb : ((a : Int) == 2) = false := by rw [beq_eq_false_iff_ne]; omega
    rw [if_neg h]
    clear h
    go_enter Tryz.func57, Tryz.ntmps57
    go_wp2
    go_ret
    exact ⟨rfl, rfl⟩

theorem bel_drewN {B : Nat} {a w : World} (h : Below B a w) (n : Nat) : Below B a (w.drewN n) := ⟨h.os, h.tape, h.output, h.size, h.block⟩
theorem second_s (a s : Nat) (h : (if a = 2 then 4294967215 else 39) = s) (w : World) : Calls Tryz.prog 57 #[.int .u32 (a : Int)] w fun e w' => e = .returned (.int .u32 (s : Int)) ∧ w' = w := (second_any a w).mono fun _ _ ⟨h1, h2⟩ => ⟨by rw [h1, h], h2.symm⟩
theorem bel1 (w : World) (o : Obj) : Below w.heap.size w (w.alloc o) := (Below.refl _ _).alloc (Nat.le_refl _) _
theorem counted_any (n : Nat) (l : List Nat) (w : World) (ho : OkO n l) : Calls Tryz.prog 59 #[oV n l] w fun e w' => e = .returned (.int .i64 ((min n 16 : Nat) : Int)) ∧ Below w.heap.size w w' := by
  have h1 := oid_n (Bk.new w 26 (oc n l))
  have h8 := ho.n8
  rcases Nat.lt_or_ge 16 n with hn | hn
  · rw [Nat.min_eq_right (by omega)]
    go_enter Tryz.func59, Tryz.ntmps59
    go_wp2
    go_ret
    exact ⟨rfl, bel1 _ _⟩
  · rw [Nat.min_eq_left (by omega)]
    go_enter Tryz.func59, Tryz.ntmps59
    go_wp2
    go_ret
    exact ⟨rfl, bel1 _ _⟩

/-- Are all arcs behind the counted ones 0? -/
def tl0 (n : Nat) (l : List Nat) : Bool := (l.drop n).all (· == 0)
/-- Are the first two arcs valid? -/
def fst2 (l : List Nat) : Bool := match l with
  | a :: b :: _ => decide (a ≤ 2) && decide (b ≤ if a = 2 then 4294967215 else 39)
  | _ => false
/-- Check's answer. -/
def chkO (n : Nat) (l : List Nat) : Nat := if 2 ≤ n ∧ n ≤ 16 ∧ fst2 l = true ∧ tl0 n l = true then 0 else 1
def GiveF (w : World) (f : Nat) (e : Ending) (w' : World) : Prop := e = .returned (.int .i64 (f : Int)) ∧ Below w.heap.size w w'
theorem addr1 (g n : Nat) : (⟨g, 1, none⟩ : Addr).add n = ⟨g, 1 + n, none⟩ := by unfold Addr.add; split <;> simp_all
theorem len23 : Tryz.prog.arrayLen 24 = 16 := by kernel_rfl
theorem size23 (w : World) : (sizeOf (Tryz.prog.elem 24)).run Tryz.prog w = .ok 1 w := by kernel_rfl
theorem slice23 (g n : Nat) (hn : n < 16) (W : World) : (Instr.sliceAt 24 (.pointer (some ⟨g, 1, none⟩)) (some (.int .u8 (n : Int))) none none).run Tryz.prog W = .ok (.slice (some ⟨g, 1 + n, none⟩) (16 - n) (16 - n)) W := by
  rw [run_sliceAt_array_l (P := Tryz.prog) W 24 ⟨g, 1, none⟩ (by kernel_rfl) .u8 (n : Int) (by omega) (by rw [len23]; omega), size23, len23, Int.toNat_natCast]
  simp only [Result.andThen, slicedAt]
  rw [if_neg (by omega), addr1, Nat.mul_one]
theorem slice23e (g : Nat) (W : World) : (Instr.sliceAt 24 (.pointer (some ⟨g, 1, none⟩)) (some (.int .u8 16)) none none).run Tryz.prog W = .ok (.slice (some ⟨g, 1, none⟩) 0 0) W := by kernel_rfl
theorem slice23h (g n : Nat) (hn : n ≤ 16) (k : IntKind) (W : World) : (Instr.sliceAt 24 (.pointer (some ⟨g, 1, none⟩)) none (some (.int k (n : Int))) none).run Tryz.prog W = .ok (.slice (some ⟨g, 1, none⟩) n 16) W := by
  rw [run_sliceAt_array_h (P := Tryz.prog) W 24 ⟨g, 1, none⟩ (by kernel_rfl) k (n : Int) (by omega) (by rw [len23]; omega), size23, len23, Int.toNat_natCast]
  simp only [Result.andThen, slicedAt]
  rw [if_neg (by omega), Nat.zero_mul, Nat.sub_zero, Nat.sub_zero]; rfl

theorem tl0_cons {n : Nat} {l : List Nat} (h : n < l.length) : tl0 n l = ((l[n] == 0) && tl0 (n + 1) l) := by
  unfold tl0; rw [List.drop_eq_getElem_cons h]; rfl
theorem tl0_end {n : Nat} {l : List Nat} (h : l.length ≤ n) : tl0 n l = true := by unfold tl0; rw [List.drop_of_length_le h]; rfl
theorem chkO_tail {n : Nat} {l : List Nat} (h1 : 2 ≤ n) (h2 : n ≤ 16) (h3 : fst2 l = true) : chkO n l = if tl0 n l then 0 else 1 := by
  unfold chkO; cases tl0 n l <;> simp [*]

set_option maxRecDepth 100000 in
set_option maxHeartbeats 1000000 in
theorem check_any (n : Nat) (l : List Nat) (w : World) (ho : OkO n l) : Calls Tryz.prog 38 #[oV n l] w (GiveF w (chkO n l)) := by
  obtain ⟨h8, hl, h32⟩ := ho
  have S := Bk.new w 26 (oc n l)
  have B0 := Lib.hid (bel1 w (.cells (oc n l).toArray 26))
  have h1 := oid_n S
  by_cases hn : n < 2 ∨ 16 < n
  · rw [show chkO n l = 1 from if_neg (by omega)]
    rcases hn with hn | hn
    · go_enter Tryz.func38, Tryz.ntmps38
      go_wp2
      go_ret
      exact ⟨rfl, B0.out⟩
    · go_enter Tryz.func38, Tryz.ntmps38
      go_wp2
      go_ret
      exact ⟨rfl, B0.out⟩
  · obtain ⟨a, b, m, rfl⟩ : ∃ a b m, l = a :: b :: m := by
      match l, hl with
      | a :: b :: m, _ => exact ⟨a, b, m, rfl⟩
    have ha := h32 a (by simp)
    have hb := h32 b (by simp)
    have c0 := oid_a S (i := 0) (by simp)
    have c1 := oid_a S (i := 1) (by simp)
    simp only [List.getElem_cons_zero, List.getElem_cons_succ, Nat.zero_add, Nat.reduceAdd] at c0 c1
    have hn1 : 2 ≤ n := by omega
    have hn2 : n ≤ 16 := by omega
    clear hn
    by_cases ha2 : 2 < a
    · rw [show chkO n (a :: b :: m) = 1 from if_neg (by simp [fst2]; omega)]
      have hd : decide ((2 : Int) < (a : Int)) = true := by rw [decide_eq_true_iff]; omega
      go_enter Tryz.func38, Tryz.ntmps38
      go_wp2
      go_quiet ((go_at_call 57; exact Calls.quiet_of_same (second_s _ _ rfl _)))
      go_wp2
      go_ret
      exact ⟨rfl, bel_drewN B0.out _⟩
    · have hd : decide ((2 : Int) < (a : Int)) = false := by rw [decide_eq_false_iff_not]; omega
      obtain ⟨s, hs⟩ : ∃ s, (if a = 2 then 4294967215 else 39) = s := ⟨_, rfl⟩
      have HS := Lib.hid hs
      by_cases hb2 : s < b
      · rw [show chkO n (a :: b :: m) = 1 from if_neg (by simp [fst2, hs]; omega)]
        have hd2 : decide (s < b) = true := by rw [decide_eq_true_iff]; omega
        clear hs
        go_enter Tryz.func38, Tryz.ntmps38
        go_wp2
        go_quiet ((go_at_call 57; exact Calls.quiet_of_same (second_s _ _ HS.out _)))
        go_wp2
        go_ret
        exact ⟨rfl, bel_drewN B0.out _⟩
      · have hf2 : fst2 (a :: b :: m) = true := by simp [fst2, hs]; omega
        have HF := Lib.hid (chkO_tail hn1 hn2 hf2)
        have hd2 : decide (s < b) = false := by rw [decide_eq_false_iff_not]; omega
        clear hs hf2 hb2 ha2
        rcases Nat.lt_or_ge n 16 with hn16 | hn16
        · have hsl := slice23 w.heap.size n hn16
          go_enter Tryz.func38, Tryz.ntmps38
          go_wp2
          go_quiet ((go_at_call 57; exact Calls.quiet_of_same (second_s _ _ HS.out _)))
          clear hd hd2
          have S2 : Bk ((w.alloc (.cells (oc n (a :: b :: m)).toArray 26)).drewN nq) w.heap.size 26 (oc n (a :: b :: m)) := S
          have B2 := Lib.hid (bel_drewN B0.out nq)
          have h2 := oid_n S2
          generalize (w.alloc (.cells (oc n (a :: b :: m)).toArray 26)).drewN nq = wx at *
          generalize a :: b :: m = l at *
          have hx := Lib.hid hl
          clear c0 c1 h1 S
          go_wp2
          go_loop [5, 32] (fun _ i => ∃ j : Nat, j ≤ 16 - n ∧ i = .int .i64 (j : Int) ∧ tl0 n l = tl0 (n + j) l) (fun _ i => 16 - n - (intOf i).toNat)
          case atStart => exact ⟨0, by omega, rfl, rfl⟩
          case round =>
            obtain ⟨j, hj, rfl, ht⟩ := hrel
            have HT := Lib.hid ht
            clear ht
            rcases Nat.lt_or_ge j (16 - n) with hj2 | hj2
            · have hc := oid_a' S2 (i := n + j) (by omega)
              rw [← Nat.add_assoc] at hc
              have hx := h32 l[n + j] (List.getElem_mem _)
              have HC := Lib.hid (tl0_cons (n := n + j) (l := l) (by omega))
              generalize l[n + j] = x at *
              by_cases hx0 : x = 0
              · subst hx0
                go_wp2
                go_round
                case rel => exact ⟨j + 1, by omega, by go_num, by rw [HT.out, HC.out]; rfl⟩
                case measure => simp [intOf]; omega
              · have hb : ((x : Int) != 0) = true := by rw [bne_iff_ne]; omega
                have HE : Hid (chkO n l = 1) := Lib.hid (by rw [HF.out, HT.out, HC.out]; simp [hx0])
                clear hx0
                go_wp2
                go_ret
                rw [HE.out]
                exact ⟨rfl, B2.out⟩
            · obtain rfl : j = 16 - n := by omega
              have HE : Hid (chkO n l = 0) := Lib.hid (by rw [HF.out, HT.out, tl0_end (by rw [hx.out]; omega)]; rfl)
              go_wp2
              go_ret
              rw [HE.out]
              exact ⟨rfl, B2.out⟩
        · obtain rfl : n = 16 := by omega
          have hsl := slice23e w.heap.size
          rw [HF.out, tl0_end (by omega)]
          go_enter Tryz.func38, Tryz.ntmps38
          go_wp2
          go_quiet ((go_at_call 57; exact Calls.quiet_of_same (second_s _ _ HS.out _)))
          go_wp2
          go_loop [5, 32] (fun _ i => i = .int .i64 0) (fun _ _ => 0)
          case atStart => rfl
          case round =>
            subst hrel
            go_wp2
            go_ret
            exact ⟨rfl, bel_drewN B0.out _⟩
end Go.Proofs.YtaiiihdckdjpoaaGreatDoor

/-!
  The reference of layer 6: contracts of Check and Any; package oids: Any, IsAny.
  Conditions: the OID's cells are in their kinds.
-/
namespace Go.Proofs.YtaiiihdckdjpoaaGreatDoor
open Go.RowKit

theorem fst2_ab (a b : Nat) (m : List Nat) : fst2 (a :: b :: m) = true ↔ (a < 2 ∧ b < 40) ∨ (a = 2 ∧ b ≤ 4294967215) := by
  simp only [fst2, Bool.and_eq_true, decide_eq_true_eq]
  split <;> omega
theorem chkO_bad {n : Nat} {l : List Nat} (h : fst2 l = false) : chkO n l = 1 := if_neg (by simp [h])

set_option maxRecDepth 100000 in
set_option maxHeartbeats 1000000 in
theorem rcheck_any (n : Nat) (l : List Nat) (w : World) (ho : OkO n l) : Calls Tryz.prog 13 #[oV n l] w (GiveF w (chkO n l)) := by
  obtain ⟨h8, hl, h32⟩ := ho
  have S := Bk.new w 26 (oc n l)
  have B0 := Lib.hid (bel1 w (.cells (oc n l).toArray 26))
  have h1 := oid_n S
  by_cases hn : n < 2 ∨ 16 < n
  · rw [show chkO n l = 1 from if_neg (by omega)]
    rcases hn with hn | hn
    · go_enter Tryz.func13, Tryz.ntmps13
      go_wp2
      go_ret
      exact ⟨rfl, B0.out⟩
    · go_enter Tryz.func13, Tryz.ntmps13
      go_wp2
      go_ret
      exact ⟨rfl, B0.out⟩
  · obtain ⟨a, b, m, hlm⟩ : ∃ a b m, l = a :: b :: m := by
      match l, hl with
      | a :: b :: m, _ => exact ⟨a, b, m, rfl⟩
    have ha := h32 a (by simp [hlm])
    have hb := h32 b (by simp [hlm])
    have c0 := oid_a S (i := 0) (by omega)
    have c1 := oid_a S (i := 1) (by omega)
    have e0 : l[0] = a := by simp [hlm]
    have e1 : l[1] = b := by simp [hlm]
    rw [e0] at c0
    rw [e1] at c1
    have hn1 : 2 ≤ n := by omega
    have hn2 : n ≤ 16 := by omega
    have HL := Lib.hid hl
    have HF := Lib.hid (hlm ▸ fst2_ab a b m : fst2 l = true ↔ _)
    clear hn e0 e1 hlm
    go_enter Tryz.func13, Tryz.ntmps13
    go_wp2
    generalize w.alloc (.cells (oc n l).toArray 26) = wx at *
    go_loop [3] (fun i => ∃ j : Nat, n ≤ j ∧ j ≤ 16 ∧ i = .int .i64 (j : Int) ∧ tl0 n l = tl0 j l) (fun i => 16 - (intOf i).toNat)
    case atStart => exact ⟨n, by omega, hn2, rfl, rfl⟩
    case round =>
      obtain ⟨j, hjn, hj, rfl, ht⟩ := hrel
      have HT := Lib.hid ht
      clear ht
      rcases Nat.lt_or_ge j 16 with hj2 | hj2
      · have hc := oid_a' S (i := j) (by rw [HL.out]; exact hj2)
        have hx := h32 l[j] (List.getElem_mem _)
        have HC := Lib.hid (tl0_cons (n := j) (l := l) (by rw [HL.out]; exact hj2))
        generalize l[j]'(by rw [HL.out]; exact hj2) = x at *
        clear hl
        by_cases hx0 : x = 0
        · subst hx0
          go_wp2
          go_round
          case rel => exact ⟨j + 1, by omega, by omega, by go_num, by rw [HT.out, HC.out]; rfl⟩
          case measure => simp [intOf]; omega
        · have hb : ((x : Int) != 0) = true := by rw [bne_iff_ne]; omega
          have HE : Hid (chkO n l = 1) := Lib.hid (if_neg (by rw [HT.out, HC.out]; simp [hx0]))
          clear hx0
          go_wp2
          go_ret
          rw [HE.out]
          exact ⟨rfl, B0.out⟩
      · obtain rfl : j = 16 := by omega
        have HT2 : Hid (tl0 n l = true) := Lib.hid (by rw [HT.out, tl0_end (by omega)])
        clear hl
        by_cases hg : (a < 2 ∧ b < 40) ∨ (a = 2 ∧ b ≤ 4294967215)
        · have HE : Hid (chkO n l = 0) := Lib.hid (if_pos ⟨hn1, hn2, HF.out.2 hg, HT2.out⟩)
          rcases hg with ⟨g1, g2⟩ | ⟨rfl, g2⟩
          · go_wp2
            go_ret
            rw [HE.out]
            exact ⟨rfl, B0.out⟩
          · go_wp2
            go_ret
            rw [HE.out]
            exact ⟨rfl, B0.out⟩
        · have HE : Hid (chkO n l = 1) := Lib.hid (chkO_bad (by rw [← Bool.not_eq_true, HF.out]; exact hg))
          by_cases ga : a < 2
          · have gb : 40 ≤ b := by omega
            clear hg
            go_wp2
            go_ret
            rw [HE.out]
            exact ⟨rfl, B0.out⟩
          · by_cases ga2 : a = 2
            · subst ga2
              have gb : 4294967215 < b := by omega
              clear hg
              go_wp2
              go_ret
              rw [HE.out]
              exact ⟨rfl, B0.out⟩
            · have ga3 : ((a : Int) == 2) = false := by rw [beq_eq_false_iff_ne]; omega
              clear hg ga2
              go_wp2
              go_ret
              rw [HE.out]
              exact ⟨rfl, B0.out⟩

/-- anyPolicy's arcs. -/
def anyL : List Nat := [2, 5, 29, 32, 0, 0, 0, 0, 0, 0, 0, 0, 0, 0, 0, 0]
def zeroL : List Nat := List.replicate 16 0
def GiveO (w : World) (n : Nat) (l : List Nat) (e : Ending) (w' : World) : Prop := e = .returned (oV n l) ∧ Below w.heap.size w w'
theorem zero25 : ∀ w : World, (zeroValue 26).run Tryz.prog w = .ok (oV 0 zeroL) w := fun _ => by kernel_rfl
end Go.Proofs.YtaiiihdckdjpoaaGreatDoor

/-!
  A whole OID stored and returned; the reference of layer 6: contract of Any; package oids: Any, IsAny, Of; the statements' helper made.
  Conditions: the OID's cells are in their kinds.
-/
namespace Go.Proofs.YtaiiihdckdjpoaaGreatDoor
open Go.RowKit

theorem oc_one (n : Nat) (l : List Nat) : (oc n l).toArray.all (·.oneCell') = true := by
  rw [Array.all_eq_true_iff_forall_mem]
  intro v hv
  simp only [List.mem_toArray, oc, List.mem_cons, cs32, List.mem_map] at hv
  rcases hv with rfl | ⟨x, _, rfl⟩ <;> rfl
/-- A whole OID is stored. -/
theorem store25 {W : World} {g n : Nat} {l : List Nat} {cs : List Value} (h : Bk W g 26 cs) (hc : cs.length = 17) (hl : l.length = 16) :
    ∃ W', (storeVar 26 ⟨g, 0, none⟩ (.agg (oc n l).toArray)).run Tryz.prog W = .ok () W' ∧ Bk W' g 26 (oc n l) ∧ W.grownBy W' (some g) ∧ W'.heap.size = W.heap.size :=
  ⟨W.setRow g (oc n l).toArray, run_storeVar_row (P := Tryz.prog) W g 26 26 cs.toArray (oc n l).toArray h (by rw [List.size_toArray, oc_length, hl]; exact info25) (by simp [oc_length, hc, hl]) (oc_one n l),
    setRow_heap W g _ _ _ _ h, ⟨rfl, rfl, rfl, by simp [World.setRow], fun k hk hne => setRow_other W g k _ (fun e => hne (by rw [e]))⟩, by simp [World.setRow]⟩
theorem range25 {w : World} {g n : Nat} {l : List Nat} (h : Bk w g 26 (oc n l)) : w.rangeAt g 0 (oc n l) := fun j v hj => by rw [Nat.zero_add, h.cell]; exact hj
/-- The walk's step at the load of a whole OID. -/
theorem wpList_load25 {ops : Array Oper} {rest : List Oper} {o : Oper} {a : Act} {w : World} {Q : Exit → Act → World → Prop} (hgd : o.guard = none) (x : Operand) (ho : o.op = .load 26 x)
    {g n : Nat} {l : List Nat} (hx : a.eval x = .pointer (some ⟨g, 0, none⟩)) (hg : Bk w g 26 (oc n l)) (hl : l.length = 16) (h : wpList Tryz.prog ops Q rest (a.put o.dst (oV n l)) w) : wpList Tryz.prog ops Q (o :: rest) a w :=
  wpList_load_mid hgd _ x ho g 0 hx (oc n l) _ (range25 hg) Tryz.underlying26 rfl (by rw [oc_length, hl]; exact info25) h
/-- .. at its store. -/
theorem wpList_store25 {ops : Array Oper} {rest : List Oper} {o : Oper} {a : Act} {w : World} {Q : Exit → Act → World → Prop} (hgd : o.guard = none) (x v : Operand) (ho : o.op = .store 26 x v)
    {g n : Nat} {l : List Nat} {cs : List Value} (hx : a.eval x = .pointer (some ⟨g, 0, none⟩)) (hv : a.eval v = oV n l) (hg : Bk w g 26 cs) (hc : cs.length = 17) (hl : l.length = 16)
    (h : ∀ w', Bk w' g 26 (oc n l) → w.grownBy w' (some g) → w'.heap.size = w.heap.size → wpList Tryz.prog ops Q rest (a.put o.dst undef) w') : wpList Tryz.prog ops Q (o :: rest) a w :=
  wpList_plain hgd fun K hK => by
    obtain ⟨W', h1, h2, h3, h4⟩ := store25 hg hc hl (n := n)
    have hK' := hK _ _ (h W' h2 h3 h4)
    unfold Oper.wp execOp
    simp only [ho, hx, hv, Instr.storeAt, Instr.sureAddr, Sem.run_bind, Sem.run_pure, Result.andThen_ok, h1]
    exact hK'
/-- A whole OID is returned. -/
theorem ret25 {fn : Func} {p : Tmp} (h : fn.results = #[.cell p 26]) {a : Act} {w : World} {g n : Nat} {l : List Nat} (hp : a.tmps.getD p undef = .pointer (some ⟨g, 0, none⟩)) (hg : Bk w g 26 (oc n l)) (hl : l.length = 16) (hd : a.defers = [])
    {R : Ending → World → Prop} (hR : R (.returned (oV n l)) w) : bodyPost Tryz.prog fn R .ret a w :=
  bodyPost_ret (results_cell_row h a.tmps w g _ _ _ _ hp hg Tryz.underlying26 rfl (by rw [List.size_toArray, oc_length, hl]; exact info25)) hd hR

/-- The arcs of a slice, and zeros behind them. -/
def pad (l : List Nat) : List Nat := l ++ List.replicate (16 - l.length) 0
theorem pad_length {l : List Nat} (h : l.length ≤ 16) : (pad l).length = 16 := by simp [pad]; omega
theorem okO_pad {l : List Nat} (h : l.length ≤ 16) (ha : ∀ x ∈ l, x < 4294967296) : OkO l.length (pad l) :=
  ⟨by omega, pad_length h, fun x hx => by
    rcases List.mem_append.1 hx with hx | hx
    · exact ha x hx
    · rw [(List.mem_replicate.1 hx).2]; omega⟩
theorem pad_set (l : List Nat) (j : Nat) (hj : j < l.length) (h : l.length ≤ 16) : (pad (l.take j)).set j l[j] = pad (l.take (j + 1)) := by
  unfold pad
  rw [List.take_succ_eq_append_getElem hj, List.length_append, List.length_take, List.length_singleton, Nat.min_eq_left (by omega), show 16 - j = (16 - (j + 1)) + 1 by omega, List.replicate_succ,
    List.set_append_right _ _ (by rw [List.length_take]; omega)]
  rw [List.length_take, Nat.min_eq_left (by omega), Nat.sub_self, List.set_cons_zero, List.append_assoc]
  rfl
/-- A slice of words of 32 bits. -/
def R32 (w : World) (A : Option Addr) (l : List Nat) : Prop := Rd w A (cs32 l)
theorem R32.at_ {w : World} {A : Option Addr} {l : List Nat} (h : R32 w A l) {k : Nat} (hk : k < l.length) : ∃ b off, A = some ⟨b, off, none⟩ ∧ b < w.heap.size ∧ w.cell? ⟨b, off + k, none⟩ = some (.int .u32 (l[k] : Int)) := by
  obtain ⟨b, off, e, hb, hc⟩ := Rd.at_ h (k := k) (by rw [cs32_length]; exact hk)
  exact ⟨b, off, e, hb, by simpa [cs32, by32] using hc⟩
theorem oc_set (n : Nat) (l : List Nat) (j x : Nat) : (oc n l).set (j + 1) (.int .u32 (x : Int)) = oc n (l.set j x) := by
  unfold oc cs32; rw [List.set_cons_succ, List.map_set]; rfl
theorem oc_set0 (n m : Nat) (l : List Nat) : (oc n l).set 0 (.int .u8 (m : Int)) = oc m l := rfl

set_option maxHeartbeats 1000000 in
set_option maxRecDepth 100000 in
theorem made_any (A : Option Addr) (l : List Nat) (c : Nat) (w : World) (hl : l.length ≤ 16) (hA : R32 w A l) :
    Calls Tryz.prog 69 #[.slice A l.length c] w (GiveO w l.length (pad l)) := by
  have hz := zero25
  have hzp : zeroL = pad (l.take 0) := by rw [List.take_zero]; rfl
  obtain ⟨zl, hzl⟩ : ∃ zl, zeroL = zl := ⟨_, rfl⟩
  rw [hzl] at hz hzp
  have HZ := Lib.hid hzp
  have hzlen : zl.length = 16 := by rw [← hzl]; rfl
  have HZL := Lib.hid hzlen
  clear hzl hzp hzlen
  have h0 := Bk.new w 26 (oc 0 zl)
  have h1 := Bk.new (w.alloc (.cells (oc 0 zl).toArray 26)) 26 (oc 0 zl)
  have h0' := h0.alloc (.cells (oc 0 zl).toArray 26)
  rw [World.size_alloc] at h1
  have B0 := Lib.hid ((bel1 w (.cells (oc 0 zl).toArray 26)).alloc (by simp) (.cells (oc 0 zl).toArray 26))
  have hsz : w.heap.size + 1 < ((w.alloc (.cells (oc 0 zl).toArray 26)).alloc (.cells (oc 0 zl).toArray 26)).heap.size := by simp
  have c0 := oid_n h1
  have f0 := h1.free 0
  go_enter Tryz.func69, Tryz.ntmps69
  go_upto_region 2 with fail
  generalize (w.alloc (.cells (oc 0 zl).toArray 26)).alloc (.cells (oc 0 zl).toArray 26) = wx at *
  go_upto_region 3 with fail
  have k1 := h1.store 0 (.int .u8 (l.length : Int))
  rw [oc_set0] at k1
  have k0 := h0'.far (p := ⟨w.heap.size + 1, 0, none⟩) (by simp) (.int .u8 (l.length : Int))
  have B1 := Lib.hid (B0.out.setCell (p := ⟨w.heap.size + 1, 0, none⟩) (by simp) (.int .u8 (l.length : Int)))
  clear h1 h0' c0 f0 hsz B0
  have hs1 : w.heap.size + 1 < (wx.setCell ⟨w.heap.size + 1, 0, none⟩ (.int .u8 (l.length : Int))).heap.size := k1.lt
  generalize wx.setCell ⟨w.heap.size + 1, 0, none⟩ (.int .u8 (l.length : Int)) = w1 at *
  go_wp2
  go_loopw [4] (fun i wr => ∃ j : Nat, j ≤ l.length ∧ i = .int .i64 (j : Int) ∧ Bk wr (w.heap.size + 1) 26 (oc l.length (pad (l.take j))) ∧ Bk wr w.heap.size 26 (oc 0 zl) ∧ Below w.heap.size w wr) (fun i _ => l.length - (intOf i).toNat)
  case atStart => exact ⟨0, Nat.zero_le _, rfl, HZ.out ▸ k1, k0, B1.out⟩
  case round =>
    obtain ⟨j, hj, rfl, r1, r0, rb⟩ := hrel
    have RB := Lib.hid rb
    have HR0 := Lib.hid r0
    clear rb r0
    rcases Nat.lt_or_ge j l.length with hj2 | hj2
    · obtain ⟨b, off, rfl, hb, hc⟩ := hA.at_ hj2
      have hc := (RB.out.cell (p := ⟨b, off + j, none⟩) hb).trans hc
      have hp := oid_a' r1 (i := j) (by rw [pad_length (by rw [List.length_take]; omega)]; omega)
      have hf := r1.free (1 + j)
      have HS := Lib.hid (r1.store (1 + j) (.int .u32 (l[j] : Int)))
      have HS2 : Hid (((oc l.length (pad (l.take j))).set (1 + j) (.int .u32 (l[j] : Int))) = oc l.length (pad (l.take (j + 1)))) := Lib.hid (by rw [Nat.add_comm 1 j, oc_set, pad_set l j hj2 hl])
      have HF := Lib.hid (HR0.out.far (p := ⟨w.heap.size + 1, 1 + j, none⟩) (by simp) (.int .u32 (l[j] : Int)))
      have HB := Lib.hid (RB.out.setCell (p := ⟨w.heap.size + 1, 1 + j, none⟩) (by simp) (.int .u32 (l[j] : Int)))
      generalize l[j] = x at *
      go_wp2
      exact ⟨⟨j + 1, by omega, by go_num, HS2.out ▸ HS.out, HF.out, HB.out⟩, by simp [intOf]; omega⟩
    · obtain rfl : j = l.length := by omega
      rw [List.take_length] at r1
      have hpl := pad_length hl
      have HR1 := Lib.hid r1
      clear r1
      generalize pad l = pl at *
      go_wp2_with (first | (refine wpList_load25 rfl (.tmp 3) rfl rfl HR1.out hpl ?_) | (refine wpList_store25 rfl (.tmp 2) (.tmp 22) rfl rfl rfl HR0.out (by rw [oc_length, HZL.out]) hpl ?_; intro w5 S5 hg5 hz5; have HS5 := Lib.hid S5; have HB5 := Lib.hid (RB.out.grown hg5 RB.out.size (fun k e => by injection e with e; omega)); clear S5 hg5 hz5))
      exact ret25 rfl rfl HS5.out hpl rfl ⟨rfl, HB5.out⟩
end Go.Proofs.YtaiiihdckdjpoaaGreatDoor

/-!
  The reference of layer 6: contract of Any.
  Conditions: none.
-/
namespace Go.Proofs.YtaiiihdckdjpoaaGreatDoor
open Go.RowKit

set_option maxHeartbeats 1000000 in
set_option maxRecDepth 100000 in
theorem rany_any (w : World) : Calls Tryz.prog 16 #[] w (GiveO w 5 anyL) := by
  go_enter Tryz.func16, Tryz.ntmps16
  go_wp2
  exact ret25 rfl rfl ((Bk.new w 26 (oc 5 anyL)).alloc _) rfl rfl ⟨rfl, (bel1 _ _).alloc (by simp) _⟩
end Go.Proofs.YtaiiihdckdjpoaaGreatDoor

/-!
  Package oids: contracts of Of, Any and IsAny.
  Conditions: the OID's cells are in their kinds.
-/
namespace Go.Proofs.YtaiiihdckdjpoaaGreatDoor
open Go.RowKit

/-- Of's answer. -/
def ofN (l : List Nat) : Nat := if l.length ≤ 16 ∧ chkO l.length (pad l) = 0 then l.length else 0
def ofL (l : List Nat) : List Nat := if l.length ≤ 16 ∧ chkO l.length (pad l) = 0 then pad l else zeroL
theorem zeroL_length : zeroL.length = 16 := rfl
theorem splice_oc (n : Nat) (l : List Nat) : splice (oc n zeroL) 1 (cs32 l) = oc n (pad l) := by
  unfold splice oc pad cs32 zeroL
  rw [List.length_map, List.take_succ_cons, List.take_zero, Nat.add_comm, List.drop_succ_cons, List.map_append, List.map_replicate, List.map_replicate, List.drop_replicate]
  rfl
theorem cs32_one (l : List Nat) : ∀ v ∈ cs32 l, v.oneCell' = true := fun v hv => by obtain ⟨n, _, rfl⟩ := List.mem_map.1 hv; rfl
theorem slice23a (g : Nat) (W : World) : (Instr.sliceAt 24 (.pointer (some ⟨g, 1, none⟩)) none none none).run Tryz.prog W = .ok (.slice (some ⟨g, 1, none⟩) 16 16) W := by kernel_rfl
/-- The walk's step at the builtin copy, by what it runs to. -/
theorem wpList_copy {P : Program} {w : World} {ops : Array Oper} {rest : List Oper} {o : Oper} {a : Act} {Q : Exit → Act → World → Prop} (hgd : o.guard = none) (s x : Operand) (t1 t2 : TypeId)
    (ho : o.op = .call { callee := .builtin .copy, args := #[s, x], argTypes := #[t1, t2] }) (u v : Value) (hs : a.eval s = u) (hx : a.eval x = v) {r : Value} {w1 : World}
    (hrun : (Builtin.copy_ #[t1, t2] o.type #[u, v]).run P w = .ok r w1) (h : wpList P ops Q rest (a.put o.dst r) w1) : wpList P ops Q (o :: rest) a w := by
  refine wpList_plain hgd fun K hK => ?_
  have hK' := hK _ _ h
  unfold Oper.wp execOp
  simp only [ho, resolve, invoke, builtin, Sem.run_bind, Sem.run_pure, Result.andThen_ok, List.map_toArray, List.map_cons, List.map_nil, hs, hx, hrun]
  exact hK'
theorem copy23 {w : World} {g n c : Nat} {A : Option Addr} {l : List Nat} (S : Bk w g 26 (oc n zeroL)) (hA : R32 w A l) (hl : l.length ≤ 16) :
    ∃ r w', (Builtin.copy_ #[70, 70] 3 #[.slice (some ⟨g, 1, none⟩) 16 16, .slice A l.length c]).run Tryz.prog w = .ok r w' ∧ Bk w' g 26 (oc n (pad l)) ∧ w.grownBy w' (some g) := by
  cases l with
  | nil => exact ⟨_, w, run_copy_none (P := Tryz.prog) w 70 70 3 23 _ _ _ _ _ _ Tryz.underlying70 (by kernel_rfl) (by simp), S, World.grownBy.refl _ _⟩
  | cons x l =>
    obtain ⟨b, off, rfl, hb, hc⟩ := hA.all_ (by simp [cs32])
    have hlen : (cs32 (x :: l)).length = (x :: l).length := cs32_length _
    have hrun := run_copy_row (P := Tryz.prog) w 70 70 3 23 g 1 16 16 ⟨b, off, none⟩ (x :: l).length c (oc n zeroL).toArray 26 (cs32 (x :: l)) Tryz.underlying70 (by kernel_rfl) S (by rw [hlen]; exact (Nat.min_eq_left hl).symm)
      (fun j v hv => by
        obtain ⟨hj, hj2⟩ := List.getElem?_eq_some_iff.1 hv
        rw [show (⟨b, off, none⟩ : Addr).add j = ⟨b, off + j, none⟩ by unfold Addr.add; split <;> simp_all, hc j hj, hj2])
      (by rw [hlen, List.size_toArray, oc_length, zeroL_length]; omega) (cs32_one _)
    refine ⟨_, _, hrun, ?_, ⟨rfl, rfl, rfl, by simp [World.setRow], fun k hk hne => setRow_other w g k _ (fun e => hne (by rw [e]))⟩⟩
    have := setRow_heap w g (oc n zeroL).toArray ((oc n zeroL).take 1 ++ (cs32 (x :: l) ++ (oc n zeroL).drop (1 + (cs32 (x :: l)).length))).toArray 26 _ S
    rw [← splice_oc]
    exact this

set_option maxHeartbeats 1000000 in
set_option maxRecDepth 100000 in
theorem of_any (A : Option Addr) (l : List Nat) (c : Nat) (w : World) (hm : l.length ≤ maxLen) (ha : ∀ x ∈ l, x < 4294967296) (hA : R32 w A l) :
    Calls Tryz.prog 35 #[.slice A l.length c] w (GiveO w (ofN l) (ofL l)) := by
  have hz := zero25
  have hzlen := zeroL_length
  unfold maxLen at hm
  by_cases hl : l.length ≤ 16
  · have h0 := Bk.new w 26 (oc 0 zeroL)
    have B0 := Lib.hid (bel1 w (.cells (oc 0 zeroL).toArray 26))
    have hcz : chkO l.length (pad l) = 0 ∨ chkO l.length (pad l) = 1 := by unfold chkO; split <;> simp
    have HOK := Lib.hid (okO_pad hl ha)
    obtain ⟨zl, hzl⟩ : ∃ zl, zeroL = zl := ⟨_, rfl⟩
    rw [hzl] at h0 B0 hz hzlen
    have HZE := Lib.hid hzl
    clear hzl
    have HZ := Lib.hid hzlen
    have H0 := Lib.hid h0
    clear hzlen h0
    go_enter Tryz.func35, Tryz.ntmps35
    go_upto_region 3 with fail
    generalize w.alloc (.cells (oc 0 zl).toArray 26) = w1 at *
    have H1 := Lib.hid (H0.out.alloc (.cells (oc 0 zl).toArray 26))
    have B1 := Lib.hid (B0.out.alloc B0.out.size (.cells (oc 0 zl).toArray 26))
    have hlt := H0.out.lt
    have HLT := Lib.hid hlt
    go_upto_region 4 with (refine wpList_store25 rfl (.tmp 3) (.tmp 11) rfl (n := l.length) (l := zl) rfl rfl (Bk.new w1 26 (oc 0 zl)) (by rw [oc_length, HZ.out]) HZ.out ?_; intro w2 S2 hg2 hz2; have HS2 := Lib.hid S2; have HB2 := Lib.hid (B1.out.grown hg2 B1.out.size (fun k e => by injection e with e; have := B0.out.size; omega)); have HR2 := Lib.hid (H1.out.only hg2 (by intro e; injection e with e; omega)); clear S2 hg2 hz2)
    have hA2 := hA.below (HB2.out)
    obtain ⟨r, w3, hrun, S3, hg3⟩ := copy23 (c := c) (HZE.out ▸ HS2.out) hA2 hl
    have HS3 := Lib.hid S3
    have HB3 := Lib.hid (HB2.out.grown hg3 HB2.out.size (fun k e => by injection e with e; have := B0.out.size; omega))
    have HR3 := Lib.hid (HR2.out.only hg3 (by intro e; injection e with e; omega))
    clear S3 hg3 hA2 HR2 HS2 HB2 H1 B1 H0
    have hpl := pad_length hl
    have HOF := Lib.hid (show ofN l = if chkO l.length (pad l) = 0 then l.length else 0 by unfold ofN; simp [hl])
    have HOL := Lib.hid (show ofL l = if chkO l.length (pad l) = 0 then pad l else zeroL by unfold ofL; simp [hl])
    generalize pad l = pl at *
    go_wp2_with (first | (refine wpList_copy rfl _ _ _ _ rfl _ _ rfl rfl hrun ?_) | (refine wpList_load25 rfl (.tmp 3) rfl rfl HS3.out hpl ?_))
    refine (check_any l.length pl w3 HOK.out).mono ?_
    rintro e w4 ⟨rfl, hb4⟩
    have HB4 := Lib.hid (HB3.out.trans (hb4.mono HB3.out.size))
    have HR4 := Lib.hid (HR3.out.below hb4 HR3.out.lt)
    have HS4 := Lib.hid (HS3.out.below hb4 HS3.out.lt)
    clear hb4 HB3 HR3 HS3 hrun
    rcases hcz with hcz | hcz
    · have HC := Lib.hid hcz
      rw [hcz]
      clear hcz
      go_wp2_with (first | (refine wpList_load25 rfl (.tmp 3) rfl rfl HS4.out hpl ?_) | (refine wpList_store25 rfl (.tmp 2) (.tmp 20) rfl rfl rfl HR4.out (by rw [oc_length, HZ.out]) hpl ?_; intro w5 S5 hg5 hz5; have HS5 := Lib.hid S5; have HB5 := Lib.hid (HB4.out.grown hg5 HB4.out.size (fun k e => by injection e with e; omega)); clear S5 hg5 hz5))
      exact ret25 rfl rfl HS5.out hpl rfl ⟨by rw [HOF.out, HOL.out, if_pos HC.out, if_pos HC.out], HB5.out⟩
    · have HC : Hid (chkO l.length pl ≠ 0) := Lib.hid (by rw [hcz]; decide)
      rw [hcz]
      clear hcz
      go_wp2_with (refine wpList_store25 rfl (.tmp 2) (.tmp 19) rfl rfl rfl HR4.out (by rw [oc_length, HZ.out]) HZ.out ?_; intro w5 S5 hg5 hz5; have HS5 := Lib.hid S5; have HB5 := Lib.hid (HB4.out.grown hg5 HB4.out.size (fun k e => by injection e with e; omega)); clear S5 hg5 hz5)
      exact ret25 rfl rfl HS5.out HZ.out rfl ⟨by rw [HOF.out, HOL.out, if_neg HC.out, if_neg HC.out, HZE.out], HB5.out⟩
  · rw [show ofN l = 0 from if_neg (fun h => hl h.1), show ofL l = zeroL from if_neg (fun h => hl h.1)]
    have h0 := Bk.new w 26 (oc 0 zeroL)
    have B0 := Lib.hid (bel1 w (.cells (oc 0 zeroL).toArray 26))
    generalize zeroL = zl at *
    have HZ := Lib.hid hzlen
    have H0 := Lib.hid h0
    clear hzlen h0
    go_enter Tryz.func35, Tryz.ntmps35
    go_wp2_with (refine wpList_store25 rfl (.tmp 2) (.tmp 7) rfl rfl rfl H0.out (by rw [oc_length, HZ.out]) HZ.out ?_; intro w5 S5 hg5 hz5; have HS5 := Lib.hid S5; have HB5 := Lib.hid (B0.out.grown hg5 B0.out.size (fun k e => by injection e with e; omega)); clear S5 hg5 hz5)
    exact ret25 rfl rfl HS5.out HZ.out rfl ⟨rfl, HB5.out⟩
theorem r32_lit (w : World) (l : List Nat) : R32 (w.alloc (.cells (cs32 l).toArray 23)) (some ⟨w.heap.size, 0, none⟩) l := by
  have := (Bk.new w 23 (cs32 l)).rd 0; rw [List.drop_zero] at this; exact this
/-- Of at a literal. -/
theorem of_lit (l : List Nat) (N n : Nat) (L : List Nat) (W : World) (hN : l.length = N) (hm : N ≤ 100) (ha : l.all (fun x => decide (x < 4294967296)) = true) (h1 : ofN l = n) (h2 : ofL l = L) :
    Calls Tryz.prog 35 #[.slice (some ⟨W.heap.size, 0, none⟩) N N] (W.alloc (.cells (cs32 l).toArray 23)) fun e w' => e = .returned (oV n L) ∧ Hid (Below W.heap.size W w') := by
  subst hN
  exact (of_any _ l l.length _ (by unfold maxLen; omega) (fun x hx => by simpa using List.all_eq_true.1 ha x hx) (r32_lit W l)).mono fun e w' ⟨h3, h4⟩ => ⟨by rw [h3, h1, h2], Lib.hid ((bel1 _ _).trans (h4.mono (bel1 _ _).size))⟩
theorem anyL_length : anyL.length = 16 := rfl
set_option maxRecDepth 100000 in
theorem any_any (w : World) : Calls Tryz.prog 36 #[] w (GiveO w 5 anyL) := by
  have hz := zero25
  have hzlen := zeroL_length
  have halen := anyL_length
  have h1 : ofN [2, 5, 29, 32, 0] = 5 := by decide +kernel
  have h2 : ofL [2, 5, 29, 32, 0] = anyL := by decide +kernel
  have h0 := Bk.new w 26 (oc 0 zeroL)
  have B0 := Lib.hid (bel1 w (.cells (oc 0 zeroL).toArray 26))
  generalize zeroL = zl at *
  generalize anyL = al at *
  have HZ := Lib.hid hzlen
  have HA := Lib.hid halen
  have H0 := Lib.hid h0
  have H1 := Lib.hid h1
  have H2 := Lib.hid h2
  clear hzlen h0 h1 h2 halen
  go_enter Tryz.func36, Tryz.ntmps36
  go_upto_region 1 with fail
  generalize w.alloc (.cells (oc 0 zl).toArray 26) = w1 at *
  go_wp2_with fail
  refine (of_lit [2, 5, 29, 32, 0] 5 5 al w1 rfl (by decide) (by decide) H1.out H2.out).mono ?_
  rintro e w2 ⟨rfl, hb2⟩
  have HB2 := Lib.hid (B0.out.trans (hb2.out.mono B0.out.size))
  have HR2 := Lib.hid (H0.out.below hb2.out H0.out.lt)
  clear hb2 H0 B0
  go_wp2_with (refine wpList_store25 rfl (.tmp 0) (.tmp 2) rfl rfl rfl HR2.out (by rw [oc_length, HZ.out]) HA.out ?_; intro w5 S5 hg5 hz5; have HS5 := Lib.hid S5; have HB5 := Lib.hid (HB2.out.grown hg5 HB2.out.size (fun k e => by injection e with e; omega)); clear S5 hg5 hz5)
  exact ret25 rfl rfl HS5.out HA.out rfl ⟨rfl, HB5.out⟩

theorem info22 : (Tryz.prog.info? 23).isSome = true := by kernel_rfl
theorem cells22 : Tryz.prog.cellsOf 23 = 1 := by kernel_rfl
theorem items_run (d : Nat) (l k : List Nat) (w : World) : ∀ is : List Nat, (∀ i ∈ is, i < l.length ∧ i < k.length) →
    (Op.eqItems (d + 1) 23 (Tryz.prog.cellsOf 23) (cs32 l).toArray (cs32 k).toArray is).run Tryz.prog w = .ok (is.all fun i => l.getD i 0 == k.getD i 0) w
  | [], _ => by simp [Op.eqItems]
  | i :: is, h => by
    have hi := h i (by simp)
    have px : ∀ l : List Nat, i < l.length → (part 23 (cs32 l).toArray (i * Tryz.prog.cellsOf 23)).run Tryz.prog w = .ok (.int .u32 (l.getD i 0 : Int)) w := fun l hl => by
      rw [cells22, Nat.mul_one]
      simp [part, isAgg, run_underlying Tryz.underlying23, cs32_get hl, List.getD, List.getElem?_eq_getElem hl]
    have pe : (Op.equalIn (d + 1) 23 (.int .u32 (l.getD i 0 : Int)) (.int .u32 (k.getD i 0 : Int))).run Tryz.prog w = .ok (l.getD i 0 == k.getD i 0) w := by
      rw [run_equalIn_int w d _ .u32 .u32 _ _ Tryz.underlying23]
      congr 1
      rw [Bool.eq_iff_iff, beq_iff_eq, beq_iff_eq]
      omega
    have ih := items_run d l k w is fun j hj => h j (by simp [hj])
    simp only [Op.eqItems, Sem.run_bind, px l hi.1, px k hi.2, pe, Result.andThen_ok, List.all_cons]
    cases hb : (l.getD i 0 == k.getD i 0)
    · simp
    · simpa using ih
theorem all_get {l k : List Nat} (h : l.length = k.length) : ((List.range l.length).all fun i => l.getD i 0 == k.getD i 0) = decide (l = k) := by
  rw [Bool.eq_iff_iff, decide_eq_true_iff, List.all_eq_true]
  constructor
  · intro h1
    apply List.ext_getElem h
    intro i hi hk
    have := h1 i (by simpa using hi)
    simpa [List.getD, List.getElem?_eq_getElem hi, List.getElem?_eq_getElem hk] using this
  · rintro rfl i _; simp
theorem fields25 : ((Tryz.prog.fieldsOf 26).toList.map fun f => (f.name != "_", f.type, f.offset)) = [(true, 5, 0), (true, 24, 1)] := by kernel_rfl
theorem under25 : Tryz.prog.underlying 26 = some (.struct (Tryz.prog.fieldsOf 26)) := by
  have h := Tryz.underlying26
  simp [Program.fieldsOf, h]
theorem equalIn25 (d : Nat) {n m : Nat} {l k : List Nat} (hl : l.length = 16) (hk : k.length = 16) (w : World) : (Op.equalIn (d + 3) 26 (oV n l) (oV m k)).run Tryz.prog w = .ok (decide (n = m) && decide (l = k)) w := by
  have hi : Tryz.prog.info? 23 = some ((Tryz.prog.info? 23).get info22) := (Option.some_get _).symm
  rw [run_equalIn_struct w (d + 2) 26 _ _ under25 (by kernel_rfl)]
  have hf := fields25
  generalize (Tryz.prog.fieldsOf 26).toList = fs at hf
  match fs, hf, (show fs.length = 2 by simpa using congrArg List.length hf) with
  | [f, g], hf, _ =>
    simp only [List.map_cons, List.map_nil, List.cons.injEq, Prod.mk.injEq, and_true] at hf
    obtain ⟨⟨f1, f2, f3⟩, g1, g2, g3⟩ := hf
    have f1 := bne_iff_ne.1 f1
    have g1 := bne_iff_ne.1 g1
    have p1 : ∀ (n : Nat) (l : List Nat), (part 5 (oc n l).toArray 0).run Tryz.prog w = .ok (.int .u8 (n : Int)) w := fun n l => by
      simp [part, isAgg, run_underlying Tryz.underlying5, oc]
    have p2 : ∀ (n : Nat) (l : List Nat), l.length = 16 → (part 24 (oc n l).toArray 1).run Tryz.prog w = .ok (.agg (cs32 l).toArray) w := fun n l h => by
      simp [part, isAgg, run_underlying Tryz.underlying24, oc]
      rw [List.take_of_length_le (by rw [cs32_length, h]; omega)]
    have e1 : (Op.equalIn (d + 2) 5 (.int .u8 (n : Int)) (.int .u8 (m : Int))).run Tryz.prog w = .ok (decide (n = m)) w := by
      rw [run_equalIn_int w (d + 1) _ .u8 .u8 _ _ Tryz.underlying5]
      refine congrArg (fun b => Result.ok b w) ?_
      rw [Bool.eq_iff_iff, beq_iff_eq, decide_eq_true_iff]
      omega
    have e2 : (Op.equalIn (d + 2) 24 (.agg (cs32 l).toArray) (.agg (cs32 k).toArray)).run Tryz.prog w = .ok (decide (l = k)) w := by
      rw [run_equalIn_array w (d + 1) _ _ Tryz.underlying24 hi, items_run d l k w _ (fun i hi => by have := List.mem_range.1 hi; omega), ← hl, all_get (hl.trans hk.symm)]
    have q1 := p2 n l hl
    have q2 := p2 m k hk
    unfold Op.eqFields
    rw [if_pos f1, f2, f3, Sem.run_bind, p1, Result.andThen_ok, Sem.run_bind, p1, Result.andThen_ok, Sem.run_bind, e1, Result.andThen_ok]
    unfold Op.eqFields
    rw [if_pos g1, g2, g3]
    cases decide (n = m)
    · rfl
    · rw [if_neg (by decide), Sem.run_bind, q1, Result.andThen_ok, Sem.run_bind, q2, Result.andThen_ok, Sem.run_bind, e2, Result.andThen_ok]
      unfold Op.eqFields
      cases decide (l = k) <;> rfl
/-- Two OIDs as values. -/
theorem eql25 {n m : Nat} {l k : List Nat} (hl : l.length = 16) (hk : k.length = 16) (w : World) : (binOp .eql 26 (oV n l) (oV m k)).run Tryz.prog w = .ok (.bool (decide (n = m) && decide (l = k))) w := by
  rw [run_eql_struct, show (10000 : Nat) = 9997 + 3 from rfl, equalIn25 9997 hl hk w]
  rfl
end Go.Proofs.YtaiiihdckdjpoaaGreatDoor

/-!
  The order of OIDs: contracts of slices.Compare, slices.Equal, Compare and Has, and of the reference's Compare.
  Conditions: the OID's cells are in their kinds.
-/
namespace Go.Proofs.YtaiiihdckdjpoaaGreatDoor
open Go.RowKit

/-- The order of two lists. -/
def cmpL : List Nat → List Nat → Int
  | [], [] => 0
  | [], _ :: _ => -1
  | _ :: _, [] => 1
  | a :: l, b :: k => if a < b then -1 else if b < a then 1 else cmpL l k
theorem cmpL_nil_r (l : List Nat) : cmpL l [] = if l.length = 0 then 0 else 1 := by cases l <;> simp [cmpL]
theorem cmpL_nil_l (l : List Nat) : cmpL [] l = if l.length = 0 then 0 else -1 := by cases l <;> simp [cmpL]
theorem cmpL_drop {l k : List Nat} {j : Nat} (h1 : j < l.length) (h2 : j < k.length) : cmpL (l.drop j) (k.drop j) = if l[j] < k[j] then -1 else if k[j] < l[j] then 1 else cmpL (l.drop (j + 1)) (k.drop (j + 1)) := by
  rw [List.drop_eq_getElem_cons h1, List.drop_eq_getElem_cons h2]; rfl
def cmp1 (a b : Nat) : Int := if a < b then -1 else if b < a then 1 else 0
theorem isnan_any (a : Nat) (w : World) : Calls Tryz.prog 88 #[.int .u32 (a : Int)] w fun e w' => e = .returned (.bool false) ∧ w = w' := by
  go_enter Tryz.func88, Tryz.ntmps88
  go_wp2
  go_ret
  exact ⟨rfl, rfl⟩
theorem cmp_any (a b : Nat) (w : World) : Calls Tryz.prog 76 #[.int .u32 (a : Int), .int .u32 (b : Int)] w fun e w' => e = .returned (.int .i64 (cmp1 a b)) ∧ w = w' := by
  rcases Nat.lt_trichotomy a b with h | h | h
  · rw [show cmp1 a b = -1 from if_pos h]
    go_enter Tryz.func76, Tryz.ntmps76
    go_wp2_with (go_at_call 88; refine (isnan_any _ _).mono ?_; rintro e w' ⟨rfl, rfl⟩)
    go_ret
    exact ⟨rfl, rfl⟩
  · subst h
    rw [show cmp1 a a = 0 by simp [cmp1]]
    go_enter Tryz.func76, Tryz.ntmps76
    go_wp2_with (go_at_call 88; refine (isnan_any _ _).mono ?_; rintro e w' ⟨rfl, rfl⟩)
    go_ret
    exact ⟨rfl, rfl⟩
  · rw [show cmp1 a b = 1 by unfold cmp1; rw [if_neg (by omega), if_pos h]]
    go_enter Tryz.func76, Tryz.ntmps76
    go_wp2_with (go_at_call 88; refine (isnan_any _ _).mono ?_; rintro e w' ⟨rfl, rfl⟩)
    go_ret
    exact ⟨rfl, rfl⟩

set_option maxRecDepth 100000 in
set_option maxHeartbeats 1000000 in
theorem scompare_any (A B : Option Addr) (l k : List Nat) (c d : Nat) (w : World) (hl : l.length ≤ 16) (hk : k.length ≤ 16) (hA : R32 w A l) (hB : R32 w B k) :
    Calls Tryz.prog 58 #[.slice A l.length c, .slice B k.length d] w fun e w' => e = .returned (.int .i64 (cmpL l k)) ∧ w = w' := by
  go_enter Tryz.func58, Tryz.ntmps58
  go_wp2
  go_loop [5, 6, 7, 8, 11] (fun _ _ _ _ i => ∃ j : Nat, j ≤ l.length ∧ j ≤ k.length ∧ i = .int .i64 (j : Int) ∧ cmpL l k = cmpL (l.drop j) (k.drop j)) (fun _ _ _ _ i => l.length - (intOf i).toNat)
  case atStart => exact ⟨0, by omega, by omega, rfl, rfl⟩
  case round =>
    obtain ⟨j, hj1, hj2, rfl, hc⟩ := hrel
    have HC := Lib.hid hc
    clear hc
    rcases Nat.lt_or_ge j l.length with h1 | h1
    · obtain ⟨b, off, rfl, hb, hx⟩ := hA.at_ h1
      rcases Nat.lt_or_ge j k.length with h2 | h2
      · obtain ⟨b', off', rfl, hb', hy⟩ := hB.at_ h2
        have HD := Lib.hid (cmpL_drop h1 h2)
        generalize l[j] = x at *
        generalize k[j] = y at *
        clear hA hB
        obtain ⟨r, hr⟩ : ∃ r, cmp1 x y = r := ⟨_, rfl⟩
        have HR := Lib.hid hr
        rcases Nat.lt_trichotomy x y with h | h | h
        · have HE : Hid (cmpL l k = r) := Lib.hid (by rw [HC.out, HD.out, ← HR.out, if_pos h, cmp1, if_pos h])
          have hr0 : (r != 0) = true := by rw [← hr, cmp1, if_pos h]; rfl
          clear hr
          go_wp2_with (go_at_call 76; refine (cmp_any _ _ _).mono ?_; rintro e w' ⟨rfl, rfl⟩; rw [HR.out])
          go_ret
          exact ⟨by rw [HE.out]; rfl, rfl⟩
        · have HE : Hid (cmpL l k = cmpL (l.drop (j + 1)) (k.drop (j + 1))) := Lib.hid (by rw [HC.out, HD.out, if_neg (by omega), if_neg (by omega)])
          obtain rfl : r = 0 := by rw [← hr, cmp1, if_neg (by omega), if_neg (by omega)]
          clear hr
          subst h
          go_wp2_with (go_at_call 76; refine (cmp_any _ _ _).mono ?_; rintro e w' ⟨rfl, rfl⟩; rw [HR.out])
          go_round
          case rel => exact ⟨j + 1, by omega, by omega, by go_num, HE.out⟩
          case measure => simp [intOf]; omega
        · have HE : Hid (cmpL l k = r) := Lib.hid (by rw [HC.out, HD.out, ← HR.out, if_neg (by omega), if_pos h, cmp1, if_neg (by omega), if_pos h])
          have hr0 : (r != 0) = true := by rw [← hr, cmp1, if_neg (by omega), if_pos h]; rfl
          clear hr
          go_wp2_with (go_at_call 76; refine (cmp_any _ _ _).mono ?_; rintro e w' ⟨rfl, rfl⟩; rw [HR.out])
          go_ret
          exact ⟨by rw [HE.out]; rfl, rfl⟩
      · have HE : Hid (cmpL l k = 1) := Lib.hid (by rw [HC.out, List.drop_of_length_le h2, cmpL_nil_r, if_neg (by rw [List.length_drop]; omega)])
        go_wp2
        go_ret
        exact ⟨by rw [HE.out]; rfl, rfl⟩
    · obtain rfl : j = l.length := by omega
      rcases Nat.lt_or_ge l.length k.length with h2 | h2
      · have HE : Hid (cmpL l k = -1) := Lib.hid (by rw [HC.out, List.drop_of_length_le (Nat.le_refl _), cmpL_nil_l, if_neg (by rw [List.length_drop]; omega)])
        go_wp2
        go_ret
        exact ⟨by rw [HE.out]; rfl, rfl⟩
      · have HE : Hid (cmpL l k = 0) := Lib.hid (by rw [HC.out, List.drop_of_length_le (Nat.le_refl _), List.drop_of_length_le h2]; rfl)
        go_wp2
        go_ret
        exact ⟨by rw [HE.out]; rfl, rfl⟩
/-- The walk's step at a guarded load of a whole OID whose guard says yes. -/
theorem wpList_load25g {ops : Array Oper} {rest : List Oper} {o : Oper} {a : Act} {w : World} {Q : Exit → Act → World → Prop} (hw : Region.wanted o (yielded ops a.tmps) = true) (x : Operand) (ho : o.op = .load 26 x)
    {g n : Nat} {l : List Nat} (hx : a.eval x = .pointer (some ⟨g, 0, none⟩)) (hg : Bk w g 26 (oc n l)) (hl : l.length = 16) (h : wpList Tryz.prog ops Q rest (a.put o.dst (oV n l)) w) : wpList Tryz.prog ops Q (o :: rest) a w :=
  BigFrame.wpList_want hw fun _ hK => wp_load_mid _ x ho g 0 hx (oc n l) _ (range25 hg) Tryz.underlying26 rfl (by rw [oc_length, hl]; exact info25) (hK _ _ h)
theorem r32_arr {w : World} {g n : Nat} {t : TypeId} {l : List Nat} (h : Bk w g t (oc n l)) (j : Nat) : R32 w (some ⟨g, 1, none⟩) (l.take j) := by
  have := (h.rd 1).take_ j
  unfold R32 cs32
  rw [List.map_take]
  exact this
def hasO (n : Nat) (l : List Nat) (m : Nat) (k : List Nat) : Bool := decide (chkO n l = 0) && decide (chkO m k = 0) && decide (n < m) && decide (l.take n = k.take n)
theorem chkO_01 (n : Nat) (l : List Nat) : chkO n l = 0 ∨ chkO n l = 1 := by unfold chkO; split <;> simp
theorem chkO_n {n : Nat} {l : List Nat} (h : chkO n l = 0) : 2 ≤ n ∧ n ≤ 16 := by
  unfold chkO at h; split at h
  · omega
  · cases h
theorem bt {a b c : World} (h1 : Hid (Below a.heap.size a b)) (h2 : Hid (Below b.heap.size b c)) : Hid (Below a.heap.size a c) := Lib.hid (h1.out.trans (h2.out.mono h1.out.size))
theorem rt {a b : World} {A : Option Addr} {l : List Nat} (h : Hid (Rb a A l)) (h2 : Hid (Below a.heap.size a b)) : Hid (Rb b A l) := Lib.hid (h.out.below h2.out)
theorem kt {a b : World} {g : Nat} {t : TypeId} {cs : List Value} (h : Hid (Bk a g t cs)) (h2 : Hid (Below a.heap.size a b)) : Hid (Bk b g t cs) := Lib.hid (h.out.below h2.out h.out.lt)

end Go.Proofs.YtaiiihdckdjpoaaGreatDoor

/-!
  The order of OIDs: contracts of Compare, and of the reference's Compare.
  Conditions: the OID's cells are in their kinds.
-/
namespace Go.Proofs.YtaiiihdckdjpoaaGreatDoor
open Go.RowKit

/-- The order of two OIDs, which may be any values. -/
def cmpO (n : Nat) (l : List Nat) (m : Nat) (k : List Nat) : Int := cmpL (l.take (min n 16)) (k.take (min m 16))
theorem scompare_t (g g' a b : Nat) (l k : List Nat) (w : World) (hl : l.length = 16) (hk : k.length = 16) (ha : a ≤ 16) (hb : b ≤ 16) (hA : R32 w (some ⟨g, 1, none⟩) (l.take a)) (hB : R32 w (some ⟨g', 1, none⟩) (k.take b)) :
    Calls Tryz.prog 58 #[.slice (some ⟨g, 1, none⟩) a 16, .slice (some ⟨g', 1, none⟩) b 16] w fun e w' => e = .returned (.int .i64 (cmpL (l.take a) (k.take b))) ∧ w = w' := by
  have h1 : (l.take a).length = a := by rw [List.length_take]; omega
  have h2 : (k.take b).length = b := by rw [List.length_take]; omega
  have := scompare_any _ _ (l.take a) (k.take b) 16 16 w (by omega) (by omega) hA hB
  rw [h1, h2] at this
  exact this

set_option maxRecDepth 100000 in
set_option maxHeartbeats 2000000 in
theorem compare_any (n : Nat) (l : List Nat) (m : Nat) (k : List Nat) (w : World) (ho : OkO n l) (hp : OkO m k) :
    Calls Tryz.prog 39 #[oV n l, oV m k] w fun e w' => e = .returned (.int .i64 (cmpO n l m k)) ∧ Below w.heap.size w w' := by
  have hl := ho.len
  have hk := hp.len
  have S1 := Lib.hid ((Bk.new w 26 (oc n l)).alloc (.cells (oc m k).toArray 26))
  have S2' := Bk.new (w.alloc (.cells (oc n l).toArray 26)) 26 (oc m k)
  rw [World.size_alloc] at S2'
  have S2 := Lib.hid S2'
  clear S2'
  have B0 := Lib.hid ((bel1 w (.cells (oc n l).toArray 26)).alloc (by simp) (.cells (oc m k).toArray 26))
  have ha : min n 16 ≤ 16 := Nat.min_le_right _ _
  have hb : min m 16 ≤ 16 := Nat.min_le_right _ _
  have HC := Lib.hid (counted_any n l · ho)
  have HD := Lib.hid (counted_any m k · hp)
  unfold cmpO
  generalize min n 16 = a at *
  generalize min m 16 = b at *
  have q1 := slice23h w.heap.size a ha .i64
  have q2 := slice23h (w.heap.size + 1) b hb .i64
  have HL := Lib.hid hl
  have HK := Lib.hid hk
  clear ho hp hl hk
  go_enter Tryz.func39, Tryz.ntmps39
  go_upto_region 1 with fail
  generalize (w.alloc (.cells (oc n l).toArray 26)).alloc (.cells (oc m k).toArray 26) = w1 at *
  refine wp_region_held_drew (S := fun W => Bk W w.heap.size 26 (oc n l) ∧ Bk W (w.heap.size + 1) 26 (oc m k)) (by kernel_rfl) (⟨S1.out, S2.out⟩) (fun hS => ?_)
  refine wpAnyH_take (i := 0) (oi := ⟨some 5, _, _, _, _, _⟩) (v := .pointer (some ⟨w.heap.size, 1, none⟩)) rfl (by kernel_rfl) (by kernel_rfl) (by kernel_rfl) (fun _ _ _ h => h) (Or.inl ⟨by rfl, fun w hSw => by (try dsimp only at hSw); go_simp⟩) hS ?_
  simp only [Act.put, List.setIfInBounds_toArray, List.set_cons_zero, List.set_cons_succ]
  refine wpAnyH_take (i := 1) (oi := ⟨some 6, _, _, _, _, _⟩) (v := oV n l) rfl (by kernel_rfl) (by kernel_rfl) (by kernel_rfl) (fun _ _ _ h => h) (yieldsIf_load_mid (by rfl) 26 (.tmp 2) rfl (w.heap.size) 0 rfl (oc n l) _ (fun W h => range25 h.1) Tryz.underlying26 rfl (by rw [oc_length, HL.out]; exact info25)) hS ?_
  simp only [Act.put, List.setIfInBounds_toArray, List.set_cons_zero, List.set_cons_succ]
  refine wpAnyH_take (i := 4) (oi := ⟨some 9, _, _, _, _, _⟩) (v := .pointer (some ⟨w.heap.size + 1, 1, none⟩)) rfl (by kernel_rfl) (by kernel_rfl) (by kernel_rfl) (fun _ _ _ h => h) (Or.inl ⟨by rfl, fun w hSw => by (try dsimp only at hSw); go_simp⟩) hS ?_
  simp only [Act.put, List.setIfInBounds_toArray, List.set_cons_zero, List.set_cons_succ]
  refine wpAnyH_take (i := 5) (oi := ⟨some 10, _, _, _, _, _⟩) (v := oV m k) rfl (by kernel_rfl) (by kernel_rfl) (by kernel_rfl) (fun _ _ _ h => h) (yieldsIf_load_mid (by rfl) 26 (.tmp 3) rfl (w.heap.size + 1) 0 rfl (oc m k) _ (fun W h => range25 h.2) Tryz.underlying26 rfl (by rw [oc_length, HK.out]; exact info25)) hS ?_
  simp only [Act.put, List.setIfInBounds_toArray, List.set_cons_zero, List.set_cons_succ]
  refine wpAnyH_ready (rs := [2]) (by kernel_rfl) (by simp) ?_
  refine AllReadyH.cons (o := _) rfl (fun K hK => ?_) (AllReadyH.nil)
  go_simp
  refine (HC.out w1.drew).mono ?_
  rintro e w2 ⟨rfl, hb⟩
  have B2 := Lib.hid (B0.out.drew.trans (hb.mono B0.out.drew.size))
  have T1 := Lib.hid (hS.1.below hb hS.1.lt)
  have T2 := Lib.hid (hS.2.below hb hS.2.lt)
  clear hb S1 S2 B0
  go_simp
  refine hK.out _ _ (⟨T1.out, T2.out⟩) (fun hS => ?_)
  clear hK K
  (try simp only [Act.put, List.setIfInBounds_toArray, List.set_cons_zero, List.set_cons_succ])
  refine wpAnyH_take (i := 3) (oi := ⟨some 8, _, _, _, _, _⟩) (v := .slice (some ⟨w.heap.size, 1, none⟩) a 16) rfl (by kernel_rfl) (by kernel_rfl) (by kernel_rfl) (fun _ _ _ h => h) (Or.inl ⟨by rfl, fun w hSw => by (try dsimp only at hSw); go_simp⟩) hS ?_
  simp only [Act.put, List.setIfInBounds_toArray, List.set_cons_zero, List.set_cons_succ]
  refine wpAnyH_ready (rs := [6]) (by kernel_rfl) (by simp) ?_
  refine AllReadyH.cons (o := _) rfl (fun K hK => ?_) (AllReadyH.nil)
  go_simp
  refine (HD.out w2).mono ?_
  rintro e w3 ⟨rfl, hb⟩
  have B3 := bt B2 (Lib.hid hb)
  have U1 := Lib.hid (hS.1.below hb hS.1.lt)
  have U2 := Lib.hid (hS.2.below hb hS.2.lt)
  clear hb T1 T2 B2
  go_simp
  refine hK.out _ _ (⟨U1.out, U2.out⟩) (fun hS => ?_)
  clear hK K
  (try simp only [Act.put, List.setIfInBounds_toArray, List.set_cons_zero, List.set_cons_succ])
  refine wpAnyH_take (i := 7) (oi := ⟨some 12, _, _, _, _, _⟩) (v := .slice (some ⟨w.heap.size + 1, 1, none⟩) b 16) rfl (by kernel_rfl) (by kernel_rfl) (by kernel_rfl) (fun _ _ _ h => h) (Or.inl ⟨by rfl, fun w hSw => by (try dsimp only at hSw); go_simp⟩) hS ?_
  simp only [Act.put, List.setIfInBounds_toArray, List.set_cons_zero, List.set_cons_succ]
  refine wpAnyH_ready (rs := [8]) (by kernel_rfl) (by simp) ?_
  refine AllReadyH.cons (o := _) rfl (fun K hK => ?_) (AllReadyH.nil)
  go_simp
  refine (scompare_t _ _ a b l k w3 HL.out HK.out ha ‹b ≤ 16› (r32_arr U1.out a) (r32_arr U2.out b)).mono ?_
  rintro e w4 ⟨rfl, rfl⟩
  go_simp
  refine hK.out _ _ (⟨U1.out, U2.out⟩) (fun hS => ?_)
  clear hK K
  (try simp only [Act.put, List.setIfInBounds_toArray, List.set_cons_zero, List.set_cons_succ])
  refine wpAnyH_ready (rs := [9]) (by kernel_rfl) (by simp) ?_
  refine AllReadyH.cons (o := _) rfl (fun K hK => ?_) (AllReadyH.nil)
  go_simp
  refine hK.out _ _ (⟨U1.out, U2.out⟩) (fun hS => ?_)
  clear hK K
  (try simp only [Act.put, List.setIfInBounds_toArray, List.set_cons_zero, List.set_cons_succ])
  refine wpAnyH_done (by kernel_rfl) ?_ _
  go_wp2_with fail
  go_ret
  exact ⟨rfl, B3.out⟩
end Go.Proofs.YtaiiihdckdjpoaaGreatDoor

/-!
  The reference of layer 6: contract of Compare.
  Conditions: the OID's cells are in their kinds.
-/
namespace Go.Proofs.YtaiiihdckdjpoaaGreatDoor
open Go.RowKit

theorem oid_t {w : World} {g n a j : Nat} {t : TypeId} {l : List Nat} (h : Bk w g t (oc n l)) (hj : j < (l.take a).length) : w.cell? ⟨g, 1 + j, none⟩ = some (.int .u32 ((l.take a)[j] : Int)) := by
  rw [List.getElem_take]
  exact oid_a' h (by rw [List.length_take] at hj; omega)

set_option maxRecDepth 100000 in
set_option maxHeartbeats 2000000 in
theorem rcompare_any (n : Nat) (l : List Nat) (m : Nat) (k : List Nat) (w : World) (ho : OkO n l) (hp : OkO m k) :
    Calls Tryz.prog 37 #[oV n l, oV m k] w fun e w' => e = .returned (.int .i64 (cmpO n l m k)) ∧ Below w.heap.size w w' := by
  have hl := ho.len
  have hk := hp.len
  have S1 := Lib.hid ((Bk.new w 26 (oc n l)).alloc (.cells (oc m k).toArray 26))
  have S2' := Bk.new (w.alloc (.cells (oc n l).toArray 26)) 26 (oc m k)
  rw [World.size_alloc] at S2'
  have S2 := Lib.hid S2'
  clear S2'
  have B0 := Lib.hid ((bel1 w (.cells (oc n l).toArray 26)).alloc (by simp) (.cells (oc m k).toArray 26))
  have hn8 := ho.n8
  have hm8 := hp.n8
  have hnn : (if (16 : Int) < (n : Int) then (16 : Int) else (n : Int)) = ((min n 16 : Nat) : Int) := by split <;> omega
  have hmm : (if (16 : Int) < (m : Int) then (16 : Int) else (m : Int)) = ((min m 16 : Nat) : Int) := by split <;> omega
  have HNN := Lib.hid hnn
  have HMM := Lib.hid hmm
  have hA : (l.take (min n 16)).length = min n 16 := by rw [List.length_take]; omega
  have hB : (k.take (min m 16)).length = min m 16 := by rw [List.length_take]; omega
  have HG1 := Lib.hid (fun (W : World) (h : Bk W w.heap.size 26 (oc n l)) (j : Nat) (hj : j < (l.take (min n 16)).length) => oid_t h hj)
  have HG2 := Lib.hid (fun (W : World) (h : Bk W (w.heap.size + 1) 26 (oc m k)) (j : Nat) (hj : j < (k.take (min m 16)).length) => oid_t h hj)
  unfold cmpO
  have c1 := oid_n S1.out
  have c2 := oid_n S2.out
  clear hnn hmm
  have ha16 : min n 16 ≤ 16 := Nat.min_le_right _ _
  have hb16 : min m 16 ≤ 16 := Nat.min_le_right _ _
  generalize l.take (min n 16) = x at *
  generalize k.take (min m 16) = y at *
  generalize min n 16 = a at *
  generalize min m 16 = b at *
  have HA := Lib.hid hA
  have HB := Lib.hid hB
  clear hA hB hl hk ho hp
  go_enter Tryz.func37, Tryz.ntmps37
  go_upto_region 1 with fail
  generalize (w.alloc (.cells (oc n l).toArray 26)).alloc (.cells (oc m k).toArray 26) = w1 at *
  go_region
  rw [HNN.out, HMM.out]
  have B1 := Lib.hid B0.out.drew
  have T1 := Lib.hid (show Bk w1.drew w.heap.size 26 (oc n l) from S1.out)
  have T2 := Lib.hid (show Bk w1.drew (w.heap.size + 1) 26 (oc m k) from S2.out)
  clear S1 S2 B0 c1 c2 HNN HMM
  generalize w1.drew = w2 at *
  go_wp2
  go_loopw [7] (fun i wr => ∃ j q : Nat, j ≤ a ∧ j ≤ b ∧ i = .int .i64 (j : Int) ∧ cmpL x y = cmpL (x.drop j) (y.drop j) ∧ wr = w2.drewN q) (fun i _ => a - (intOf i).toNat)
  case atStart => exact ⟨0, 0, Nat.zero_le _, Nat.zero_le _, rfl, rfl, rfl⟩
  case round =>
    obtain ⟨j, q, hj1, hj2, rfl, hc, rfl⟩ := hrel
    have HC := Lib.hid hc
    clear hc
    rcases Nat.lt_or_ge j a with h1 | h1
    · rcases Nat.lt_or_ge j b with h2 | h2
      · have hj16 : (j : Int) < 16 := by omega
        have hj16' : j < 16 := by omega
        have h1x : j < x.length := by rw [HA.out]; exact h1
        have h2y : j < y.length := by rw [HB.out]; exact h2
        have hx := HG1.out w2 T1.out j h1x
        have hy := HG2.out w2 T2.out j h2y
        have HD := Lib.hid (cmpL_drop h1x h2y)
        generalize x[j] = u at *
        generalize y[j] = v at *
        rcases Nat.lt_trichotomy u v with h | h | h
        · have HE : Hid (cmpL x y = -1) := Lib.hid (by rw [HC.out, HD.out, if_pos h])
          have hd : decide (u < v) = true := decide_eq_true h
          go_wp2
          go_quiet (fail)
          go_wp2
          go_ret
          exact ⟨by rw [HE.out]; rfl, by first | exact bel_drewN B1.out _ | exact bel_drewN (bel_drewN B1.out _) _ | exact bel_drewN (bel_drewN (bel_drewN B1.out _) _) _⟩
        · have HE : Hid (cmpL x y = cmpL (x.drop (j + 1)) (y.drop (j + 1))) := Lib.hid (by rw [HC.out, HD.out, if_neg (by omega), if_neg (by omega)])
          subst h
          have hd : decide (u < u) = false := decide_eq_false (by omega)
          go_wp2
          go_quiet (fail)
          go_wp2
          go_quiet (fail)
          go_wp2
          exact ⟨⟨j + 1, _, by omega, by omega, by go_num, HE.out, rfl⟩, by simp [intOf]; omega⟩
        · have HE : Hid (cmpL x y = 1) := Lib.hid (by rw [HC.out, HD.out, if_neg (by omega), if_pos h])
          have hd : decide (u < v) = false := decide_eq_false (by omega)
          have hd2 : decide (v < u) = true := decide_eq_true h
          go_wp2
          go_quiet (fail)
          go_wp2
          go_quiet (fail)
          go_wp2
          go_ret
          exact ⟨by rw [HE.out]; rfl, by first | exact bel_drewN B1.out _ | exact bel_drewN (bel_drewN B1.out _) _ | exact bel_drewN (bel_drewN (bel_drewN B1.out _) _) _⟩
      · have HE : Hid (cmpL x y = 1) := Lib.hid (by rw [HC.out, List.drop_of_length_le (l := y) (by rw [HB.out]; exact h2), cmpL_nil_r, if_neg (by rw [List.length_drop, HA.out]; omega)])
        obtain rfl : j = b := by omega
        have hba : j < a := h1
        go_wp2
        go_ret
        exact ⟨by rw [HE.out]; rfl, by first | exact bel_drewN B1.out _ | exact bel_drewN (bel_drewN B1.out _) _ | exact bel_drewN (bel_drewN (bel_drewN B1.out _) _) _⟩
    · obtain rfl : j = a := by omega
      rcases Nat.lt_or_ge j b with h2 | h2
      · have HE : Hid (cmpL x y = -1) := Lib.hid (by rw [HC.out, List.drop_of_length_le (l := x) (by rw [HA.out]; exact Nat.le_refl _), cmpL_nil_l, if_neg (by rw [List.length_drop, HB.out]; omega)])
        go_wp2
        go_ret
        exact ⟨by rw [HE.out]; rfl, by first | exact bel_drewN B1.out _ | exact bel_drewN (bel_drewN B1.out _) _ | exact bel_drewN (bel_drewN (bel_drewN B1.out _) _) _⟩
      · have HE : Hid (cmpL x y = 0) := Lib.hid (by rw [HC.out, List.drop_of_length_le (l := x) (by rw [HA.out]; exact Nat.le_refl _), List.drop_of_length_le (l := y) (by rw [HB.out]; exact h2)]; rfl)
        obtain rfl : j = b := by omega
        go_wp2
        go_ret
        exact ⟨by rw [HE.out]; rfl, by first | exact bel_drewN B1.out _ | exact bel_drewN (bel_drewN B1.out _) _ | exact bel_drewN (bel_drewN (bel_drewN B1.out _) _) _⟩
end Go.Proofs.YtaiiihdckdjpoaaGreatDoor

/-!
  Layer 6, pure: Compare is an order; 0 for equal OIDs only; an OID below another one comes before it.
  Conditions: none.
-/
namespace Go.Proofs.YtaiiihdckdjpoaaGreatDoor

theorem cmpL_anti : ∀ (l k : List Nat), cmpL k l = -cmpL l k
  | [], [] => rfl
  | [], _ :: _ => rfl
  | _ :: _, [] => rfl
  | a :: l, b :: k => by
    show (if b < a then (-1 : Int) else if a < b then 1 else cmpL k l) = -(if a < b then (-1 : Int) else if b < a then 1 else cmpL l k)
    rw [cmpL_anti l k]
    split <;> split <;> first | omega | rfl
theorem cmpL_self : ∀ (l : List Nat), cmpL l l = 0
  | [] => rfl
  | a :: l => by show (if a < a then (-1 : Int) else if a < a then 1 else cmpL l l) = 0; rw [if_neg (by omega), if_neg (by omega), cmpL_self l]
theorem cmpL_zero : ∀ {l k : List Nat}, cmpL l k = 0 → l = k
  | [], [], _ => rfl
  | [], _ :: _, h => by cases h
  | _ :: _, [], h => by cases h
  | a :: l, b :: k, h => by
    change (if a < b then (-1 : Int) else if b < a then 1 else cmpL l k) = 0 at h
    split at h
    · omega
    · split at h
      · omega
      · rw [show a = b by omega, cmpL_zero h]
theorem cmpL_le : ∀ {l k m : List Nat}, cmpL l k ≤ 0 → cmpL k m ≤ 0 → cmpL l m ≤ 0
  | [], k, [], _, _ => by simp [cmpL]
  | [], k, _ :: _, _, _ => by simp [cmpL]
  | a :: l, [], m, h, _ => by simp [cmpL] at h
  | a :: l, b :: k, [], _, h => by simp [cmpL] at h
  | a :: l, b :: k, c :: m, h1, h2 => by
    change (if a < b then (-1 : Int) else if b < a then 1 else cmpL l k) ≤ 0 at h1
    change (if b < c then (-1 : Int) else if c < b then 1 else cmpL k m) ≤ 0 at h2
    show (if a < c then (-1 : Int) else if c < a then 1 else cmpL l m) ≤ 0
    by_cases q1 : a < b
    · rw [if_pos q1] at h1
      by_cases q2 : b < c
      · rw [if_pos (by omega)]; omega
      · rw [if_neg q2] at h2
        by_cases q3 : c < b
        · rw [if_pos q3] at h2; omega
        · rw [if_pos (by omega)]; omega
    · rw [if_neg q1] at h1
      by_cases q2 : b < a
      · rw [if_pos q2] at h1; omega
      · rw [if_neg q2] at h1
        by_cases q3 : b < c
        · rw [if_pos (by omega)]; omega
        · rw [if_neg q3] at h2
          by_cases q4 : c < b
          · rw [if_pos q4] at h2; omega
          · rw [if_neg q4] at h2
            rw [if_neg (by omega), if_neg (by omega)]
            exact cmpL_le h1 h2
theorem cmpL_pre : ∀ {l k : List Nat}, l <+: k → l.length < k.length → cmpL l k = -1
  | [], [], _, h => by simp at h
  | [], _ :: _, _, _ => rfl
  | a :: l, [], h, _ => by simp at h
  | a :: l, b :: k, h, hl => by
    rw [List.cons_prefix_cons] at h
    obtain ⟨rfl, h⟩ := h
    show (if a < a then (-1 : Int) else if a < a then 1 else cmpL l k) = -1
    rw [if_neg (by omega), if_neg (by omega)]
    exact cmpL_pre h (by simpa using hl)
theorem cmpO_anti (n : Nat) (l : List Nat) (m : Nat) (k : List Nat) : cmpO m k n l = -cmpO n l m k := cmpL_anti _ _
theorem cmpO_self (n : Nat) (l : List Nat) : cmpO n l n l = 0 := cmpL_self _
theorem tl0_pad {n : Nat} {l : List Nat} (hl : l.length = 16) (hn : n ≤ 16) (h : tl0 n l = true) : l = pad (l.take n) := by
  unfold pad
  rw [List.length_take, hl, Nat.min_eq_left hn]
  apply List.ext_getElem
  · simp; omega
  · intro i h1 h2
    rcases Nat.lt_or_ge i n with hi | hi
    · rw [List.getElem_append_left (by simp; omega), List.getElem_take]
    · rw [List.getElem_append_right (by simp; omega), List.getElem_replicate]
      have hm : l[i] ∈ l.drop n := by rw [List.mem_drop_iff_getElem]; exact ⟨i - n, by omega, by congr 1; omega⟩
      unfold tl0 at h
      have := List.all_eq_true.1 h _ hm
      simpa using this
theorem chk_pad {n : Nat} {l : List Nat} (ho : OkO n l) (h : chkO n l = 0) : l = pad (l.take n) ∧ 2 ≤ n ∧ n ≤ 16 := by
  unfold chkO at h
  split at h
  · rename_i h'
    exact ⟨tl0_pad ho.len h'.2.1 h'.2.2.2, h'.1, h'.2.1⟩
  · cases h
theorem cmpO_zero {n : Nat} {l : List Nat} {m : Nat} {k : List Nat} (ho : OkO n l) (hp : OkO m k) (h1 : chkO n l = 0) (h2 : chkO m k = 0) : (cmpO n l m k = 0) ↔ (n = m ∧ l = k) := by
  constructor
  · intro h
    obtain ⟨e1, a1, b1⟩ := chk_pad ho h1
    obtain ⟨e2, a2, b2⟩ := chk_pad hp h2
    have := cmpL_zero (show cmpL (l.take (min n 16)) (k.take (min m 16)) = 0 from h)
    rw [Nat.min_eq_left b1, Nat.min_eq_left b2] at this
    refine ⟨?_, ?_⟩
    · have := congrArg List.length this
      rw [List.length_take, List.length_take, ho.len, hp.len] at this
      omega
    · rw [e1, e2, this]
  · rintro ⟨rfl, rfl⟩
    exact cmpO_self _ _
theorem cmpO_le {n : Nat} {l : List Nat} {m : Nat} {k : List Nat} {p : Nat} {j : List Nat} (h1 : cmpO n l m k ≤ 0) (h2 : cmpO m k p j ≤ 0) : cmpO n l p j ≤ 0 := cmpL_le h1 h2
theorem hasO_cmp {n : Nat} {l : List Nat} {m : Nat} {k : List Nat} (ho : OkO n l) (hp : OkO m k) (h : hasO n l m k = true) : cmpO n l m k = -1 := by
  unfold hasO at h
  simp only [Bool.and_eq_true, decide_eq_true_eq] at h
  obtain ⟨⟨⟨h1, h2⟩, h3⟩, h4⟩ := h
  obtain ⟨-, -, b1⟩ := chk_pad ho h1
  obtain ⟨-, -, b2⟩ := chk_pad hp h2
  unfold cmpO
  rw [Nat.min_eq_left b1, Nat.min_eq_left b2]
  refine cmpL_pre ?_ (by rw [List.length_take, List.length_take, ho.len, hp.len]; omega)
  rw [h4]
  exact List.take_prefix_take_left (by omega)
theorem cmpL_tri : ∀ (l k : List Nat), cmpL l k = -1 ∨ cmpL l k = 0 ∨ cmpL l k = 1
  | [], [] => .inr (.inl rfl)
  | [], _ :: _ => .inl rfl
  | _ :: _, [] => .inr (.inr rfl)
  | a :: l, b :: k => by
    show (if a < b then (-1 : Int) else if b < a then 1 else cmpL l k) = -1 ∨ (if a < b then (-1 : Int) else if b < a then 1 else cmpL l k) = 0 ∨ (if a < b then (-1 : Int) else if b < a then 1 else cmpL l k) = 1
    by_cases h1 : a < b
    · rw [if_pos h1]; exact .inl rfl
    · rw [if_neg h1]
      by_cases h2 : b < a
      · rw [if_pos h2]; exact .inr (.inr rfl)
      · rw [if_neg h2]; exact cmpL_tri l k
end Go.Proofs.YtaiiihdckdjpoaaGreatDoor
