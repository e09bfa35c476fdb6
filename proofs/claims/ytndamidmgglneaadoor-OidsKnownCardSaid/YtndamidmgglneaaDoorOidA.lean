/-
  Package oids: an OID in memory; the contracts of greatestSecond, counted and Check.
  Conditions: the OID's cells are in their kinds.
-/
import Derived.Test.YtndamidmgglneaaDoorMem
import Derived.Test.YtndamidmgglneaaDoorProg
import Derived.Deep.MidRow
import Derived.Deep.QuietTactic
import Derived.BigQuiet
import Derived.IntWalk
import Derived.Outline
import Derived.Deep.RegionHeld3
namespace Go.Proofs.YtndamidmgglneaaDoor
open Go.RowKit

/-- A word of 32 bits. -/
def by32 (x : Nat) : Value := .int .u32 (x : Int)
def cs32 (l : List Nat) : List Value := l.map by32
/-- The cells of an OID. -/
def oc (n : Nat) (l : List Nat) : List Value := .int .u8 (n : Int) :: cs32 l
@[reducible] def oV (n : Nat) (l : List Nat) : Value := .agg (oc n l).toArray
/-- What the cells of an OID may be. -/
structure OkO (n : Nat) (l : List Nat) : Prop where
  n8 : n < 256
  len : l.length = 16
  a32 : ∀ x ∈ l, x < 4294967296
theorem cs32_length (l : List Nat) : (cs32 l).length = l.length := by unfold cs32; rw [List.length_map]
theorem cs32_get {l : List Nat} {n : Nat} (h : n < l.length) : (cs32 l)[n]? = some (.int .u32 (l[n] : Int)) := by
  unfold cs32; rw [List.getElem?_map, List.getElem?_eq_getElem h]; rfl
theorem oc_length (n : Nat) (l : List Nat) : (oc n l).length = l.length + 1 := by unfold oc; rw [List.length_cons, cs32_length]
section
variable {w w' : World} {g n : Nat} {t : TypeId} {l : List Nat}
theorem oid_n (h : Bk w g t (oc n l)) : w.cell? ⟨g, 0, none⟩ = some (.int .u8 (n : Int)) := (h.cell 0).trans rfl
theorem oid_a (h : Bk w g t (oc n l)) {i : Nat} (hi : i < l.length) : w.cell? ⟨g, i + 1, none⟩ = some (.int .u32 (l[i] : Int)) := by
  rw [h.cell]; exact (List.getElem?_cons_succ ..).trans (cs32_get hi)
theorem oid_a' (h : Bk w g t (oc n l)) {i : Nat} (hi : i < l.length) : w.cell? ⟨g, 1 + i, none⟩ = some (.int .u32 (l[i] : Int)) := by
  rw [Nat.add_comm]; exact oid_a h hi
end
theorem info25 : (Tryd.prog.info? 26).map (·.size) = some 17 := by kernel_rfl
theorem info23 : (Tryd.prog.info? 24).map (·.size) = some 16 := by kernel_rfl
theorem load25 {w : World} {g n : Nat} {t : TypeId} {l : List Nat} (h : Bk w g t (oc n l)) (hl : l.length = 16) : (Instr.loadAt 26 (.pointer (some ⟨g, 0, none⟩))).run Tryd.prog w = .ok (oV n l) w :=
  run_loadAt_mid w g 0 _ (oc n l) _ (fun j v hj => by rw [Nat.zero_add, h.cell]; exact hj) Tryd.underlying26 rfl (by rw [oc_length, hl]; exact info25)

theorem second_any (a : Nat) (w : World) : Calls Tryd.prog 33 #[.int .u32 (a : Int)] w fun e w' => e = .returned (.int .u32 ((if a = 2 then 4294967215 else 39 : Nat) : Int)) ∧ w = w' := by
  by_cases h : a = 2
  · subst h
    go_enter Tryd.func33, Tryd.ntmps33
    go_wp2
    go_ret
    exact ⟨rfl, rfl⟩
  · have hb : ((a : Int) == 2) = false := by rw [beq_eq_false_iff_ne]; omega
    rw [if_neg h]
    clear h
    go_enter Tryd.func33, Tryd.ntmps33
    go_wp2
    go_ret
    exact ⟨rfl, rfl⟩

theorem bel_drewN {B : Nat} {a w : World} (h : Below B a w) (n : Nat) : Below B a (w.drewN n) := ⟨h.os, h.tape, h.output, h.size, h.block⟩
theorem second_s (a s : Nat) (h : (if a = 2 then 4294967215 else 39) = s) (w : World) : Calls Tryd.prog 33 #[.int .u32 (a : Int)] w fun e w' => e = .returned (.int .u32 (s : Int)) ∧ w' = w := (second_any a w).mono fun _ _ ⟨h1, h2⟩ => ⟨by rw [h1, h], h2.symm⟩
theorem bel1 (w : World) (o : Obj) : Below w.heap.size w (w.alloc o) := (Below.refl _ _).alloc (Nat.le_refl _) _
theorem counted_any (n : Nat) (l : List Nat) (w : World) (ho : OkO n l) : Calls Tryd.prog 25 #[oV n l] w fun e w' => e = .returned (.int .i64 ((min n 16 : Nat) : Int)) ∧ Below w.heap.size w w' := by
  have h1 := oid_n (Bk.new w 26 (oc n l))
  have h8 := ho.n8
  rcases Nat.lt_or_ge 16 n with hn | hn
  · rw [Nat.min_eq_right (by omega)]
    go_enter Tryd.func25, Tryd.ntmps25
    go_wp2
    go_ret
    exact ⟨rfl, bel1 _ _⟩
  · rw [Nat.min_eq_left (by omega)]
    go_enter Tryd.func25, Tryd.ntmps25
    go_wp2
    go_ret
    exact ⟨rfl, bel1 _ _⟩

/-- Are all arcs behind the counted ones 0? -/
def tl0 (n : Nat) (l : List Nat) : Bool := (l.drop n).all (· == 0)
/-- Are the first two arcs valid? -/
def fst2 (l : List Nat) : Bool := match l with
  | a :: b :: _ => decide (a ≤ 2) && decide (b ≤ if a = 2 then 4294967215 else 39)
  | _ => false
/-- Check's answer. -/
def chkO (n : Nat) (l : List Nat) : Nat := if 2 ≤ n ∧ n ≤ 16 ∧ fst2 l = true ∧ tl0 n l = true then 0 else 1
def GiveF (w : World) (f : Nat) (e : Ending) (w' : World) : Prop := e = .returned (.int .i64 (f : Int)) ∧ Below w.heap.size w w'
theorem addr1 (g n : Nat) : (⟨g, 1, none⟩ : Addr).add n = ⟨g, 1 + n, none⟩ := by unfold Addr.add; split <;> simp_all
theorem len23 : Tryd.prog.arrayLen 24 = 16 := by kernel_rfl
theorem size23 (w : World) : (sizeOf (Tryd.prog.elem 24)).run Tryd.prog w = .ok 1 w := by kernel_rfl
theorem slice23 (g n : Nat) (hn : n < 16) (W : World) : (Instr.sliceAt 24 (.pointer (some ⟨g, 1, none⟩)) (some (.int .u8 (n : Int))) none none).run Tryd.prog W = .ok (.slice (some ⟨g, 1 + n, none⟩) (16 - n) (16 - n)) W := by
  rw [run_sliceAt_array_l (P := Tryd.prog) W 24 ⟨g, 1, none⟩ (by kernel_rfl) .u8 (n : Int) (by omega) (by rw [len23]; omega), size23, len23, Int.toNat_natCast]
  simp only [Result.andThen, slicedAt]
  rw [if_neg (by omega), addr1, Nat.mul_one]
theorem slice23e (g : Nat) (W : World) : (Instr.sliceAt 24 (.pointer (some ⟨g, 1, none⟩)) (some (.int .u8 16)) none none).run Tryd.prog W = .ok (.slice (some ⟨g, 1, none⟩) 0 0) W := by kernel_rfl
theorem slice23h (g n : Nat) (hn : n ≤ 16) (k : IntKind) (W : World) : (Instr.sliceAt 24 (.pointer (some ⟨g, 1, none⟩)) none (some (.int k (n : Int))) none).run Tryd.prog W = .ok (.slice (some ⟨g, 1, none⟩) n 16) W := by
  rw [run_sliceAt_array_h (P := Tryd.prog) W 24 ⟨g, 1, none⟩ (by kernel_rfl) k (n : Int) (by omega) (by rw [len23]; omega), size23, len23, Int.toNat_natCast]
  simp only [Result.andThen, slicedAt]
  rw [if_neg (by omega), Nat.zero_mul, Nat.sub_zero, Nat.sub_zero]; rfl

theorem tl0_cons {n : Nat} {l : List Nat} (h : n < l.length) : tl0 n l = ((l[n] == 0) && tl0 (n + 1) l) := by
  unfold tl0; rw [List.drop_eq_getElem_cons h]; rfl
theorem tl0_end {n : Nat} {l : List Nat} (h : l.length ≤ n) : tl0 n l = true := by unfold tl0; rw [List.drop_of_length_le h]; rfl
theorem chkO_tail {n : Nat} {l : List Nat} (h1 : 2 ≤ n) (h2 : n ≤ 16) (h3 : fst2 l = true) : chkO n l = if tl0 n l then 0 else 1 := by
  unfold chkO; cases tl0 n l <;> simp [*]

set_option maxRecDepth 100000 in
set_option maxHeartbeats 1000000 in
theorem check_any (n : Nat) (l : List Nat) (w : World) (ho : OkO n l) : Calls Tryd.prog 21 #[oV n l] w (GiveF w (chkO n l)) := by
  obtain ⟨h8, hl, h32⟩ := ho
  have S := Bk.new w 26 (oc n l)
  have B0 := Lib.hid (bel1 w (.cells (oc n l).toArray 26))
  have h1 := oid_n S
  by_cases hn : n < 2 ∨ 16 < n
  · rw [show chkO n l = 1 from if_neg (by omega)]
    rcases hn with hn | hn
    · go_enter Tryd.func21, Tryd.ntmps21
      go_wp2
      go_ret
      exact ⟨rfl, B0.out⟩
    · go_enter Tryd.func21, Tryd.ntmps21
      go_wp2
      go_ret
      exact ⟨rfl, B0.out⟩
  · obtain ⟨a, b, m, rfl⟩ : ∃ a b m, l = a :: b :: m := by
      match l, hl with
      | a :: b :: m, _ => exact ⟨a, b, m, rfl⟩
    have ha := h32 a (by simp)
    have hb := h32 b (by simp)
    have c0 := oid_a S (i := 0) (by simp)
    have c1 := oid_a S (i := 1) (by simp)
    simp only [List.getElem_cons_zero, List.getElem_cons_succ, Nat.zero_add, Nat.reduceAdd] at c0 c1
    have hn1 : 2 ≤ n := by omega
    have hn2 : n ≤ 16 := by omega
    clear hn
    by_cases ha2 : 2 < a
    · rw [show chkO n (a :: b :: m) = 1 from if_neg (by simp [fst2]; omega)]
      have hd : decide ((2 : Int) < (a : Int)) = true := by rw [decide_eq_true_iff]; omega
      go_enter Tryd.func21, Tryd.ntmps21
      go_wp2
      go_quiet ((go_at_call 33; exact Calls.quiet_of_same (second_s _ _ rfl _)))
      go_wp2
      go_ret
      exact ⟨rfl, bel_drewN B0.out _⟩
    · have hd : decide ((2 : Int) < (a : Int)) = false := by rw [decide_eq_false_iff_not]; omega
      obtain ⟨s, hs⟩ : ∃ s, (if a = 2 then 4294967215 else 39) = s := ⟨_, rfl⟩
      have HS := Lib.hid hs
      by_cases hb2 : s < b
      · rw [show chkO n (a :: b :: m) = 1 from if_neg (by simp [fst2, hs]; omega)]
        have hd2 : decide (s < b) = true := by rw [decide_eq_true_iff]; omega
        clear hs
        go_enter Tryd.func21, Tryd.ntmps21
        go_wp2
        go_quiet ((go_at_call 33; exact Calls.quiet_of_same (second_s _ _ HS.out _)))
        go_wp2
        go_ret
        exact ⟨rfl, bel_drewN B0.out _⟩
      · have hf2 : fst2 (a :: b :: m) = true := by simp [fst2, hs]; omega
        have HF := Lib.hid (chkO_tail hn1 hn2 hf2)
        have hd2 : decide (s < b) = false := by rw [decide_eq_false_iff_not]; omega
        clear hs hf2 hb2 ha2
        rcases Nat.lt_or_ge n 16 with hn16 | hn16
        · have hsl := slice23 w.heap.size n hn16
          go_enter Tryd.func21, Tryd.ntmps21
          go_wp2
          go_quiet ((go_at_call 33; exact Calls.quiet_of_same (second_s _ _ HS.out _)))
          clear hd hd2
          have S2 : Bk ((w.alloc (.cells (oc n (a :: b :: m)).toArray 26)).drewN nq) w.heap.size 26 (oc n (a :: b :: m)) := S
          have B2 := Lib.hid (bel_drewN B0.out nq)
          have h2 := oid_n S2
          generalize (w.alloc (.cells (oc n (a :: b :: m)).toArray 26)).drewN nq = wx at *
          generalize a :: b :: m = l at *
          have hx := Lib.hid hl
          clear c0 c1 h1 S
          go_wp2
          go_loop [5, 32] (fun _ i => ∃ j : Nat, j ≤ 16 - n ∧ i = .int .i64 (j : Int) ∧ tl0 n l = tl0 (n + j) l) (fun _ i => 16 - n - (intOf i).toNat)
          case atStart => exact ⟨0, by omega, rfl, rfl⟩
          case round =>
            obtain ⟨j, hj, rfl, ht⟩ := hrel
            have HT := Lib.hid ht
            clear ht
            rcases Nat.lt_or_ge j (16 - n) with hj2 | hj2
            · have hc := oid_a' S2 (i := n + j) (by omega)
              rw [← Nat.add_assoc] at hc
              have hx := h32 l[n + j] (List.getElem_mem _)
              have HC := Lib.hid (tl0_cons (n := n + j) (l := l) (by omega))
              generalize l[n + j] = x at *
              by_cases hx0 : x = 0
              · subst hx0
                go_wp2
                go_round
                case rel => exact ⟨j + 1, by omega, by go_num, by rw [HT.out, HC.out]; rfl⟩
                case measure => simp [intOf]; omega
              · have hb : ((x : Int) != 0) = true := by rw [bne_iff_ne]; omega
                have HE : Hid (chkO n l = 1) := Lib.hid (by rw [HF.out, HT.out, HC.out]; simp [hx0])
                clear hx0
                go_wp2
                go_ret
                rw [HE.out]
                exact ⟨rfl, B2.out⟩
            · obtain rfl : j = 16 - n := by omega
              have HE : Hid (chkO n l = 0) := Lib.hid (by rw [HF.out, HT.out, tl0_end (by rw [hx.out]; omega)]; rfl)
              go_wp2
              go_ret
              rw [HE.out]
              exact ⟨rfl, B2.out⟩
        · obtain rfl : n = 16 := by omega
          have hsl := slice23e w.heap.size
          rw [HF.out, tl0_end (by omega)]
          go_enter Tryd.func21, Tryd.ntmps21
          go_wp2
          go_quiet ((go_at_call 33; exact Calls.quiet_of_same (second_s _ _ HS.out _)))
          go_wp2
          go_loop [5, 32] (fun _ i => i = .int .i64 0) (fun _ _ => 0)
          case atStart => rfl
          case round =>
            subst hrel
            go_wp2
            go_ret
            exact ⟨rfl, bel_drewN B0.out _⟩
end Go.Proofs.YtndamidmgglneaaDoor
