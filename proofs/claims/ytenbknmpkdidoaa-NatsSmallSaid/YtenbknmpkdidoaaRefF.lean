/-
  The reference of layer 1: the contract of Parse; and the statements' own helpers.
  Conditions: numbers are short, and read as digits.
-/
import Derived.Test.YtenbknmpkdidoaaRefE
import Derived.Deep.RegionWith
namespace Go.Proofs.Ytenbknmpkdidoaa
open Go.RowKit

set_option maxHeartbeats 400000 in
theorem fits_any (A : Option Addr) (v c : Nat) (w : World) (hv : (dgs 10 v).length ≤ 1000) (h : Ri w A (dgs 10 v)) :
    Calls Try.prog 28 #[.slice A (dgs 10 v).length c] w fun e w' => e = .returned (.int .i64 (limE v)) ∧ Below w.heap.size w w' := by
  have C1 := Lib.hid (bytes_any A v c w hv h)
  by_cases hl : v < 256 ^ 64
  · have h64 := (dig_length v 64).2 hl
    have e := Lib.hid (limE_lt hl)
    clear hl h hv
    go_enter Try.func28, Try.ntmps28
    go_wp2_with fail
    refine C1.out.mono ?_
    rintro e w1 ⟨A', c', rfl, h', hc1, hc2, hb⟩
    have HB := Lib.hid hb
    clear hb h' hc1 hc2
    go_wp2_with fail
    go_ret
    exact ⟨by rw [e.out]; rfl, HB.out⟩
  · have h64 : 64 < (dig v).length := by
      rcases Nat.lt_or_ge 64 (dig v).length with h | h
      · exact h
      · exact absurd ((dig_length v 64).1 h) hl
    have e := Lib.hid (limE_ge hl)
    clear hl h hv
    go_enter Try.func28, Try.ntmps28
    go_wp2_with fail
    refine C1.out.mono ?_
    rintro e w1 ⟨A', c', rfl, h', hc1, hc2, hb⟩
    have HB := Lib.hid hb
    clear hb h' hc1 hc2
    go_wp2_with fail
    go_ret
    exact ⟨by rw [e.out]; rfl, HB.out⟩

set_option maxHeartbeats 400000 in
theorem same_err (A B : Option Addr) (c m d : Nat) (f : Int) (w : World) (hf : f ≠ 0) :
    Calls Try.prog 19 #[.slice A 0 c, .int .i64 f, .slice B m d, .int .i64 f] w fun e w' => e = .returned (.bool true) ∧ Below w.heap.size w w' := by
  have h1 : (f != f) = false := by simp
  have h2 : (f != 0) = true := by simpa using hf
  go_enter Try.func19, Try.ntmps19
  go_wp2_with fail
  go_ret
  exact ⟨rfl, Below.refl _ _⟩


/-! The helper 'is'. -/
set_option maxHeartbeats 400000 in
theorem is_any (A : Option Addr) (l : List Nat) (c : Nat) (w : World) (hA : Rb w A l) :
    Calls Try.prog 40 #[.slice A l.length c, .int .i64 0, .string (bstr l)] w fun e w' => e = .returned (.bool true) ∧ w = w' := by
  have s0 := run_str8 hA c
  have hself : ((bstr l).toList == (bstr l).toList) = true := by rw [beq_iff_eq]
  clear hA
  go_enter Try.func40, Try.ntmps40
  go_wp2_with fail
  go_ret
  exact ⟨rfl, rfl⟩

/-! The helper 'power'. -/
theorem make_bytes (n : Nat) (hn : n ≤ 1000000) (W : World) : (Instr.makeSlice 22 (.int .i64 (n : Int)) (.int .i64 (n : Int))).run Try.prog W = .ok (.slice (some ⟨W.heap.size, 0, none⟩) n n) (W.alloc (.cells (cs8 (List.replicate n 0)).toArray 5)) := by
  obtain ⟨i, hi, hz0, hz1, hz2⟩ := info_parts info5
  have h := run_make (P := Try.prog) W 22 5 i (.int .u8 0) Try.underlying22 hi hz0 .i64 .i64 (n : Int) (n : Int) (by omega) (Int.le_refl _) (by rw [hz2]; omega) (by omega)
  rw [h, hz1, Int.toNat_natCast, Nat.mul_one]
  congr 3
  rw [show (Value.int IntKind.u8 0).cells = #[Value.int IntKind.u8 0] from rfl, made_one]
  unfold cs8
  rw [List.map_replicate]
  rfl
theorem val_pow (k : Nat) : val (2 ^ (k % 8) :: List.replicate (k / 8) 0) = 2 ^ k := by
  rw [val_cons, List.length_replicate, val_zero, Nat.add_zero, show 256 = 2 ^ 8 from rfl, ← Nat.pow_mul, ← Nat.pow_add]
  congr 1
  omega
set_option maxHeartbeats 400000 in
theorem power_any (k : Nat) (w : World) (hk : k ≤ 10000) :
    Calls Try.prog 39 #[.int .i64 k] w (GiveB w (2 ^ (k % 8) :: List.replicate (k / 8) 0)) := by
  have hmk0 := make_bytes (k / 8 + 1) (by omega)
  have e0 : ((k / 8 + 1 : Nat) : Int) = (k : Int) / 8 + 1 := by omega
  rw [e0] at hmk0
  obtain ⟨Z, hZ⟩ : ∃ Z, cs8 (List.replicate (k / 8 + 1) 0) = Z := ⟨_, rfl⟩
  have hz0 : Z[0]? = some (.int .u8 0) := by rw [← hZ]; rfl
  have HZ := Lib.hid hZ
  rw [hZ] at hmk0
  have hmk := hmk0
  clear hmk0 e0 hZ
  have hsh : ∀ j : Nat, j < 8 → 2 ^ j < 256 := by decide
  have h256 := hsh (k % 8) (Nat.mod_lt _ (by omega))
  clear hsh
  go_enter Try.func39, Try.ntmps39
  go_wp2_with fail
  go_ret
  have e2 : (Value.int IntKind.u8 (2 ^ (k % 8) % 256)) = by8 (2 ^ (k % 8)) := by
    unfold by8
    congr 1
    have e4 : ((2 : Int) ^ (k % 8)) = ((2 ^ (k % 8) : Nat) : Int) := by rw [Int.natCast_pow]; rfl
    have e5 : (((2 ^ (k % 8) : Nat) : Int)) % 256 = ((2 ^ (k % 8) : Nat) : Int) := by
      generalize 2 ^ (k % 8) = z at h256
      omega
    rw [e4, e5]
  have e3 : (List.replicate (k / 8 + 1) 0).set 0 (2 ^ (k % 8)) = 2 ^ (k % 8) :: List.replicate (k / 8) 0 := rfl
  have hl : (2 ^ (k % 8) :: List.replicate (k / 8) 0).length = k / 8 + 1 := by rw [List.length_cons, List.length_replicate]
  unfold GiveB
  rw [hl]
  refine ⟨some ⟨w.heap.size, 0, none⟩, k / 8 + 1, rfl, ⟨?_, ?_⟩, Nat.le_refl _, by unfold maxLen; omega, (Below.refl _ _).alloc (Nat.le_refl _) _⟩
  · rw [e2, ← HZ.out, cs8_set, e3]
    have := (Bk.new w 5 (cs8 (2 ^ (k % 8) :: List.replicate (k / 8) 0))).rd 0
    simpa using this
  · exact Lt.cons h256 (by intro x hx; simp at hx; omega)

/-! The numbers of the statements. -/
/-- What N.Of gives: the first 64 bytes without leading zeros. -/
def numL (l : List Nat) : List Nat := cutL (l.take 64)
theorem numL_ok {l : List Nat} (h : Lt 256 l) : Nat64 (numL l) := by
  have h1 : Lt 256 (l.take 64) := fun y hy => h y (List.mem_of_mem_take hy)
  unfold numL
  rw [cutL_eq h1]
  refine Nat64.of _ ?_
  have h2 := val_lt h1
  have h3 : 256 ^ (l.take 64).length ≤ 256 ^ 64 := Nat.pow_le_pow_right (by omega) (by simp; omega)
  omega
/-- What the loop of N.Of keeps. -/
def NRel (W : World) (m : List Nat) (n : Nat) (v : Value) : Prop :=
  ∃ (k : Nat) (A' : Option Addr) (c' : Nat), k ≤ n ∧ v = .slice A' (n - k) c' ∧ n - k ≤ c' ∧ c' ≤ 9223372036854775807 ∧ Rb W A' (m.drop k) ∧ ∀ j, j < k → m[j]? = some 0
set_option maxHeartbeats 1600000 in
theorem nof_any (A : Option Addr) (l : List Nat) (c : Nat) (w : World) (hlc : l.length ≤ c) (hc : c ≤ maxLen) (h : Rb w A l) :
    Calls Try.prog 25 #[.agg #[.slice A l.length c]] w (GiveB w (numL l)) := by
  have HC := Lib.hid hc
  unfold maxLen at hc
  have h1 : Below w.heap.size w (w.alloc (Obj.cells #[Value.slice A l.length c] 40)) := (Below.refl _ _).alloc (Nat.le_refl _) _
  by_cases h64 : 64 < l.length
  · obtain ⟨m, hm⟩ : ∃ m, l.take 64 = m := ⟨_, rfl⟩
    have HM : Hid (Rb (w.alloc (Obj.cells #[Value.slice A l.length c] 40)) A (m.drop 0)) := by show Rb _ _ _; rw [← hm]; exact (h.below h1).take_ 64
    have HL : Hid (m.length = 64) := by show _ = _; rw [← hm]; simp; omega
    have HE := Lib.hid hm
    clear hm h h1
    go_enter Try.func25, Try.ntmps25
    go_wp2_with fail
    go_loop [3] (fun s => NRel (w.alloc (Obj.cells #[Value.slice A l.length c] 40)) m 64 s) (fun s => match s with | .slice _ n _ => n | _ => 0)
    case atStart => exact ⟨0, A, c, Nat.zero_le _, rfl, by omega, by omega, HM.out, fun j hj => absurd hj (by omega)⟩
    case round =>
      obtain ⟨k, A', c', hk, rfl, hc1, hc2, hr, hz⟩ := hrel
      have HZ := Lib.hid hz
      have HR := Lib.hid hr
      clear hz hr
      by_cases hlt : k < 64 ∧ m[k]? = some 0
      · obtain ⟨hkl, hk0⟩ := hlt
        have hkm : k < m.length := by rw [HL.out]; exact hkl
        obtain ⟨b, off, hA', hb, hx, hcell⟩ := HR.out.at_ (k := 0) (by rw [List.length_drop, HL.out]; omega)
        subst hA'
        have e0 : (m.drop k)[0]'(by rw [List.length_drop, HL.out]; omega) = 0 := by
          rw [List.getElem_drop]
          rw [List.getElem?_eq_getElem hkm] at hk0
          simpa using Option.some.inj hk0
        rw [e0] at hcell
        simp only [Nat.add_zero] at hcell
        have hcell' : (w.alloc (Obj.cells #[Value.slice A l.length c] 40)).cell? ⟨b, off, none⟩ = some (.int .u8 0) := hcell
        have HK := Lib.hid hk0
        clear hcell e0 hx hk0
        by_cases hcc : c' = 1
        · subst hcc
          have hk1 : 64 - k = 1 := by omega
          rw [hk1]
          go_wp2_with fail
          refine ⟨⟨k + 1, _, _, by omega, by rw [show 64 - (k + 1) = 0 from by omega], by omega, by omega, by rw [List.drop_eq_nil_of_le (by rw [HL.out]; omega)]; exact Rb.nil, ?_⟩, by simp⟩
          intro j hj
          rcases Nat.lt_succ_iff_lt_or_eq.1 hj with hj | rfl
          · exact HZ.out j hj
          · exact HK.out
        · have hcc' : ¬ c' = 1 := hcc
          go_wp2_with fail
          refine ⟨⟨k + 1, some ⟨b, off + 1, none⟩, c' - 1, by omega, by rw [show 64 - (k + 1) = 64 - k - 1 from by omega], by omega, by omega, by have := HR.out.drop_ 1; rwa [List.drop_drop] at this, ?_⟩, by show 64 - k - 1 < 64 - k; omega⟩
          intro j hj
          rcases Nat.lt_succ_iff_lt_or_eq.1 hj with hj | rfl
          · exact HZ.out j hj
          · exact HK.out
      · have hcut : cutL m = m.drop k := cutL_stop (by rw [HL.out]; exact hk) (fun j hj => by
          have := HZ.out j hj
          rw [List.getElem?_eq_getElem (by rw [HL.out]; omega)] at this
          exact Option.some.inj this) (fun hkm => by
          intro e
          exact hlt ⟨by rw [HL.out] at hkm; exact hkm, by rw [List.getElem?_eq_getElem hkm, e]⟩)
        have HCut := Lib.hid hcut
        have hown : ((w.alloc (Obj.cells #[Value.slice A l.length c] 40)).alloc (.cells #[] 5)).ownsRow w.heap.size 5 1 (.slice (some ⟨w.heap.size + 1, 0, none⟩) 0 0) ([] : List Value).length [] := by
          have := World.ownsRow_made (base := w.heap.size) (e := 5) (size := 1) (w.alloc (Obj.cells #[Value.slice A l.length c] 40)) #[] 0 (by simp) (by unfold maxLen; omega) rfl
          simpa using this
        have hb2 : Below (w.alloc (Obj.cells #[Value.slice A l.length c] 40)).heap.size (w.alloc (Obj.cells #[Value.slice A l.length c] 40)) ((w.alloc (Obj.cells #[Value.slice A l.length c] 40)).alloc (.cells #[] 5)) := (Below.refl _ _).alloc (Nat.le_refl _) _
        obtain ⟨v', w2, hrun, hown2, hb3⟩ := app_src (P := Try.prog) (ty := 22) Try.underlying22 info5 rfl hown (c := c') ((HR.out.below hb2).1) (by intro u hu; obtain ⟨n, _, rfl⟩ := List.mem_map.1 hu; rfl) (by simp; omega) (by rw [cs8_length, List.length_drop, HL.out]; simp; omega) (by rw [cs8_length, List.length_drop, HL.out]; unfold maxLen; simp; omega)
        rw [cs8_length, List.length_drop, HL.out] at hrun
        have HOwn2 := Lib.hid hown2
        have HB3 := Lib.hid (show Below w.heap.size w w2 from (((Below.refl _ _).alloc (Nat.le_refl _) _).alloc (by simp) _).trans hb3)
        have HR8 := Lib.hid HR.out.2
        clear hown hb2 hown2 hb3
        by_cases hkl : k < 64
        · have hkm : k < m.length := by rw [HL.out]; exact hkl
          obtain ⟨b, off, hA', hb, hx, hcell⟩ := HR.out.at_ (k := 0) (by rw [List.length_drop, HL.out]; omega)
          subst hA'
          have hx0 : (m.drop k)[0]'(by rw [List.length_drop, HL.out]; omega) ≠ 0 := by
            rw [List.getElem_drop]
            intro e
            exact hlt ⟨hkl, by rw [List.getElem?_eq_getElem hkm]; simpa using e⟩
          generalize (m.drop k)[0]'(by rw [List.length_drop, HL.out]; omega) = x at hx0 hx hcell
          simp only [Nat.add_zero] at hcell
          have hcell' : (w.alloc (Obj.cells #[Value.slice A l.length c] 40)).cell? ⟨b, off, none⟩ = some (.int .u8 (x : Int)) := hcell
          have hb0 : ((x : Int) == 0) = false := by rw [beq_eq_false_iff_ne]; omega
          clear hcell hcut hlt
          go_wp2_with (at_builtin; refine wpList_app rfl _ _ _ _ rfl _ _ rfl rfl hrun ?_)
          go_ret
          have e1 : numL l = cutL m := by unfold numL; rw [HE.out]
          obtain ⟨B2, c2, rfl, hr2, hc2, hc3⟩ := own_open HOwn2.out
          rw [e1, HCut.out]
          unfold GiveB
          rw [List.nil_append, cs8_length] at hc2
          rw [List.nil_append] at hr2
          exact ⟨B2, c2, by rw [List.nil_append, cs8_length]; rfl, ⟨hr2, HR8.out⟩, hc2, hc3, HB3.out⟩
        · have hk64 : k = 64 := by omega
          subst hk64
          clear hcut hlt
          go_wp2_with (at_builtin; refine wpList_app rfl _ _ _ _ rfl _ _ rfl rfl hrun ?_)
          go_ret
          have e1 : numL l = cutL m := by unfold numL; rw [HE.out]
          obtain ⟨B2, c2, rfl, hr2, hc2, hc3⟩ := own_open HOwn2.out
          rw [e1, HCut.out]
          unfold GiveB
          rw [List.nil_append, cs8_length] at hc2
          rw [List.nil_append] at hr2
          exact ⟨B2, c2, by rw [List.nil_append, cs8_length]; rfl, ⟨hr2, HR8.out⟩, hc2, hc3, HB3.out⟩
  · have hl64 : l.length ≤ 64 := by omega
    obtain ⟨m, hm⟩ : ∃ m, l.take 64 = m := ⟨_, rfl⟩
    have HM : Hid (Rb (w.alloc (Obj.cells #[Value.slice A l.length c] 40)) A (m.drop 0)) := by show Rb _ _ _; rw [← hm]; exact (h.below h1).take_ 64
    have HL : Hid (m.length = l.length) := by show _ = _; rw [← hm]; simp; omega
    have HE := Lib.hid hm
    clear hm h h1
    go_enter Try.func25, Try.ntmps25
    go_wp2_with fail
    go_loop [3] (fun s => NRel (w.alloc (Obj.cells #[Value.slice A l.length c] 40)) m l.length s) (fun s => match s with | .slice _ n _ => n | _ => 0)
    case atStart => exact ⟨0, A, c, Nat.zero_le _, rfl, by omega, by omega, HM.out, fun j hj => absurd hj (by omega)⟩
    case round =>
      obtain ⟨k, A', c', hk, rfl, hc1, hc2, hr, hz⟩ := hrel
      have HZ := Lib.hid hz
      have HR := Lib.hid hr
      clear hz hr
      by_cases hlt : k < l.length ∧ m[k]? = some 0
      · obtain ⟨hkl, hk0⟩ := hlt
        have hkm : k < m.length := by rw [HL.out]; exact hkl
        obtain ⟨b, off, hA', hb, hx, hcell⟩ := HR.out.at_ (k := 0) (by rw [List.length_drop, HL.out]; omega)
        subst hA'
        have e0 : (m.drop k)[0]'(by rw [List.length_drop, HL.out]; omega) = 0 := by
          rw [List.getElem_drop]
          rw [List.getElem?_eq_getElem hkm] at hk0
          simpa using Option.some.inj hk0
        rw [e0] at hcell
        simp only [Nat.add_zero] at hcell
        have hcell' : (w.alloc (Obj.cells #[Value.slice A l.length c] 40)).cell? ⟨b, off, none⟩ = some (.int .u8 0) := hcell
        have HK := Lib.hid hk0
        clear hcell e0 hx hk0
        by_cases hcc : c' = 1
        · subst hcc
          have hk1 : l.length - k = 1 := by omega
          rw [hk1]
          go_wp2_with fail
          refine ⟨⟨k + 1, _, _, by omega, by rw [show l.length - (k + 1) = 0 from by omega], by omega, by omega, by rw [List.drop_eq_nil_of_le (by rw [HL.out]; omega)]; exact Rb.nil, ?_⟩, by simp⟩
          intro j hj
          rcases Nat.lt_succ_iff_lt_or_eq.1 hj with hj | rfl
          · exact HZ.out j hj
          · exact HK.out
        · have hcc' : ¬ c' = 1 := hcc
          go_wp2_with fail
          refine ⟨⟨k + 1, some ⟨b, off + 1, none⟩, c' - 1, by omega, by rw [show l.length - (k + 1) = l.length - k - 1 from by omega], by omega, by omega, by have := HR.out.drop_ 1; rwa [List.drop_drop] at this, ?_⟩, by show l.length - k - 1 < l.length - k; omega⟩
          intro j hj
          rcases Nat.lt_succ_iff_lt_or_eq.1 hj with hj | rfl
          · exact HZ.out j hj
          · exact HK.out
      · have hcut : cutL m = m.drop k := cutL_stop (by rw [HL.out]; exact hk) (fun j hj => by
          have := HZ.out j hj
          rw [List.getElem?_eq_getElem (by rw [HL.out]; omega)] at this
          exact Option.some.inj this) (fun hkm => by
          intro e
          exact hlt ⟨by rw [HL.out] at hkm; exact hkm, by rw [List.getElem?_eq_getElem hkm, e]⟩)
        have HCut := Lib.hid hcut
        have hown : ((w.alloc (Obj.cells #[Value.slice A l.length c] 40)).alloc (.cells #[] 5)).ownsRow w.heap.size 5 1 (.slice (some ⟨w.heap.size + 1, 0, none⟩) 0 0) ([] : List Value).length [] := by
          have := World.ownsRow_made (base := w.heap.size) (e := 5) (size := 1) (w.alloc (Obj.cells #[Value.slice A l.length c] 40)) #[] 0 (by simp) (by unfold maxLen; omega) rfl
          simpa using this
        have hb2 : Below (w.alloc (Obj.cells #[Value.slice A l.length c] 40)).heap.size (w.alloc (Obj.cells #[Value.slice A l.length c] 40)) ((w.alloc (Obj.cells #[Value.slice A l.length c] 40)).alloc (.cells #[] 5)) := (Below.refl _ _).alloc (Nat.le_refl _) _
        obtain ⟨v', w2, hrun, hown2, hb3⟩ := app_src (P := Try.prog) (ty := 22) Try.underlying22 info5 rfl hown (c := c') ((HR.out.below hb2).1) (by intro u hu; obtain ⟨n, _, rfl⟩ := List.mem_map.1 hu; rfl) (by simp; omega) (by rw [cs8_length, List.length_drop, HL.out]; simp; omega) (by rw [cs8_length, List.length_drop, HL.out]; unfold maxLen; simp; omega)
        rw [cs8_length, List.length_drop, HL.out] at hrun
        have HOwn2 := Lib.hid hown2
        have HB3 := Lib.hid (show Below w.heap.size w w2 from (((Below.refl _ _).alloc (Nat.le_refl _) _).alloc (by simp) _).trans hb3)
        have HR8 := Lib.hid HR.out.2
        clear hown hb2 hown2 hb3
        by_cases hkl : k < l.length
        · have hkm : k < m.length := by rw [HL.out]; exact hkl
          obtain ⟨b, off, hA', hb, hx, hcell⟩ := HR.out.at_ (k := 0) (by rw [List.length_drop, HL.out]; omega)
          subst hA'
          have hx0 : (m.drop k)[0]'(by rw [List.length_drop, HL.out]; omega) ≠ 0 := by
            rw [List.getElem_drop]
            intro e
            exact hlt ⟨hkl, by rw [List.getElem?_eq_getElem hkm]; simpa using e⟩
          generalize (m.drop k)[0]'(by rw [List.length_drop, HL.out]; omega) = x at hx0 hx hcell
          simp only [Nat.add_zero] at hcell
          have hcell' : (w.alloc (Obj.cells #[Value.slice A l.length c] 40)).cell? ⟨b, off, none⟩ = some (.int .u8 (x : Int)) := hcell
          have hb0 : ((x : Int) == 0) = false := by rw [beq_eq_false_iff_ne]; omega
          clear hcell hcut hlt
          go_wp2_with (at_builtin; refine wpList_app rfl _ _ _ _ rfl _ _ rfl rfl hrun ?_)
          go_ret
          have e1 : numL l = cutL m := by unfold numL; rw [HE.out]
          obtain ⟨B2, c2, rfl, hr2, hc2, hc3⟩ := own_open HOwn2.out
          rw [e1, HCut.out]
          unfold GiveB
          rw [List.nil_append, cs8_length] at hc2
          rw [List.nil_append] at hr2
          exact ⟨B2, c2, by rw [List.nil_append, cs8_length]; rfl, ⟨hr2, HR8.out⟩, hc2, hc3, HB3.out⟩
        · have hk64 : k = l.length := by omega
          subst hk64
          clear hcut hlt
          go_wp2_with (at_builtin; refine wpList_app rfl _ _ _ _ rfl _ _ rfl rfl hrun ?_)
          go_ret
          have e1 : numL l = cutL m := by unfold numL; rw [HE.out]
          obtain ⟨B2, c2, rfl, hr2, hc2, hc3⟩ := own_open HOwn2.out
          rw [e1, HCut.out]
          unfold GiveB
          rw [List.nil_append, cs8_length] at hc2
          rw [List.nil_append] at hr2
          exact ⟨B2, c2, by rw [List.nil_append, cs8_length]; rfl, ⟨hr2, HR8.out⟩, hc2, hc3, HB3.out⟩

/-! Parse. -/
def revD (l : List Nat) : List Nat := l.reverse.map (· - 48)
theorem revD_snoc (l : List Nat) (x : Nat) : revD (l ++ [x]) = (x - 48) :: revD l := by simp [revD]
theorem vl_revD (l : List Nat) : vl 10 (revD l) = decV l := by
  induction hn : l.length generalizing l with
  | zero =>
    rw [List.eq_nil_of_length_eq_zero hn]; rfl
  | succ n ih =>
    have hne : l ≠ [] := by intro e; subst e; simp at hn
    have e := List.dropLast_concat_getLast hne
    rw [← e, revD_snoc, decV_snoc, vl, ih l.dropLast (by rw [List.length_dropLast]; omega)]
    omega
theorem revD_lt {l : List Nat} (h : ∀ x ∈ l, decD x = true) : Lt 10 (revD l) := by
  intro y hy
  obtain ⟨x, hx, rfl⟩ := List.mem_map.1 hy
  have := h x (by simpa using hx)
  simp [decD] at this
  omega
/-- What Parse gives. -/
def GiveP (w : World) (l : List Nat) (f : Int) (e : Ending) (w' : World) : Prop :=
  ∃ A c, e = .returned (.tuple #[.slice A l.length c, .int .i64 f]) ∧ Ri w' A l ∧ Below w.heap.size w w'
def rparseL (l : List Nat) : List Nat := if parseE l = 0 then dgs 10 (decV l) else []
set_option maxHeartbeats 1600000 in
theorem rparse_any (s : ByteArray) (w : World) (hs : s.size ≤ 200) : Calls Try.prog 38 #[.string s] w (GiveP w (rparseL (sl s)) (parseE (sl s))) := by
  have htl : s.toList.map UInt8.toNat = sl s := by rw [ByteArray.toList_eq s]; rfl
  by_cases h0 : s.size = 0
  · have hnil : s.toList = [] := by
      have : (sl s).length = 0 := by rw [sl_length, h0]
      rw [← htl, List.length_map] at this
      exact List.eq_nil_of_length_eq_zero this
    have hb1 : s.toList.isEmpty = true := by rw [hnil]; rfl
    have hb2 : (s.toList == []) = true := by rw [hnil]; rfl
    have e1 : parseE (sl s) = 6 := by rw [← htl, hnil]; rfl
    have e2 : rparseL (sl s) = [] := by unfold rparseL; rw [e1]; rfl
    rw [e1, e2]
    clear e1 e2 htl h0
    go_enter Try.func38, Try.ntmps38
    go_wp2_with fail
    go_ret2
    exact ⟨_, _, rfl, Ri.nil, Below.refl _ _⟩
  · have hpos : 0 < s.size := by omega
    have hnil : s.toList ≠ [] := by
      intro e
      rw [e] at htl
      have h1 := sl_length s
      rw [← htl] at h1
      simp at h1
      omega
    have hb1 : s.toList.isEmpty = false := by
      cases hl : s.toList with
      | nil => exact absurd hl hnil
      | cons _ _ => rfl
    have hhd : (sl s)[0]? = some s[0].toNat := sl_get s 0 hpos
    have hx0 := s[0].toNat_lt
    have hne : (sl s).isEmpty = false := by
      cases hl : sl s with
      | nil => rw [hl] at hhd; cases hhd
      | cons _ _ => rfl
    by_cases h48 : s[0].toNat = 48
    · have hb3 : ((s[0].toNat : Int) == 48) = true := by rw [beq_iff_eq]; omega
      by_cases h1 : 1 < s.size
      · have e1 : parseE (sl s) = 6 := by
          have hn : (sl s == [48]) = false := by
            rw [beq_eq_false_iff_ne]
            intro e
            have := sl_length s
            rw [e] at this
            simp at this
            omega
          unfold parseE decB
          rw [hn, List.head?_eq_getElem?, hhd, h48]
          simp
        have e2 : rparseL (sl s) = [] := by unfold rparseL; rw [e1]; rfl
        rw [e1, e2]
        clear e1 e2 htl h0 hnil hhd hne h48
        go_enter Try.func38, Try.ntmps38
        go_wp2_with fail
        go_ret2
        exact ⟨_, _, rfl, Ri.nil, Below.refl _ _⟩
      · have HSec : Hid ((sl s == [48] || (!(sl s).isEmpty && (sl s).head? != some 48)) = true) := by
          show _ = _
          have e : sl s = [48] := by
            have h2 := sl_length s
            cases hl : sl s with
            | nil => rw [hl] at hhd; cases hhd
            | cons x m =>
              rw [hl] at h2 hhd
              simp at h2 hhd
              rw [hhd, h48, List.eq_nil_of_length_eq_zero (show m.length = 0 by omega)]
          rw [e]; rfl
        have h1' : s.size ≤ 1 := by omega
        clear htl h0 hnil hhd hne h48 h1
        go_enter Try.func38, Try.ntmps38
        go_wp2_with fail
        go_loopw [4, 5] (fun o i wr => ∃ (k : Nat) (A : Option Addr) (c : Nat), k ≤ s.size ∧ i = .int .i64 k ∧ o = .slice A k c ∧ k ≤ c ∧ c ≤ maxLen ∧ Ri wr A (revD ((sl s).take k)) ∧ (∀ x ∈ (sl s).take k, decD x = true) ∧ Below w.heap.size w wr) (fun _ i _ => s.size - (intOf i).toNat)
        case atStart => exact ⟨0, none, 0, Nat.zero_le _, rfl, rfl, Nat.le_refl _, by unfold maxLen; omega, Ri.nil, by simp, Below.refl _ _⟩
        case round =>
          obtain ⟨k, A, c, hk, rfl, rfl, hc1, hc2, hr, hall, hbel⟩ := hrel
          have HR := Lib.hid hr
          have HALL := Lib.hid hall
          have HBel := Lib.hid hbel
          have HC := Lib.hid (And.intro hc1 hc2)
          have hlen : (revD ((sl s).take k)).length = k := by unfold revD; rw [List.length_map, List.length_reverse, List.length_take, sl_length]; omega
          have HLen := Lib.hid hlen
          clear hr hall hbel hc1 hc2 hlen
          by_cases hlt : k < s.size
          · have hx := s[k].toNat_lt
            have hkl : k < (sl s).length := by rw [sl_length]; exact hlt
            have HTk : Hid ((sl s).take (k + 1) = (sl s).take k ++ [s[k].toNat]) := by
              show _ = _
              have hg := sl_get s k hlt
              rw [List.getElem?_eq_getElem hkl] at hg
              rw [List.take_succ_eq_append_getElem hkl, Option.some.inj hg]
            by_cases hd : 48 ≤ s[k].toNat ∧ s[k].toNat ≤ 57
            · obtain ⟨hd1, hd2⟩ := hd
              obtain ⟨x, hxe⟩ : ∃ x : Nat, (s[k].toNat : Int) - 48 = (x : Int) := ⟨s[k].toNat - 48, by omega⟩
              have hx9 : x < 10 := by omega
              have hxn : s[k].toNat - 48 = x := by omega
              obtain ⟨v', w2, hrun, hown2, hb3⟩ := app_src (P := Try.prog) (ty := 43) Try.underlying43 info3 rfl (own_lit wr 3 (.int .i64 (x : Int))) (c := c) (Rd.below (w' := wr.alloc (.cells #[.int .i64 (x : Int)] 3)) HR.out ((Below.refl _ _).alloc (Nat.le_refl _) _)) (by intro u hu; obtain ⟨n, _, rfl⟩ := List.mem_map.1 hu; rfl) (by simp) (by rw [csI_length, HLen.out, List.length_singleton]; omega) (by rw [csI_length, HLen.out, List.length_singleton]; unfold maxLen; omega)
              rw [csI_length, HLen.out] at hrun
              have HOwn2 := Lib.hid hown2
              have HB3 := Lib.hid (show Below wr.heap.size wr w2 from ((Below.refl _ _).alloc (Nat.le_refl _) _).trans hb3)
              have HXn := Lib.hid hxn
              have hdd : decD s[k].toNat = true := by simp [decD, hd1, hd2]
              have HDD := Lib.hid hdd
              clear hown2 hb3 hxn hdd
              go_wp2_with (at_builtin; refine wpList_app rfl _ _ _ _ rfl _ _ rfl rfl hrun ?_)
              obtain ⟨B2, c2, rfl, hr2, hcc2, hcc3⟩ := own_open HOwn2.out
              have e1 : [Value.int .i64 (x : Int)] ++ csI (revD ((sl s).take k)) = csI (revD ((sl s).take (k + 1))) := by rw [HTk.out, revD_snoc, HXn.out]; rfl
              have e2 : ([Value.int .i64 (x : Int)] ++ csI (revD ((sl s).take k))).length = k + 1 := by rw [List.length_append, csI_length, HLen.out, List.length_singleton]; omega
              rw [e1] at hr2
              rw [e2] at hcc2
              refine ⟨⟨k + 1, B2, c2, by omega, by go_num, by rw [e2], hcc2, hcc3, hr2, ?_, (HBel.out).trans ((HB3.out).mono (HBel.out).size)⟩, by simp [intOf]; omega⟩
              rw [HTk.out]
              intro y hy
              rcases List.mem_append.1 hy with hy | hy
              · exact HALL.out y hy
              · rw [List.mem_singleton.1 hy]; exact HDD.out
            · have hdf : parseE (sl s) = 6 := by
                have hm : s[k].toNat ∈ sl s := List.mem_of_getElem? (sl_get s k hlt)
                have hdx : decD s[k].toNat = false := by simp [decD]; omega
                have : (sl s).all decD = false := by
                  rw [Bool.eq_false_iff]
                  intro h
                  have := List.all_eq_true.1 h _ hm
                  rw [hdx] at this; cases this
                unfold parseE decB
                rw [this]; rfl
              have hl2 : rparseL (sl s) = [] := by unfold rparseL; rw [hdf]; rfl
              have HE := Lib.hid hdf
              have HL := Lib.hid hl2
              clear hdf hl2
              by_cases h1 : s[k].toNat < 48
              · go_wp2_with fail
                go_ret2
                unfold GiveP
                rw [HE.out, HL.out]
                exact ⟨none, 0, rfl, Ri.nil, HBel.out⟩
              · have h2 : 48 ≤ s[k].toNat := by omega
                have h3 : 57 < s[k].toNat := by omega
                go_wp2_with fail
                go_ret2
                unfold GiveP
                rw [HE.out, HL.out]
                exact ⟨none, 0, rfl, Ri.nil, HBel.out⟩
          · have hks : k = s.size := by omega
            subst hks
            have ht : (sl s).take s.size = sl s := List.take_of_length_le (by rw [sl_length]; exact Nat.le_refl _)
            rw [ht] at HR HALL HLen
            have hdec : decB (sl s) = true := by
              unfold decB
              rw [HSec.out, List.all_eq_true.2 HALL.out]; rfl
            have hpe : parseE (sl s) = limE (decV (sl s)) := by unfold parseE; rw [hdec]; rfl
            have C1 := trim_any A (revD (sl s)) c wr (by rw [HLen.out]; exact HC.out.1) HC.out.2 HR.out
            have et : trimL (revD (sl s)) = dgs 10 (decV (sl s)) := trimL_eq_of (by omega) (revD_lt HALL.out) (vl_revD _)
            rw [HLen.out, et] at C1
            have hlen2 : (dgs 10 (decV (sl s))).length ≤ 200 := by
              have := trimL_length (revD (sl s))
              rw [et, HLen.out] at this
              omega
            have HC1 := Lib.hid C1
            have HPE := Lib.hid hpe
            clear C1 et hdec hpe ht
            obtain ⟨v, hv⟩ : ∃ v, decV (sl s) = v := ⟨_, rfl⟩
            rw [hv] at HC1 HPE hlen2
            have HV := Lib.hid hv
            clear hv
            by_cases h155 : 155 < (dgs 10 v).length
            · have hbig : ¬ v < 256 ^ 64 := fun h => by
                have := (dgs_length (b := 10) (by omega) v 155).2 (Nat.lt_of_lt_of_le h (by decide))
                omega
              have HE : Hid (parseE (sl s) = 3) := HPE.out.trans (limE_ge hbig)
              have HL : Hid (rparseL (sl s) = []) := by show _ = _; unfold rparseL; rw [HE.out]; rfl
              clear hbig
              generalize dgs 10 v = P at *
              go_wp2_with fail
              refine HC1.out.mono ?_
              rintro e w' ⟨rfl, hr', rfl⟩
              go_wp2_with fail
              go_ret2
              unfold GiveP
              rw [HE.out, HL.out]
              exact ⟨_, _, rfl, Ri.nil, HBel.out⟩
            · have h155' : (dgs 10 v).length ≤ 155 := by omega
              have C2 := fun hr' => bytes_any A v c wr (by omega) hr'
              have HC2 := Lib.hid C2
              clear C2
              by_cases hlim : v < 256 ^ 64
              · have h64 := (dig_length v 64).2 hlim
                have HE : Hid (parseE (sl s) = 0) := HPE.out.trans (limE_lt hlim)
                have HL : Hid (rparseL (sl s) = dgs 10 v) := by show _ = _; unfold rparseL; rw [HE.out, HV.out]; rfl
                clear hlim h155
                generalize dgs 10 v = P at *
                go_wp2_with fail
                refine HC1.out.mono ?_
                rintro e w' ⟨rfl, hr', rfl⟩
                have HR' := Lib.hid hr'
                clear hr'
                go_wp2_with fail
                refine (HC2.out HR'.out).mono ?_
                rintro e w1 ⟨A1, c1, rfl, _, _, _, hb⟩
                have HB := Lib.hid hb
                clear hb
                go_wp2_with fail
                go_ret2
                unfold GiveP
                rw [HE.out, HL.out]
                exact ⟨_, _, rfl, HR'.out.below HB.out, (HBel.out).trans ((HB.out).mono (HBel.out).size)⟩
              · have h64 : 64 < (dig v).length := by
                  rcases Nat.lt_or_ge 64 (dig v).length with h | h
                  · exact h
                  · exact absurd ((dig_length v 64).1 h) hlim
                have HE : Hid (parseE (sl s) = 3) := HPE.out.trans (limE_ge hlim)
                have HL : Hid (rparseL (sl s) = []) := by show _ = _; unfold rparseL; rw [HE.out]; rfl
                clear hlim h155
                generalize dgs 10 v = P at *
                go_wp2_with fail
                refine HC1.out.mono ?_
                rintro e w' ⟨rfl, hr', rfl⟩
                have HR' := Lib.hid hr'
                clear hr'
                go_wp2_with fail
                refine (HC2.out HR'.out).mono ?_
                rintro e w1 ⟨A1, c1, rfl, _, _, _, hb⟩
                have HB := Lib.hid hb
                clear hb
                go_wp2_with fail
                go_ret2
                unfold GiveP
                rw [HE.out, HL.out]
                exact ⟨_, _, rfl, Ri.nil, (HBel.out).trans ((HB.out).mono (HBel.out).size)⟩
    · have hb3 : ((s[0].toNat : Int) == 48) = false := by rw [beq_eq_false_iff_ne]; omega
      have HSec : Hid ((sl s == [48] || (!(sl s).isEmpty && (sl s).head? != some 48)) = true) := by
        show _ = _
        rw [hne, List.head?_eq_getElem?, hhd]
        simp [h48]
      clear htl h0 hnil hhd hne h48
      go_enter Try.func38, Try.ntmps38
      go_wp2_with fail
      go_loopw [4, 5] (fun o i wr => ∃ (k : Nat) (A : Option Addr) (c : Nat), k ≤ s.size ∧ i = .int .i64 k ∧ o = .slice A k c ∧ k ≤ c ∧ c ≤ maxLen ∧ Ri wr A (revD ((sl s).take k)) ∧ (∀ x ∈ (sl s).take k, decD x = true) ∧ Below w.heap.size w wr) (fun _ i _ => s.size - (intOf i).toNat)
      case atStart => exact ⟨0, none, 0, Nat.zero_le _, rfl, rfl, Nat.le_refl _, by unfold maxLen; omega, Ri.nil, by simp, Below.refl _ _⟩
      case round =>
        obtain ⟨k, A, c, hk, rfl, rfl, hc1, hc2, hr, hall, hbel⟩ := hrel
        have HR := Lib.hid hr
        have HALL := Lib.hid hall
        have HBel := Lib.hid hbel
        have HC := Lib.hid (And.intro hc1 hc2)
        have hlen : (revD ((sl s).take k)).length = k := by unfold revD; rw [List.length_map, List.length_reverse, List.length_take, sl_length]; omega
        have HLen := Lib.hid hlen
        clear hr hall hbel hc1 hc2 hlen
        by_cases hlt : k < s.size
        · have hx := s[k].toNat_lt
          have hkl : k < (sl s).length := by rw [sl_length]; exact hlt
          have HTk : Hid ((sl s).take (k + 1) = (sl s).take k ++ [s[k].toNat]) := by
            show _ = _
            have hg := sl_get s k hlt
            rw [List.getElem?_eq_getElem hkl] at hg
            rw [List.take_succ_eq_append_getElem hkl, Option.some.inj hg]
          by_cases hd : 48 ≤ s[k].toNat ∧ s[k].toNat ≤ 57
          · obtain ⟨hd1, hd2⟩ := hd
            obtain ⟨x, hxe⟩ : ∃ x : Nat, (s[k].toNat : Int) - 48 = (x : Int) := ⟨s[k].toNat - 48, by omega⟩
            have hx9 : x < 10 := by omega
            have hxn : s[k].toNat - 48 = x := by omega
            obtain ⟨v', w2, hrun, hown2, hb3⟩ := app_src (P := Try.prog) (ty := 43) Try.underlying43 info3 rfl (own_lit wr 3 (.int .i64 (x : Int))) (c := c) (Rd.below (w' := wr.alloc (.cells #[.int .i64 (x : Int)] 3)) HR.out ((Below.refl _ _).alloc (Nat.le_refl _) _)) (by intro u hu; obtain ⟨n, _, rfl⟩ := List.mem_map.1 hu; rfl) (by simp) (by rw [csI_length, HLen.out, List.length_singleton]; omega) (by rw [csI_length, HLen.out, List.length_singleton]; unfold maxLen; omega)
            rw [csI_length, HLen.out] at hrun
            have HOwn2 := Lib.hid hown2
            have HB3 := Lib.hid (show Below wr.heap.size wr w2 from ((Below.refl _ _).alloc (Nat.le_refl _) _).trans hb3)
            have HXn := Lib.hid hxn
            have hdd : decD s[k].toNat = true := by simp [decD, hd1, hd2]
            have HDD := Lib.hid hdd
            clear hown2 hb3 hxn hdd
            go_wp2_with (at_builtin; refine wpList_app rfl _ _ _ _ rfl _ _ rfl rfl hrun ?_)
            obtain ⟨B2, c2, rfl, hr2, hcc2, hcc3⟩ := own_open HOwn2.out
            have e1 : [Value.int .i64 (x : Int)] ++ csI (revD ((sl s).take k)) = csI (revD ((sl s).take (k + 1))) := by rw [HTk.out, revD_snoc, HXn.out]; rfl
            have e2 : ([Value.int .i64 (x : Int)] ++ csI (revD ((sl s).take k))).length = k + 1 := by rw [List.length_append, csI_length, HLen.out, List.length_singleton]; omega
            rw [e1] at hr2
            rw [e2] at hcc2
            refine ⟨⟨k + 1, B2, c2, by omega, by go_num, by rw [e2], hcc2, hcc3, hr2, ?_, (HBel.out).trans ((HB3.out).mono (HBel.out).size)⟩, by simp [intOf]; omega⟩
            rw [HTk.out]
            intro y hy
            rcases List.mem_append.1 hy with hy | hy
            · exact HALL.out y hy
            · rw [List.mem_singleton.1 hy]; exact HDD.out
          · have hdf : parseE (sl s) = 6 := by
              have hm : s[k].toNat ∈ sl s := List.mem_of_getElem? (sl_get s k hlt)
              have hdx : decD s[k].toNat = false := by simp [decD]; omega
              have : (sl s).all decD = false := by
                rw [Bool.eq_false_iff]
                intro h
                have := List.all_eq_true.1 h _ hm
                rw [hdx] at this; cases this
              unfold parseE decB
              rw [this]; rfl
            have hl2 : rparseL (sl s) = [] := by unfold rparseL; rw [hdf]; rfl
            have HE := Lib.hid hdf
            have HL := Lib.hid hl2
            clear hdf hl2
            by_cases h1 : s[k].toNat < 48
            · go_wp2_with fail
              go_ret2
              unfold GiveP
              rw [HE.out, HL.out]
              exact ⟨none, 0, rfl, Ri.nil, HBel.out⟩
            · have h2 : 48 ≤ s[k].toNat := by omega
              have h3 : 57 < s[k].toNat := by omega
              go_wp2_with fail
              go_ret2
              unfold GiveP
              rw [HE.out, HL.out]
              exact ⟨none, 0, rfl, Ri.nil, HBel.out⟩
        · have hks : k = s.size := by omega
          subst hks
          have ht : (sl s).take s.size = sl s := List.take_of_length_le (by rw [sl_length]; exact Nat.le_refl _)
          rw [ht] at HR HALL HLen
          have hdec : decB (sl s) = true := by
            unfold decB
            rw [HSec.out, List.all_eq_true.2 HALL.out]; rfl
          have hpe : parseE (sl s) = limE (decV (sl s)) := by unfold parseE; rw [hdec]; rfl
          have C1 := trim_any A (revD (sl s)) c wr (by rw [HLen.out]; exact HC.out.1) HC.out.2 HR.out
          have et : trimL (revD (sl s)) = dgs 10 (decV (sl s)) := trimL_eq_of (by omega) (revD_lt HALL.out) (vl_revD _)
          rw [HLen.out, et] at C1
          have hlen2 : (dgs 10 (decV (sl s))).length ≤ 200 := by
            have := trimL_length (revD (sl s))
            rw [et, HLen.out] at this
            omega
          have HC1 := Lib.hid C1
          have HPE := Lib.hid hpe
          clear C1 et hdec hpe ht
          obtain ⟨v, hv⟩ : ∃ v, decV (sl s) = v := ⟨_, rfl⟩
          rw [hv] at HC1 HPE hlen2
          have HV := Lib.hid hv
          clear hv
          by_cases h155 : 155 < (dgs 10 v).length
          · have hbig : ¬ v < 256 ^ 64 := fun h => by
              have := (dgs_length (b := 10) (by omega) v 155).2 (Nat.lt_of_lt_of_le h (by decide))
              omega
            have HE : Hid (parseE (sl s) = 3) := HPE.out.trans (limE_ge hbig)
            have HL : Hid (rparseL (sl s) = []) := by show _ = _; unfold rparseL; rw [HE.out]; rfl
            clear hbig
            generalize dgs 10 v = P at *
            go_wp2_with fail
            refine HC1.out.mono ?_
            rintro e w' ⟨rfl, hr', rfl⟩
            go_wp2_with fail
            go_ret2
            unfold GiveP
            rw [HE.out, HL.out]
            exact ⟨_, _, rfl, Ri.nil, HBel.out⟩
          · have h155' : (dgs 10 v).length ≤ 155 := by omega
            have C2 := fun hr' => bytes_any A v c wr (by omega) hr'
            have HC2 := Lib.hid C2
            clear C2
            by_cases hlim : v < 256 ^ 64
            · have h64 := (dig_length v 64).2 hlim
              have HE : Hid (parseE (sl s) = 0) := HPE.out.trans (limE_lt hlim)
              have HL : Hid (rparseL (sl s) = dgs 10 v) := by show _ = _; unfold rparseL; rw [HE.out, HV.out]; rfl
              clear hlim h155
              generalize dgs 10 v = P at *
              go_wp2_with fail
              refine HC1.out.mono ?_
              rintro e w' ⟨rfl, hr', rfl⟩
              have HR' := Lib.hid hr'
              clear hr'
              go_wp2_with fail
              refine (HC2.out HR'.out).mono ?_
              rintro e w1 ⟨A1, c1, rfl, _, _, _, hb⟩
              have HB := Lib.hid hb
              clear hb
              go_wp2_with fail
              go_ret2
              unfold GiveP
              rw [HE.out, HL.out]
              exact ⟨_, _, rfl, HR'.out.below HB.out, (HBel.out).trans ((HB.out).mono (HBel.out).size)⟩
            · have h64 : 64 < (dig v).length := by
                rcases Nat.lt_or_ge 64 (dig v).length with h | h
                · exact h
                · exact absurd ((dig_length v 64).1 h) hlim
              have HE : Hid (parseE (sl s) = 3) := HPE.out.trans (limE_ge hlim)
              have HL : Hid (rparseL (sl s) = []) := by show _ = _; unfold rparseL; rw [HE.out]; rfl
              clear hlim h155
              generalize dgs 10 v = P at *
              go_wp2_with fail
              refine HC1.out.mono ?_
              rintro e w' ⟨rfl, hr', rfl⟩
              have HR' := Lib.hid hr'
              clear hr'
              go_wp2_with fail
              refine (HC2.out HR'.out).mono ?_
              rintro e w1 ⟨A1, c1, rfl, _, _, _, hb⟩
              have HB := Lib.hid hb
              clear hb
              go_wp2_with fail
              go_ret2
              unfold GiveP
              rw [HE.out, HL.out]
              exact ⟨_, _, rfl, Ri.nil, (HBel.out).trans ((HB.out).mono (HBel.out).size)⟩
end Go.Proofs.Ytenbknmpkdidoaa
