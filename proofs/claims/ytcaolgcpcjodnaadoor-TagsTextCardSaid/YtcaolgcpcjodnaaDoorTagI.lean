/-
  Package tags: what the listed variables hold, FormatUint, Text.
  Conditions: the variables hold what the program's text lays.
-/
import Derived.Test.YtcaolgcpcjodnaaDoorTagH
import Derived.Shelf.Strconv.Itoa3
import Derived.Lib.AppendIntMem
import Derived.Deep.RegionHeld3
import Derived.Deep.RegionWith
namespace Go.Proofs.YtcaolgcpcjodnaaDoor
open Go.RowKit Go.Shelf Go.Sort Go.Lib

/-- The names of the classes. -/
def cname (c : Nat) : List Nat := if c = 0 then [117, 110, 105, 118, 101, 114, 115, 97, 108] else if c = 1 then [97, 112, 112, 108, 105, 99, 97, 116, 105, 111, 110] else if c = 2 then [99, 111, 110, 116, 101, 120, 116] else [112, 114, 105, 118, 97, 116, 101]
/-- The variables that the program reads hold what its text lays. -/
structure Env (w : World) : Prop where
  tab : Lib.TabIs Tryd.prog w "internal/strconv.uint64pow10" .u64 Lib.pow10Tab
  syn : ∃ tp p, w.var? Tryd.prog "strconv.ErrSyntax" = some #[.iface tp p]
  rng : ∃ tp p, w.var? Tryd.prog "strconv.ErrRange" = some #[.iface tp p]
  cls : w.var? Tryd.prog "vidimus/tags.classNames" = some #[.string (bstr (cname 0)), .string (bstr (cname 1)), .string (bstr (cname 2)), .string (bstr (cname 3))]
theorem var_below {P : Program} {w w' : World} {name : String} {cs : Array Value} (h : w.var? P name = some cs) (hb : Below w.heap.size w w') : w'.var? P name = some cs := by
  unfold World.var? at *
  cases hg : P.globalNamed name with
  | none => rw [hg] at h; cases h
  | some g =>
    rw [hg] at h
    simp only [Option.bind_some] at h ⊢
    have hlt : g < w.heap.size := by
      rcases Nat.lt_or_ge g w.heap.size with h1 | h1
      · exact h1
      · rw [Array.getElem?_eq_none h1] at h; cases h
    rw [hb.block g hlt]
    exact h
theorem Env.below {w w' : World} (h : Env w) (hb : Below w.heap.size w w') : Env w' :=
  ⟨var_below h.tab hb, by obtain ⟨t, p, e⟩ := h.syn; exact ⟨t, p, var_below e hb⟩, by obtain ⟨t, p, e⟩ := h.rng; exact ⟨t, p, var_below e hb⟩, var_below h.cls hb⟩
theorem bel_drewN {B : Nat} {a w : World} (h : Below B a w) (n : Nat) : Below B a (w.drewN n) := ⟨h.os, h.tape, h.output, h.size, h.block⟩
theorem gCls : Tryd.prog.globalNamed "vidimus/tags.classNames" = some 0 := by kernel_rfl
theorem Env.cls_cell {w : World} (h : Env w) (c : Nat) (hc : c ≤ 3) : w.cell? ⟨0, c, none⟩ = some (.string (bstr (cname c))) := by
  have h0 := World.var?_cell gCls h.cls c
  rcases c with _ | _ | _ | _ | c
  all_goals first | omega | simpa using h0

theorem fmtu_small (u : Nat) (hu : u < 100) (w : World) : Calls Tryd.prog 39 #[.int .u64 (u : Int), .int .i64 10] w fun e w' => e = .returned (.string ⟨(Lib.decDigits u).toArray⟩) ∧ Below w.heap.size w w' := by
  go_enter Tryd.func39, Tryd.ntmps39
  go_wp2_with (go_at_call 45; refine (Tryd.internal_strconv_small u hu _).mono ?_; rintro e w' ⟨rfl, rfl⟩)
  go_ret
  exact ⟨rfl, Below.refl _ _⟩
set_option maxRecDepth 100000 in
set_option maxHeartbeats 2000000 in
theorem fmtu_big (u : Nat) (hu1 : 100 ≤ u) (hu64 : u < 18446744073709551616) (w : World) (htab : Lib.TabIs Tryd.prog w "internal/strconv.uint64pow10" .u64 Lib.pow10Tab) :
    Calls Tryd.prog 39 #[.int .u64 (u : Int), .int .i64 10] w fun e w' => e = .returned (.string ⟨(Lib.decDigits u).toArray⟩) ∧ Below w.heap.size w w' := by
  have hnd20 : Lib.nDigits u ≤ 20 := by have := Lib.numDigits_eq u (by omega) hu64; split at this <;> omega
  have hsl : ∀ W, (Instr.sliceAt 88 (.pointer (some ⟨w.heap.size, 0, none⟩)) none (some (.int .i64 (Lib.nDigits u : Int))) none).run Tryd.prog W = .ok (.slice (some ⟨w.heap.size, 0, none⟩) (Lib.nDigits u) 24) W := fun W => by
    rw [run_sliceAt_array_h W 88 ⟨w.heap.size, 0, none⟩ (by kernel_rfl) .i64 (Lib.nDigits u : Int) (by omega) (by rw [show Tryd.prog.arrayLen 88 = 24 by kernel_rfl]; omega)]
    rw [show Tryd.prog.arrayLen 88 = 24 by kernel_rfl, show Tryd.prog.elem 88 = 5 by kernel_rfl]
    go_simp
  have hH0 := Lib.holds_zero0 w 88 (Lib.nDigits u) (by omega)
  have hfmt := Tryd.internal_strconv_formatBase10 w.heap.size 0 24 u (Array.replicate (Lib.nDigits u) 0) (w.alloc (.cells Lib.zeros24 88)) hH0 (by rw [Array.size_replicate]; exact Lib.lt_pow_nDigits u) hu64 (by rw [Array.size_replicate]; omega)
  rw [Array.size_replicate] at hfmt
  have HH0 := Lib.hid hH0
  clear hH0
  go_enter Tryd.func39, Tryd.ntmps39
  go_wp2_with (go_at_call 46; refine (Tryd.internal_strconv_numDigits u (by omega) hu64 _ (Lib.tabIs_alloc htab _)).mono ?_; rintro e w' ⟨rfl, rfl⟩)
  go_at_call 47
  refine hfmt.mono ?_
  rintro e w' ⟨rfl, k, v', dk, rfl, hF⟩
  have hcv : (convert 30 9 (.slice (some ⟨w.heap.size, 0, none⟩) (Lib.nDigits u) 24)).run Tryd.prog ((putRow (fun (b : UInt8) => Value.int .u8 (b.toNat : Int)) (w.alloc (.cells Lib.zeros24 88)) w.heap.size 0 dk).drewN k) = .ok (.string ⟨(Lib.decDigits u).toArray⟩) ((putRow (fun (b : UInt8) => Value.int .u8 (b.toNat : Int)) (w.alloc (.cells Lib.zeros24 88)) w.heap.size 0 dk).drewN k) := by
    have h := run_convert_bytes_back (P := Tryd.prog) ((putRow (fun (b : UInt8) => Value.int .u8 (b.toNat : Int)) (w.alloc (.cells Lib.zeros24 88)) w.heap.size 0 dk).drewN k) 30 9 5 ⟨w.heap.size, 0, none⟩ 24 (Lib.decDigits u) Tryd.underlying30 Tryd.underlying5 Tryd.underlying9 (fun j hj => by
      rw [Lib.row_is_numeral hF j hj, Lib.add_plain, World.cell?_drewN]
      exact cell?_putRow (fun (b : UInt8) => Value.int .u8 (b.toNat : Int)) _ w.heap.size 0 _ dk HH0.out (by rw [hF.size, Array.size_replicate]) j (by rw [hF.size]; rw [Lib.decDigits_length] at hj; exact hj))
    rw [Lib.decDigits_length] at h
    exact h
  go_wp2_with fail
  go_ret
  refine ⟨rfl, ?_⟩
  rw [alloc_eq_grow]
  obtain ⟨os', _, e⟩ := putRow_grow_new (fun (b : UInt8) => Value.int .u8 (b.toNat : Int)) w #[.cells Lib.zeros24 88] w.heap.size 0 dk (Nat.le_refl _)
  rw [e]
  exact Lib.below_grow _ _ (Nat.le_refl _) k os'
theorem fmtu_any (u : Nat) (hu64 : u < 18446744073709551616) (w : World) (htab : Lib.TabIs Tryd.prog w "internal/strconv.uint64pow10" .u64 Lib.pow10Tab) :
    Calls Tryd.prog 39 #[.int .u64 (u : Int), .int .i64 10] w fun e w' => e = .returned (.string ⟨(Lib.decDigits u).toArray⟩) ∧ Below w.heap.size w w' := by
  by_cases h : u < 100
  · exact fmtu_small u h w
  · exact fmtu_big u (by omega) hu64 w htab
theorem format_any (u : Nat) (hu64 : u < 18446744073709551616) (w : World) (htab : Lib.TabIs Tryd.prog w "internal/strconv.uint64pow10" .u64 Lib.pow10Tab) :
    Calls Tryd.prog 27 #[.int .u64 (u : Int), .int .i64 10] w fun e w' => e = .returned (.string ⟨(Lib.decDigits u).toArray⟩) ∧ Below w.heap.size w w' := by
  go_enter Tryd.func27, Tryd.ntmps27
  go_wp2_with (go_at_call 39; refine (fmtu_any u hu64 _ htab).mono ?_; rintro e w' ⟨rfl, hb⟩; have HB := Lib.hid hb; clear hb)
  go_ret
  exact ⟨rfl, HB.out⟩

/-- The decimal form. -/
def textL (v : Nat) : List Nat := if v = 0 then [48] else (dgs 10 v).reverse.map (48 + ·)
theorem dec_text (u : Nat) : Lib.decDigits u = (textL u).map UInt8.ofNat := by
  induction u using Nat.strongRecOn with
  | ind u ih =>
    by_cases h : u < 10
    · rw [Lib.decDigits_one h]
      by_cases h0 : u = 0
      · subst h0; rfl
      · rw [textL, if_neg h0, dgs_pos (by omega) h0, Nat.div_eq_of_lt h, Nat.mod_eq_of_lt h]
        rfl
    · rw [Lib.decDigits, dif_neg h, ih (u / 10) (by omega), textL, textL, if_neg (by omega), if_neg (by omega), dgs_pos (v := u) (by omega) (by omega)]
      simp
theorem dec_str (u : Nat) : (⟨(Lib.decDigits u).toArray⟩ : ByteArray) = bstr (textL u) := by rw [dec_text]; rfl
theorem textL_pos (u : Nat) : 0 < (textL u).length := by
  unfold textL; split
  · simp
  · rename_i h; rw [dgs_pos (by omega) h]; simp
theorem textL_le {u : Nat} (h : u < 18446744073709551616) : (textL u).length ≤ 20 := by
  unfold textL; split
  · simp
  · rw [List.length_map, List.length_reverse]
    exact (dgs_length (by omega) u 20).2 (by omega)
theorem bstr_size (l : List Nat) : (bstr l).size = l.length := by unfold bstr; simp [ByteArray.size]
theorem bstr_app (l m : List Nat) : bstr l ++ bstr m = bstr (l ++ m) := by
  apply ByteArray.ext
  rw [ByteArray.data_append]
  unfold bstr
  rw [List.map_append]
  simp
theorem cname_le (c : Nat) : (cname c).length ≤ 11 := by
  unfold cname
  split
  · simp
  · split
    · simp
    · split <;> simp
end Go.Proofs.YtcaolgcpcjodnaaDoor
