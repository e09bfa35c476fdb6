/-
  Layer 12: what the closed statement stands on: 257 fields made and stored, the element behind long lengths, and its offsets.
  Conditions: none.
-/
import Derived.Test.YtfbdeefeagednaaFlEu
import Derived.Test.YtfbdeefeagednaaFlPb
namespace Go.Proofs.Ytfbdeefeagednaa.Fl
open Go.RowKit

@[reducible] def aFd : Fd := ⟨0, 0, false, true, true⟩
theorem infoFe : (Try.prog.info? 54).map (fun i => (i.zero, i.size, i.bytes)) = some (some (.agg #[.int .u8 0, .bool false, .int .u32 0, .bool false, .bool false]), 5, 12) := by kernel_rfl
theorem make_Fn (m : Nat) (hm : m ≤ 100000) (W : World) : ∃ L : List Value, L.length = m * 5 ∧ (Instr.makeSlice 56 (.int .i64 (m : Int)) (.int .i64 (m : Int))).run Try.prog W = .ok (.slice (some ⟨W.heap.size, 0, none⟩) m m) (W.alloc (.cells L.toArray 54)) := by
  obtain ⟨i, hi, hz0, hz1, hz2⟩ := info_parts infoFe
  have h := run_make (P := Try.prog) W 56 54 i _ Try.underlying56 hi hz0 .i64 .i64 (m : Int) (m : Int) (by omega) (Int.le_refl _) (by rw [hz2]; omega) (by omega)
  rw [hz1, Int.toNat_natCast] at h
  exact ⟨(madeCells _ (m * 5)).toList, by unfold madeCells; simp, by rw [h]⟩
theorem make_F (W : World) : ∃ L : List Value, L.length = 1285 ∧ (Instr.makeSlice 56 (.int .i64 257) (.int .i64 257)).run Try.prog W = .ok (.slice (some ⟨W.heap.size, 0, none⟩) 257 257) (W.alloc (.cells L.toArray 54)) := make_Fn 257 (by decide) W
theorem csF_snoc (n : Nat) : csF (List.replicate n aFd) ++ [.int .u8 0, .bool false, .int .u32 0, .bool true, .bool true] = csF (List.replicate (n + 1) aFd) := by
  rw [List.replicate_succ', csF, csF, List.flatMap_append]
  rfl
theorem five_of {R : List Value} {n : Nat} (h : R.length = (n + 1) * 5) : ∃ a0 a1 a2 a3 a4 R', R = a0 :: a1 :: a2 :: a3 :: a4 :: R' ∧ R'.length = n * 5 := by
  match R, h with
  | a0 :: a1 :: a2 :: a3 :: a4 :: R', h => exact ⟨a0, a1, a2, a3, a4, R', rfl, by simp at h; omega⟩
  | [], h => exact absurd h (by simp only [List.length_nil]; omega)
  | [_], h => exact absurd h (by simp only [List.length_cons, List.length_nil]; omega)
  | [_, _], h => exact absurd h (by simp only [List.length_cons, List.length_nil]; omega)
  | [_, _, _], h => exact absurd h (by simp only [List.length_cons, List.length_nil]; omega)
  | [_, _, _, _], h => exact absurd h (by simp only [List.length_cons, List.length_nil]; omega)
/-- A fault's two cells stored. -/
theorem st2 {w0 W : World} {g : Nat} {t : TypeId} {a b v0 v1 : Value} (K : Bk W g t [a, b]) (hb : Below w0.heap.size w0 W) (hg : w0.heap.size ≤ g) :
    Bk ((W.setCell ⟨g, 0, none⟩ v0).setCell ⟨g, 0 + 1, none⟩ v1) g t [v0, v1] ∧ Below w0.heap.size w0 ((W.setCell ⟨g, 0, none⟩ v0).setCell ⟨g, 0 + 1, none⟩ v1) :=
  ⟨(K.store 0 _).store (0 + 1) _, (hb.setCell (p := ⟨g, 0, none⟩) hg _).setCell (p := ⟨g, 0 + 1, none⟩) hg _⟩
theorem rx2 {W : World} {g : Nat} {v0 v1 : Value} {A : Option Addr} {xs : List Value} (h : RdX (fun i => i ≠ g) W A xs) : Rd ((W.setCell ⟨g, 0, none⟩ v0).setCell ⟨g, 0 + 1, none⟩ v1) A xs := fun hn => by
  obtain ⟨i, off, e, hi, hne, hc⟩ := h hn
  refine ⟨i, off, e, by rw [World.size_setCell, World.size_setCell]; exact hi, fun j u hu => ?_⟩
  rw [← hc j u hu]
  exact World.cell?_of_block (by rw [Below.heap_setCell _ _ _ _ (by exact hne), Below.heap_setCell _ _ _ _ (by exact hne)])
theorem rx5k {W : World} {g : Nat} {v0 v1 v2 v3 v4 : Value} {A : Option Addr} {xs : List Value} (h : RdX (fun i => i ≠ g) W A xs) : Rd (((((W.setCell ⟨g, 0, none⟩ v0).setCell ⟨g, 0 + 1, none⟩ v1).setCell ⟨g, 0 + 2, none⟩ v2).setCell ⟨g, 0 + 3, none⟩ v3).setCell ⟨g, 0 + 4, none⟩ v4) A xs := fun hn => by
  obtain ⟨i, off, e, hi, hne, hc⟩ := h hn
  refine ⟨i, off, e, by rw [siz5]; exact hi, fun j u hu => ?_⟩
  rw [← hc j u hu]
  exact World.cell?_of_block (far5 _ _ _ _ _ _ _ _ _ hne)
theorem l256 (g : Nat) : (∀ W, (Instr.slice 56 (.slice (some ⟨g, 0, none⟩) 257 257) none (some (.int .i64 256)) none).run Try.prog W = .ok (.slice (some ⟨g, 0, none⟩) 256 257) W) ∧ ∀ W, Rd W (some ⟨g, 0, none⟩) (csF (List.replicate 257 aFd)) → Rd W (some ⟨g, 0, none⟩) (csF (List.replicate 256 aFd)) := by
  have hsz : ∀ W, (sizeOf (Try.prog.elem 56)).run Try.prog W = .ok 5 W := fun W => by kernel_rfl
  refine ⟨fun W => ?_, fun W h => ?_⟩
  · have h := run_slice_h (P := Try.prog) W 56 (some ⟨g, 0, none⟩) 257 257 (by kernel_rfl) .i64 (256 : Int) (by omega) (by omega)
    rw [h, hsz]
    simp only [Result.andThen, sliced]
    rfl
  · intro hn
    obtain ⟨b, off, e, hb, hc⟩ := h (by intro e; have := congrArg List.length e; rw [csF_len, List.length_replicate] at this; exact absurd this (by decide))
    refine ⟨b, off, e, hb, fun j u hu => hc j u ?_⟩
    rw [← csF_snoc 256]
    have hl := (List.getElem?_eq_some_iff.1 hu).1
    rw [List.getElem?_append_left hl]
    exact hu
def iL : List Int := 0 :: 1 :: List.replicate 254 (-1)
theorem sq256 : sqR 0 16 true knE (List.replicate 256 aFd) = (iL, [], 0) := by decide +kernel
theorem sq257 : sqR 0 17 true knE (List.replicate 257 aFd) = ([], [], 3) := by decide +kernel
set_option maxRecDepth 100000 in
theorem iL_at {W : World} {A : Option Addr} (h : Rd W A (csZ iL)) : ∃ b off, A = some ⟨b, off, none⟩ ∧ b < W.heap.size ∧ W.cell? ⟨b, off, none⟩ = some (.int .i64 0) ∧ W.cell? ⟨b, off + 1, none⟩ = some (.int .i64 1) ∧ W.cell? ⟨b, off + 255, none⟩ = some (.int .i64 (-1)) := by
  obtain ⟨b, off, e, hb, hc⟩ := h (by intro e; have := congrArg List.length e; rw [csZ_len] at this; exact absurd this (by decide))
  exact ⟨b, off, e, hb, hc 0 _ rfl, hc 1 _ rfl, hc 255 _ (by unfold csZ; rw [List.getElem?_map, show iL[255]? = some (-1) from by decide +kernel]; rfl)⟩
def loE : El := .mk 0 4 false (List.replicate 200 0) []
def miE : El := .mk 0 16 true [] [loE, knE]
def ouE : El := .mk 2 31 true [] [loE, miE]
theorem ou_ok : OKe ouE := OKe.of (by decide +kernel)
set_option maxRecDepth 100000 in
theorem off_419 : offR ouE [1, 1, 1] = (419, 0) := by
  have a3 : atE knE [1] = some (.mk 0 1 false [255] []) := by rw [knE, atE, dif_pos (by decide)]; exact atE_nil _
  have a2 : atE miE [1, 1] = some (.mk 0 1 false [255] []) := by rw [miE, atE, dif_pos (by decide)]; exact a3
  have a1 : atE ouE [1, 1, 1] = some (.mk 0 1 false [255] []) := by rw [ouE, atE, dif_pos (by decide)]; exact a2
  have o3 : offE knE [1] = 5 := by
    have := offE_cons (c := 0) (n := 16) (k := true) (bs := []) (ss := [.mk 0 2 false [5] [], .mk 0 1 false [255] []]) (i := 1) (t := []) (by decide)
    rw [show offE knE [1] = _ from this, offE]
    decide +kernel
  have o2 : offE miE [1, 1] = 206 + 5 := by
    have := offE_cons (c := 0) (n := 16) (k := true) (bs := []) (ss := [loE, knE]) (i := 1) (t := [1]) (by decide)
    rw [show offE miE [1, 1] = _ from this, show [loE, knE][1] = knE from rfl, o3]
    congr 1
  have o1 : offE ouE [1, 1, 1] = 208 + (206 + 5) := by
    have := offE_cons (c := 2) (n := 31) (k := true) (bs := []) (ss := [loE, miE]) (i := 1) (t := [1, 1]) (by decide)
    rw [show offE ouE [1, 1, 1] = _ from this, show [loE, miE][1] = miE from rfl, o2]
    congr 1
  unfold offR
  rw [if_neg (by rw [ou_ok.siz]; simp), a1, o1]
theorem lo_rd {W : World} {A : Option Addr} (h : Rb W A (List.replicate 200 0)) : RdE false (fun _ => True) W loE (elV 0 4 false (.slice A 200 200) (.slice none 0 0)) :=
  ⟨by decide, by decide, h.2, A, 200, none, 0, rfl, fun hn => by obtain ⟨b, off, e, hb, hc⟩ := h.1 hn; exact ⟨b, off, e, hb, trivial, hc⟩, by rw [List.length_replicate]; exact Nat.le_refl _, by unfold maxLen; omega, Nat.le_refl _, Nat.zero_le _, (fun hx => by cases hx), trivial⟩
/-- Two elements laid one behind the other in a new block. -/
theorem two_rd {S : Nat → Prop} {W : World} {g c n c' n' : Nat} {k k' : Bool} {A B A' B' : Option Addr} {l q m r l' q' m' r' : Nat} {a b : El}
    (K : Bk W g 29 [.int .u8 (c : Int), .bool k, .int .u32 (n : Int), .slice A l q, .slice B m r, .int .u8 (c' : Int), .bool k', .int .u32 (n' : Int), .slice A' l' q', .slice B' m' r'])
    (hS : S g) (ha : RdE false S W a (elV c n k (.slice A l q) (.slice B m r))) (hb : RdE false S W b (elV c' n' k' (.slice A' l' q') (.slice B' m' r'))) : RdS false S W (some ⟨g, 0, none⟩) [a, b] := by
  have hc := fun i => K.cell i
  refine ⟨g, 0, _, rfl, K.lt, hS, fun j u hu => ?_, ha, ⟨g, 0 + 5, _, rfl, K.lt, hS, fun j u hu => ?_, hb, trivial⟩⟩
  · rw [hc, Nat.zero_add]
    match j, hu with
    | 0, hu => exact hu
    | 1, hu => exact hu
    | 2, hu => exact hu
    | 3, hu => exact hu
    | 4, hu => exact hu
    | j + 5, hu => exact absurd hu (by simp [Value.cells])
  · rw [hc]
    match j, hu with
    | 0, hu => exact hu
    | 1, hu => exact hu
    | 2, hu => exact hu
    | 3, hu => exact hu
    | 4, hu => exact hu
    | j + 5, hu => exact absurd hu (by simp [Value.cells])
end Go.Proofs.Ytfbdeefeagednaa.Fl
