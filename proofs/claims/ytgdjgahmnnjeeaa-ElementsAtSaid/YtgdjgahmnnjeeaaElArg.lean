/-
  Layer 4: an argument of type E opened: its steps.
  Conditions: none.
-/
import Derived.Test.YtgdjgahmnnjeeaaElRow
namespace Go.Proofs.Ytgdjgahmnnjeeaa
open Go.ChangeShapes Go.WideShapes Go.ChangeAt Go.WideMaps Go.WideElems Go.RowKit

/-- A step. -/
structure Gd where
  (kind many a f n : Nat)
  bs : List Nat
/-- A step's cells. -/
@[reducible] def Gd.cells (g : Gd) (B : Option Addr) (cb : Nat) : List Value := [.int .u8 (g.kind : Int), .int .u8 (g.many : Int), .int .u8 (g.a : Int), .int .u8 (g.f : Int), .int .u32 (g.n : Int), .slice B g.bs.length cb]
def Gd.fits (g : Gd) : Prop := g.kind < 256 ∧ g.many < 256 ∧ g.a < 256 ∧ g.f < 256 ∧ g.n < 4294967296
/-- The header's address reads as the steps, one behind the other. -/
def RdG (w : World) (A : Option Addr) : List Gd → Prop
  | [] => True
  | g :: gs => ∃ b off B cb, A = some ⟨b, off, none⟩ ∧ b < w.heap.size ∧ (∀ j u, (g.cells B cb)[j]? = some u → w.cell? ⟨b, off + j, none⟩ = some u) ∧ g.fits ∧ Rb w B g.bs ∧ g.bs.length ≤ cb ∧ cb ≤ maxLen ∧ RdG w (some ⟨b, off + 6, none⟩) gs
theorem RdG.stay {w w' : World} (hb : Below w.heap.size w w') : ∀ {gs : List Gd} {A : Option Addr}, RdG w A gs → RdG w' A gs
  | [], _, _ => trivial
  | _ :: _, _, ⟨b, off, B, cb, h1, h2, h3, h4, h5, h6, h7, h8⟩ => ⟨b, off, B, cb, h1, Nat.lt_of_lt_of_le h2 hb.size, fun j u hu => (hb.cell (p := ⟨b, off + j, none⟩) h2).trans (h3 j u hu), h4, h5.below hb, h6, h7, RdG.stay hb h8⟩
theorem RdG.at_ {w : World} {A : Option Addr} {gs : List Gd} (h : RdG w A gs) {i : Nat} (hi : i < gs.length) :
    ∃ b off B cb, A = some ⟨b, off, none⟩ ∧ b < w.heap.size ∧ (∀ j u, (gs[i].cells B cb)[j]? = some u → w.cell? ⟨b, off + i * 6 + j, none⟩ = some u) ∧ gs[i].fits ∧ Rb w B gs[i].bs ∧ gs[i].bs.length ≤ cb ∧ cb ≤ maxLen := by
  induction gs generalizing A i with
  | nil => simp at hi
  | cons g gs ih =>
    obtain ⟨b, off, B, cb, h1, h2, h3, h4, h5, h6, h7, h8⟩ := h
    cases i with
    | zero => exact ⟨b, off, B, cb, h1, h2, by simpa using h3, h4, h5, h6, h7⟩
    | succ i =>
      obtain ⟨b', off', B', cb', k1, k2, k3, k4⟩ := ih h8 (by simpa using hi)
      simp only [Option.some.injEq, Addr.mk.injEq, and_true] at k1
      obtain ⟨rfl, rfl⟩ := k1
      refine ⟨b, off, B', cb', h1, k2, fun j u hu => ?_, by simpa using k4⟩
      rw [List.getElem_cons_succ] at hu
      rw [show off + (i + 1) * 6 + j = off + 6 + i * 6 + j by omega]
      exact k3 j u hu
section
variable {H : Type} {enc : TypeId × Value → H} {W : World} {base : Nat} {d : DataW H} {v : Value} {ps : List MemPlace}
theorem list6 {α : Type} {l : List α} (h : l.length = 6) : ∃ c0 c1 c2 c3 c4 c5, l = [c0, c1, c2, c3, c4, c5] := by
  match l, h with
  | [c0, c1, c2, c3, c4, c5], _ => exact ⟨c0, c1, c2, c3, c4, c5, rfl⟩
set_option maxRecDepth 100000 in
theorem open_step {fuel : Nat} {cs : List Value} {y : DataW H × List MemPlace} (hf : DataW.trod enc Try.prog W 0 (fun _ => true) true fuel 80 cs = some y) :
    ∃ (g : Gd) (B : Option Addr) (cb : Nat), cs = g.cells B cb ∧ g.fits ∧ Rb W B g.bs ∧ g.bs.length ≤ cb ∧ cb ≤ maxLen := by
  have e0 : Try.prog.cellsOf 80 = 6 := by kernel_rfl
  have e1 : Try.prog.cellsOf 5 = 1 := by kernel_rfl
  have e2 : Try.prog.cellsOf 78 = 3 := by kernel_rfl
  have e3 : Try.prog.cellsOf 26 = 1 := by kernel_rfl
  have e4 : Try.prog.cellsOf 23 = 1 := by kernel_rfl
  obtain ⟨y0, y1, y2, y3, n, _, hl, f0, f1, f2, f3⟩ := Joins.trod_struct4 Try.underlying80 hf
  rw [e0] at hl
  obtain ⟨c0, c1, c2, c3, c4, c5, rfl⟩ := list6 hl
  clear hf hl
  simp [e1, e2, e3] at f0 f1 f2 f3
  obtain ⟨z0, z1, z2, m, _, _, g0, g1, g2⟩ := Deep.trod_struct3 Try.underlying78 f2
  simp [e1, e4] at g0 g1 g2
  obtain ⟨kind, rfl, h0⟩ := u8_of Try.underlying5 f0
  obtain ⟨many, rfl, h1⟩ := u8_of Try.underlying5 f1
  obtain ⟨a, rfl, h2⟩ := u8_of Try.underlying5 g0
  obtain ⟨f, rfl, h3⟩ := u8_of Try.underlying5 g1
  obtain ⟨num, rfl, h4⟩ := u32_of Try.underlying23 g2
  obtain ⟨B, l, cb, h5, h6, h7, h8⟩ := open_cells f3
  simp only [List.cons.injEq, and_true] at h5
  subst h5
  exact ⟨⟨kind, many, a, f, num, l⟩, B, cb, rfl, ⟨h0, h1, h2, h3, h4⟩, h6, h7, h8⟩
theorem stepsG_at {b off len : Nat} (h : ∀ i, i < len → ∃ (g : Gd) (B : Option Addr) (cb : Nat), W.cells? 0 ((⟨b, off, none⟩ : Addr).add (i * 6)) 6 = some (g.cells B cb) ∧ g.fits ∧ Rb W B g.bs ∧ g.bs.length ≤ cb ∧ cb ≤ maxLen) :
    ∀ m, m ≤ len → ∃ gs : List Gd, gs.length = m ∧ RdG W (some ⟨b, off + (len - m) * 6, none⟩) gs := by
  intro m
  induction m with
  | zero => exact fun _ => ⟨[], rfl, trivial⟩
  | succ m ih =>
    intro hm
    obtain ⟨gs, hl, hs⟩ := ih (by omega)
    obtain ⟨g, B, cb, hc, h4, h5, h6, h7⟩ := h (len - (m + 1)) (by omega)
    rw [addr_add] at hc
    have hblk := World.cells?_block hc (by decide)
    obtain ⟨_, hlen, hcell⟩ := World.cells?_some hc
    refine ⟨g :: gs, by rw [List.length_cons, hl], b, off + (len - (m + 1)) * 6, B, cb, rfl, hblk, fun j u hu => ?_, h4, h5, h6, h7, ?_⟩
    · have hj : j < 6 := by rw [← hlen]; exact (List.getElem?_eq_some_iff.1 hu).1
      have := hcell j hj
      rw [addr_add, hu] at this
      exact this
    · have e1 : off + (len - (m + 1)) * 6 + 6 = off + (len - m) * 6 := by omega
      rw [e1]
      exact hs
theorem stepsG_of {a : Addr} {len : Nat} (h : ∀ i, i < len → ∃ (g : Gd) (B : Option Addr) (cb : Nat), W.cells? 0 (a.add (i * 6)) 6 = some (g.cells B cb) ∧ g.fits ∧ Rb W B g.bs ∧ g.bs.length ≤ cb ∧ cb ≤ maxLen) :
    ∃ gs : List Gd, gs.length = len ∧ RdG W (some a) gs := by
  rcases Nat.eq_zero_or_pos len with rfl | hp
  · exact ⟨[], rfl, trivial⟩
  obtain ⟨g, B, cb, hc, _⟩ := h 0 hp
  have ha : a.add (0 * 6) = a := by obtain ⟨b, off, s⟩ := a; simp [Addr.add]
  rw [ha] at hc
  obtain ⟨_, hlen, hcell⟩ := World.cells?_some hc
  have h0 := hcell 0 (by decide)
  rw [List.getElem?_eq_getElem (by rw [hlen]; decide)] at h0
  obtain ⟨b, off, spot⟩ := a
  have hspot : spot = none := by simpa [Addr.add] using World.cell?_spot h0
  subst hspot
  obtain ⟨gs, h1, h2⟩ := stepsG_at h len (Nat.le_refl _)
  rw [Nat.sub_self, Nat.zero_mul, Nat.add_zero] at h2
  exact ⟨gs, h1, h2⟩
set_option maxRecDepth 100000 in
/-- An argument of type E. -/
theorem open_E {r : Reach} (hval : Value.okWide Try.prog W r base 47 v) (hd : DataW.Trod enc Try.prog W 0 (fun _ => true) true 47 v d ps) :
    ∃ (A : Option Addr) (gs : List Gd) (c : Nat), v = .agg #[.slice A gs.length c] ∧ RdG W A gs ∧ gs.length ≤ c ∧ c ≤ maxLen := by
  have e0 : Try.prog.cellsOf 80 = 6 := by kernel_rfl
  have e1 : Try.prog.cellsOf 45 = 1 := by kernel_rfl
  have e2 : Try.prog.cellsOf 47 = 1 := by kernel_rfl
  obtain ⟨cs, rfl, hs⟩ := okWide_struct Try.underlying47 hval
  rw [e2] at hs
  obtain ⟨l⟩ := cs
  obtain ⟨u, rfl⟩ : ∃ u, l = [u] := List.length_eq_one_iff.1 hs
  obtain ⟨fuel, hf⟩ := hd
  obtain ⟨y, n, _, hl, hf2⟩ := trod_struct1 Try.underlying47 hf
  clear hf hl
  simp only [e1, List.drop_zero] at hf2
  simp [Value.cells] at hf2
  rcases DataW.trod_slice Try.underlying45 hf2 with ⟨h5, _⟩ | ⟨a, len, cap, elems, rest, n', _, h5, _, _, hlc, hcm, hel, hev, _⟩
  · simp only [List.cons.injEq, and_true] at h5
    subst h5
    exact ⟨none, [], 0, rfl, trivial, Nat.le_refl _, Nat.zero_le _⟩
  · simp only [List.cons.injEq, and_true] at h5
    subst h5
    rw [e0] at hev
    obtain ⟨gs, hgl, hgs⟩ := stepsG_of (W := W) (a := a) (len := len) (fun i hi => by
      have h6 := hev i hi
      rw [List.getElem?_eq_getElem (by omega)] at h6
      obtain ⟨cs', h7, h8⟩ := Option.bind_eq_some_iff.1 h6
      obtain ⟨g, B, cb, rfl, k1, k2, k3, k4⟩ := open_step h8
      exact ⟨g, B, cb, h7, k1, k2, k3, k4⟩)
    exact ⟨some a, gs, cap, by rw [hgl], hgs, by omega, hcm⟩
end
end Go.Proofs.Ytgdjgahmnnjeeaa
