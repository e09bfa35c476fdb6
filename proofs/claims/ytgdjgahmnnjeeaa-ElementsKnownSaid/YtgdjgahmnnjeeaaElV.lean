/-
  Layer 4: contracts of Next's closure, Next, Get.
  Conditions: none beyond that the slice reads as bytes.
-/
import Derived.Test.YtgdjgahmnnjeeaaElU
namespace Go.Proofs.Ytgdjgahmnnjeeaa
open Go.RowKit

@[reducible] def elZ : List Value := [.int .u8 0, .bool false, .int .u32 0, .slice none 0 0, .slice none 0 0]
set_option maxHeartbeats 1000000 in
set_option maxRecDepth 100000 in
theorem elem_none {D : Nat} (f d b : Nat) (w : World) (hBk : Bk w D 86 [.slice none 0 0, .int .i64 (b : Int)]) :
    Calls Try.prog 50 #[.pointer (some ⟨D, 0, none⟩), .int .i64 0, .int .i64 0, .int .i64 (d : Int)] w (GiveX D (.slice none 0 0) 0 w (nxE (f + 1) [] d b)) := by
  rw [nxE_nil]
  obtain ⟨w1, hw1⟩ : ∃ w1, w.alloc (.cells #[.int .u8 0, .bool false, .int .u32 0, .slice none 0 0, .slice none 0 0] 29) = w1 := ⟨_, rfl⟩
  have hb1 : Below w.heap.size w w1 := by rw [← hw1]; exact bel1 _ _
  have hD1 := hBk.below hb1 hBk.lt
  obtain ⟨d0, d1⟩ : w1.cell? ⟨D, 0, none⟩ = some (.slice none 0 0) ∧ w1.cell? ⟨D, 1, none⟩ = some (.int .i64 (b : Int)) := ⟨hD1.cell 0, hD1.cell 1⟩
  have HB1 := Lib.hid hb1
  have HG := Lib.hid fun A c w (h : c ≤ maxLen) => get_any A [] c w (Nat.zero_le _) h Rb.nil
  clear hb1 hD1 hBk
  go_enter Try.func50, Try.ntmps50
  go_wp2_with fail
  refine (HG.out _ _ _ (Nat.zero_le _)).mono ?_
  rintro e w2 ⟨rfl, hb⟩
  have HB2 := Lib.hid (HB1.out.trans (hb.mono HB1.out.size))
  clear hb d0 d1
  go_wp2_with fail
  refine (rread_yes 7 0 0 _ (by decide)).mono ?_
  rintro e w3 ⟨rfl, rfl⟩
  exact ⟨rfl, by decide, rfl, kp_below (HB2.out.alloc HB2.out.size _) _⟩

/-- What the closure gives. -/
def GiveC (ge gs : Nat) (w : World) : Nx → Ending → World → Prop
  | .err f a, e, w' => f ≠ 0 ∧ e = .panicked [fltP f a] ∧ Below w.heap.size w w'
  | .ok x z _, e, w' => e = .returned (.tuple #[]) ∧ (∃ c n k u v, Bk w' ge 29 [.int .u8 ((c : Nat) : Int), .bool k, .int .u32 ((n : Nat) : Int), u, v] ∧ RdE true (fun i => w.heap.size ≤ i) w' x (elV c n k u v)) ∧
      Bk w' gs 3 [.int .i64 ((z : Nat) : Int)] ∧ Kp (fun i => i = ge ∨ i = gs) w w'
theorem elem_call {A : Option Addr} {lst : List Nat} {L cap D : Nat} (w : World) (hA : Rb w A lst) (hL : lst.length = L) (hLc : L ≤ cap) (hcm : cap ≤ maxLen) (hL1 : L ≤ 1048576) (hA2 : (A = none ∧ cap = 0) ∨ ∃ ba off, A = some ⟨ba, off, none⟩ ∧ ba ≠ D)
    (hBk : Bk w D 86 [.slice A L cap, .int .i64 0]) :
    Calls Try.prog 50 #[.pointer (some ⟨D, 0, none⟩), .int .i64 0, .int .i64 (L : Int), .int .i64 1] w (GiveX D (.slice A L cap) 0 w (nxE 17 lst 1 0)) := by
  rcases hA2 with ⟨rfl, rfl⟩ | ⟨ba, off, rfl, hne⟩
  · obtain rfl : L = 0 := by omega
    obtain rfl := List.eq_nil_of_length_eq_zero hL
    exact elem_none 16 1 0 w hBk
  · rcases Nat.eq_zero_or_pos L with h0 | h0
    · subst h0
      obtain rfl := List.eq_nil_of_length_eq_zero hL
      exact elem_nil hLc hcm 16 1 0 0 w (Nat.le_refl _) hBk
    · have := elem_any hL hLc hcm hL1 hne 17 1 0 0 L w rfl h0 (Nat.le_refl _) (by decide) hBk hA
      rw [List.take_of_length_le (by omega), List.drop_zero] at this
      exact this
set_option maxHeartbeats 2000000 in
set_option maxRecDepth 100000 in
theorem next1_any {A : Option Addr} {lst : List Nat} {L cap gb ge gs : Nat} (w : World) (hA : Rb w A lst) (hL : lst.length = L) (hLc : L ≤ cap) (hcm : cap ≤ maxLen) (hL1 : L ≤ 1048576) (hA2 : (A = none ∧ cap = 0) ∨ ∃ ba off, A = some ⟨ba, off, none⟩ ∧ ba < w.heap.size)
    (hgb : Bk w gb 26 [.slice A L cap]) (hge : Bk w ge 29 elZ) (hgs : Bk w gs 3 [.int .i64 0]) (hne : ge ≠ gs) :
    Calls Try.prog 49 #[.pointer (some ⟨gb, 0, none⟩), .pointer (some ⟨ge, 0, none⟩), .pointer (some ⟨gs, 0, none⟩)] w (GiveC ge gs w (nxE 17 lst 1 0)) := by
  have b0 := hgb.cell 0
  simp only [List.getElem?_cons_zero] at b0
  obtain ⟨w1, hw1⟩ : ∃ w1, w.alloc (.cells #[.slice A L cap, .int .i64 0] 86) = w1 := ⟨_, rfl⟩
  have hb1 : Below w.heap.size w w1 := by rw [← hw1]; exact bel1 _ _
  have hD1 : Bk w1 w.heap.size 86 [.slice A L cap, .int .i64 0] := by rw [← hw1]; exact Bk.new w _ _
  have hgb1 := hgb.below hb1 hgb.lt
  have b1 := hgb1.cell 0
  simp only [List.getElem?_cons_zero] at b1
  have hC := elem_call (D := w.heap.size) w1 (hA.below hb1) hL hLc hcm hL1 (hA2.imp id fun ⟨ba, off, h1, h2⟩ => ⟨ba, off, h1, by omega⟩) hD1
  have HC := Lib.hid hC
  have HB1 := Lib.hid hb1
  have HGE := Lib.hid (hge.below hb1 hge.lt)
  have HGS := Lib.hid (hgs.below hb1 hgs.lt)
  have HW1 := Lib.hid hw1
  have hsz1 : w1.heap.size = w.heap.size + 1 := by rw [← hw1]; simp
  have HSZ := Lib.hid hsz1
  have hgl := hgb.lt
  have hel := hge.lt
  have hsl := hgs.lt
  clear hA hL hLc hcm hL1 hA2 hgb hge hgs hb1 hD1 hC hw1 hsz1 hgb1 b1
  rcases hnx : nxE 17 lst 1 0 with ⟨f, a⟩ | ⟨x, z, b'⟩
  · rw [hnx] at HC
    clear hnx
    go_enter Try.func49, Try.ntmps49
    go_wp2_with fail
    rw [HW1.out]
    refine HC.out.mono ?_
    rintro e w2 ⟨hf, rfl, hk⟩
    refine ⟨rfl, hf, by rw [Nat.zero_add], ?_⟩
    exact HB1.out.trans (hk.below HB1.out.size fun i hi => by have : i = w.heap.size := hi; omega)
  · rw [hnx] at HC
    clear hnx
    go_enter Try.func49, Try.ntmps49
    go_wp2_with fail
    rw [HW1.out]
    refine HC.out.mono ?_
    rintro e w2 ⟨u, rfl, hu, _, hk⟩
    obtain ⟨c, n, k, A1, l1, q1, A2, l2, q2, rfl⟩ := hu.form
    have hge2 := HGE.out.kp hk (by omega)
    have hgs2 := HGS.out.kp hk (by omega)
    obtain ⟨e0, e1, e2, e3, e4, _⟩ := hge2.five
    obtain ⟨g0, g1, g2, g3, g4⟩ := hge2.free5
    have s0 := hgs2.cell 0
    have sf := hgs2.free 0
    simp only [List.getElem?_cons_zero] at s0
    rw [Nat.zero_add]
    have HU := Lib.hid hu
    have HGE2 := Lib.hid hge2
    have HGS2 := Lib.hid hgs2
    have HK2 := Lib.hid (kp_below (HB1.out.trans (hk.below HB1.out.size fun i hi => by have : i = w.heap.size := hi; omega)) (fun i => i = ge ∨ i = gs))
    clear hu hk hge2 hgs2
    go_wp2_with fail
    go_end0
    have h0 : (ge = ge ∨ ge = gs) ∨ w.heap.size ≤ ge := .inl (.inl rfl)
    have h1 : (gs = ge ∨ gs = gs) ∨ w.heap.size ≤ gs := .inl (.inr rfl)
    refine ⟨rfl, ⟨c, n, k, .slice A1 l1 q1, .slice A2 l2 q2, ?_, ?_⟩, ?_, ?_⟩
    · exact ((((((HGE2.out.store 0 _).store 1 _).store 2 _).store 3 _).store 4 _).far (p := ⟨gs, 0, none⟩) hne _)
    · refine RdE.keep (by simp [World.setCell]) (fun i hi _ => ?_) (fun i hi _ => ?_) _ _ HU.out
      · have hi' : w1.heap.size ≤ i := hi
        have hz := HSZ.out
        have n1 : i ≠ ge := by omega
        have n2 : i ≠ gs := by omega
        rw [Below.heap_setCell _ _ _ _ n2, Below.heap_setCell _ _ _ _ n1, Below.heap_setCell _ _ _ _ n1, Below.heap_setCell _ _ _ _ n1, Below.heap_setCell _ _ _ _ n1, Below.heap_setCell _ _ _ _ n1]
      · have hi' : w1.heap.size ≤ i := hi
        have hz := HSZ.out
        show w.heap.size ≤ i
        omega
    · have hne' : gs ≠ ge := fun e => hne e.symm
      exact ((((((HGS2.out.far (p := ⟨ge, 0, none⟩) hne' _).far (p := ⟨ge, 1, none⟩) hne' _).far (p := ⟨ge, 2, none⟩) hne' _).far (p := ⟨ge, 3, none⟩) hne' _).far (p := ⟨ge, 4, none⟩) hne' _).store 0 _)
    · exact (((((HK2.out.setCell (p := ⟨ge, 0, none⟩) h0 _).setCell (p := ⟨ge, 1, none⟩) h0 _).setCell (p := ⟨ge, 2, none⟩) h0 _).setCell (p := ⟨ge, 3, none⟩) h0 _).setCell (p := ⟨ge, 4, none⟩) h0 _).setCell (p := ⟨gs, 0, none⟩) h1 _
end Go.Proofs.Ytgdjgahmnnjeeaa
