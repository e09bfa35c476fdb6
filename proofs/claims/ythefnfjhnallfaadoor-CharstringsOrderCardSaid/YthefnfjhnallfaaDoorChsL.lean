/-
  Layer 9: one character got, of each kind.
  Conditions: a slice that reads as bytes and is not empty; unicode/utf8's tables hold what its text lays.
-/
import Derived.Test.YthefnfjhnallfaaDoorChsK
import Derived.Laws.BitsLemmas
namespace Go.Proofs.YthefnfjhnallfaaDoor.Chs
open Go.RowKit Go.Shelf

/-- One character of a kind, and its bytes: 0 for what is no character. -/
def get1 (k : Nat) (l : List Nat) : Nat × Nat := if k = 12 then (dec1 l).getD (0, 1) else if k = 30 then (if l.length < 2 then (0, l.length) else (l.getD 0 0 * 256 + l.getD 1 0, 2)) else (l.getD 0 0, 1)
theorem decodeGo_eq {l : List Nat} (h8 : All8 l) (hne : l ≠ []) : Lib.decodeGo (bstr l) = (dec1 l).getD (65533, 1) := by
  unfold Lib.decodeGo
  have hl : l.length ≠ 0 := fun e => hne (List.eq_nil_of_length_eq_zero e)
  rw [if_neg (by rw [size_bstr]; exact hl), decode_at l h8 0 (by omega), List.drop_zero]
theorem decode_any (l : List Nat) (h8 : All8 l) (hne : l ≠ []) {A : Option Addr} {w : World} (hA : Rb w A l) (N c : Nat) (hN : l.length = N) (hT : Tab w) :
    Calls Tryd.prog 59 #[.slice A N c] w fun e w' => e = .returned (.tuple #[.int .i32 ((((dec1 l).getD (65533, 1)).1 : Nat) : Int), .int .i64 ((((dec1 l).getD (65533, 1)).2 : Nat) : Int)]) ∧ Below w.heap.size w w' := by
  have hl : 0 < l.length := Nat.pos_of_ne_zero fun e => hne (List.eq_nil_of_length_eq_zero e)
  obtain ⟨b, off, rfl, hb, -, -⟩ := hA.at_ hl
  have := Any7.utf8_DecodeRune Tryd.laysDec (bstr l) b off c w hT (fun j hj => by
    rw [size_bstr] at hj
    obtain ⟨b', off', e, _, _, hc⟩ := hA.at_ hj
    injection e with e
    injection e with e1 e2
    subst e1 e2
    rw [hc, get_bstr l h8, List.getD_eq_getElem?_getD, List.getElem?_eq_getElem hj]
    rfl)
  rw [decodeGo_eq h8 hne, size_bstr, hN] at this
  exact this
set_option maxHeartbeats 1000000 in
theorem getUTF8_any (l : List Nat) (h8 : All8 l) (hne : l ≠ []) {A : Option Addr} {w : World} (hA : Rb w A l) (N c : Nat) (hN : l.length = N) (hT : Tab w) :
    Calls Tryd.prog 46 #[.slice A N c] w fun e w' => e = .returned (.tuple #[.int .i32 ((((dec1 l).getD (0, 1)).1 : Nat) : Int), .int .i64 ((((dec1 l).getD (0, 1)).2 : Nat) : Int)]) ∧ Below w.heap.size w w' := by
  have CD := Lib.hid (decode_any l h8 hne hA N c hN hT)
  cases hd : dec1 l with
  | none =>
    rw [hd] at CD
    have CD2 : Hid (Calls Tryd.prog 59 #[.slice A N c] w fun e w' => e = .returned (.tuple #[.int .i32 65533, .int .i64 1]) ∧ Below w.heap.size w w') := CD
    clear hd hA CD
    go_enter Tryd.func46, Tryd.ntmps46
    go_wp2_with fail
    refine CD2.out.mono ?_
    rintro e w1 ⟨rfl, hb⟩
    go_wp2_with fail
    go_ret2
    exact ⟨rfl, hb⟩
  | some p =>
    obtain ⟨x, n⟩ := p
    rw [hd] at CD
    have CD2 : Hid (Calls Tryd.prog 59 #[.slice A N c] w fun e w' => e = .returned (.tuple #[.int .i32 (x : Int), .int .i64 (n : Int)]) ∧ Below w.heap.size w w') := CD
    have hi := dec_inv hd
    clear hd hA CD
    show Calls Tryd.prog _ _ _ fun e w' => e = .returned (.tuple #[.int .i32 (x : Int), .int .i64 (n : Int)]) ∧ Below w.heap.size w w'
    by_cases hx : x = 65533
    · subst hx
      obtain rfl : n = 3 := hi.2.1
      clear hi
      go_enter Tryd.func46, Tryd.ntmps46
      go_wp2_with fail
      refine CD2.out.mono ?_
      rintro e w1 ⟨rfl, hb⟩
      go_wp2_with fail
      go_ret2
      exact ⟨rfl, hb⟩
    · have hxb : ((x : Int) == 65533) = false := by rw [beq_eq_false_iff_ne]; omega
      clear hi hx
      go_enter Tryd.func46, Tryd.ntmps46
      go_wp2_with fail
      refine CD2.out.mono ?_
      rintro e w1 ⟨rfl, hb⟩
      go_wp2_with fail
      go_ret2
      exact ⟨rfl, hb⟩
theorem getOctet_any (l : List Nat) (hne : l ≠ []) {A : Option Addr} {w : World} (hA : Rb w A l) (N c : Nat) (hN : l.length = N) :
    Calls Tryd.prog 49 #[.slice A N c] w fun e w' => e = .returned (.tuple #[.int .i32 ((l.getD 0 0 : Nat) : Int), .int .i64 1]) ∧ Below w.heap.size w w' := by
  have hl : 0 < l.length := Nat.pos_of_ne_zero fun e => hne (List.eq_nil_of_length_eq_zero e)
  obtain ⟨b, off, rfl, hb, hy, hc⟩ := hA.at_ hl
  rw [show l[0] = l.getD 0 0 by rw [List.getD_eq_getElem?_getD, List.getElem?_eq_getElem hl]; rfl] at hy hc
  rw [Nat.add_zero] at hc
  generalize l.getD 0 0 = y at *
  rw [hN] at hl
  have hli : (0 : Int) < (N : Int) := by omega
  clear hA hN hl hb
  go_enter Tryd.func49, Tryd.ntmps49
  go_wp2_with fail
  go_ret2
  exact ⟨rfl, Below.refl _ _⟩
set_option maxHeartbeats 1000000 in
theorem getPair_any (l : List Nat) (_hne : l ≠ []) {A : Option Addr} {w : World} (hA : Rb w A l) (N c : Nat) (hN : l.length = N) :
    Calls Tryd.prog 54 #[.slice A N c] w fun e w' => e = .returned (.tuple #[.int .i32 (((if l.length < 2 then 0 else l.getD 0 0 * 256 + l.getD 1 0 : Nat)) : Int), .int .i64 ((if l.length < 2 then l.length else 2 : Nat) : Int)]) ∧ Below w.heap.size w w' := by
  rw [hN]
  by_cases h2 : N < 2
  · rw [if_pos h2, if_pos h2]
    have hb : (N : Int) < 2 := by omega
    clear hA hN h2
    go_enter Tryd.func54, Tryd.ntmps54
    go_wp2_with fail
    go_ret2
    exact ⟨rfl, Below.refl _ _⟩
  · rw [if_neg h2, if_neg h2]
    obtain ⟨b, off, rfl, hb, hy, hc⟩ := hA.at_ (k := 0) (by omega)
    obtain ⟨b', off', e, hb', hy1, hc1⟩ := hA.at_ (k := 1) (by omega)
    injection e with e
    injection e with e1 e2
    subst e1 e2
    rw [show l[0] = l.getD 0 0 by rw [List.getD_eq_getElem?_getD, List.getElem?_eq_getElem (by omega)]; rfl] at hy hc
    rw [show l[1] = l.getD 1 0 by rw [List.getD_eq_getElem?_getD, List.getElem?_eq_getElem (by omega)]; rfl] at hy1 hc1
    rw [Nat.add_zero] at hc
    generalize l.getD 0 0 = y at *
    generalize l.getD 1 0 = z at *
    have hli : ¬ (N : Int) < 2 := by omega
    have hli0 : (0 : Int) < (N : Int) := by omega
    have hli1 : (1 : Int) < (N : Int) := by omega
    clear hA hN h2 hb hb'
    have hor : bits BinOp.or IntKind.i32 ((y : Int) * 256) (z : Int) = (y : Int) * 256 + z := bits_join .i32 31 (by decide) wraps_i32 8 _ _ (by omega) (by omega) (by omega) (by omega) (by omega) (by omega)
    have B1 := (Below.refl w.heap.size w).drew
    go_enter Tryd.func54, Tryd.ntmps54
    go_upto_region 3 with fail
    go_region
    go_wp2_with fail
    go_ret2
    exact ⟨rfl, B1⟩
/-- One character got. -/
theorem get1_any {k : Nat} (hk : isK k = true) (l : List Nat) (h8 : All8 l) (hne : l ≠ []) {A : Option Addr} {w : World} (hA : Rb w A l) (N c : Nat) (hN : l.length = N) (hT : Tab w) :
    Calls Tryd.prog (getF k) #[.slice A N c] w fun e w' => e = .returned (.tuple #[.int .i32 (((get1 k l).1 : Nat) : Int), .int .i64 (((get1 k l).2 : Nat) : Int)]) ∧ Below w.heap.size w w' := by
  by_cases h12 : k = 12
  · subst h12
    exact getUTF8_any l h8 hne hA N c hN hT
  · by_cases h30 : k = 30
    · subst h30
      have := getPair_any l hne hA N c hN
      refine this.mono ?_
      rintro e w' ⟨rfl, hb⟩
      refine ⟨?_, hb⟩
      unfold get1
      rw [if_neg h12, if_pos rfl]
      by_cases h2 : l.length < 2
      · rw [if_pos h2, if_pos h2, if_pos h2]
      · rw [if_neg h2, if_neg h2, if_neg h2]
    · have e1 : get1 k l = (l.getD 0 0, 1) := by unfold get1; rw [if_neg h12, if_neg h30]
      have e2 : getF k = 49 := by unfold getF; rw [if_neg h12, if_neg h30]
      rw [e1, e2]
      exact getOctet_any l hne hA N c hN
theorem get_enter {k : Nat} (h : isK k = true) (args : Array Value) (W : World) : (callFunc (getF k) args).run Tryd.prog W = .ok (.enter (getF k) args) W := by
  rcases isK_cases h with rfl | rfl | rfl | rfl | rfl
  all_goals simp [go_sem, getF]
theorem get1_pos {k : Nat} {l : List Nat} (hne : l ≠ []) : 1 ≤ (get1 k l).2 ∧ (get1 k l).2 ≤ l.length := by
  have hl : 0 < l.length := Nat.pos_of_ne_zero fun e => hne (List.eq_nil_of_length_eq_zero e)
  unfold get1
  split
  · cases hd : dec1 l with
    | none => exact ⟨Nat.le_refl _, hl⟩
    | some p =>
      have := dec_pos (l := l) (c := p.1) (n := p.2) hd
      exact ⟨this.1, this.2.2⟩
  · split
    · split
      · exact ⟨hl, Nat.le_refl _⟩
      · exact ⟨Nat.le_succ 1, Nat.le_of_not_lt (by assumption)⟩
    · exact ⟨Nat.le_refl _, hl⟩
theorem get1_lt {k : Nat} {l : List Nat} (h8 : All8 l) : (get1 k l).1 ≤ 2147483647 := by
  have hg : ∀ i, l.getD i 0 < 256 := fun i => by rw [← get_bstr l h8]; exact UInt8.toNat_lt _
  unfold get1
  split
  · cases hd : dec1 l with
    | none => exact Nat.zero_le _
    | some p =>
      have := scal_iff.1 (dec_inv (l := l) (c := p.1) (n := p.2) hd).1
      show p.1 ≤ _
      omega
  · split
    · split
      · exact Nat.zero_le _
      · have := hg 0
        have := hg 1
        show l.getD 0 0 * 256 + l.getD 1 0 ≤ _
        omega
    · have := hg 0
      show l.getD 0 0 ≤ _
      omega
end Go.Proofs.YthefnfjhnallfaaDoor.Chs
