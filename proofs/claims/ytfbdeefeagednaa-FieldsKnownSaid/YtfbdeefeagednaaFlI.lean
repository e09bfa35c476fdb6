/-
  Layer 12: the law's ints and fault, where the two are equal; the chapter's example.
  Conditions: none beyond that values read as what they are.
-/
import Derived.Test.YtfbdeefeagednaaFlH
namespace Go.Proofs.Ytfbdeefeagednaa.Fl
open Go.RowKit

set_option maxHeartbeats 1000000 in
set_option maxRecDepth 100000 in
theorem ints_eq (l : List Int) (A B : Option Addr) (n c d : Nat) (w : World) (hA : Rd w A (csZ l)) (hB : Rd w B (csZ l)) (hn : l.length = n) (hm : n ≤ maxLen) :
    Calls Try.prog 23 #[.slice A n c, .slice B n d] w fun e w' => e = .returned (.int .i64 1) ∧ Below w.heap.size w w' := by
  have HA := Lib.hid hA
  have HB := Lib.hid hB
  have HN := Lib.hid hn
  have hmm : n ≤ 9223372036854775807 := by unfold maxLen at hm; omega
  clear hA hB hn hm
  go_enter Try.func23, Try.ntmps23
  go_wp2_with fail
  go_loopw [5] (fun i wr => ∃ p : Nat, p ≤ n ∧ i = .int .i64 (p : Int) ∧ Below w.heap.size w wr) (fun i _ => n - (intOf i).toNat)
  case atStart => exact ⟨0, Nat.zero_le _, rfl, Below.refl _ _⟩
  case round =>
    obtain ⟨p, hp, rfl, hbl⟩ := hrel
    have BB := Lib.hid hbl
    clear hbl
    by_cases hlt : p < n
    · obtain ⟨b, off, rfl, hb, hc⟩ := (HA.out.below BB.out).at_ (k := p) (by rw [csZ_len, HN.out]; exact hlt)
      obtain ⟨b', off', rfl, hb', hc'⟩ := (HB.out.below BB.out).at_ (k := p) (by rw [csZ_len, HN.out]; exact hlt)
      obtain ⟨z, hz⟩ : ∃ z, (csZ l)[p]'(by rw [csZ_len, HN.out]; exact hlt) = .int .i64 z := ⟨l[p]'(by rw [HN.out]; exact hlt), by unfold csZ; rw [List.getElem_map]⟩
      rw [hz] at hc hc'
      clear hz
      go_wp2_with fail
      go_region
      go_wp2_with fail
      exact ⟨⟨p + 1, by omega, by go_num, BB.out.drew⟩, by simp [intOf]; omega⟩
    · go_wp2_with fail
      go_ret
      exact ⟨rfl, BB.out⟩
set_option maxHeartbeats 1000000 in
set_option maxRecDepth 100000 in
theorem lfault_eq (l : List Int) (f : Nat) (A B : Option Addr) (n d : Nat) (w : World) (hA : Rd w A (csZ l)) (hB : Rd w B (csZ l)) (hn : l.length = n) (hm : n ≤ maxLen) :
    Calls Try.prog 11 #[fvV A n n f, fvV B n d f] w fun e w' => e = .returned (.int .i64 1) ∧ Below w.heap.size w w' := by
  have HA := Lib.hid hA
  have HB := Lib.hid hB
  have HN := Lib.hid hn
  have hmm : n ≤ 9223372036854775807 := by unfold maxLen at hm; omega
  have K0 := Lib.hid ((Bk.new w 38 [.slice A n n, .int .i64 (f : Int)]).alloc (.cells #[.slice B n d, .int .i64 (f : Int)] 38))
  have K1 := Lib.hid (Bk.new (w.alloc (.cells #[.slice A n n, .int .i64 (f : Int)] 38)) 38 [.slice B n d, .int .i64 (f : Int)])
  have B0 := Lib.hid (bel2 w (.cells #[.slice A n n, .int .i64 (f : Int)] 38) (.cells #[.slice B n d, .int .i64 (f : Int)] 38))
  rw [World.size_alloc] at K1
  clear hA hB hn hm
  go_enter Try.func11, Try.ntmps11
  go_wp2_with fail
  go_loopw [5] (fun i wr => ∃ p : Nat, p ≤ n ∧ i = .int .i64 (p : Int) ∧ Bk wr w.heap.size 38 [.slice A n n, .int .i64 (f : Int)] ∧ Bk wr (w.heap.size + 1) 38 [.slice B n d, .int .i64 (f : Int)] ∧ Below w.heap.size w wr) (fun i _ => n - (intOf i).toNat)
  case atStart => exact ⟨0, Nat.zero_le _, rfl, K0.out, K1.out, B0.out⟩
  case round =>
    obtain ⟨p, hp, rfl, hk0, hk1, hbl⟩ := hrel
    have BB := Lib.hid hbl
    have e0 : wr.cell? ⟨w.heap.size, 0, none⟩ = some (.slice A n n) := hk0.cell 0
    have e1 : wr.cell? ⟨w.heap.size + 1, 0, none⟩ = some (.slice B n d) := hk1.cell 0
    have KR0 := Lib.hid hk0
    have KR1 := Lib.hid hk1
    clear hbl K0 K1 hk0 hk1 B0
    by_cases hlt : p < n
    · obtain ⟨b, off, rfl, hb, hc⟩ := (HA.out.below BB.out).at_ (k := p) (by rw [csZ_len, HN.out]; exact hlt)
      obtain ⟨b', off', rfl, hb', hc'⟩ := (HB.out.below BB.out).at_ (k := p) (by rw [csZ_len, HN.out]; exact hlt)
      obtain ⟨z, hz⟩ : ∃ z, (csZ l)[p]'(by rw [csZ_len, HN.out]; exact hlt) = .int .i64 z := ⟨l[p]'(by rw [HN.out]; exact hlt), by unfold csZ; rw [List.getElem_map]⟩
      rw [hz] at hc hc'
      clear hz
      go_wp2_with fail
      go_region
      go_wp2_with fail
      exact ⟨⟨p + 1, by omega, by go_num, KR0.out, KR1.out, BB.out.drew⟩, by simp [intOf]; omega⟩
    · go_wp2_with fail
      go_ret
      exact ⟨rfl, BB.out⟩
end Go.Proofs.Ytfbdeefeagednaa.Fl
