/-
  Layer 8: the statements' helpers same, is, read, named: they return true where what is compared agrees.
  Conditions: slices read as bytes.
-/
import Derived.Test.YtnebjdgolbnkfaaBitN
namespace Go.Proofs.Ytnebjdgolbnkfaa.Bit
open Go.RowKit

theorem run_str8 {w : World} {A : Option Addr} {l : List Nat} (h : Rb w A l) (c : Nat) : (convert 22 9 (.slice A l.length c)).run Try.prog w = .ok (.string (bstr l)) w := run_str Try.underlying22 Try.underlying5 Try.underlying9 h c
set_option maxRecDepth 100000 in
set_option maxHeartbeats 400000 in
theorem same_ok (A B : Option Addr) (l : List Nat) (c N f : Nat) (w : World) (hA : Rb w A l) (hB : Rb w B l) (hN : l.length = N) :
    Calls Try.prog 13 #[.slice A N N, .int .i64 (f : Int), .slice B N c, .int .i64 (f : Int)] w fun e w' => e = .returned (.bool true) ∧ w = w' := by
  have s0 := run_str8 hA N
  have s1 := run_str8 hB c
  rw [hN] at s0 s1
  clear hA hB hN
  generalize bstr l = S at *
  go_enter Try.func13, Try.ntmps13
  go_wp2_with fail
  go_ret
  exact ⟨by simp, rfl⟩
set_option maxRecDepth 100000 in
set_option maxHeartbeats 800000 in
theorem is_ok (A B : Option Addr) (l : List Nat) (num N d : Nat) (w : World) (hA : Rb w A l) (hB : Rb w B l) (hN : l.length = N) :
    Calls Try.prog 17 #[elV 0 num false (.slice A N N) (.slice none 0 0), .int .i64 0, .int .u32 (num : Int), .slice B N d] w fun e w' => e = .returned (.bool true) ∧ Below w.heap.size w w' := by
  have HB0 := Lib.hid (bel2 w (.cells #[.int .u8 0, .bool false, .int .u32 (num : Int), .slice A N N, .slice none 0 0] 40) (.cells #[.int .u8 0, .bool false, .int .u32 (num : Int)] 37))
  have HS := Lib.hid (same_ok A B l d N 0 ((w.alloc (.cells #[.int .u8 0, .bool false, .int .u32 (num : Int), .slice A N N, .slice none 0 0] 40)).alloc (.cells #[.int .u8 0, .bool false, .int .u32 (num : Int)] 37)) (hA.below HB0.out) (hB.below HB0.out) hN)
  clear hA hB hN
  show Calls Try.prog 17 #[.agg #[.int .u8 0, .bool false, .int .u32 (num : Int), .slice A N N, .slice none 0 0], .int .i64 0, .int .u32 (num : Int), .slice B N d] w _
  go_enter Try.func17, Try.ntmps17
  go_wp2_with fail
  refine HS.out.mono ?_
  rintro e w2 ⟨rfl, rfl⟩
  go_wp2_with fail
  go_ret
  exact ⟨rfl, HB0.out⟩
set_option maxRecDepth 100000 in
set_option maxHeartbeats 400000 in
theorem read_ok (A B : Option Addr) (l m : List Nat) (N c M d k f : Nat) (w : World) (h : Rb w A l) (hB : Rb w B m) (hN : l.length = N) (hM : m.length = M) (hc : N ≤ c) (hm : N ≤ 1000000) (hz : gtB l = m) (hk : gtK l = k) (hf : gtE l = f) :
    Calls Try.prog 14 #[.slice A N c, .slice B M d, .int .i64 (k : Int), .int .i64 (f : Int)] w fun e w' => e = .returned (.bool true) ∧ Below w.heap.size w w' := by
  have H := get_any A l N c w h hN hm hc
  rw [hz, hk, hf] at H
  have HH := Lib.hid H
  have HB := Lib.hid hB
  have HM := Lib.hid hM
  clear H hz hf hk h hN hB hM
  go_enter Try.func14, Try.ntmps14
  go_wp2_with fail
  refine HH.out.mono ?_
  rintro e w1 ⟨A', n1, hl, rfl, hr, hb, _⟩
  obtain rfl : n1 = M := hl.symm.trans HM.out
  have HR := Lib.hid hr
  have HB1 := Lib.hid hb
  have HBr := Lib.hid (HB.out.below hb)
  clear hb hr HH hl
  go_wp2_with fail
  refine (same_ok A' B m d n1 f w1 HR.out HBr.out HM.out).mono ?_
  rintro e w2 ⟨rfl, rfl⟩
  go_wp2_with fail
  go_ret
  exact ⟨by simp, HB1.out⟩
set_option maxRecDepth 100000 in
set_option maxHeartbeats 400000 in
theorem named_ok (A : Option Addr) (l : List Nat) (N c v f : Nat) (w : World) (h : Rb w A l) (hN : l.length = N) (hc : N ≤ c) (hm : N ≤ 1000000) (hz : gnV l = v) (hf : gnE l = f) :
    Calls Try.prog 22 #[.slice A N c, .int .u64 (v : Int), .int .i64 (f : Int)] w fun e w' => e = .returned (.bool true) ∧ Below w.heap.size w w' := by
  have H := getn_any A l N c w h hN hm hc
  rw [hz, hf] at H
  have HH := Lib.hid H
  clear H hz hf h hN
  go_enter Try.func22, Try.ntmps22
  go_wp2_with fail
  refine HH.out.mono ?_
  rintro e w1 ⟨rfl, hb⟩
  have HB1 := Lib.hid hb
  clear hb HH
  go_wp2_with fail
  go_ret
  exact ⟨by simp, HB1.out⟩
end Go.Proofs.Ytnebjdgolbnkfaa.Bit
