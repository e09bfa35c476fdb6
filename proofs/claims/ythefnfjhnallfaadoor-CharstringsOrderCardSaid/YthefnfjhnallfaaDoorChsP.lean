/-
  The law of layer 9: its own same, made.
-/
import Derived.Test.YthefnfjhnallfaaDoorChsO
import Derived.Test.YthefnfjhnallfaaDoorStr
namespace Go.Proofs.YthefnfjhnallfaaDoor.Chs
open Go.RowKit Go.Shelf

theorem run_str8 {w : World} {A : Option Addr} {l : List Nat} (h : Rb w A l) (c : Nat) : (convert 32 9 (.slice A l.length c)).run Tryd.prog w = .ok (.string (bstr l)) w :=
  run_str Tryd.underlying32 Tryd.underlying5 Tryd.underlying9 h c

set_option maxHeartbeats 800000 in
theorem same_ok (A B : Option Addr) (l : List Nat) (c N f : Nat) (w : World) (hA : Rb w A l) (hB : Rb w B l) (hN : l.length = N) :
    Calls Tryd.prog 17 #[.slice A N N, .int .i64 (f : Int), .slice B N c, .int .i64 (f : Int)] w fun e w' => e = .returned (.bool true) ∧ w = w' := by
  have s0 := run_str8 hA N
  have s1 := run_str8 hB c
  rw [hN] at s0 s1
  clear hA hB hN
  generalize bstr l = S at *
  go_enter Tryd.func17, Tryd.ntmps17
  go_wp2_with fail
  go_ret
  exact ⟨by simp, rfl⟩
set_option maxHeartbeats 800000 in
theorem made_any (k : Nat) (S : ByteArray) (w : World) : Calls Tryd.prog 14 #[.int .u32 (k : Int), .string S] w fun e w' => e = .returned (chV k S) ∧ Below w.heap.size w w' := by
  obtain ⟨Sz, hSz⟩ : ∃ s, S0 = s := ⟨_, rfl⟩
  have hz : ∀ w : World, (zeroValue 24).run Tryd.prog w = .ok (.agg #[.int .u32 0, .string Sz]) w := by rw [← hSz]; exact zeroCh
  clear hSz
  go_enter Tryd.func14, Tryd.ntmps14
  go_wp2_with fail
  exact bodyPost_ret (v := chV k S) (by simp [results, Tryd.results14, go_sem]) rfl ⟨rfl, bel1 _ _⟩
end Go.Proofs.YthefnfjhnallfaaDoor.Chs
