/-
  Layer 6: the statements' own helpers same, read, parsed.
  Conditions: the variables hold what the program's text lays.
-/
import Derived.Test.YtndamidmgglneaaDoorOidV
import Derived.Test.YtndamidmgglneaaDoorOidM
namespace Go.Proofs.YtndamidmgglneaaDoor
open Go.RowKit

theorem run_str8 {w : World} {A : Option Addr} {l : List Nat} (h : Rb w A l) (c : Nat) : (convert 40 9 (.slice A l.length c)).run Tryd.prog w = .ok (.string (bstr l)) w :=
  run_str Tryd.underlying40 Tryd.underlying5 Tryd.underlying9 h c
set_option maxHeartbeats 400000 in
theorem same_ok (A B : Option Addr) (l : List Nat) (c N f : Nat) (w : World) (hA : Rb w A l) (hB : Rb w B l) (hN : l.length = N) :
    Calls Tryd.prog 17 #[.slice A N N, .int .i64 (f : Int), .slice B N c, .int .i64 (f : Int)] w fun e w' => e = .returned (.bool true) ∧ w = w' := by
  have s0 := run_str8 hA l.length
  have s1 := run_str8 hB c
  have hself := bstr_self (bstr l)
  clear hA hB
  rw [hN] at s0 s1
  generalize bstr l = S at *
  clear hN
  go_enter Tryd.func17, Tryd.ntmps17
  go_wp2_with fail
  go_ret
  exact ⟨by simp, rfl⟩

theorem eqO {n : Nat} {k : List Nat} (hk : k.length = 16) (w : World) : (binOp .eql 26 (oV n k) (oV n k)).run Tryd.prog w = .ok (.bool true) w := by
  have := eql25 (n := n) (m := n) hk hk w
  rw [decide_eq_true (p := n = n) rfl, decide_eq_true (p := k = k) rfl] at this
  exact this
set_option maxRecDepth 100000 in
set_option maxHeartbeats 1000000 in
theorem read_ok (A : Option Addr) (l : List Nat) (N c n : Nat) (k : List Nat) (f : Nat) (w : World) (hN : l.length = N) (hlc : N ≤ c) (hm : c ≤ maxLen) (hA : Rb w A l) (hk : k.length = 16) (hq : getO l = (n, k, f)) :
    Calls Tryd.prog 15 #[.slice A N c, oV n k, .int .i64 (f : Int)] w fun e w' => e = .returned (.bool true) ∧ Below w.heap.size w w' := by
  subst hN
  have hz := zero25
  obtain ⟨zl, hzl⟩ : ∃ zl, zeroL = zl := ⟨_, rfl⟩
  have HZL : Hid (zl.length = 16) := Lib.hid (by rw [← hzl]; exact zeroL_length)
  rw [hzl] at hz
  have S0 := Lib.hid (Bk.new w 26 (oc n k))
  have B0 := Lib.hid (bel1 w (.cells (oc n k).toArray 26))
  have hA1 := hA.below (bel1 w (.cells (oc n k).toArray 26))
  have hget := get_any A l c (w.alloc (.cells (oc n k).toArray 26)) hlc hm hA1
  rw [hq] at hget
  have HG := Lib.hid hget
  have heq := fun W => eqO (n := n) hk W
  clear hA hzl hA1 hget hq
  obtain ⟨N, hN⟩ : ∃ N, l.length = N := ⟨_, rfl⟩
  rw [hN] at HG ⊢
  clear hN hlc hm
  go_enter Tryd.func15, Tryd.ntmps15
  go_upto_region 1 with fail
  generalize w.alloc (.cells (oc n k).toArray 26) = w1 at *
  go_upto_region 2 with (first
    | (go_at_call 29; refine HG.out.mono ?_; rintro e w2 ⟨rfl, hb⟩; have B2 := bt B0 (Lib.hid hb); have S2 := kt S0 (Lib.hid hb); clear hb; have hsz2 := S2.out.lt)
    | (refine wpList_store25 rfl (.tmp 7) (.tmp 12) rfl (n := n) (l := k) rfl rfl (Bk.new w2 26 (oc 0 zl)) (by rw [oc_length, HZL.out]) hk ?_; intro w3 V3 hg3 hz3; have HV3 := Lib.hid V3; have B3 := Lib.hid ((B2.out.alloc B2.out.size (.cells (oc 0 zl).toArray 26)).grown hg3 (B2.out.alloc B2.out.size (.cells (oc 0 zl).toArray 26)).size (fun k e => by injection e with e; omega)); have S3 := Lib.hid ((S2.out.alloc (.cells (oc 0 zl).toArray 26)).only hg3 (by intro e; injection e with e; omega)); clear V3 hg3 hz3))
  go_wp2_with (first | (refine wpList_load25 rfl (.tmp 7) rfl rfl HV3.out hk ?_) | (refine wpList_load25 rfl (.tmp 4) rfl rfl S3.out hk ?_))
  go_ret
  exact ⟨by simp, B3.out⟩
set_option maxRecDepth 100000 in
set_option maxHeartbeats 1000000 in
theorem parsed_ok (l : List Nat) (h8 : All8 l) (hl : l.length ≤ 1000000) (n : Nat) (k : List Nat) (f : Nat) (w : World) (hE : Env w) (hk : k.length = 16) (hq : prsO l = (n, k, f)) :
    Calls Tryd.prog 8 #[.string (bstr l), oV n k, .int .i64 (f : Int)] w fun e w' => e = .returned (.bool true) ∧ Below w.heap.size w w' := by
  have hz := zero25
  obtain ⟨zl, hzl⟩ : ∃ zl, zeroL = zl := ⟨_, rfl⟩
  have HZL : Hid (zl.length = 16) := Lib.hid (by rw [← hzl]; exact zeroL_length)
  rw [hzl] at hz
  have S0 := Lib.hid (Bk.new w 26 (oc n k))
  have B0 := Lib.hid (bel1 w (.cells (oc n k).toArray 26))
  have hget := parse_any l h8 hl (w.alloc (.cells (oc n k).toArray 26)) (hE.below (bel1 w (.cells (oc n k).toArray 26)))
  rw [hq] at hget
  have HG := Lib.hid hget
  have heq := fun W => eqO (n := n) hk W
  clear h8 hE hzl hget hq
  generalize bstr l = S at *
  go_enter Tryd.func8, Tryd.ntmps8
  go_upto_region 1 with fail
  generalize w.alloc (.cells (oc n k).toArray 26) = w1 at *
  go_upto_region 2 with (first
    | (go_at_call 20; refine HG.out.mono ?_; rintro e w2 ⟨rfl, hb⟩; have B2 := bt B0 (Lib.hid hb); have S2 := kt S0 (Lib.hid hb); clear hb; have hsz2 := S2.out.lt)
    | (refine wpList_store25 rfl (.tmp 7) (.tmp 12) rfl (n := n) (l := k) rfl rfl (Bk.new w2 26 (oc 0 zl)) (by rw [oc_length, HZL.out]) hk ?_; intro w3 V3 hg3 hz3; have HV3 := Lib.hid V3; have B3 := Lib.hid ((B2.out.alloc B2.out.size (.cells (oc 0 zl).toArray 26)).grown hg3 (B2.out.alloc B2.out.size (.cells (oc 0 zl).toArray 26)).size (fun k e => by injection e with e; omega)); have S3 := Lib.hid ((S2.out.alloc (.cells (oc 0 zl).toArray 26)).only hg3 (by intro e; injection e with e; omega)); clear V3 hg3 hz3))
  go_wp2_with (first | (refine wpList_load25 rfl (.tmp 7) rfl rfl HV3.out hk ?_) | (refine wpList_load25 rfl (.tmp 4) rfl rfl S3.out hk ?_))
  go_ret
  exact ⟨by simp, B3.out⟩
end Go.Proofs.YtndamidmgglneaaDoor
