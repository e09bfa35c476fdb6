/-
  Layer 12: the law's Tag; Under, offsetOf, Offset, Report.
  Conditions: none beyond that values read as what they are.
-/
import Derived.Test.YtfbdeefeagednaaFlI
namespace Go.Proofs.Ytfbdeefeagednaa.Fl
open Go.RowKit

/-- One of eight tags. -/
def tagN (x : Nat) : Nat × Nat × Bool :=
  if x % 8 = 0 then (0, 16, true) else if x % 8 = 1 then (0, 17, true) else if x % 8 = 2 then (2, x / 8 % 4 * 12, true) else if x % 8 = 3 then (2, x / 8 % 4, false) else if x % 8 = 4 then (0, 1, false) else if x % 8 = 5 then (0, 4, false) else (0, 2, false)
theorem loadT {w : World} {g : Nat} {a b c : Value} (h : Bk w g 25 [a, b, c]) : (loadVar 25 ⟨g, 0, none⟩).run Try.prog w = .ok (.agg #[a, b, c]) w := by
  have e0 := h.cell 0
  have e1 := h.cell 1
  have e2 := h.cell 2
  simp only [List.getElem?_cons_zero, List.getElem?_cons_succ] at e0 e1 e2
  simp [loadVar, go_sem, e0, e1, e2]
theorem retT {fn : Func} {p : Tmp} (h : fn.results = #[.cell p 25]) {a : Act} {w : World} {g : Nat} {x y z : Value} (hp : a.tmps.getD p undef = .pointer (some ⟨g, 0, none⟩))
    (hb : Bk w g 25 [x, y, z]) (hdf : a.defers = [])
    {R : Ending → World → Prop} (hR : R (.returned (.agg #[x, y, z])) w) : bodyPost Try.prog fn R .ret a w := by
  refine bodyPost_ret ?_ hdf hR
  have hp' : a.tmps[p]?.getD undef = .pointer (some ⟨g, 0, none⟩) := by simpa using hp
  simp [results, h, hp', asAddr, loadT hb]
set_option maxHeartbeats 1000000 in
set_option maxRecDepth 100000 in
theorem tag_any (x c n : Nat) (k : Bool) (w : World) (_hx : x < 256) (ht : tagN x = (c, n, k)) : Calls Try.prog 19 #[.int .u8 (x : Int)] w fun e w' => e = .returned (tgV c k n) ∧ Below w.heap.size w w' := by
  have K0 := Lib.hid fun (a : Nat) (b : Bool) (d : Nat) => Bk.new w 25 [.int .u8 (a : Int), .bool b, .int .u32 (d : Int)]
  have B0 := Lib.hid fun (a : Nat) (b : Bool) (d : Nat) => bel1 w (.cells #[.int .u8 (a : Int), .bool b, .int .u32 (d : Int)] 25)
  obtain ⟨r, hr⟩ : ∃ r, x % 8 = r := ⟨_, rfl⟩
  have hm : (x : Int).tmod 8 = (r : Int) := by rw [← hr]; exact (Int.ofNat_tmod x 8).symm
  have hq : (x : Int).tdiv 8 = ((x / 8 : Nat) : Int) := (Int.ofNat_tdiv x 8).symm
  obtain ⟨q, hqq⟩ : ∃ q, x / 8 = q := ⟨_, rfl⟩
  rw [hqq] at hq
  have hm2 : (q : Int).tmod 4 = ((q % 4 : Nat) : Int) := (Int.ofNat_tmod q 4).symm
  obtain ⟨s, hs⟩ : ∃ s, q % 4 = s := ⟨_, rfl⟩
  rw [hs] at hm2
  have hs4 : s < 4 := by omega
  have hm3 : (q : Int) % 4 = (s : Int) := by omega
  rw [tagN, hr, hqq, hs] at ht
  have hr8 : r < 8 := by omega
  have HT := Lib.hid ht
  clear ht hr hqq hs
  rcases (show r = 0 ∨ r = 1 ∨ r = 2 ∨ r = 3 ∨ r = 4 ∨ r = 5 ∨ r = 6 ∨ r = 7 by omega) with rfl | rfl | rfl | rfl | rfl | rfl | rfl | rfl
  · obtain ⟨rfl, rfl, rfl⟩ : 0 = c ∧ 16 = n ∧ true = k := by have := HT.out; simpa using this
    rw [show ((0 : Nat) : Int) = 0 from rfl] at hm
    clear hr8
    go_enter Try.func19, Try.ntmps19
    go_wp2_with fail
    exact retT rfl rfl (K0.out 0 true 16) rfl ⟨rfl, B0.out 0 true 16⟩
  · obtain ⟨rfl, rfl, rfl⟩ : 0 = c ∧ 17 = n ∧ true = k := by have := HT.out; simpa using this
    rw [show ((1 : Nat) : Int) = 1 from rfl] at hm
    clear hr8
    go_enter Try.func19, Try.ntmps19
    go_wp2_with fail
    exact retT rfl rfl (K0.out 0 true 17) rfl ⟨rfl, B0.out 0 true 17⟩
  · obtain ⟨rfl, hv, rfl⟩ : 2 = c ∧ s * 12 = n ∧ true = k := by have := HT.out; simpa using this
    have hv2 : (s : Int) * 12 = (n : Int) := by omega
    have hv3 : n < 4294967296 := by omega
    clear hv HT
    rw [show ((2 : Nat) : Int) = 2 from rfl] at hm
    clear hr8
    go_enter Try.func19, Try.ntmps19
    go_wp2_with fail
    exact retT rfl rfl (K0.out 2 true n) rfl ⟨rfl, B0.out 2 true n⟩
  · obtain ⟨rfl, rfl, rfl⟩ : 2 = c ∧ s = n ∧ false = k := by have := HT.out; simpa using this
    rw [show ((3 : Nat) : Int) = 3 from rfl] at hm
    clear hr8
    go_enter Try.func19, Try.ntmps19
    go_wp2_with fail
    exact retT rfl rfl (K0.out 2 false s) rfl ⟨rfl, B0.out 2 false s⟩
  · obtain ⟨rfl, rfl, rfl⟩ : 0 = c ∧ 1 = n ∧ false = k := by have := HT.out; simpa using this
    rw [show ((4 : Nat) : Int) = 4 from rfl] at hm
    clear hr8
    go_enter Try.func19, Try.ntmps19
    go_wp2_with fail
    exact retT rfl rfl (K0.out 0 false 1) rfl ⟨rfl, B0.out 0 false 1⟩
  · obtain ⟨rfl, rfl, rfl⟩ : 0 = c ∧ 4 = n ∧ false = k := by have := HT.out; simpa using this
    rw [show ((5 : Nat) : Int) = 5 from rfl] at hm
    clear hr8
    go_enter Try.func19, Try.ntmps19
    go_wp2_with fail
    exact retT rfl rfl (K0.out 0 false 4) rfl ⟨rfl, B0.out 0 false 4⟩
  · obtain ⟨rfl, rfl, rfl⟩ : 0 = c ∧ 2 = n ∧ false = k := by have := HT.out; simpa using this
    rw [show ((6 : Nat) : Int) = 6 from rfl] at hm
    clear hr8
    go_enter Try.func19, Try.ntmps19
    go_wp2_with fail
    exact retT rfl rfl (K0.out 0 false 2) rfl ⟨rfl, B0.out 0 false 2⟩
  · obtain ⟨rfl, rfl, rfl⟩ : 0 = c ∧ 2 = n ∧ false = k := by have := HT.out; simpa using this
    rw [show ((7 : Nat) : Int) = 7 from rfl] at hm
    clear hr8
    go_enter Try.func19, Try.ntmps19
    go_wp2_with fail
    exact retT rfl rfl (K0.out 0 false 2) rfl ⟨rfl, B0.out 0 false 2⟩
end Go.Proofs.Ytfbdeefeagednaa.Fl
