/-
  The statement NatsCheck: Check answers for exactly the numbers that are not valid, and each function answers the error of the first argument that is not valid; the examples of the chapter hold.
  Conditions: none.
-/
import Derived.Test.YtenbknmpkdidoaaLives
import Derived.Test.YtenbknmpkdidoaaRow
import Derived.Test.YtenbknmpkdidoaaRows
namespace Go.Proofs.Ytenbknmpkdidoaa
open Go.RowKit

theorem both_left {a b : List Nat} (h : checkE a ≠ 0) : bothE a b = checkE a := if_pos h
theorem both_right {a b : List Nat} (h : checkE a = 0) : bothE a b = checkE b := if_neg (by simpa using h)
/-- Where an argument is not valid: nothing and the error. -/
theorem add_bad {a b : List Nat} {f : Int} (h : bothE a b = f) (hf : f ≠ 0) : addL a b = [] ∧ addE a b = f := by unfold addL addE; rw [h, if_neg hf, if_neg hf]; exact ⟨rfl, rfl⟩
theorem mul_bad {a b : List Nat} {f : Int} (h : bothE a b = f) (hf : f ≠ 0) : mulL a b = [] ∧ mulE a b = f := by unfold mulL mulE; rw [h, if_neg hf, if_neg hf]; exact ⟨rfl, rfl⟩
theorem sub_bad {a b : List Nat} {f : Int} (h : bothE a b = f) (hf : f ≠ 0) : (if subE a b = 0 then dig (val a - val b) else []) = [] ∧ subE a b = f := by
  have e : subE a b = f := by unfold subE; rw [h, if_neg hf]
  rw [e, if_neg hf]; exact ⟨rfl, rfl⟩

set_option maxHeartbeats 1600000 in
theorem check_long (A B : Option Addr) (a b : List Nat) (c d : Nat) (k : Int) (w : World) (hA : Rb w A a) (hB : Rb w B b) (hac : a.length ≤ c) (hbd : b.length ≤ d) (hc : c ≤ maxLen) (hd : d ≤ maxLen) (hlong : 80 < a.length ∨ 80 < b.length) :
    Calls Try.prog 3 #[.slice A a.length c, .slice B b.length d, .int .i64 k] w fun e w' => e = .returned (.bool true) ∧ Below w.heap.size w w' := by
  have B0 : Hid (Below w.heap.size w w) := Below.refl _ _
  unfold maxLen at hc hd
  clear hA hB
  by_cases h1 : 80 < a.length
  · clear hlong
    go_enter Try.func3, Try.ntmps3
    go_wp2_with fail
    refine (lives1 w).mono ?_
    rintro e w1 ⟨rfl, hb⟩
    have Bz := bt B0 (Lib.hid hb)
    clear hb
    go_wp2_with fail
    go_ret
    exact ⟨rfl, Bz.out⟩
  · have h2 : 80 < b.length := by rcases hlong with h | h; exact absurd h h1; exact h
    clear hlong
    go_enter Try.func3, Try.ntmps3
    go_wp2_with fail
    refine (lives1 w).mono ?_
    rintro e w1 ⟨rfl, hb⟩
    have Bz := bt B0 (Lib.hid hb)
    clear hb
    go_wp2_with fail
    go_ret
    exact ⟨rfl, Bz.out⟩
set_option maxHeartbeats 1600000 in
theorem check_good (A B : Option Addr) (a b : List Nat) (c d : Nat) (k : Int) (w : World) (hA : Rb w A a) (hB : Rb w B b) (hac : a.length ≤ c) (hbd : b.length ≤ d) (hc : c ≤ maxLen) (hd : d ≤ maxLen) (h1 : a.length ≤ 80) (h2 : b.length ≤ 80) (ha : checkE a = 0) (hb : checkE b = 0) :
    Calls Try.prog 3 #[.slice A a.length c, .slice B b.length d, .int .i64 k] w fun e w' => e = .returned (.bool true) ∧ Below w.heap.size w w' := by
  have HC := Lib.hid (And.intro (And.intro hac hbd) (And.intro hc hd))
  have HA := Lib.hid hA
  have HB := Lib.hid hB
  have B0 : Hid (Below w.heap.size w w) := Below.refl _ _
  have hm1 : a.length ≤ maxLen := Nat.le_trans hac hc
  have hm2 : b.length ≤ maxLen := Nat.le_trans hbd hd
  clear hA hB
  have K1 := rcheck_any A a c w hm1 HA.out
  have K2 := check_any A a c w hm1 HA.out
  have K3 := rcheck_any B b d w hm2 HB.out
  rw [ha] at K1 K2
  rw [hb] at K3
  have K1 := Lib.hid K1
  have K2 := Lib.hid K2
  have K3 := Lib.hid K3
  clear ha hb
  unfold maxLen at hc hd
  go_enter Try.func3, Try.ntmps3
  go_wp2_with fail
  refine K1.out.mono ?_
  rintro e w1 ⟨rfl, rfl⟩
  go_wp2_with fail
  refine K2.out.mono ?_
  rintro e w1 ⟨rfl, rfl⟩
  go_wp2_with fail
  refine K3.out.mono ?_
  rintro e w1 ⟨rfl, rfl⟩
  go_wp2_with fail
  refine (lives1 w).mono ?_
  rintro e w1 ⟨rfl, hb⟩
  have Bz := bt B0 (Lib.hid hb)
  clear hb
  go_wp2_with fail
  go_ret
  exact ⟨rfl, Bz.out⟩
set_option maxHeartbeats 3200000 in
theorem check_second (A B : Option Addr) (a b : List Nat) (c d : Nat) (k : Int) (w : World) (hA : Rb w A a) (hB : Rb w B b) (hac : a.length ≤ c) (hbd : b.length ≤ d) (hc : c ≤ maxLen) (hd : d ≤ maxLen) (h1 : a.length ≤ 80) (h2 : b.length ≤ 80) (ha : checkE a = 0) (hb : checkE b ≠ 0) :
    Calls Try.prog 3 #[.slice A a.length c, .slice B b.length d, .int .i64 k] w fun e w' => e = .returned (.bool true) ∧ Below w.heap.size w w' := by
  have HC := Lib.hid (And.intro (And.intro hac hbd) (And.intro hc hd))
  have HA := Lib.hid hA
  have HB := Lib.hid hB
  have B0 : Hid (Below w.heap.size w w) := Below.refl _ _
  have hm1 : a.length ≤ maxLen := Nat.le_trans hac hc
  have hm2 : b.length ≤ maxLen := Nat.le_trans hbd hd
  clear hA hB
  have K1 := rcheck_any A a c w hm1 HA.out
  have K2 := check_any A a c w hm1 HA.out
  have K3 := rcheck_any B b d w hm2 HB.out
  have hbo := both_right (b := b) ha
  rw [ha] at K1 K2
  obtain ⟨f, hf⟩ : ∃ f, checkE b = f := ⟨_, rfl⟩
  rw [hf] at K3 hbo hb
  have HF := Lib.hid (And.intro hbo hb)
  have g1 : (f != 0) = true := by simpa using hb
  have g2 : (f == 0) = false := by simpa using hb
  have K1 := Lib.hid K1
  have K2 := Lib.hid K2
  have K3 := Lib.hid K3
  clear ha hb hbo hf
  unfold maxLen at hc hd
  go_enter Try.func3, Try.ntmps3
  go_wp2_with fail
  refine K1.out.mono ?_
  rintro e w1 ⟨rfl, rfl⟩
  go_wp2_with fail
  refine K2.out.mono ?_
  rintro e w1 ⟨rfl, rfl⟩
  go_wp2_with fail
  refine K3.out.mono ?_
  rintro e w1 ⟨rfl, rfl⟩
  clear K1 K2 K3
  go_wp2_with fail
  refine (add_any A B a b c d w hm1 hm2 (HA.out.below B0.out) (HB.out.below B0.out)).mono ?_
  rw [(add_bad HF.out.1 HF.out.2).1, (add_bad HF.out.1 HF.out.2).2]
  intro e wa h
  obtain ⟨X1, rfl, x1, hb⟩ := h.hid
  have Ba := bt B0 hb
  clear h hb x1
  go_wp2_with fail
  refine (sub_any A B a b c d wa HC.out.1.1 HC.out.1.2 HC.out.2.1 HC.out.2.2 (HA.out.below Ba.out) (HB.out.below Ba.out)).mono ?_
  rw [(sub_bad HF.out.1 HF.out.2).1, (sub_bad HF.out.1 HF.out.2).2]
  intro e wb h
  obtain ⟨X2, rfl, x2, hb⟩ := h.hid
  have Bb := bt Ba hb
  clear h hb x2 Ba
  go_wp2_with fail
  refine (mul_any A B a b c d wb hm1 hm2 (HA.out.below Bb.out) (HB.out.below Bb.out)).mono ?_
  rw [(mul_bad HF.out.1 HF.out.2).1, (mul_bad HF.out.1 HF.out.2).2]
  intro e wc h
  obtain ⟨X3, rfl, x3, hb⟩ := h.hid
  have Bc := bt Bb hb
  clear h hb x3 Bb
  go_wp2_with fail
  refine (same_err X1 none 0 0 0 f wc HF.out.2).mono ?_
  rintro e wd ⟨rfl, hb⟩
  have Bd := bt Bc (Lib.hid hb)
  clear hb Bc
  go_wp2_with fail
  refine (same_err X2 none 0 0 0 f wd HF.out.2).mono ?_
  rintro e we ⟨rfl, hb⟩
  have Be := bt Bd (Lib.hid hb)
  clear hb Bd
  go_wp2_with fail
  refine (same_err X3 none 0 0 0 f we HF.out.2).mono ?_
  rintro e wf ⟨rfl, hb⟩
  have Bf := bt Be (Lib.hid hb)
  clear hb Be
  go_wp2_with fail
  refine (lives1 wf).mono ?_
  rintro e wg ⟨rfl, hb⟩
  have Bz := bt Bf (Lib.hid hb)
  clear hb
  go_wp2_with fail
  go_ret
  exact ⟨rfl, Bz.out⟩
set_option maxHeartbeats 3200000 in
theorem check_first (A B : Option Addr) (a b : List Nat) (c d : Nat) (k : Int) (w : World) (hA : Rb w A a) (hB : Rb w B b) (hac : a.length ≤ c) (hbd : b.length ≤ d) (hc : c ≤ maxLen) (hd : d ≤ maxLen) (h1 : a.length ≤ 80) (h2 : b.length ≤ 80) (ha : checkE a ≠ 0) :
    Calls Try.prog 3 #[.slice A a.length c, .slice B b.length d, .int .i64 k] w fun e w' => e = .returned (.bool true) ∧ Below w.heap.size w w' := by
  have HC := Lib.hid (And.intro (And.intro hac hbd) (And.intro hc hd))
  have HA := Lib.hid hA
  have HB := Lib.hid hB
  have B0 : Hid (Below w.heap.size w w) := Below.refl _ _
  have hm1 : a.length ≤ maxLen := Nat.le_trans hac hc
  have hm2 : b.length ≤ maxLen := Nat.le_trans hbd hd
  clear hA hB
  have K1 := rcheck_any A a c w hm1 HA.out
  have K2 := check_any A a c w hm1 HA.out
  have hbo := both_left (b := b) ha
  have hu : uintE a = checkE a := by unfold uintE; rw [if_pos ha]
  have hv : divE a 0 = checkE a := by unfold divE; rw [if_pos ha]
  have hbi : bitsN a = 0 := by unfold bitsN; rw [if_neg ha]
  have HT := Lib.hid ha
  obtain ⟨f, hf⟩ : ∃ f, checkE a = f := ⟨_, rfl⟩
  rw [hf] at K1 K2 hbo ha hu hv
  have HF := Lib.hid (And.intro hbo ha)
  have HU := Lib.hid (And.intro hu (And.intro hv (And.intro hbi hf)))
  have g1 : (f != 0) = true := by simpa using ha
  have g2 : (f == 0) = false := by simpa using ha
  have g3 : (f != f) = false := by simp
  have g4 : (f == f) = true := by simp
  have hs : ((bstr [63]).toList == ([63] : List UInt8)) = true := by decide +kernel
  have K1 := Lib.hid K1
  have K2 := Lib.hid K2
  clear ha hbo hf hu hv hbi
  unfold maxLen at hc hd
  go_enter Try.func3, Try.ntmps3
  go_wp2_with fail
  refine K1.out.mono ?_
  rintro e w1 ⟨rfl, rfl⟩
  go_wp2_with fail
  refine K2.out.mono ?_
  rintro e w1 ⟨rfl, rfl⟩
  clear K1 K2
  go_wp2_with fail
  refine (add_any A B a b c d w hm1 hm2 (HA.out.below B0.out) (HB.out.below B0.out)).mono ?_
  rw [(add_bad HF.out.1 HF.out.2).1, (add_bad HF.out.1 HF.out.2).2]
  intro e wa h
  obtain ⟨X1, rfl, x1, hb⟩ := h.hid
  have Ba := bt B0 hb
  clear h hb x1
  go_wp2_with fail
  refine (sub_any A B a b c d wa HC.out.1.1 HC.out.1.2 HC.out.2.1 HC.out.2.2 (HA.out.below Ba.out) (HB.out.below Ba.out)).mono ?_
  rw [(sub_bad HF.out.1 HF.out.2).1, (sub_bad HF.out.1 HF.out.2).2]
  intro e wb h
  obtain ⟨X2, rfl, x2, hb⟩ := h.hid
  have Bb := bt Ba hb
  clear h hb x2 Ba
  go_wp2_with fail
  refine (mul_any A B a b c d wb hm1 hm2 (HA.out.below Bb.out) (HB.out.below Bb.out)).mono ?_
  rw [(mul_bad HF.out.1 HF.out.2).1, (mul_bad HF.out.1 HF.out.2).2]
  intro e wc h
  obtain ⟨X3, rfl, x3, hb⟩ := h.hid
  have Bc := bt Bb hb
  clear h hb x3 Bb
  go_wp2_with fail
  refine (same_err X1 none 0 0 0 f wc HF.out.2).mono ?_
  rintro e wd ⟨rfl, hb⟩
  have Bd := bt Bc (Lib.hid hb)
  clear hb Bc
  go_wp2_with fail
  refine (same_err X2 none 0 0 0 f wd HF.out.2).mono ?_
  rintro e we ⟨rfl, hb⟩
  have Be := bt Bd (Lib.hid hb)
  clear hb Bd
  go_wp2_with fail
  refine (same_err X3 none 0 0 0 f we HF.out.2).mono ?_
  rintro e wf ⟨rfl, hb⟩
  have Bf := bt Be (Lib.hid hb)
  clear hb Be
  go_wp2_with fail
  refine (uint_any A a c wf hm1 (HA.out.below Bf.out)).mono ?_
  rw [HU.out.1, if_neg HF.out.2]
  rintro e w1 ⟨rfl, rfl⟩
  go_wp2_with fail
  refine (div_any A a c 0 wf hm1 (HA.out.below Bf.out) (by omega)).mono ?_
  rw [HU.out.2.1, if_neg HF.out.2, if_neg HF.out.2]
  rintro e wg ⟨X4, rfl, _, hb⟩
  have Bg := bt Bf (Lib.hid hb)
  clear hb Bf
  go_wp2_with fail
  refine (pow_err A a c k wg hm1 (HA.out.below Bg.out) (Or.inl HT.out)).mono ?_
  rw [HU.out.2.2.2, if_neg HF.out.2]
  intro e wh h
  obtain ⟨X5, rfl, x5, hb⟩ := h.hid
  have Bh := bt Bg hb
  clear h hb x5 Bg
  go_wp2_with fail
  refine (same_err X4 none 0 0 0 f wh HF.out.2).mono ?_
  rintro e wi ⟨rfl, hb⟩
  have Bi := bt Bh (Lib.hid hb)
  clear hb Bh
  go_wp2_with fail
  refine (same_err X5 none 0 0 0 f wi HF.out.2).mono ?_
  rintro e wj ⟨rfl, hb⟩
  have Bj := bt Bi (Lib.hid hb)
  clear hb Bi
  go_wp2_with fail
  refine (bits_any A a c wj hm1 (HA.out.below Bj.out)).mono ?_
  rw [HU.out.2.2.1]
  rintro e w1 ⟨rfl, rfl⟩
  go_wp2_with fail
  refine (text_err A a c wj hm1 (HA.out.below Bj.out) HT.out).mono ?_
  rw [show bstr [63] = { data := #[63] } from rfl]
  rintro e wk ⟨rfl, hb⟩
  have Bk := bt Bj (Lib.hid hb)
  clear hb Bj
  go_wp2_with fail
  refine (lives1 wk).mono ?_
  rintro e wl ⟨rfl, hb⟩
  have Bz := bt Bk (Lib.hid hb)
  clear hb
  go_wp2_with fail
  go_ret
  exact ⟨rfl, Bz.out⟩

theorem check_walk (A B : Option Addr) (a b : List Nat) (c d : Nat) (k : Int) (w : World) (hA : Rb w A a) (hB : Rb w B b) (hac : a.length ≤ c) (hbd : b.length ≤ d) (hc : c ≤ maxLen) (hd : d ≤ maxLen) :
    Calls Try.prog 3 #[.slice A a.length c, .slice B b.length d, .int .i64 k] w fun e w' => e = .returned (.bool true) ∧ Below w.heap.size w w' := by
  by_cases hlong : 80 < a.length ∨ 80 < b.length
  · exact check_long A B a b c d k w hA hB hac hbd hc hd hlong
  have h1 : a.length ≤ 80 := by omega
  have h2 : b.length ≤ 80 := by omega
  by_cases ha : checkE a = 0
  · by_cases hb : checkE b = 0
    · exact check_good A B a b c d k w hA hB hac hbd hc hd h1 h2 ha hb
    · exact check_second A B a b c d k w hA hB hac hbd hc hd h1 h2 ha hb
  · exact check_first A B a b c d k w hA hB hac hbd hc hd h1 h2 ha
open Go.ChangeShapes Go.WideShapes Go.ChangeAt
set_option maxRecDepth 100000 in
theorem natsCheck_lifted (os : Os) (started : os.Started) (H : Type) (enc : TypeId × Value → H) :
    ReturnsInHanded {} Try.checked os 3 .any (Rows.natsCheckSpec.pre6 enc Try.prog Try.f3 Rows.natsCheckRow.domain false) (Rows.natsCheckSpec.post enc Try.prog Try.f3 false true false false) := by
  refine returnsInHanded_of_change (C := Try.checked) x_own started (by kernel_rfl) Try.func3
    (ChangeSpec.witness6 (enc := enc) (C := Try.checked) false ⟨#[], #[.slice none 0 0, .slice none 0 0, .int .i64 0], []⟩ 8 (by kernel_rfl) (by kernel_rfl) (by kernel_rfl) (by kernel_rfl)) ?_
  intro W base args ds gs before hval0 hW hcnd _
  have hval : ∀ (j : Nat) t v, Try.f3.params[j]? = some t → args[j]? = some v → Value.okWide Try.prog W .any base t v := hval0
  have hW' := hW
  obtain ⟨p, q, hA0, hV, rfl, hfz, hnd⟩ := hW
  have hA : DataW.TrodAll enc Try.prog W 0 (fun _ => true) true Try.f3.params.toList args.toList ds p := hA0
  rw [Try.params3] at hA hval
  obtain ⟨v0, v1, v2, d0, d1, d2, p0, p1, p2, rfl, rfl, rfl, h0, h1, h2⟩ := trodAll_three hA
  obtain ⟨rfl, rfl⟩ := trodVars_none hV
  obtain ⟨A0, l0, c0, rfl, hR0, hl0, hc0⟩ := open_bytes (hval 0 _ v0 rfl rfl) h0
  obtain ⟨A1, l1, c1, rfl, hR1, hl1, hc1⟩ := open_bytes (hval 1 _ v1 rfl rfl) h1
  obtain ⟨x2, rfl, _, _, wf2⟩ := open_int Try.underlying3 (hval 2 _ v2 rfl rfl) h2
  simp [Lit.wf, IntKind.min, IntKind.max, IntKind.signed, IntKind.bits] at wf2
  clear hA0 hval0
  refine (check_walk A0 A1 l0 l1 c0 c1 x2 W hR0 hR1 hl0 hl1 hc0 hc1).mono fun e W' ⟨he, hb⟩ => ?_
  subst he
  exact ⟨_, rfl, law_post (tb := 4) x_laid (by decide +kernel) rfl rfl (by kernel_rfl) Try.underlying4 hW' hb⟩

/-- The statement. -/
theorem natsCheck_holds : Rows.NatsCheckSaid :=
  OpenClaim.holds_of_wide 3 Try.f3 rfl rfl rfl rfl rfl rfl rfl ⟨rfl, rfl, rfl, rfl, rfl⟩ rfl rfl rfl rfl rfl (by kernel_rfl) Try.func3 (by kernel_rfl)
    (of_decide_eq_true (by kernel_rfl)) (by unfold Func.isWrapper; first | (rw [if_pos (by decide +kernel)]; kernel_rfl) | (rw [if_neg (by decide +kernel)]; exact ⟨rfl, rfl⟩))
    (fun os started H enc _ => natsCheck_lifted os started H enc)
end Go.Proofs.Ytenbknmpkdidoaa
