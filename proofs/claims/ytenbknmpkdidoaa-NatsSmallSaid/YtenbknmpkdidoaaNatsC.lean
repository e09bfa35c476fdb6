/-
  Package nats: contracts of Mul, appendDecimal, isDecimal, Parse.
  Conditions: slices are no longer than a word allows, and read as bytes.
-/
import Derived.Test.YtenbknmpkdidoaaNatsB
import Derived.StillTailTactics
namespace Go.Proofs.Ytenbknmpkdidoaa
open Go.RowKit

theorem digit_still (A : Option Addr) (l : List Nat) (c i : Nat) (w : World) (hn : l.length ≤ maxLen) (hi : i ≤ maxLen) (h : Rb w A l) :
    Calls Try.prog 44 #[.slice A l.length c, .int .i64 i] w fun e w' => e = .returned (.int .u64 (digAt l i)) ∧ w' = w :=
  (digit_any A l c i w hn hi h).mono fun _ _ ⟨h1, h2⟩ => ⟨h1, h2.symm⟩

theorem only_of_drew {w w' : World} {g : Nat} (h : w.drew.grownBy w' (some g)) : w.grownBy w' (some g) := ⟨h.os, h.tape, h.output, h.size, h.block⟩
theorem mul_bound {a b : List Nat} (ha : a.length ≤ 64) (hb : b.length ≤ 64) (h8 : Lt 256 a) (k8 : Lt 256 b) {k j : Nat} (hk : k < a.length) :
    low a k * val b + 256 ^ k * digAt a k * low b j < 256 ^ 128 := by
  have h1 := low_mono b j
  have h2 : 256 ^ k * digAt a k * low b j ≤ 256 ^ k * digAt a k * val b := Nat.mul_le_mul_left _ h1
  have h3 : low a (k + 1) * val b = low a k * val b + 256 ^ k * digAt a k * val b := by rw [low_succ hk, Nat.add_mul]
  have h4 := low_le h8 (k + 1)
  have h5 : 256 ^ (k + 1) ≤ 256 ^ 64 := Nat.pow_le_pow_right (by omega) (by omega)
  have h6 := val_lt k8
  have h7 : 256 ^ b.length ≤ 256 ^ 64 := Nat.pow_le_pow_right (by omega) hb
  have h8 : low a (k + 1) * val b < 256 ^ 64 * 256 ^ 64 := Nat.mul_lt_mul'' (by omega) (by omega)
  have h9 : 256 ^ 64 * 256 ^ 64 = 256 ^ 128 := by decide
  omega
theorem mul_step (P x y k j L V : Nat) (h : V = L + 256 ^ k * x * P) : V + 256 ^ (k + j) * (x * y) = L + 256 ^ k * x * (P + 256 ^ j * y) := by
  rw [h, Nat.mul_add, Nat.pow_add, Nat.add_assoc]
  congr 2
  rw [Nat.mul_assoc, Nat.mul_assoc, Nat.mul_left_comm (256 ^ j)]

set_option maxHeartbeats 1600000 in
theorem mul_fill (A B : Option Addr) (a b : List Nat) (c d g h : Nat) (w : World) (ha : a.length ≤ 64) (hb : b.length ≤ 64) (hA : Rb w A a) (hB : Rb w B b) (hg : g < w.heap.size) (hh : h < w.heap.size) (h1 : Hd w g A a c) (h2 : Hd w h B b d) :
    Fills 46 (.pointer (some ⟨g, 0, none⟩)) (.pointer (some ⟨h, 0, none⟩)) w (val a * val b) := by
  intro W D hW hD hZ
  have g1 : W.cell? ⟨g, 0, none⟩ = some (.slice A a.length c) := (hW.cell hg).trans h1
  have HZ := Lib.hid hZ
  have HA := Lib.hid hA
  have HB := Lib.hid hB
  have HW := Lib.hid hW
  have H1 := Lib.hid h1
  have H2 := Lib.hid h2
  clear hZ hA hB hW h1 h2
  go_enter Try.func46, Try.ntmps46
  go_wp2_with fail
  go_loopw [8] (fun i wr => ∃ (k : Nat) (d' : List Nat), k ≤ a.length ∧ i = .int .i64 k ∧ d'.length = 128 ∧ Lt 256 d' ∧ vl 256 d' = low a k * val b ∧ Bk wr D 81 (ar8 d') ∧ W.grownBy wr (some D)) (fun i _ => a.length - (intOf i).toNat)
  case atStart => exact ⟨0, _, Nat.zero_le _, rfl, by simp, by intro x hx; simp at hx; omega, by rw [vl_replicate, low_zero, Nat.zero_mul], HZ.out, only_refl _ _⟩
  case round =>
    clear g1
    obtain ⟨k, d', hk, rfl, hl', hd', hval, hB', hgr⟩ := hrel
    have hbel : Below w.heap.size w wr := bel_only HW.out hgr (HW.out).size hD
    have g2 : wr.cell? ⟨h, 0, none⟩ = some (.slice B b.length d) := (hbel.cell hh).trans H2.out
    have HV := Lib.hid hval
    have HL := Lib.hid hl'
    have HBk := Lib.hid hB'
    have HGr := Lib.hid hgr
    clear hval hl' hB' hgr hbel
    by_cases hlt : k < a.length
    · go_wp2_with fail
      clear g2
      go_loopw [13] (fun i wr => ∃ (j : Nat) (d' : List Nat), j ≤ b.length ∧ i = .int .i64 j ∧ d'.length = 128 ∧ Lt 256 d' ∧ vl 256 d' = low a k * val b + 256 ^ k * digAt a k * low b j ∧ Bk wr D 81 (ar8 d') ∧ W.grownBy wr (some D)) (fun i _ => b.length - (intOf i).toNat)
      case atStart => exact ⟨0, d', Nat.zero_le _, rfl, HL.out, hd', by rw [HV.out, low_zero, Nat.mul_zero, Nat.add_zero], HBk.out, HGr.out⟩
      case round =>
        clear HL HBk HGr HV hd'
        clear d'
        obtain ⟨j, d', hj, rfl, hl', hd', hval, hB', hgr⟩ := hrel
        have hbel : Below w.heap.size w wr := bel_only HW.out hgr (HW.out).size hD
        have hAr := (HA.out).below hbel
        have hBr := (HB.out).below hbel
        have g1 : wr.cell? ⟨g, 0, none⟩ = some (.slice A a.length c) := (hbel.cell hg).trans H1.out
        have g2 : wr.cell? ⟨h, 0, none⟩ = some (.slice B b.length d) := (hbel.cell hh).trans H2.out
        have HV := Lib.hid hval
        have HL := Lib.hid hl'
        have HBk := Lib.hid hB'
        have HGr := Lib.hid hgr
        have HAr := Lib.hid hAr
        have HBr := Lib.hid hBr
        clear hval hl' hB' hgr hbel hAr hBr
        by_cases hlj : j < b.length
        · have hx := digAt_lt HAr.out.2 k
          have hy := digAt_lt HBr.out.2 j
          have hxy : digAt a k * digAt b j ≤ 255 * 255 := Nat.mul_le_mul (by omega) (by omega)
          have hsum := mul_step (low b j) (digAt a k) (digAt b j) k j _ _ HV.out
          rw [← low_succ hlj] at hsum
          have hb2 := mul_bound ha hb HAr.out.2 HBr.out.2 (k := k) (j := j + 1) hlt
          have C1 := Lib.hid (digit_still A a c k wr.drew (by unfold maxLen; omega) (by unfold maxLen; omega) HAr.out)
          have C2 := Lib.hid (digit_still B b d j wr.drew (by unfold maxLen; omega) (by unfold maxLen; omega) HBr.out)
          have c3 := add_cl D d' (k + j) (digAt a k * digAt b j) wr.drew HL.out hd' HBk.out (by omega) (by omega) (by rw [hsum]; exact hb2)
          rw [Int.natCast_add, Int.natCast_mul] at c3
          have C3 := Lib.hid c3
          have HS := Lib.hid hsum
          clear hsum hb2 c3
          have hxy1 : (digAt a k : Int) * (digAt b j : Int) ≤ 65025 := by rw [← Int.natCast_mul]; omega
          have hxy0 : 0 ≤ (digAt a k : Int) * (digAt b j : Int) := by rw [← Int.natCast_mul]; omega
          clear hxy
          obtain ⟨x, HX⟩ : ∃ x, Hid (digAt a k = x) := ⟨_, rfl⟩
          rw [HX.out] at hx C1 C3 HS hxy1 hxy0
          generalize digAt b j = y at hy C2 C3 HS hxy1 hxy0
          go_wp2_with fail
          refine wp_region_still_tail 11 (by kernel_rfl) (by kernel_rfl) ?_
          simp only [List.take_succ_cons, List.take_zero, List.drop_succ_cons, List.drop_zero]
          repeat still_step
          still_call C1.out
          repeat still_step
          still_call C2.out
          repeat still_step
          refine wpStill_nil ?_
          change wpList _ _ _ _ _ wr.drew
          go_wp2_with fail
          refine C3.out.mono ?_
          rintro e w2 ⟨rfl, d2, hl2, hd2, hv2, hB2, hg2⟩
          have K : Hid (∃ (k' : Nat) (d' : List Nat), k' ≤ b.length ∧ k' = j + 1 ∧ d'.length = 128 ∧ Lt 256 d' ∧ vl 256 d' = low a k * val b + 256 ^ k * digAt a k * low b k' ∧ Bk w2 D 81 (ar8 d') ∧ W.grownBy w2 (some D)) :=
            ⟨j + 1, d2, by omega, rfl, hl2, hd2, hv2.trans (by rw [HX.out]; exact HS.out), hB2, only_trans HGr.out (only_of_drew hg2)⟩
          clear hl2 hd2 hv2 hB2 hg2
          go_wp2_with fail
          obtain ⟨k', d3, q1, rfl, q2⟩ := K.out
          exact ⟨⟨j + 1, d3, q1, by go_num, q2⟩, by simp [intOf]; omega⟩
        · have hja : j = b.length := by omega
          subst hja
          have hv2 : vl 256 d' = low a (k + 1) * val b := by rw [HV.out, low_succ hlt, low_all, Nat.add_mul]
          have HV2 := Lib.hid hv2
          clear hv2
          go_wp2_with fail
          exact ⟨⟨k + 1, d', by omega, by go_num, HL.out, hd', HV2.out, HBk.out, HGr.out⟩, by simp [intOf]; omega⟩
    · have hka : k = a.length := by omega
      subst hka
      go_wp2_with fail
      go_end0
      exact ⟨rfl, d', HL.out, hd', by rw [HV.out, low_all], HBk.out, HGr.out⟩
def mulL (a b : List Nat) : List Nat := if bothE a b = 0 then limD (val a * val b) else []
def mulE (a b : List Nat) : Int := if bothE a b = 0 then limE (val a * val b) else bothE a b
set_option maxHeartbeats 800000 in
theorem mul_any (A B : Option Addr) (a b : List Nat) (c d : Nat) (w : World) (ha : a.length ≤ maxLen) (hb : b.length ≤ maxLen) (hA : Rb w A a) (hB : Rb w B b) :
    Calls Try.prog 18 #[.slice A a.length c, .slice B b.length d] w (GiveD w (mulL a b) (mulE a b)) := by
  have hmf : ∀ (fn : Fn) (first cap : Array Value) (w : World), (Instr.makeFunc fn first cap).run Try.prog w = .ok (.func fn first cap) w := fun _ _ _ _ => rfl
  have hw2 : Below w.heap.size w ((w.alloc (.cells #[.slice A a.length c] 22)).alloc (.cells #[.slice B b.length d] 22)) := ((Below.refl _ _).alloc (Nat.le_refl _) _).alloc (by simp) _
  have C0 := Lib.hid (both_any A B a b c d ((w.alloc (.cells #[.slice A a.length c] 22)).alloc (.cells #[.slice B b.length d] 22)) ha hb (hA.below hw2) (hB.below hw2))
  by_cases hE : bothE a b = 0
  · have e1 := Lib.hid (show mulL a b = limD (val a * val b) from if_pos hE)
    have e2 := Lib.hid (show mulE a b = limE (val a * val b) from if_pos hE)
    obtain ⟨h1, h2, _⟩ := bothE_zero hE
    have C1 := Lib.hid (acc_any 46 (fun _ _ => by kernel_rfl) (.pointer (some ⟨w.heap.size, 0, none⟩)) (.pointer (some ⟨w.heap.size + 1, 0, none⟩)) (val a * val b) ((w.alloc (.cells #[.slice A a.length c] 22)).alloc (.cells #[.slice B b.length d] 22))
      (mul_fill A B a b c d w.heap.size (w.heap.size + 1) _ h1 h2 (hA.below hw2) (hB.below hw2) (by simp; omega) (by simp) (by unfold Hd; simp [go_sem]) (by unfold Hd; simp [go_sem])))
    have HW := Lib.hid hw2
    rw [hE] at C0
    clear hE h1 h2 hA hB hw2
    go_enter Try.func18, Try.ntmps18
    go_wp2_with fail
    refine C0.out.mono ?_
    rintro e w' ⟨rfl, rfl⟩
    go_wp2_with fail
    refine C1.out.mono ?_
    rintro e w' ⟨A', rfl, h', hb'⟩
    have HH := Lib.hid h'
    have HBB := Lib.hid hb'
    clear h' hb'
    go_wp2_with fail
    go_ret2
    unfold GiveD
    rw [e1.out, e2.out]
    exact ⟨_, rfl, HH.out, (HW.out).trans (HBB.out.mono (by simp; omega))⟩
  · have e1 := Lib.hid (show mulL a b = [] from if_neg hE)
    have e2 := Lib.hid (show mulE a b = bothE a b from if_neg hE)
    have HW := Lib.hid hw2
    generalize bothE a b = x at C0 hE e2
    have hx2 : (x != 0) = true := by simpa using hE
    clear hA hB hw2
    go_enter Try.func18, Try.ntmps18
    go_wp2_with fail
    refine C0.out.mono ?_
    rintro e w' ⟨rfl, rfl⟩
    go_wp2_with fail
    go_ret2
    unfold GiveD
    rw [e1.out, e2.out]
    exact ⟨_, rfl, Rb.nil, HW.out⟩

/-! appendDecimal: ten times a number, and a digit. -/
def Hb (w : World) (g : Nat) (x : Nat) : Prop := w.cell? ⟨g, 0, none⟩ = some (.int .u8 (x : Int))
set_option maxHeartbeats 1600000 in
theorem dec_fill (A : Option Addr) (a : List Nat) (c g h x : Nat) (w : World) (ha : a.length ≤ 64) (hx : x < 256) (hA : Rb w A a) (hg : g < w.heap.size) (hh : h < w.heap.size) (h1 : Hb w g x) (h2 : Hd w h A a c) :
    Fills 58 (.pointer (some ⟨g, 0, none⟩)) (.pointer (some ⟨h, 0, none⟩)) w (10 * val a + x) := by
  intro W D hW hD hZ
  have g1 : W.cell? ⟨g, 0, none⟩ = some (.int .u8 (x : Int)) := (hW.cell hg).trans h1
  have C0 := Lib.hid (add_cl D _ 0 x W (by simp) (by intro y hy; simp at hy; omega) hZ (by omega) (by omega) (by rw [vl_replicate, Nat.pow_zero]; omega))
  have HA := Lib.hid hA
  have HW := Lib.hid hW
  have H2 := Lib.hid h2
  clear hZ hA hW h1 h2
  go_enter Try.func58, Try.ntmps58
  go_wp2_with fail
  refine C0.out.mono ?_
  rintro e w1 ⟨rfl, d1, hl1, hd1, hv1, hB1, hg1⟩
  have g2 : w1.cell? ⟨h, 0, none⟩ = some (.slice A a.length c) := ((bel_only HW.out hg1 (HW.out).size hD).cell hh).trans H2.out
  rw [vl_replicate, Nat.pow_zero, Nat.zero_add, Nat.one_mul] at hv1
  have HL1 := Lib.hid hl1
  have HV1 := Lib.hid hv1
  have HB1 := Lib.hid hB1
  have HG1 := Lib.hid hg1
  clear hl1 hv1 hB1 hg1 C0 g1
  go_wp2_with fail
  go_loopw [11] (fun i wr => ∃ (k : Nat) (d' : List Nat), k ≤ a.length ∧ i = .int .i64 k ∧ d'.length = 128 ∧ Lt 256 d' ∧ vl 256 d' = 10 * low a k + x ∧ Bk wr D 81 (ar8 d') ∧ W.grownBy wr (some D)) (fun i _ => a.length - (intOf i).toNat)
  case atStart => exact ⟨0, _, Nat.zero_le _, rfl, HL1.out, hd1, by rw [HV1.out, low_zero]; omega, HB1.out, HG1.out⟩
  case round =>
    clear g2 HB1 HG1 HV1 HL1
    obtain ⟨k, d', hk, rfl, hl', hd', hval, hB', hgr⟩ := hrel
    have hbel : Below w.heap.size w wr := bel_only HW.out hgr (HW.out).size hD
    have hAr := (HA.out).below hbel
    have g2 : wr.cell? ⟨h, 0, none⟩ = some (.slice A a.length c) := (hbel.cell hh).trans H2.out
    have HV := Lib.hid hval
    have HL := Lib.hid hl'
    have HBk := Lib.hid hB'
    have HGr := Lib.hid hgr
    have HAr := Lib.hid hAr
    clear hval hl' hB' hgr hbel hAr
    by_cases hlt : k < a.length
    · have hdl := digAt_lt HAr.out.2 k
      have C1 := Lib.hid (digit_any A a c k wr (by unfold maxLen; omega) (by unfold maxLen; omega) HAr.out)
      have hsum : vl 256 d' + 256 ^ k * (10 * digAt a k) = 10 * low a (k + 1) + x := by rw [HV.out, low_succ hlt, Nat.mul_add, Nat.mul_left_comm]; omega
      have hlow : 10 * low a (k + 1) + x < 256 ^ 128 := by
        have h1 := low_le HAr.out.2 (k + 1)
        have h2 : 256 ^ (k + 1) ≤ 256 ^ 64 := Nat.pow_le_pow_right (by omega) (by omega)
        have h5 : 10 * 256 ^ 64 + 256 < 256 ^ 128 := by decide
        omega
      have c2 := add_cl D d' k (10 * digAt a k) wr HL.out hd' HBk.out (by omega) (by omega) (by omega)
      rw [Int.natCast_mul] at c2
      have C2 := Lib.hid c2
      have HS := Lib.hid hsum
      clear hsum hlow c2
      generalize digAt a k = y at hdl C1 C2 HS
      go_wp2_with fail
      refine C1.out.mono ?_
      rintro e w' ⟨rfl, rfl⟩
      go_wp2_with fail
      refine C2.out.mono ?_
      rintro e w2 ⟨rfl, d2, hl2, hd2, hv2, hB2, hg2⟩
      have K : Hid (∃ (k' : Nat) (d' : List Nat), k' ≤ a.length ∧ k' = k + 1 ∧ d'.length = 128 ∧ Lt 256 d' ∧ vl 256 d' = 10 * low a k' + x ∧ Bk w2 D 81 (ar8 d') ∧ W.grownBy w2 (some D)) :=
        ⟨k + 1, d2, by omega, rfl, hl2, hd2, hv2.trans HS.out, hB2, only_trans HGr.out hg2⟩
      clear hl2 hd2 hv2 hB2 hg2
      go_wp2_with fail
      obtain ⟨k', d3, q1, rfl, q2⟩ := K.out
      exact ⟨⟨k + 1, d3, q1, by go_num, q2⟩, by simp [intOf]; omega⟩
    · have hka : k = a.length := by omega
      subst hka
      go_wp2_with fail
      go_end0
      exact ⟨rfl, d', HL.out, hd', by rw [HV.out, low_all], HBk.out, HGr.out⟩

set_option maxHeartbeats 800000 in
theorem dec_any (A : Option Addr) (a : List Nat) (c x : Nat) (w : World) (ha : a.length ≤ 64) (hx : x < 256) (hA : Rb w A a) :
    Calls Try.prog 55 #[.slice A a.length c, .int .u8 x] w (GiveD w (limD (10 * val a + x)) (limE (10 * val a + x))) := by
  have hmf : ∀ (fn : Fn) (first cap : Array Value) (w : World), (Instr.makeFunc fn first cap).run Try.prog w = .ok (.func fn first cap) w := fun _ _ _ _ => rfl
  have hw2 : Below w.heap.size w ((w.alloc (.cells #[.slice A a.length c] 22)).alloc (.cells #[.int .u8 (x : Int)] 5)) := ((Below.refl _ _).alloc (Nat.le_refl _) _).alloc (by simp) _
  have C1 := Lib.hid (acc_any 58 (fun _ _ => by kernel_rfl) (.pointer (some ⟨w.heap.size + 1, 0, none⟩)) (.pointer (some ⟨w.heap.size, 0, none⟩)) (10 * val a + x) ((w.alloc (.cells #[.slice A a.length c] 22)).alloc (.cells #[.int .u8 (x : Int)] 5))
    (dec_fill A a c (w.heap.size + 1) w.heap.size x _ ha hx (hA.below hw2) (by simp) (by simp; omega) (by unfold Hb; simp [go_sem]) (by unfold Hd; simp [go_sem])))
  have HW := Lib.hid hw2
  clear hA hw2
  generalize limD (10 * val a + x) = L at C1
  generalize limE (10 * val a + x) = E at C1
  go_enter Try.func55, Try.ntmps55
  go_wp2_with fail
  refine C1.out.mono ?_
  rintro e w' ⟨A', rfl, h', hb'⟩
  have HH := Lib.hid h'
  have HBB := Lib.hid hb'
  clear h' hb'
  go_wp2_with fail
  go_ret2
  exact ⟨_, rfl, HH.out, (HW.out).trans (HBB.out.mono (by simp; omega))⟩
end Go.Proofs.Ytenbknmpkdidoaa
