/-
  Package nats: contracts of accumulate and its closures, Add, Mul, appendDecimal.
  Conditions: slices are no longer than a word allows, and read as bytes.
-/
import Derived.Test.YtenbknmpkdidoaaNatsA
namespace Go.Proofs.Ytenbknmpkdidoaa
open Go.RowKit

/-- The digits d (least significant first) as an array's cells, the most significant one first. -/
def ar8 (d : List Nat) : List Value := cs8 d.reverse

set_option maxHeartbeats 800000 in
theorem add_cl (D : Nat) (d : List Nat) (p v : Nat) (w : World) (hl : d.length = 128) (hd : Lt 256 d) (hB : Bk w D 81 (ar8 d)) (hv : v < 4294967296) (hp : p ≤ 127) (ht : vl 256 d + 256 ^ p * v < 256 ^ 128) :
    Calls Try.prog 56 #[.int .i64 p, .int .u64 v, .pointer (some ⟨D, 0, none⟩)] w fun e w' => e = .returned (.tuple #[]) ∧
      ∃ d', d'.length = 128 ∧ Lt 256 d' ∧ vl 256 d' = vl 256 d + 256 ^ p * v ∧ Bk w' D 81 (ar8 d') ∧ w.grownBy w' (some D) := by
  have HB := Lib.hid hB
  have HT := Lib.hid ht
  have HL := Lib.hid hl
  clear hB ht hl
  go_enter Try.func56, Try.ntmps56
  go_wp2
  go_loopw [1, 5] (fun a i wr => ∃ (q u : Nat) (d' : List Nat), q ≤ 128 ∧ u < 4294967296 ∧ a = .int .u64 u ∧ i = .int .i64 (127 - (q : Int)) ∧ d'.length = 128 ∧ Lt 256 d' ∧
      vl 256 d' + 256 ^ q * u = vl 256 d + 256 ^ p * v ∧ Bk wr D 81 (ar8 d') ∧ w.grownBy wr (some D)) (fun _ i _ => (intOf i + 1).toNat)
  case atStart => exact ⟨p, v, d, by omega, hv, rfl, rfl, HL.out, hd, rfl, HB.out, only_refl _ _⟩
  case round =>
    obtain ⟨q, u, d', hq, hu, rfl, rfl, hl', hd', hval, hB', hg⟩ := hrel
    have HV := Lib.hid hval
    have HG := Lib.hid hg
    have HL' := Lib.hid hl'
    have HB' := Lib.hid hB'
    clear hval hg hl' hB'
    by_cases hu0 : u = 0
    · subst hu0
      go_wp2
      go_end0
      exact ⟨rfl, d', HL'.out, hd', by have := HV.out; simpa using this, HB'.out, HG.out⟩
    · have hq' : q < 128 := by
        rcases Nat.lt_or_ge q 128 with h | h
        · exact h
        · exfalso
          have h1 : 256 ^ 128 ≤ 256 ^ q := Nat.pow_le_pow_right (by omega) h
          have h2 : 256 ^ q * 1 ≤ 256 ^ q * u := Nat.mul_le_mul_left _ (by omega)
          have := HV.out; have := HT.out; omega
      obtain ⟨n, hn⟩ : ∃ n : Nat, n + q = 127 := ⟨127 - q, by omega⟩
      have e1 : (127 : Int) - (q : Int) = (n : Int) := by omega
      rw [e1]
      have hx : d'[q]'(by rw [HL'.out]; exact hq') < 256 := hd' _ (List.getElem_mem _)
      have hcell : wr.cell? ⟨D, n, none⟩ = some (.int .u8 ((d'[q]'(by rw [HL'.out]; exact hq') : Nat) : Int)) := by
        rw [HB'.out.cell]
        have h0 : n < d'.reverse.length := by rw [List.length_reverse, HL'.out]; omega
        simp only [ar8, cs8, List.getElem?_map, List.getElem?_eq_getElem h0, Option.map_some, by8, List.getElem_reverse]
        congr 4
        have := HL'.out; omega
      have hfree : wr.frozen? ⟨D, n, none⟩ = false := HB'.out.free n
      generalize hxe : d'[q]'(by rw [HL'.out]; exact hq') = x at hx hcell
      have HX := Lib.hid hxe
      have HN := Lib.hid hn
      clear hxe
      have hpos : 0 < u := by omega
      have hn' : n < 128 := by omega
      clear e1 hn hu0
      go_wp2
      refine ⟨⟨q + 1, (u + x) / 256, d'.set q ((u + x) % 256), by omega, by omega, by go_num, ?_, by rw [List.length_set, HL'.out], ?_, ?_, ?_, only_store HG.out n _⟩, by simp [intOf]⟩
      · have := HN.out
        exact congrArg (Value.int IntKind.i64) (by omega)
      · exact Lt.set hd' (by omega)
      · have h1 := vl_set (b := 256) (l := d') (p := q) (by rw [HL'.out]; exact hq') ((u + x) % 256)
        rw [HX.out] at h1
        have h2 : 256 ^ (q + 1) * ((u + x) / 256) + 256 ^ q * ((u + x) % 256) = 256 ^ q * u + 256 ^ q * x := by
          rw [Nat.pow_succ, Nat.mul_assoc, ← Nat.mul_add, ← Nat.mul_add]
          congr 1
          omega
        have := HV.out
        omega
      · have h := HB'.out.store n (.int .u8 (((u : Int) + x) % 256))
        have e : (ar8 d').set n (.int .u8 (((u : Int) + x) % 256)) = ar8 (d'.set q ((u + x) % 256)) := by
          unfold ar8 cs8
          have := HN.out
          have := HL'.out
          have hs := set_rev d' n ((u + x) % 256) (by omega)
          rw [show d'.length - 1 - n = q from by omega] at hs
          rw [← hs, List.map_set]
          rfl
        rw [e] at h
        exact h

def limD (v : Nat) : List Nat := if v < 256 ^ 64 then dig v else []
def limE (v : Nat) : Int := if v < 256 ^ 64 then 0 else 3
/-- A slice without spare capacity and an error are returned; what was there has not turned. -/
def GiveD (w : World) (l : List Nat) (f : Int) (e : Ending) (w' : World) : Prop :=
  ∃ A, e = .returned (.tuple #[.slice A l.length l.length, .int .i64 f]) ∧ Rb w' A l ∧ Below w.heap.size w w'
/-- The function F with these two captured variables adds up to tot. -/
def Fills (F : FuncId) (c1 c2 : Value) (w : World) (tot : Nat) : Prop :=
  ∀ (W : World) (D : Nat), Below w.heap.size w W → w.heap.size ≤ D → Bk W D 81 (ar8 (List.replicate 128 0)) →
    Calls Try.prog F #[.func (Fn.func 56) #[] #[.pointer (some ⟨D, 0, none⟩)], c1, c2] W fun e W' => e = .returned (.tuple #[]) ∧
      ∃ d, d.length = 128 ∧ Lt 256 d ∧ vl 256 d = tot ∧ Bk W' D 81 (ar8 d) ∧ W.grownBy W' (some D)

theorem z128 : ∀ w : World, (zeroValue 81).run Try.prog w = .ok (.agg (ar8 (List.replicate 128 0)).toArray) w := fun _ => by kernel_rfl

set_option maxHeartbeats 800000 in
theorem acc_any (F : FuncId) (hF : ∀ (args : Array Value) (w : World), (callFunc F args).run Try.prog w = .ok (.enter F args) w) (c1 c2 : Value) (tot : Nat) (w : World) (hf : Fills F c1 c2 w tot) :
    Calls Try.prog 42 #[.func (Fn.func F) #[] #[c1, c2]] w (GiveD w (limD tot) (limE tot)) := by
  have hmf : ∀ (fn : Fn) (first cap : Array Value) (w : World), (Instr.makeFunc fn first cap).run Try.prog w = .ok (.func fn first cap) w := fun _ _ _ _ => rfl
  have hz := z128
  have C1 := Lib.hid (hf (w.alloc (.cells (ar8 (List.replicate 128 0)).toArray 81)) w.heap.size ((Below.refl _ _).alloc (Nat.le_refl _) _) (Nat.le_refl _) (Bk.new _ _ _))
  clear hf
  generalize ar8 (List.replicate 128 0) = Z at hz C1
  go_enter Try.func42, Try.ntmps42
  go_wp2_with fail
  refine C1.out.mono ?_
  rintro e W' ⟨rfl, d, hl, hd, hv, hB, hg⟩
  have HL := Lib.hid hl
  have HV := Lib.hid hv
  have HB := Lib.hid hB
  have HG := Lib.hid hg
  clear hl hv hB hg C1
  have hr : Rb W' (some ⟨w.heap.size, 0, none⟩) d.reverse := ⟨by have := HB.out.rd 0; simpa [ar8] using this, hd.rev⟩
  have C2 := cut_any (some ⟨w.heap.size, 0, none⟩) d.reverse 128 W' (by simp [HL.out]) (by simp [maxLen]) hr
  rw [List.length_reverse, HL.out] at C2
  have ec : cutL d.reverse = dig tot := by rw [cutL_eq hd.rev, val, List.reverse_reverse, HV.out]
  rw [ec] at C2
  have H2 := Lib.hid C2
  have hw : Below w.heap.size w W' := (((Below.refl _ _).alloc (Nat.le_refl _) _).trans (only_below HG.out (Nat.le_refl _) (by simp)))
  have HW := Lib.hid hw
  clear hr ec C2 hw
  by_cases ht : tot < 256 ^ 64
  · have h64 := (dig_length tot 64).2 ht
    have e1 := Lib.hid (show limD tot = dig tot from if_pos ht)
    have e2 := Lib.hid (show limE tot = 0 from if_pos ht)
    clear ht
    go_wp2_with fail
    refine H2.out.mono ?_
    rintro e w' ⟨A', rfl, h', rfl⟩
    go_wp2_with fail
    go_ret2
    unfold GiveD
    rw [e1.out, e2.out]
    exact ⟨_, rfl, h', HW.out⟩
  · have h64 : 64 < (dig tot).length := by
      rcases Nat.lt_or_ge 64 (dig tot).length with h | h
      · exact h
      · exact absurd ((dig_length tot 64).1 h) ht
    have e1 := Lib.hid (show limD tot = [] from if_neg ht)
    have e2 := Lib.hid (show limE tot = 3 from if_neg ht)
    clear ht
    go_wp2_with fail
    refine H2.out.mono ?_
    rintro e w' ⟨A', rfl, h', rfl⟩
    go_wp2_with fail
    go_ret2
    unfold GiveD
    rw [e1.out, e2.out]
    exact ⟨_, rfl, Rb.nil, HW.out⟩

/-! Add. -/
theorem bel_only {B g : Nat} {w W W' : World} (h : Below B w W) (hg : W.grownBy W' (some g)) (hB : B ≤ W.heap.size) (hk : B ≤ g) : Below B w W' := h.trans (only_below hg hk hB)

/-- A variable that holds a slice's header. -/
def Hd (w : World) (g : Nat) (A : Option Addr) (l : List Nat) (c : Nat) : Prop := w.cell? ⟨g, 0, none⟩ = some (.slice A l.length c)

set_option maxHeartbeats 800000 in
theorem add_fill (A B : Option Addr) (a b : List Nat) (c d g h : Nat) (w : World) (ha : a.length ≤ 64) (hb : b.length ≤ 64) (hA : Rb w A a) (hB : Rb w B b) (hg : g < w.heap.size) (hh : h < w.heap.size) (h1 : Hd w g A a c) (h2 : Hd w h B b d) :
    Fills 43 (.pointer (some ⟨g, 0, none⟩)) (.pointer (some ⟨h, 0, none⟩)) w (val a + val b) := by
  intro W D hW hD hZ
  have hA' := hA.below hW
  have hB' := hB.below hW
  have g1 : W.cell? ⟨g, 0, none⟩ = some (.slice A a.length c) := (hW.cell hg).trans h1
  have g2 : W.cell? ⟨h, 0, none⟩ = some (.slice B b.length d) := (hW.cell hh).trans h2
  have HZ := Lib.hid hZ
  have HA := Lib.hid hA
  have HB := Lib.hid hB
  have HW := Lib.hid hW
  have H1 := Lib.hid h1
  have H2 := Lib.hid h2
  clear hA' hB' hZ hA hB hW h1 h2
  go_enter Try.func43, Try.ntmps43
  go_wp2_with fail
  go_loopw [8] (fun i wr => ∃ (k : Nat) (d' : List Nat), k ≤ a.length ∧ i = .int .i64 k ∧ d'.length = 128 ∧ Lt 256 d' ∧ vl 256 d' = low a k ∧ Bk wr D 81 (ar8 d') ∧ W.grownBy wr (some D)) (fun i _ => a.length - (intOf i).toNat)
  case atStart => exact ⟨0, _, Nat.zero_le _, rfl, by simp, by intro x hx; simp at hx; omega, vl_replicate _ _, HZ.out, only_refl _ _⟩
  case round =>
    clear g1 g2
    obtain ⟨k, d', hk, rfl, hl', hd', hval, hB', hgr⟩ := hrel
    have hbel : Below w.heap.size w wr := bel_only HW.out hgr (HW.out).size hD
    have hAr := (HA.out).below hbel
    have g1 : wr.cell? ⟨g, 0, none⟩ = some (.slice A a.length c) := (hbel.cell hg).trans H1.out
    have g2 : wr.cell? ⟨h, 0, none⟩ = some (.slice B b.length d) := (hbel.cell hh).trans H2.out
    have HV := Lib.hid hval
    have HL := Lib.hid hl'
    have HBk := Lib.hid hB'
    have HGr := Lib.hid hgr
    have HBel := Lib.hid hbel
    have HAr := Lib.hid hAr
    clear hval hl' hB' hgr hbel hAr
    by_cases hlt : k < a.length
    · have hdl := digAt_lt HAr.out.2 k
      have C1 := Lib.hid (digit_any A a c k wr (by unfold maxLen; omega) (by unfold maxLen; omega) HAr.out)
      have hsum : vl 256 d' + 256 ^ k * digAt a k = low a (k + 1) := by rw [HV.out, low_succ hlt]
      have hlow : low a (k + 1) < 256 ^ 128 := by
        have h1 := low_le HAr.out.2 (k + 1)
        have h2 : 256 ^ (k + 1) ≤ 256 ^ 128 := Nat.pow_le_pow_right (by omega) (by omega)
        omega
      have C2 := Lib.hid (add_cl D d' k (digAt a k) wr HL.out hd' HBk.out (by omega) (by omega) (by omega))
      have HS := Lib.hid hsum
      clear hsum hlow
      generalize digAt a k = x at hdl C1 C2 HS
      go_wp2_with fail
      refine C1.out.mono ?_
      rintro e w' ⟨rfl, rfl⟩
      go_wp2_with fail
      refine C2.out.mono ?_
      rintro e w2 ⟨rfl, d2, hl2, hd2, hv2, hB2, hg2⟩
      have K : Hid (∃ (k' : Nat) (d' : List Nat), k' ≤ a.length ∧ k' = k + 1 ∧ d'.length = 128 ∧ Lt 256 d' ∧ vl 256 d' = low a k' ∧ Bk w2 D 81 (ar8 d') ∧ W.grownBy w2 (some D)) :=
        ⟨k + 1, d2, by omega, rfl, hl2, hd2, hv2.trans HS.out, hB2, only_trans HGr.out hg2⟩
      clear hl2 hd2 hv2 hB2 hg2
      go_wp2_with fail
      obtain ⟨k', d3, q1, rfl, q2⟩ := K.out
      exact ⟨⟨k + 1, d3, q1, by go_num, q2⟩, by simp [intOf]; omega⟩
    · have hka : k = a.length := by omega
      subst hka
      go_wp2_with fail
      clear g1 g2 hk hlt
      go_loopw [20] (fun i wr => ∃ (k : Nat) (d' : List Nat), k ≤ b.length ∧ i = .int .i64 k ∧ d'.length = 128 ∧ Lt 256 d' ∧ vl 256 d' = val a + low b k ∧ Bk wr D 81 (ar8 d') ∧ W.grownBy wr (some D)) (fun i _ => b.length - (intOf i).toNat)
      case atStart => exact ⟨0, d', Nat.zero_le _, rfl, HL.out, hd', by rw [HV.out, low_all, low_zero, Nat.add_zero], HBk.out, HGr.out⟩
      case round =>
        clear HL HBk HGr HBel HAr HV hd'
        clear d'
        obtain ⟨k, d', hk, rfl, hl', hd', hval, hB', hgr⟩ := hrel
        have hbel : Below w.heap.size w wr := bel_only HW.out hgr (HW.out).size hD
        have hBr := (HB.out).below hbel
        have g2 : wr.cell? ⟨h, 0, none⟩ = some (.slice B b.length d) := (hbel.cell hh).trans H2.out
        have HV := Lib.hid hval
        have HL := Lib.hid hl'
        have HBk := Lib.hid hB'
        have HGr := Lib.hid hgr
        have HBel := Lib.hid hbel
        have HBr := Lib.hid hBr
        clear hval hl' hB' hgr hbel hBr
        by_cases hlt : k < b.length
        · have hdl := digAt_lt HBr.out.2 k
          have C1 := Lib.hid (digit_any B b d k wr (by unfold maxLen; omega) (by unfold maxLen; omega) HBr.out)
          have hsum : vl 256 d' + 256 ^ k * digAt b k = val a + low b (k + 1) := by rw [HV.out, low_succ hlt]; omega
          have hlow : val a + low b (k + 1) < 256 ^ 128 := by
            have h1 := low_le HBr.out.2 (k + 1)
            have h2 : 256 ^ (k + 1) ≤ 256 ^ 64 := Nat.pow_le_pow_right (by omega) (by omega)
            have h3 := val_lt HA.out.2
            have h4 : 256 ^ a.length ≤ 256 ^ 64 := Nat.pow_le_pow_right (by omega) ha
            have h5 : 256 ^ 64 + 256 ^ 64 < 256 ^ 128 := by decide
            omega
          have C2 := Lib.hid (add_cl D d' k (digAt b k) wr HL.out hd' HBk.out (by omega) (by omega) (by omega))
          have HS := Lib.hid hsum
          clear hsum hlow
          generalize digAt b k = x at hdl C1 C2 HS
          go_wp2_with fail
          refine C1.out.mono ?_
          rintro e w' ⟨rfl, rfl⟩
          go_wp2_with fail
          refine C2.out.mono ?_
          rintro e w2 ⟨rfl, d2, hl2, hd2, hv2, hB2, hg2⟩
          have K : Hid (∃ (k' : Nat) (d' : List Nat), k' ≤ b.length ∧ k' = k + 1 ∧ d'.length = 128 ∧ Lt 256 d' ∧ vl 256 d' = val a + low b k' ∧ Bk w2 D 81 (ar8 d') ∧ W.grownBy w2 (some D)) :=
            ⟨k + 1, d2, by omega, rfl, hl2, hd2, hv2.trans HS.out, hB2, only_trans HGr.out hg2⟩
          clear hl2 hd2 hv2 hB2 hg2
          go_wp2_with fail
          obtain ⟨k', d3, q1, rfl, q2⟩ := K.out
          exact ⟨⟨k + 1, d3, q1, by go_num, q2⟩, by simp [intOf]; omega⟩
        · have hka : k = b.length := by omega
          subst hka
          go_wp2_with fail
          go_end0
          exact ⟨rfl, d', HL.out, hd', by rw [HV.out, low_all], HBk.out, HGr.out⟩

theorem bothE_zero {a b : List Nat} (h : bothE a b = 0) : a.length ≤ 64 ∧ b.length ≤ 64 ∧ checkE a = 0 ∧ checkE b = 0 := by
  unfold bothE at h
  by_cases ha : checkE a = 0
  · rw [if_neg (by simpa using ha)] at h
    refine ⟨?_, ?_, ha, h⟩
    · unfold checkE at ha; split at ha
      · simp at ha
      · omega
    · unfold checkE at h; split at h
      · simp at h
      · omega
  · rw [if_pos (by simpa using ha)] at h; exact absurd h ha

def addL (a b : List Nat) : List Nat := if bothE a b = 0 then limD (val a + val b) else []
def addE (a b : List Nat) : Int := if bothE a b = 0 then limE (val a + val b) else bothE a b
set_option maxHeartbeats 800000 in
theorem add_any (A B : Option Addr) (a b : List Nat) (c d : Nat) (w : World) (ha : a.length ≤ maxLen) (hb : b.length ≤ maxLen) (hA : Rb w A a) (hB : Rb w B b) :
    Calls Try.prog 16 #[.slice A a.length c, .slice B b.length d] w (GiveD w (addL a b) (addE a b)) := by
  have hmf : ∀ (fn : Fn) (first cap : Array Value) (w : World), (Instr.makeFunc fn first cap).run Try.prog w = .ok (.func fn first cap) w := fun _ _ _ _ => rfl
  have hw2 : Below w.heap.size w ((w.alloc (.cells #[.slice A a.length c] 22)).alloc (.cells #[.slice B b.length d] 22)) := ((Below.refl _ _).alloc (Nat.le_refl _) _).alloc (by simp) _
  have C0 := Lib.hid (both_any A B a b c d ((w.alloc (.cells #[.slice A a.length c] 22)).alloc (.cells #[.slice B b.length d] 22)) ha hb (hA.below hw2) (hB.below hw2))
  by_cases hE : bothE a b = 0
  · have e1 := Lib.hid (show addL a b = limD (val a + val b) from if_pos hE)
    have e2 := Lib.hid (show addE a b = limE (val a + val b) from if_pos hE)
    obtain ⟨h1, h2, _⟩ := bothE_zero hE
    have C1 := Lib.hid (acc_any 43 (fun _ _ => by kernel_rfl) (.pointer (some ⟨w.heap.size, 0, none⟩)) (.pointer (some ⟨w.heap.size + 1, 0, none⟩)) (val a + val b) ((w.alloc (.cells #[.slice A a.length c] 22)).alloc (.cells #[.slice B b.length d] 22))
      (add_fill A B a b c d w.heap.size (w.heap.size + 1) _ h1 h2 (hA.below hw2) (hB.below hw2) (by simp; omega) (by simp) (by unfold Hd; simp [go_sem]) (by unfold Hd; simp [go_sem])))
    have HW := Lib.hid hw2
    rw [hE] at C0
    clear hE h1 h2 hA hB hw2
    go_enter Try.func16, Try.ntmps16
    go_wp2_with fail
    refine C0.out.mono ?_
    rintro e w' ⟨rfl, rfl⟩
    go_wp2_with fail
    refine C1.out.mono ?_
    rintro e w' ⟨A', rfl, h', hb'⟩
    have HH := Lib.hid h'
    have HBB := Lib.hid hb'
    clear h' hb'
    go_wp2_with fail
    go_ret2
    unfold GiveD
    rw [e1.out, e2.out]
    exact ⟨_, rfl, HH.out, (HW.out).trans (HBB.out.mono (by simp; omega))⟩
  · have e1 := Lib.hid (show addL a b = [] from if_neg hE)
    have e2 := Lib.hid (show addE a b = bothE a b from if_neg hE)
    have HW := Lib.hid hw2
    generalize bothE a b = x at C0 hE e2
    have hx2 : (x != 0) = true := by simpa using hE
    clear hA hB hw2
    go_enter Try.func16, Try.ntmps16
    go_wp2_with fail
    refine C0.out.mono ?_
    rintro e w' ⟨rfl, rfl⟩
    go_wp2_with fail
    go_ret2
    unfold GiveD
    rw [e1.out, e2.out]
    exact ⟨_, rfl, Rb.nil, HW.out⟩
end Go.Proofs.Ytenbknmpkdidoaa
