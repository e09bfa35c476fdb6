/-
  Package nats: contracts of Sub, Bits, Pow, Text, isDecimal, Parse.
  Conditions: slices are no longer than a word allows, and read as bytes.
-/
import Derived.Test.YtenbknmpkdidoaaNatsD
namespace Go.Proofs.Ytenbknmpkdidoaa
open Go.RowKit

def subOk (a b : List Nat) : Prop := bothE a b = 0 ∧ val b ≤ val a
theorem checkE_zero {l : List Nat} (h8 : Lt 256 l) (h : checkE l = 0) : Nat64 l := by
  have h64 : l.length ≤ 64 := by
    unfold checkE at h; split at h
    · simp at h
    · omega
  refine ⟨h8, ?_, h64⟩
  unfold checkE at h
  rw [if_neg (by omega)] at h
  cases l with
  | nil => rfl
  | cons x l =>
    have hx : x ≠ 0 := by
      intro e; subst e; simp at h
    have : (x == 0) = false := by simpa using hx
    simp [cutL, this]
theorem checkE_of {l : List Nat} (h : Nat64 l) : checkE l = 0 := by
  unfold checkE
  rw [if_neg (by have := h.2.2; omega)]
  cases l with
  | nil => rfl
  | cons x l =>
    have hx : x ≠ 0 := by
      intro e; subst e
      have h1 := h.2.1
      have h2 : (cutL (0 :: l)).length ≤ l.length := by
        simp only [cutL, List.dropWhile, beq_self_eq_true]
        exact (List.dropWhile_sublist _).length_le
      rw [h1, List.length_cons] at h2
      omega
    simp [hx]
/-- The step of the difference: x - y - bo with 256 lent. -/
theorem sub_step (P k x y bo V L M : Nat) (hP : P = 256 ^ k) (hx : x < 256) (hy : y < 256) (hbo : bo ≤ 1) (h : V + M = L + bo * P) :
    V + P * ((256 + x - y - bo) % 256) + (M + P * y) = L + P * x + (1 - (256 + x - y - bo) / 256) * (P * 256) := by
  have hd := Nat.div_add_mod (256 + x - y - bo) 256
  have hle : (256 + x - y - bo) / 256 ≤ 1 := by omega
  obtain ⟨q, hq⟩ : ∃ q, (256 + x - y - bo) / 256 = q := ⟨_, rfl⟩
  obtain ⟨r, hr⟩ : ∃ r, (256 + x - y - bo) % 256 = r := ⟨_, rfl⟩
  rw [hq] at hd hle ⊢
  rw [hr] at hd ⊢
  have e : r + y + bo + 256 * q = 256 + x := by omega
  have e2 := congrArg (P * ·) e
  simp only [Nat.mul_add] at e2
  have hq2 : q = 0 ∨ q = 1 := by omega
  have hb2 : bo = 0 ∨ bo = 1 := by omega
  rcases hq2 with rfl | rfl <;> rcases hb2 with rfl | rfl <;> simp at * <;> omega

set_option maxHeartbeats 1600000 in
theorem sub_ok (A B : Option Addr) (a b : List Nat) (c d : Nat) (w : World) (hac : a.length ≤ c) (hbd : b.length ≤ d) (hc : c ≤ maxLen) (hd : d ≤ maxLen) (hA : Rb w A a) (hB : Rb w B b) (ha : Nat64 a) (hb : Nat64 b) (hle : val b ≤ val a) :
    Calls Try.prog 17 #[.slice A a.length c, .slice B b.length d] w (GiveD w (dig (val a - val b)) 0) := by
  have hz := z64
  obtain ⟨Z, hZ⟩ : ∃ Z, cs8 (List.replicate 64 0) = Z := ⟨_, rfl⟩
  have HZ := Lib.hid hZ
  rw [hZ] at hz
  clear hZ
  have hE : bothE a b = 0 := by unfold bothE; rw [checkE_of ha, checkE_of hb]; rfl
  have c0 := both_any A B a b c d w (by omega) (by omega) hA hB
  rw [hE] at c0
  have C0 := Lib.hid c0
  have C1 := Lib.hid (cmp_any A B a b c d w hac hbd hc hd hA hB)
  have hcmp : 0 ≤ cmpI (val a) (val b) := by unfold cmpI; rw [if_neg (by omega)]; split <;> omega
  have hcmp2 : decide (cmpI (val a) (val b) < 0) = false := by simp; omega
  generalize cmpI (val a) (val b) = cm at C1 hcmp hcmp2
  have ha64 := ha.2.2
  have hb64 := hb.2.2
  have HLE := Lib.hid hle
  have HA := Lib.hid hA
  have HB0 := Lib.hid hB
  have HNA := Lib.hid ha
  have HNB := Lib.hid hb
  clear c0 hE hle hA hB ha hb
  go_enter Try.func17, Try.ntmps17
  go_wp2_with fail
  refine C0.out.mono ?_
  rintro e w' ⟨rfl, rfl⟩
  go_wp2_with fail
  refine C1.out.mono ?_
  rintro e w' ⟨rfl, rfl⟩
  clear C0 C1
  go_wp2_with fail
  go_loopw [8, 23] (fun r i wr => ∃ (k bo : Nat) (ds : List Nat), k ≤ a.length ∧ bo ≤ 1 ∧ i = .int .i64 k ∧ r = .int .u64 bo ∧ ds.length = 64 ∧ Lt 256 ds ∧ (∀ j, k ≤ j → j < ds.length → ds[j]? = some 0) ∧
      vl 256 ds + low b k = low a k + bo * 256 ^ k ∧ Bk wr w.heap.size 70 (cs8 ds.reverse) ∧ Below w.heap.size w wr) (fun _ i _ => a.length - (intOf i).toNat)
  case atStart =>
    exact ⟨0, 0, List.replicate 64 0, Nat.zero_le _, by omega, rfl, rfl, by simp, by intro x hx; simp at hx; omega, fun j _ hj => by rw [List.length_replicate] at hj; rw [List.getElem?_replicate, if_pos hj],
      by rw [vl_replicate, low_zero, low_zero, Nat.zero_mul], by rw [List.reverse_replicate, HZ.out]; exact Bk.new _ _ _, (Below.refl _ _).alloc (Nat.le_refl _) _⟩
  case round =>
    obtain ⟨k, bo, ds, hk, hbo, rfl, rfl, hds, hd8, hzs, hv, hB, hbel⟩ := hrel
    have HV := Lib.hid hv
    have HD := Lib.hid hds
    have HB := Lib.hid hB
    have HZS := Lib.hid hzs
    have HBel := Lib.hid hbel
    clear hv hds hB hbel hzs
    by_cases hlt : k < a.length
    · have hx := digAt_lt HA.out.2 k
      have hy := digAt_lt HB0.out.2 k
      have C1 := Lib.hid (digit_any A a c k wr (by omega) (by omega) (HA.out.below HBel.out))
      have C2 := Lib.hid (digit_any B b d k wr (by omega) (by unfold maxLen; omega) (HB0.out.below HBel.out))
      obtain ⟨n, hn⟩ : ∃ n : Nat, n + k = 63 := ⟨63 - k, by omega⟩
      have hn64 : n < 64 := by omega
      have e1 : (63 : Int) - (k : Int) = (n : Int) := by omega
      have hc2 : wr.cell? ⟨w.heap.size, n, none⟩ = some (.int .u8 ((ds.reverse[n]'(by rw [List.length_reverse, HD.out]; exact hn64) : Nat) : Int)) := by
        rw [HB.out.cell, cs8_get (by rw [List.length_reverse, HD.out]; exact hn64)]
      have hfree : wr.frozen? ⟨w.heap.size, n, none⟩ = false := HB.out.free _
      generalize ds.reverse[n]'(by rw [List.length_reverse, HD.out]; exact hn64) = old at hc2
      have HN := Lib.hid hn
      have HSt := Lib.hid (sub_step (256 ^ k) k (digAt a k) (digAt b k) bo _ _ _ rfl hx hy hbo HV.out)
      have HLA := Lib.hid (low_succ' a k)
      have HLB := Lib.hid (low_succ' b k)
      generalize digAt a k = x at hx C1 HSt HLA
      generalize digAt b k = y at hy C2 HSt HLB
      clear hn
      go_wp2_with fail
      refine C1.out.mono ?_
      rintro e w' ⟨rfl, rfl⟩
      go_wp2_with fail
      refine C2.out.mono ?_
      rintro e w' ⟨rfl, rfl⟩
      go_wp2_with fail
      refine ⟨⟨k + 1, 1 - (256 + x - y - bo) / 256, ds.set k ((256 + x - y - bo) % 256), by omega, by omega, by go_num, ?_, by rw [List.length_set, HD.out], Lt.set hd8 (Nat.mod_lt _ (by omega)), ?_, ?_, ?_, (HBel.out).setCell (Nat.le_refl _) _⟩, by simp [intOf]; omega⟩
      · exact congrArg (Value.int .u64) (by omega)
      · intro j h1 h2
        rw [List.getElem?_set_ne (by omega)]
        exact HZS.out j (by omega) (by simpa using h2)
      · have h1 := vl_set (b := 256) (l := ds) (p := k) (by rw [HD.out]; omega) ((256 + x - y - bo) % 256)
        have h2 := HZS.out k (Nat.le_refl _) (by rw [HD.out]; omega)
        rw [List.getElem?_eq_getElem (by rw [HD.out]; omega)] at h2
        rw [Option.some.inj h2, Nat.mul_zero, Nat.add_zero] at h1
        rw [h1, HLA.out, HLB.out, Nat.pow_succ]
        exact HSt.out
      · have hs := HB.out.store n (by8 ((256 + x - y - bo) % 256))
        rw [cs8_set] at hs
        have e : (Value.int .u8 ((256 + (x : Int) - y - bo) % 256)) = by8 ((256 + x - y - bo) % 256) := by unfold by8; exact congrArg (Value.int .u8) (by omega)
        have h3 := set_rev ds n ((256 + x - y - bo) % 256) (by rw [HD.out]; omega)
        rw [show ds.length - 1 - n = k from by have := HN.out; have := HD.out; omega] at h3
        rw [h3] at hs
        rw [e]
        exact hs
    · have hka : k = a.length := by omega
      subst hka
      have hlen : b.length ≤ a.length := by
        rcases Nat.lt_or_ge a.length b.length with h | h
        · have := cmpI_len HNB.out.2.1 HNA.out.1 HNB.out.1 h
          have := HLE.out
          omega
        · exact h
      have hvl : vl 256 ds = val a - val b := by
        have h1 := HV.out
        rw [low_all' hlen, low_all] at h1
        have h2 := vl_lt_take (b := 256) (by omega) hd8 HZS.out
        have h3 := HLE.out
        have hb2 : bo = 0 ∨ bo = 1 := by omega
        rcases hb2 with rfl | rfl <;> omega
      have hr : Rb wr (some ⟨w.heap.size, 0, none⟩) ds.reverse := ⟨by have := HB.out.rd 0; simpa using this, hd8.rev⟩
      have C2 := cut_any (some ⟨w.heap.size, 0, none⟩) ds.reverse 64 wr (by simp [HD.out]) (by simp [maxLen]) hr
      rw [List.length_reverse, HD.out, cutL_eq hd8.rev, val, List.reverse_reverse, hvl] at C2
      have H2 := Lib.hid C2
      clear hr C2 hvl
      go_wp2_with fail
      refine H2.out.mono ?_
      rintro e w' ⟨A', rfl, h', rfl⟩
      go_wp2_with fail
      go_ret2
      exact ⟨_, rfl, h', HBel.out⟩

/-- The error of the difference. -/
def subE (a b : List Nat) : Int := if bothE a b = 0 then (if val a < val b then 1 else 0) else bothE a b
set_option maxHeartbeats 800000 in
theorem sub_any (A B : Option Addr) (a b : List Nat) (c d : Nat) (w : World) (hac : a.length ≤ c) (hbd : b.length ≤ d) (hc : c ≤ maxLen) (hd : d ≤ maxLen) (hA : Rb w A a) (hB : Rb w B b) :
    Calls Try.prog 17 #[.slice A a.length c, .slice B b.length d] w (GiveD w (if subE a b = 0 then dig (val a - val b) else []) (subE a b)) := by
  by_cases hE : bothE a b = 0
  · obtain ⟨_, _, h1, h2⟩ := bothE_zero hE
    by_cases hlt : val a < val b
    · have e0 : subE a b = 1 := by unfold subE; rw [if_pos hE, if_pos hlt]
      rw [e0]
      have c0 := both_any A B a b c d w (by omega) (by omega) hA hB
      rw [hE] at c0
      have C0 := Lib.hid c0
      have c1 := cmp_any A B a b c d w hac hbd hc hd hA hB
      have hcm : cmpI (val a) (val b) = -1 := by unfold cmpI; rw [if_pos hlt]
      rw [hcm] at c1
      have C1 := Lib.hid c1
      clear c0 c1 hcm e0 hE h1 h2 hlt hA hB
      go_enter Try.func17, Try.ntmps17
      go_wp2_with fail
      refine C0.out.mono ?_
      rintro e w' ⟨rfl, rfl⟩
      go_wp2_with fail
      refine C1.out.mono ?_
      rintro e w' ⟨rfl, rfl⟩
      go_wp2_with fail
      go_ret2
      exact ⟨_, rfl, Rb.nil, Below.refl _ _⟩
    · have e0 : subE a b = 0 := by unfold subE; rw [if_pos hE, if_neg hlt]
      rw [e0]
      exact sub_ok A B a b c d w hac hbd hc hd hA hB (checkE_zero hA.2 h1) (checkE_zero hB.2 h2) (by omega)
  · have e0 : subE a b = bothE a b := if_neg hE
    rw [e0, if_neg hE]
    have C0 := Lib.hid (both_any A B a b c d w (by omega) (by omega) hA hB)
    generalize bothE a b = x at C0 hE
    have hx2 : (x != 0) = true := by simpa using hE
    clear e0 hA hB
    go_enter Try.func17, Try.ntmps17
    go_wp2_with fail
    refine C0.out.mono ?_
    rintro e w' ⟨rfl, rfl⟩
    go_wp2_with fail
    go_ret2
    exact ⟨_, rfl, Rb.nil, Below.refl _ _⟩
/-- The number of binary digits. -/
def blen (x : Nat) : Nat := if x = 0 then 0 else Nat.log2 x + 1
theorem get_getD (S : ByteArray) (n : Nat) (h : n < S.size) : S[n] = S.data.getD n 0 := by
  rw [Array.getD_eq_getD_getElem?, Array.getElem?_eq_getElem h]; rfl
set_option maxRecDepth 100000 in
set_option maxHeartbeats 400000 in
theorem len_any (n : Nat) (w : World) (hn : n < 256) : Calls Try.prog 49 #[.int .u8 n] w fun e w' => e = .returned (.int .i64 (blen n)) ∧ w = w' := by
  go_enter Try.func49, Try.ntmps49
  go_wp2_with fail
  go_ret
  refine ⟨congrArg (fun z => Ending.returned (Value.int .i64 z)) ?_, rfl⟩
  rw [RowKit.wrap64, get_getD]
  rename_i h
  clear h
  revert hn n
  decide +kernel

theorem blen_le : ∀ x, x < 256 → blen x ≤ 8 := by decide +kernel
theorem blen_hi : ∀ x, x < 256 → x < 2 ^ blen x := by decide +kernel
theorem blen_lo : ∀ x, x < 256 → x ≠ 0 → 2 ^ (blen x - 1) ≤ x ∧ 1 ≤ blen x := by decide +kernel
def bitsN (l : List Nat) : Nat := if checkE l = 0 then (match l with | [] => 0 | x :: m => 8 * m.length + blen x) else 0
set_option maxHeartbeats 400000 in
theorem bits_any (A : Option Addr) (l : List Nat) (c : Nat) (w : World) (hl : l.length ≤ maxLen) (h : Rb w A l) :
    Calls Try.prog 23 #[.slice A l.length c] w fun e w' => e = .returned (.int .i64 (bitsN l)) ∧ w = w' := by
  have C0 := Lib.hid (check_any A l c w hl h)
  unfold maxLen at hl
  by_cases hE : checkE l = 0
  · rw [hE] at C0
    cases l with
    | nil =>
      clear h
      go_enter Try.func23, Try.ntmps23
      go_wp2_with fail
      refine C0.out.mono ?_
      rintro e w' ⟨rfl, rfl⟩
      go_wp2_with fail
      go_ret
      exact ⟨rfl, rfl⟩
    | cons x m =>
      have hm : m.length ≤ 63 := by
        unfold checkE at hE; split at hE
        · simp at hE
        · rename_i h1; simp at h1; omega
      obtain ⟨b, off, rfl, hb, hx, hc⟩ := h.at_ (k := 0) (by simp)
      simp only [List.getElem_cons_zero] at hx hc
      simp only [Nat.add_zero] at hc
      have e0 := Lib.hid (show bitsN (x :: m) = 8 * m.length + blen x from if_pos hE)
      have C1 := Lib.hid (len_any x w hx)
      have hbl : blen x ≤ 8 := blen_le x hx
      clear hE h hl
      generalize blen x = bx at C1 e0 hbl
      go_enter Try.func23, Try.ntmps23
      go_wp2_with fail
      refine C0.out.mono ?_
      rintro e w' ⟨rfl, rfl⟩
      go_wp2_with fail
      refine C1.out.mono ?_
      rintro e w' ⟨rfl, rfl⟩
      go_wp2_with fail
      go_ret
      refine ⟨?_, rfl⟩
      rw [e0.out]
      exact congrArg (fun z => Ending.returned (Value.int .i64 z)) (by omega)
  · have e0 : bitsN l = 0 := if_neg hE
    rw [e0]
    generalize checkE l = x at C0 hE
    have hx2 : (x != 0) = true := by simpa using hE
    clear e0 h
    go_enter Try.func23, Try.ntmps23
    go_wp2_with fail
    refine C0.out.mono ?_
    rintro e w' ⟨rfl, rfl⟩
    go_wp2_with fail
    go_ret
    exact ⟨rfl, rfl⟩
end Go.Proofs.Ytenbknmpkdidoaa
