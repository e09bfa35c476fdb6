/-
  Package nats: contracts of Sub, divide, Div, Of, Uint, Bits.
  Conditions: slices are no longer than a word allows, and read as bytes.
-/
import Derived.Test.YtenbknmpkdidoaaNatsC
namespace Go.Proofs.Ytenbknmpkdidoaa
open Go.RowKit

theorem z64 : ∀ w : World, (zeroValue 70).run Try.prog w = .ok (.agg (cs8 (List.replicate 64 0)).toArray) w := fun _ => by kernel_rfl
theorem z8 : ∀ w : World, (zeroValue 78).run Try.prog w = .ok (.agg (cs8 (List.replicate 8 0)).toArray) w := fun _ => by kernel_rfl
theorem or_low (q x : Nat) (hx : x < 256) (hq : q < 72057594037927936) : bits .or .u64 ((q : Int) * 256) (x : Int) = (q : Int) * 256 + x := by
  have h := u64_or_nat (q * 256) x (by omega) (by omega)
  rw [Int.natCast_mul] at h
  rw [show ((256 : Nat) : Int) = 256 from rfl] at h
  rw [h]
  have e : q * 256 ||| x = q * 256 + x := by
    have := Nat.two_pow_add_eq_or_of_lt (i := 8) (b := x) (by simpa using hx) q
    rw [Nat.mul_comm]
    simpa using this.symm
  rw [e]; simp

/-- A slice without spare capacity and a number are returned; what was there has not turned. -/
def GiveQ (w : World) (l : List Nat) (r : Nat) (e : Ending) (w' : World) : Prop :=
  ∃ A, e = .returned (.tuple #[.slice A l.length l.length, .int .u32 r]) ∧ Rb w' A l ∧ Below w.heap.size w w' ∧ ∀ q, A = some q → w.heap.size ≤ q.block
/-- A slice without spare capacity is returned; what was there has not turned. -/
def Give8 (w : World) (l : List Nat) (e : Ending) (w' : World) : Prop :=
  ∃ A, e = .returned (.slice A l.length l.length) ∧ Rb w' A l ∧ Below w.heap.size w w'

theorem cs8_set (l : List Nat) (n y : Nat) : (cs8 l).set n (by8 y) = cs8 (l.set n y) := by unfold cs8; rw [List.map_set]
theorem cs8_get {l : List Nat} {n : Nat} (h : n < l.length) : (cs8 l)[n]? = some (.int .u8 (l[n] : Int)) := by
  unfold cs8; rw [List.getElem?_map, List.getElem?_eq_getElem h]; rfl

set_option maxHeartbeats 800000 in
theorem divide_any (A : Option Addr) (l : List Nat) (c y : Nat) (w : World) (hl : l.length ≤ 64) (h : Rb w A l) (hy : 0 < y) (hy2 : y < 4294967296) :
    Calls Try.prog 48 #[.slice A l.length c, .int .u32 y] w (GiveQ w (dig (val l / y)) (val l % y)) := by
  have hz := z64
  obtain ⟨Z, hZ⟩ : ∃ Z, Hid (cs8 (List.replicate 64 0) = Z) := ⟨_, rfl⟩
  rw [hZ.out] at hz
  go_enter Try.func48, Try.ntmps48
  go_wp2_with fail
  go_loopw [8, 16] (fun r i wr => ∃ (k q : Nat) (ds : List Nat), k ≤ l.length ∧ q < y ∧ i = .int .i64 k ∧ r = .int .u64 q ∧ ds.length = 64 ∧ Lt 256 ds ∧
      val (ds.take (64 - l.length + k)) * y + q = val (l.take k) ∧ Bk wr w.heap.size 70 (cs8 ds) ∧ Below w.heap.size w wr) (fun _ i _ => l.length - (intOf i).toNat)
  case atStart =>
    refine ⟨0, 0, List.replicate 64 0, Nat.zero_le _, hy, rfl, rfl, by simp, by intro x hx; simp at hx; omega, ?_, by rw [hZ.out]; exact Bk.new _ _ _, (Below.refl _ _).alloc (Nat.le_refl _) _⟩
    simp only [List.take_replicate, val_zero, List.take_zero]
    simp [val, vl]
  case round =>
    obtain ⟨k, q, ds, hk, hq, rfl, rfl, hds, hd8, hv, hB, hbel⟩ := hrel
    have HV := Lib.hid hv
    have HD := Lib.hid hds
    have HB := Lib.hid hB
    have HBel := Lib.hid hbel
    clear hv hds hB hbel
    by_cases hlt : k < l.length
    · obtain ⟨b, off, rfl, hb, hx, hcell0⟩ := h.at_ hlt
      have hcell : wr.cell? ⟨b, off + k, none⟩ = some (.int .u8 (l[k] : Int)) := (HBel.out.cell hb).trans hcell0
      obtain ⟨n, HN⟩ : ∃ n : Nat, Hid (n = 64 - l.length + k) := ⟨_, rfl⟩
      have hn64 : n < 64 := by have := HN.out; omega
      have hc2 : wr.cell? ⟨w.heap.size, 64 - l.length + k, none⟩ = some (.int .u8 ((ds[n]'(by rw [HD.out]; exact hn64) : Nat) : Int)) := by
        rw [← HN.out, HB.out.cell, cs8_get (by rw [HD.out]; exact hn64)]
      have hfree : wr.frozen? ⟨w.heap.size, 64 - l.length + k, none⟩ = false := HB.out.free _
      have HT : Hid (val (l.take (k + 1)) = 256 * val (l.take k) + l[k]) := by
        show _ = _
        rw [List.take_succ_eq_append_getElem hlt, val_snoc]
      have H := Lib.hid h
      clear hcell0 h
      obtain ⟨x, hx1⟩ : ∃ x, l[k] = x := ⟨_, rfl⟩
      have HX := Lib.hid hx1
      clear hx1
      rw [HX.out] at hx hcell HT
      generalize ds[n]'(by rw [HD.out]; exact hn64) = old at hc2
      have hor := or_low q x hx (by omega)
      have hdiv : ((q : Int) * 256 + x) / y < 256 := by
        apply Int.ediv_lt_of_lt_mul (by omega)
        have : (q + 1) * 256 ≤ y * 256 := Nat.mul_le_mul_right _ hq
        omega
      have hdiv0 : 0 ≤ ((q : Int) * 256 + x) / y := Int.ediv_nonneg (by omega) (by omega)
      have hmod : ((q : Int) * 256 + x) % y < y := Int.emod_lt_of_pos _ (by omega)
      have hmod0 : 0 ≤ ((q : Int) * 256 + x) % y := Int.emod_nonneg _ (by omega)
      go_wp2_with fail
      refine ⟨⟨k + 1, (q * 256 + x) % y, ds.set n ((q * 256 + x) / y), by omega, Nat.mod_lt _ hy, by go_num, ?_, by rw [List.length_set, HD.out], ?_, ?_, ?_, ?_⟩, by simp [intOf]; omega⟩
      · go_num
      · exact Lt.set hd8 (by
          apply Nat.div_lt_of_lt_mul
          have : (q + 1) * 256 ≤ y * 256 := Nat.mul_le_mul_right _ hq
          omega)
      · have e1 : 64 - l.length + (k + 1) = n + 1 := by have := HN.out; omega
        have e2 : (ds.set n ((q * 256 + x) / y)).take (n + 1) = ds.take n ++ [(q * 256 + x) / y] := by
          rw [List.take_succ_eq_append_getElem (by rw [List.length_set, HD.out]; exact hn64), List.take_set_of_le (Nat.le_refl _)]
          simp
        rw [e1, e2, val_snoc, HT.out]
        have h1 := HV.out
        rw [← HN.out] at h1
        rw [← h1, Nat.add_mul, Nat.mul_add, Nat.mul_assoc]
        have h2 := Nat.div_add_mod (q * 256 + x) y
        rw [Nat.mul_comm] at h2
        omega
      · have hs := HB.out.store (64 - l.length + k) (.int .u8 (((q : Int) * 256 + x) / y))
        have e : (Value.int .u8 (((q : Int) * 256 + x) / y)) = by8 ((q * 256 + x) / y) := by unfold by8; congr 1
        rw [e, cs8_set, ← HN.out] at hs
        rw [e, ← HN.out]
        exact hs
      · exact (HBel.out).setCell (Nat.le_refl _) _
    · have hka : k = l.length := by omega
      subst hka
      have hr : Rb wr (some ⟨w.heap.size, 0, none⟩) ds := ⟨by have := HB.out.rd 0; simpa using this, hd8⟩
      have C2 := cut_blk (some ⟨w.heap.size, 0, none⟩) ds 64 wr (by simp [HD.out]) (by simp [maxLen]) hr
      rw [HD.out] at C2
      have hv := HV.out
      rw [show 64 - l.length + l.length = 64 from by omega, List.take_of_length_le (by rw [HD.out]; exact Nat.le_refl _), List.take_of_length_le (Nat.le_refl _)] at hv
      have e1 : val l / y = val ds := by rw [← hv, Nat.add_comm, Nat.mul_comm, Nat.add_mul_div_left _ _ hy, Nat.div_eq_of_lt hq, Nat.zero_add]
      have e2 : val l % y = q := by rw [← hv, Nat.add_comm, Nat.mul_comm, Nat.add_mul_mod_self_left, Nat.mod_eq_of_lt hq]
      rw [cutL_eq hd8, ← e1] at C2
      have H2 := Lib.hid C2
      have HE2 := Lib.hid e2
      clear hr C2 hv e1 e2
      go_wp2_with fail
      refine H2.out.mono ?_
      rintro e w' ⟨A', rfl, h', rfl, hq⟩
      go_wp2_with fail
      go_ret2
      unfold GiveQ
      rw [HE2.out]
      exact ⟨_, rfl, h', HBel.out, fun q hq1 => by obtain ⟨p, hp, e⟩ := hq q hq1; injection hp with hp; rw [e, ← hp]; exact Nat.le_refl _⟩

/-- What Div gives: a slice, a number, an error. -/
def Give3 (w : World) (l : List Nat) (r : Nat) (f : Int) (e : Ending) (w' : World) : Prop :=
  ∃ A, e = .returned (.tuple #[.slice A l.length l.length, .int .u32 r, .int .i64 f]) ∧ Rb w' A l ∧ Below w.heap.size w w'
def divE (l : List Nat) (y : Nat) : Int := if checkE l ≠ 0 then checkE l else if y = 0 then 1 else 0
set_option maxHeartbeats 800000 in
theorem div_any (A : Option Addr) (l : List Nat) (c y : Nat) (w : World) (hl : l.length ≤ maxLen) (h : Rb w A l) (hy2 : y < 4294967296) :
    Calls Try.prog 21 #[.slice A l.length c, .int .u32 y] w (Give3 w (if divE l y = 0 then dig (val l / y) else []) (if divE l y = 0 then val l % y else 0) (divE l y)) := by
  have C0 := Lib.hid (check_any A l c w hl h)
  by_cases hE : checkE l = 0
  · have hl64 : l.length ≤ 64 := by
      unfold checkE at hE; split at hE
      · simp at hE
      · omega
    rw [hE] at C0
    by_cases hy : y = 0
    · subst hy
      have e0 : divE l 0 = 1 := by unfold divE; rw [if_neg (by simpa using hE)]; rfl
      rw [e0]
      clear e0 hE hl64 h
      go_enter Try.func21, Try.ntmps21
      go_wp2_with fail
      refine C0.out.mono ?_
      rintro e w' ⟨rfl, rfl⟩
      go_wp2_with fail
      go_ret3
      exact ⟨_, rfl, Rb.nil, Below.refl _ _⟩
    · have e0 : divE l y = 0 := by unfold divE; rw [if_neg (by simpa using hE), if_neg hy]
      have C1 := Lib.hid (divide_any A l c y w hl64 h (by omega) hy2)
      rw [e0, if_pos rfl, if_pos rfl]
      have hyb : ((y : Int) == 0) = false := by simp; omega
      generalize dig (val l / y) = L at C1
      generalize val l % y = r at C1
      clear e0 hE hl64 h hy
      go_enter Try.func21, Try.ntmps21
      go_wp2_with fail
      refine C0.out.mono ?_
      rintro e w' ⟨rfl, rfl⟩
      go_wp2_with fail
      refine C1.out.mono ?_
      rintro e w' ⟨A', rfl, h', hb', _⟩
      have HH := Lib.hid h'
      have HBB := Lib.hid hb'
      clear h' hb'
      go_wp2_with fail
      go_ret3
      exact ⟨_, rfl, HH.out, HBB.out⟩
  · have e0 : divE l y = checkE l := if_pos (by simpa using hE)
    rw [e0, if_neg hE, if_neg hE]
    generalize checkE l = x at C0 hE
    have hx2 : (x != 0) = true := by simpa using hE
    clear e0 h
    go_enter Try.func21, Try.ntmps21
    go_wp2_with fail
    refine C0.out.mono ?_
    rintro e w' ⟨rfl, rfl⟩
    go_wp2_with fail
    go_ret3
    exact ⟨_, rfl, Rb.nil, Below.refl _ _⟩

/-! Of and Uint. -/
set_option maxHeartbeats 800000 in
theorem of_any (n : Nat) (w : World) (hn : n < 18446744073709551616) : Calls Try.prog 33 #[.int .u64 n] w (Give8 w (dig n)) := by
  have hz := z8
  obtain ⟨Z, hZ⟩ : ∃ Z, cs8 (List.replicate 8 0) = Z := ⟨_, rfl⟩
  have HZ := Lib.hid hZ
  rw [hZ] at hz
  clear hZ
  go_enter Try.func33, Try.ntmps33
  go_wp2_with fail
  go_loopw [5] (fun i wr => ∃ (k : Nat) (ds : List Nat), k ≤ 8 ∧ i = .int .i64 k ∧ ds.length = 8 ∧ Lt 256 ds ∧ val (ds.take k) = n / 2 ^ (64 - 8 * k) ∧ Bk wr w.heap.size 78 (cs8 ds) ∧ Below w.heap.size w wr) (fun i _ => 8 - (intOf i).toNat)
  case atStart =>
    refine ⟨0, List.replicate 8 0, Nat.zero_le _, rfl, by simp, by intro x hx; simp at hx; omega, ?_, by rw [HZ.out]; exact Bk.new _ _ _, (Below.refl _ _).alloc (Nat.le_refl _) _⟩
    rw [Nat.div_eq_of_lt (by simpa using hn)]; rfl
  case round =>
    obtain ⟨k, ds, hk, rfl, hds, hd8, hv, hB, hbel⟩ := hrel
    have HV := Lib.hid hv
    have HD := Lib.hid hds
    have HB := Lib.hid hB
    have HBel := Lib.hid hbel
    clear hv hds hB hbel
    by_cases hlt : k < 8
    · have hc2 : wr.cell? ⟨w.heap.size, k, none⟩ = some (.int .u8 ((ds[k]'(by rw [HD.out]; exact hlt) : Nat) : Int)) := by
        rw [HB.out.cell, cs8_get (by rw [HD.out]; exact hlt)]
      have hfree : wr.frozen? ⟨w.heap.size, k, none⟩ = false := HB.out.free _
      generalize ds[k]'(by rw [HD.out]; exact hlt) = old at hc2
      go_wp2_with fail
      refine ⟨⟨k + 1, ds.set k (n / 2 ^ (56 - 8 * k) % 256), by omega, by go_num, by rw [List.length_set, HD.out], Lt.set hd8 (Nat.mod_lt _ (by omega)), ?_, ?_, ?_⟩, by simp [intOf]; omega⟩
      · have e2 : (ds.set k (n / 2 ^ (56 - 8 * k) % 256)).take (k + 1) = ds.take k ++ [n / 2 ^ (56 - 8 * k) % 256] := by
          rw [List.take_succ_eq_append_getElem (by rw [List.length_set, HD.out]; exact hlt), List.take_set_of_le (Nat.le_refl _)]
          simp
        rw [e2, val_snoc, HV.out]
        have e3 : 64 - 8 * k = (56 - 8 * k) + 8 := by omega
        rw [e3, Nat.pow_add, ← Nat.div_div_eq_div_mul, show 64 - 8 * (k + 1) = 56 - 8 * k from by omega]
        have := Nat.div_add_mod (n / 2 ^ (56 - 8 * k)) (2 ^ 8)
        omega
      · have hs := HB.out.store k (by8 (n / 2 ^ (56 - 8 * k) % 256))
        rw [cs8_set] at hs
        have e : (Value.int .u8 ((n : Int) / 2 ^ (56 - 8 * k) % 256)) = by8 (n / 2 ^ (56 - 8 * k) % 256) := by unfold by8; congr 1
        rw [e]
        exact hs
      · exact (HBel.out).setCell (Nat.le_refl _) _
    · have hka : k = 8 := by omega
      subst hka
      have hr : Rb wr (some ⟨w.heap.size, 0, none⟩) ds := ⟨by have := HB.out.rd 0; simpa using this, hd8⟩
      have C2 := cut_any (some ⟨w.heap.size, 0, none⟩) ds 8 wr (by simp [HD.out]) (by simp [maxLen]) hr
      rw [HD.out] at C2
      have hv := HV.out
      rw [List.take_of_length_le (by rw [HD.out]; exact Nat.le_refl _)] at hv
      simp at hv
      rw [cutL_eq hd8, hv] at C2
      have H2 := Lib.hid C2
      clear hr C2 hv
      go_wp2_with fail
      refine H2.out.mono ?_
      rintro e w' ⟨A', rfl, h', rfl⟩
      go_wp2_with fail
      go_ret
      exact ⟨_, rfl, h', HBel.out⟩

def uintE (l : List Nat) : Int := if checkE l ≠ 0 then checkE l else if 8 < l.length then 3 else 0
set_option maxHeartbeats 800000 in
theorem uint_any (A : Option Addr) (l : List Nat) (c : Nat) (w : World) (hl : l.length ≤ maxLen) (h : Rb w A l) :
    Calls Try.prog 20 #[.slice A l.length c] w fun e w' => e = .returned (.tuple #[.int .u64 (if uintE l = 0 then val l else 0 : Nat), .int .i64 (uintE l)]) ∧ w = w' := by
  have C0 := Lib.hid (check_any A l c w hl h)
  by_cases hE : checkE l = 0
  · rw [hE] at C0
    by_cases hy : 8 < l.length
    · have e0 : uintE l = 3 := by unfold uintE; rw [if_neg (by simpa using hE), if_pos hy]
      rw [e0]
      clear e0 hE h
      go_enter Try.func20, Try.ntmps20
      go_wp2_with fail
      refine C0.out.mono ?_
      rintro e w' ⟨rfl, rfl⟩
      go_wp2_with fail
      go_ret2
      exact ⟨rfl, rfl⟩
    · have e0 : uintE l = 0 := by unfold uintE; rw [if_neg (by simpa using hE), if_neg hy]
      rw [e0, if_pos rfl]
      clear e0 hE
      have hl8 : l.length ≤ 8 := by omega
      clear hy
      go_enter Try.func20, Try.ntmps20
      go_wp2_with fail
      refine C0.out.mono ?_
      rintro e w' ⟨rfl, rfl⟩
      go_wp2_with fail
      go_loop [5, 18] (fun r i => ∃ k : Nat, k ≤ l.length ∧ i = .int .i64 k ∧ r = .int .u64 (val (l.take k))) (fun _ i => l.length - (intOf i).toNat)
      case atStart => exact ⟨0, Nat.zero_le _, rfl, rfl⟩
      case round =>
        obtain ⟨k, hk, rfl, rfl⟩ := hrel
        by_cases hlt : k < l.length
        · obtain ⟨b, off, rfl, hb, hx, hcell⟩ := h.at_ hlt
          have HT : Hid (val (l.take (k + 1)) = 256 * val (l.take k) + l[k]) := by
            show _ = _
            rw [List.take_succ_eq_append_getElem hlt, val_snoc]
          have hq : val (l.take k) < 72057594037927936 := by
            have h1 := val_lt (h.2.take k)
            have h2 : 256 ^ (l.take k).length ≤ 256 ^ 7 := Nat.pow_le_pow_right (by omega) (by simp; omega)
            omega
          have H := Lib.hid h
          clear h C0
          obtain ⟨x, hx1⟩ : ∃ x, l[k] = x := ⟨_, rfl⟩
          rw [hx1] at hx hcell HT
          clear hx1
          generalize val (l.take k) = q at hq HT
          have hor := or_low q x hx hq
          go_wp2_with fail
          refine ⟨⟨k + 1, by omega, by go_num, ?_⟩, by simp [intOf]; omega⟩
          rw [HT.out, Nat.mul_comm]; go_num
        · have hka : k = l.length := by omega
          subst hka
          clear C0
          go_wp2_with fail
          go_ret2
          exact ⟨rfl, rfl⟩
  · have e0 : uintE l = checkE l := if_pos (by simpa using hE)
    rw [e0, if_neg hE]
    generalize checkE l = x at C0 hE
    have hx2 : (x != 0) = true := by simpa using hE
    clear e0 h
    go_enter Try.func20, Try.ntmps20
    go_wp2_with fail
    refine C0.out.mono ?_
    rintro e w' ⟨rfl, rfl⟩
    go_wp2_with fail
    go_ret2
    exact ⟨rfl, rfl⟩
end Go.Proofs.Ytenbknmpkdidoaa
