/-
  Package nats: contracts of Check, cut, digit, checkBoth, Compare.
  Conditions: slices are no longer than a word allows, and read as bytes.
-/
import Derived.Test.YtenbknmpkdidoaaRows
import Derived.Test.YtenbknmpkdidoaaMem
import Derived.Test.YtenbknmpkdidoaaNum
import Derived.WalkSpells
import Derived.Handy
import Derived.Deep.QuietTactic
import Derived.BigQuiet
import Derived.Lib.BytesEntry
import Derived.Test.YtenbknmpkdidoaaStr
namespace Go.Proofs.Ytenbknmpkdidoaa
open Go.RowKit
def checkE (l : List Nat) : Int := if 64 < l.length then 3 else if l.head? = some 0 then 11 else 0

set_option maxHeartbeats 400000 in
theorem check_any (A : Option Addr) (l : List Nat) (c : Nat) (w : World) (hn : l.length ≤ maxLen) (h : Rb w A l) :
    Calls Try.prog 15 #[.slice A l.length c] w fun e w' => e = .returned (.int .i64 (checkE l)) ∧ w = w' := by
  unfold maxLen at hn
  unfold checkE
  by_cases h0 : l = []
  · subst h0
    go_enter Try.func15, Try.ntmps15
    go_wp2
    go_ret
    exact ⟨rfl, rfl⟩
  obtain ⟨x, l', rfl⟩ := List.exists_cons_of_ne_nil h0
  obtain ⟨b, off, rfl, hb, hx, hc⟩ := h.at_ (k := 0) (by simp)
  simp only [List.getElem_cons_zero] at hx hc
  simp only [Nat.add_zero] at hc
  clear h h0
  by_cases hx0 : x = 0
  · subst hx0
    go_enter Try.func15, Try.ntmps15
    go_wp2
    all_goals go_ret
    all_goals exact ⟨by simp [*], rfl⟩
  · go_enter Try.func15, Try.ntmps15
    go_wp2
    all_goals go_ret
    all_goals exact ⟨by simp [*], rfl⟩
theorem cutL_stop {l : List Nat} {k : Nat} (hk : k ≤ l.length) (hz : ∀ j, (hj : j < k) → l[j]'(by omega) = 0) (hs : ∀ h : k < l.length, l[k] ≠ 0) : cutL l = l.drop k := by
  induction k generalizing l with
  | zero =>
    cases l with
    | nil => rfl
    | cons x l => have := hs (by simp); simp at this; simp [cutL, this]
  | succ k ih =>
    cases l with
    | nil => simp at hk
    | cons x l =>
      have h0 : x = 0 := hz 0 (by omega)
      subst h0
      have := ih (l := l) (by simpa using hk) (fun j hj => by have := hz (j + 1) (by omega); simpa using this) (fun h => by have := hs (by simpa using h); simpa using this)
      simp [cutL] at this ⊢
      exact this

/-- A slice without spare capacity is returned; the world is as it was. -/
def Quiet8 (w : World) (l : List Nat) (e : Ending) (w' : World) : Prop :=
  ∃ A, e = .returned (.slice A l.length l.length) ∧ Rb w' A l ∧ w = w'

/-- As Quiet8; and the slice lies in the block of A. -/
def Cut8 (A : Option Addr) (w : World) (l : List Nat) (e : Ending) (w' : World) : Prop :=
  ∃ A', e = .returned (.slice A' l.length l.length) ∧ Rb w' A' l ∧ w = w' ∧ ∀ q, A' = some q → ∃ p, A = some p ∧ q.block = p.block
set_option maxHeartbeats 400000 in
theorem cut_blk (A : Option Addr) (l : List Nat) (c : Nat) (w : World) (hc : l.length ≤ c) (hn : c ≤ maxLen) (h : Rb w A l) :
    Calls Try.prog 45 #[.slice A l.length c] w (Cut8 A w (cutL l)) := by
  unfold maxLen at hn
  go_enter Try.func45, Try.ntmps45
  go_wp2
  go_loop [3] (fun i => ∃ k : Nat, k ≤ l.length ∧ i = .int .i64 k ∧ ∀ j, (hj : j < k) → l[j]? = some 0) (fun i => l.length - (intOf i).toNat)
  case atStart => exact ⟨0, Nat.zero_le _, rfl, fun j hj => absurd hj (by omega)⟩
  case round =>
    obtain ⟨k, hk, rfl, hz⟩ := hrel
    have HZ := Lib.hid hz
    clear hz
    by_cases hlt : k < l.length
    · obtain ⟨b, off, rfl, hb, hx, hcell⟩ := h.at_ hlt
      have H := Lib.hid h
      clear h
      by_cases hx0 : l[k] = 0
      · go_wp2
        go_round
        case rel => exact ⟨k + 1, by omega, by go_num, fun j hj => by
          rcases Nat.lt_succ_iff_lt_or_eq.1 hj with hj | rfl
          · exact HZ.out j hj
          · simp [hlt, hx0]⟩
        case measure => simp [intOf]; omega
      · go_wp2
        go_ret
        have e : cutL l = l.drop k := cutL_stop hk (fun j hj => by have := HZ.out j hj; simpa [List.getElem?_eq_getElem (show j < l.length by omega)] using this) (fun _ => hx0)
        have hl : (cutL l).length = l.length - k := by rw [e]; simp
        exact ⟨_, by rw [hl]; rfl, by rw [e]; exact (H.out).drop_ k, rfl, fun q hq => by injection hq with hq; subst hq; exact ⟨_, rfl, rfl⟩⟩
    · go_wp2
      go_ret
      have e : cutL l = [] := by
        rw [cutL_stop hk (fun j hj => by have := HZ.out j hj; simpa [List.getElem?_eq_getElem (show j < l.length by omega)] using this) (fun h => absurd h hlt)]
        exact List.drop_eq_nil_of_le (by omega)
      have hl : l.length - k = 0 := by omega
      exact ⟨_, by rw [e, List.length_nil, hl]; rfl, by rw [e]; exact Rb.nil, rfl, fun q hq => ⟨q, hq, rfl⟩⟩
theorem cut_any (A : Option Addr) (l : List Nat) (c : Nat) (w : World) (hc : l.length ≤ c) (hn : c ≤ maxLen) (h : Rb w A l) :
    Calls Try.prog 45 #[.slice A l.length c] w (Quiet8 w (cutL l)) :=
  (cut_blk A l c w hc hn h).mono fun _ _ ⟨A', h1, h2, h3, _⟩ => ⟨A', h1, h2, h3⟩

set_option maxHeartbeats 400000 in
theorem digit_any (A : Option Addr) (l : List Nat) (c i : Nat) (w : World) (hn : l.length ≤ maxLen) (hi : i ≤ maxLen) (h : Rb w A l) :
    Calls Try.prog 44 #[.slice A l.length c, .int .i64 i] w fun e w' => e = .returned (.int .u64 (digAt l i)) ∧ w = w' := by
  unfold maxLen at hn hi
  by_cases hlt : i < l.length
  · obtain ⟨b, off, rfl, hb, hx, hcell⟩ := h.at_ (k := l.length - 1 - i) (by omega)
    obtain ⟨k, hk⟩ : ∃ k, k + i + 1 = l.length := ⟨l.length - 1 - i, by omega⟩
    have ek : l.length - 1 - i = k := by omega
    have e2 : digAt l i = l[l.length - 1 - i]'(by omega) := by
      unfold digAt
      rw [List.getD_eq_getElem?_getD, List.getElem?_eq_getElem (by simpa using hlt), Option.getD_some, List.getElem_reverse]
    rw [e2]
    clear e2
    generalize l[l.length - 1 - i]'(by omega) = x at hx hcell
    rw [ek] at hcell
    have e3 : (l.length : Int) - 1 - (i : Int) = (k : Int) := by omega
    clear h ek hk
    have hkl : k < l.length := by omega
    go_enter Try.func44, Try.ntmps44
    go_wp2
    go_ret
    exact ⟨rfl, rfl⟩
  · have e2 : digAt l i = 0 := by
      unfold digAt
      rw [List.getD_eq_getElem?_getD, List.getElem?_eq_none (by simp; omega)]; rfl
    rw [e2]
    go_enter Try.func44, Try.ntmps44
    go_wp2
    go_ret
    exact ⟨rfl, rfl⟩

def bothE (a b : List Nat) : Int := if checkE a ≠ 0 then checkE a else checkE b
theorem checkE_cases (l : List Nat) : checkE l = 0 ∨ checkE l = 3 ∨ checkE l = 11 := by
  unfold checkE; split
  · simp
  · split <;> simp
set_option maxHeartbeats 400000 in
theorem both_any (A B : Option Addr) (a b : List Nat) (c d : Nat) (w : World) (ha : a.length ≤ maxLen) (hb : b.length ≤ maxLen) (h : Rb w A a) (k : Rb w B b) :
    Calls Try.prog 41 #[.slice A a.length c, .slice B b.length d] w fun e w' => e = .returned (.int .i64 (bothE a b)) ∧ w = w' := by
  unfold bothE
  have C1 := Lib.hid (check_any A a c w ha h)
  have C2 := Lib.hid (check_any B b d w hb k)
  clear h k
  generalize checkE a = x at C1
  generalize checkE b = y at C2
  by_cases hx : x = 0
  · subst hx
    go_enter Try.func41, Try.ntmps41
    go_wp2_with fail
    refine C1.out.mono ?_
    rintro e w' ⟨rfl, rfl⟩
    go_wp2_with fail
    refine C2.out.mono ?_
    rintro e w' ⟨rfl, rfl⟩
    go_wp2_with fail
    go_ret
    exact ⟨rfl, rfl⟩
  · have hx' : (x == 0) = false := by simpa using hx
    have hx2 : (x != 0) = true := by simpa using hx
    go_enter Try.func41, Try.ntmps41
    go_wp2_with fail
    refine C1.out.mono ?_
    rintro e w' ⟨rfl, rfl⟩
    go_wp2_with fail
    go_ret
    exact ⟨by simp, rfl⟩

/-- -1, 0 or 1. -/
def cmpI (a b : Nat) : Int := if a < b then -1 else if b < a then 1 else 0
theorem cmpI_len {a b : List Nat} (hb : cutL b = b) (h8 : Lt 256 a) (k8 : Lt 256 b) (h : a.length < b.length) : val a < val b := by
  have h1 := val_lt h8
  rcases Nat.lt_or_ge (val a) (val b) with h2 | h2
  · exact h2
  · exfalso
    have h3 := (dig_length (val b) a.length).2 (by omega)
    rw [← cutL_eq k8, hb] at h3
    omega
theorem cmp_bytes : ∀ (a b : List Nat), Lt 256 a → Lt 256 b → a.length = b.length → Lib.compareBytes (a.map UInt8.ofNat) (b.map UInt8.ofNat) = cmpI (val a) (val b)
  | [], [], _, _, _ => rfl
  | [], _ :: _, _, _, h => by simp at h
  | _ :: _, [], _, _, h => by simp at h
  | x :: a, y :: b, ha, hb, h => by
    have hl : a.length = b.length := by simpa using h
    have ih := cmp_bytes a b ha.tail hb.tail hl
    have hx := ha.head
    have hy := hb.head
    have h1 := val_lt ha.tail
    have h2 := val_lt hb.tail
    rw [← hl] at h2
    have ex : (UInt8.ofNat x < UInt8.ofNat y) = (x < y) := by
      rw [UInt8.lt_iff_toNat_lt, UInt8.toNat_ofNat', UInt8.toNat_ofNat']
      rw [Nat.mod_eq_of_lt (by omega), Nat.mod_eq_of_lt (by omega)]
    have ey : (UInt8.ofNat y < UInt8.ofNat x) = (y < x) := by
      rw [UInt8.lt_iff_toNat_lt, UInt8.toNat_ofNat', UInt8.toNat_ofNat']
      rw [Nat.mod_eq_of_lt (by omega), Nat.mod_eq_of_lt (by omega)]
    simp only [List.map_cons, Lib.compareBytes, ex, ey, ih, val_cons, ← hl]
    generalize 256 ^ a.length = e at h1 h2
    generalize val a = va at h1
    generalize val b = vb at h2
    unfold cmpI
    rcases Nat.lt_trichotomy x y with hxy | hxy | hxy
    · have : (x + 1) * e ≤ y * e := Nat.mul_le_mul_right _ hxy
      rw [Nat.add_mul] at this
      rw [if_pos hxy, if_pos (by omega)]
    · subst hxy
      simp
    · have : (y + 1) * e ≤ x * e := Nat.mul_le_mul_right _ hxy
      rw [Nat.add_mul] at this
      rw [if_neg (by omega), if_pos hxy, if_neg (by omega), if_pos (by omega)]

set_option maxHeartbeats 400000 in
theorem bcmp_any (A B : Option Addr) (a b : List Nat) (c d : Nat) (w : World) (h : Rb w A a) (k : Rb w B b) :
    Calls Try.prog 53 #[.slice A a.length c, .slice B b.length d] w fun e w' => e = .returned (.int .i64 (Lib.compareBytes (a.map UInt8.ofNat) (b.map UInt8.ofNat))) ∧ w = w' := by
  have HR : (Extern.BytealgCompare.compare #[.slice A a.length c, .slice B b.length d]).run Try.prog w = .ok (.int .i64 (Lib.compareBytes (a.map UInt8.ofNat) (b.map UInt8.ofNat))) w := by
    change Sem.run _ (do pure (goInt (Extern.BytealgCompare.cmp (← Extern.Bytes.bytesOf (.slice A a.length c)) (← Extern.Bytes.bytesOf (.slice B b.length d))))) w = _
    simp only [Sem.run_bind, run_bytesOfX h, run_bytesOfX k, Result.andThen, Lib.cmp_eq]
    rfl
  have H2 : (callFunc 57 #[.slice A a.length c, .slice B b.length d]).run Try.prog w = .ok (.value (.int .i64 (Lib.compareBytes (a.map UInt8.ofNat) (b.map UInt8.ofNat)))) w := by
    rw [run_callFunc_extern Try.func57 (by kernel_rfl) (by kernel_rfl) (by kernel_rfl) (e := Extern.BytealgCompare.compare) (by kernel_rfl), HR]
    rfl
  clear HR h k
  go_enter Try.func53, Try.ntmps53
  go_wp2_with (simp only [H2])
  go_ret
  exact ⟨rfl, rfl⟩
set_option maxHeartbeats 400000 in
theorem cmp_any (A B : Option Addr) (a b : List Nat) (c d : Nat) (w : World) (ha : a.length ≤ c) (hb : b.length ≤ d) (hc : c ≤ maxLen) (hd : d ≤ maxLen) (h : Rb w A a) (k : Rb w B b) :
    Calls Try.prog 35 #[.slice A a.length c, .slice B b.length d] w fun e w' => e = .returned (.int .i64 (cmpI (val a) (val b))) ∧ w = w' := by
  have C1 := Lib.hid (cut_any A a c w ha hc h)
  have C2 := Lib.hid (cut_any B b d w hb hd k)
  have ea : val (cutL a) = val a := by rw [cutL_eq h.2, val_dig]
  have eb : val (cutL b) = val b := by rw [cutL_eq k.2, val_dig]
  have fa : cutL (cutL a) = cutL a := by rw [cutL_eq h.2, cutL_dig]
  have fb : cutL (cutL b) = cutL b := by rw [cutL_eq k.2, cutL_dig]
  rw [← ea, ← eb]
  generalize cutL a = x at C1 ea fa
  generalize cutL b = y at C2 eb fb
  have FA := Lib.hid fa
  have FB := Lib.hid fb
  clear ea eb fa fb h k
  go_enter Try.func35, Try.ntmps35
  go_wp2_with fail
  refine C1.out.mono ?_
  rintro e w' ⟨A', rfl, h', rfl⟩
  go_wp2_with fail
  refine C2.out.mono ?_
  rintro e w' ⟨B', rfl, k', rfl⟩
  go_wp2_with (go_at_call 53; refine (bcmp_any _ _ _ _ _ _ _ h' k').mono ?_; rintro e w' ⟨rfl, rfl⟩)
  · go_ret
    have : val x < val y := cmpI_len FB.out h'.2 k'.2 (by assumption)
    exact ⟨by unfold cmpI; rw [if_pos this]; rfl, rfl⟩
  · go_ret
    have : val y < val x := cmpI_len FA.out k'.2 h'.2 (by assumption)
    exact ⟨by unfold cmpI; rw [if_neg (by omega), if_pos this]; rfl, rfl⟩
  · go_ret
    exact ⟨by rw [← cmp_bytes x y h'.2 k'.2 (by omega)]; rfl, rfl⟩
end Go.Proofs.Ytenbknmpkdidoaa
