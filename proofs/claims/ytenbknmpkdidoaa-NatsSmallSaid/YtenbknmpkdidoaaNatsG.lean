/-
  Package nats: contracts of Text (errors), isDecimal, Parse.
  Conditions: strings and slices are no longer than a word allows, and read as bytes.
-/
import Derived.Test.YtenbknmpkdidoaaNatsF
namespace Go.Proofs.Ytenbknmpkdidoaa
open Go.RowKit

set_option maxHeartbeats 400000 in
theorem text_err (A : Option Addr) (l : List Nat) (c : Nat) (w : World) (hl : l.length ≤ maxLen) (h : Rb w A l) (h0 : checkE l ≠ 0) :
    Calls Try.prog 24 #[.slice A l.length c] w fun e w' => e = .returned (.string (bstr [63])) ∧ Below w.heap.size w w' := by
  have C0 := Lib.hid (check_any A l c w hl h)
  generalize checkE l = x at C0 h0
  have hx2 : (x != 0) = true := by simpa using h0
  clear h
  go_enter Try.func24, Try.ntmps24
  go_wp2_with fail
  refine C0.out.mono ?_
  rintro e w' ⟨rfl, rfl⟩
  go_wp2_with fail
  go_ret
  exact ⟨rfl, Below.refl _ _⟩

/-- A string's bytes. -/
def sl (s : ByteArray) : List Nat := s.data.toList.map UInt8.toNat
theorem sl_length (s : ByteArray) : (sl s).length = s.size := by unfold sl; rw [List.length_map]; rfl
theorem sl_get (s : ByteArray) (k : Nat) (h : k < s.size) : (sl s)[k]? = some s[k].toNat := by
  unfold sl
  rw [List.getElem?_map, List.getElem?_eq_getElem (show k < s.data.toList.length from h)]
  rfl
theorem sl_lt (s : ByteArray) : Lt 256 (sl s) := by
  intro x hx
  obtain ⟨u, _, rfl⟩ := List.mem_map.1 hx
  exact u.toNat_lt
theorem bstr_sl (s : ByteArray) : bstr (sl s) = s := by
  apply ByteArray.ext
  unfold bstr sl
  rw [List.map_map]
  have e : (UInt8.ofNat ∘ UInt8.toNat) = id := by funext u; simp
  rw [e, List.map_id]
theorem sl_bstr {l : List Nat} (h : Lt 256 l) : sl (bstr l) = l := by
  unfold sl bstr
  simp only [List.map_map]
  conv => rhs; rw [← List.map_id l]
  apply List.map_congr_left
  intro x hx
  have := h x hx
  simp only [Function.comp, id_eq]
  rw [UInt8.toNat_ofNat']
  exact Nat.mod_eq_of_lt (by omega)
theorem sl_inj {s t : ByteArray} (h : sl s = sl t) : s = t := by rw [← bstr_sl s, h, bstr_sl]

def decD (c : Nat) : Bool := decide (48 ≤ c) && decide (c ≤ 57)
/-- A decimal number without leading zeros. -/
def decB (l : List Nat) : Bool := l.all decD && (l == [48] || (!l.isEmpty && l.head? != some 48))
/-- The value of decimal digits, the most significant one first. -/
def decV (l : List Nat) : Nat := l.foldl (fun a c => 10 * a + (c - 48)) 0
theorem decV_snoc (l : List Nat) (x : Nat) : decV (l ++ [x]) = 10 * decV l + (x - 48) := by simp [decV]
theorem decV_mono (l m : List Nat) : decV l ≤ decV (l ++ m) := by
  induction m generalizing l with
  | nil => simp
  | cons x m ih =>
    have h1 := ih (l ++ [x])
    rw [decV_snoc, List.append_assoc] at h1
    simp at h1 ⊢
    omega

set_option maxHeartbeats 800000 in
theorem isd_any (s : ByteArray) (w : World) (hn : s.size ≤ maxLen) : Calls Try.prog 54 #[.string s] w fun e w' => e = .returned (.bool (decB (sl s))) ∧ w = w' := by
  unfold maxLen at hn
  go_enter Try.func54, Try.ntmps54
  go_wp2_with fail
  go_loop [6] (fun i => ∃ (k : Nat), k ≤ s.size ∧ i = .int .i64 k ∧ ∀ j, (hj : j < k) → ∀ x, (sl s)[j]? = some x → decD x = true) (fun i => s.size - (intOf i).toNat)
  case atStart => exact ⟨0, Nat.zero_le _, rfl, fun j hj => absurd hj (by omega)⟩
  case round =>
    obtain ⟨k, hk, rfl, hall⟩ := hrel
    have HALL := Lib.hid hall
    clear hall
    by_cases hlt : k < s.size
    · have hx := s[k].toNat_lt
      have HG := Lib.hid (sl_get s k hlt)
      obtain ⟨x, hxe⟩ : ∃ x, s[k].toNat = x := ⟨_, rfl⟩
      by_cases hd : 48 ≤ x ∧ x ≤ 57
      · have h1 : 48 ≤ s[k].toNat := by omega
        have h2 : s[k].toNat ≤ 57 := by omega
        have HX := Lib.hid hxe
        clear hxe
        go_wp2_with fail
        refine ⟨⟨k + 1, by omega, by go_num, ?_⟩, by simp [intOf]; omega⟩
        intro j hj y hy
        rcases Nat.lt_succ_iff_lt_or_eq.1 hj with hj | rfl
        · exact HALL.out j hj y hy
        · rw [HG.out, HX.out] at hy
          injection hy with hy
          subst hy
          simp [decD, hd]
      · have hdf : decB (sl s) = false := by
          have hm : x ∈ sl s := by rw [← hxe]; exact List.mem_of_getElem? (sl_get s k hlt)
          have hdx : decD x = false := by simp [decD]; omega
          unfold decB
          have : (sl s).all decD = false := by
            rw [Bool.eq_false_iff]
            intro h
            have := List.all_eq_true.1 h x hm
            rw [hdx] at this; cases this
          rw [this]; rfl
        have HDF := Lib.hid hdf
        by_cases h1 : x < 48
        · have h2 : s[k].toNat < 48 := by omega
          have HX := Lib.hid hxe
          clear hxe hdf
          go_wp2_with fail
          go_ret
          exact ⟨by rw [HDF.out]; rfl, rfl⟩
        · have h2 : 48 ≤ s[k].toNat := by omega
          have h3 : 57 < s[k].toNat := by omega
          have HX := Lib.hid hxe
          clear hxe hdf
          go_wp2_with fail
          go_ret
          exact ⟨by rw [HDF.out]; simp [*], rfl⟩
    · have hks : k = s.size := by omega
      subst hks
      have hall : (sl s).all decD = true := by
        rw [List.all_eq_true]
        intro x hx
        obtain ⟨j, hj, e⟩ := List.getElem_of_mem hx
        exact HALL.out j (by rw [← sl_length]; exact hj) x (by rw [List.getElem?_eq_getElem hj, e])
      have htl : s.toList.map UInt8.toNat = sl s := by rw [ByteArray.toList_eq s]; rfl
      by_cases h0 : s.size = 0
      · have hnil : s.toList = [] := by
          have : (sl s).length = 0 := by rw [sl_length, h0]
          rw [← htl, List.length_map] at this
          exact List.eq_nil_of_length_eq_zero this
        have hb1 : (s.toList == [48]) = false := by rw [hnil]; rfl
        have hb2 : (!s.toList.isEmpty) = false := by rw [hnil]; rfl
        have hdf := Lib.hid (show decB (sl s) = false by rw [← htl, hnil]; rfl)
        clear hall htl hnil h0
        go_wp2_with fail
        go_ret
        exact ⟨by rw [hdf.out]; rfl, rfl⟩
      · have hpos : 0 < s.size := by omega
        have hnil : s.toList ≠ [] := by
          intro e
          rw [e] at htl
          have h1 := sl_length s
          rw [← htl] at h1
          simp at h1
          omega
        have hb2 : (!s.toList.isEmpty) = true := by
          cases hl : s.toList with
          | nil => exact absurd hl hnil
          | cons _ _ => rfl
        have hhd : (sl s).head? = some s[0].toNat := by
          have := sl_get s 0 hpos
          rw [List.head?_eq_getElem?]
          exact this
        have hne : (sl s).isEmpty = false := by
          cases hl : sl s with
          | nil => rw [hl] at hhd; cases hhd
          | cons _ _ => rfl
        have hq : (s.toList == [48]) = (sl s == [48]) := by
          rw [← htl]
          rw [Bool.eq_iff_iff, beq_iff_eq, beq_iff_eq]
          constructor
          · intro h; rw [h]; rfl
          · intro h
            cases hl : s.toList with
            | nil => exact absurd hl hnil
            | cons u m =>
              rw [hl] at h
              simp only [List.map_cons, List.cons.injEq, List.map_eq_nil_iff] at h
              rw [h.2, show u = 48 from UInt8.toNat_inj.1 h.1]
        have hlt0 := s[0].toNat_lt
        have HD : Hid (decB (sl s) = (s.toList == [48] || s[0].toNat != 48)) := by
          show _ = _
          unfold decB
          rw [hall, hne, hhd, hq]
          simp
          congr 1
        have HH := Lib.hid hhd
        clear hall htl hnil h0 hhd hne hq
        cases hb1 : (s.toList == [48]) with
        | true =>
          rw [hb1] at HD
          go_wp2_with fail
          go_ret
          exact ⟨by rw [HD.out]; rfl, rfl⟩
        | false =>
          rw [hb1] at HD
          by_cases h48 : s[0].toNat = 48
          · have hb3 : ((s[0].toNat : Int) != 48) = false := by simp [h48]
            have HD2 : Hid (decB (sl s) = false) := HD.out.trans (by simp [h48])
            clear h48
            go_wp2_with fail
            go_ret
            exact ⟨by rw [HD2.out]; rfl, rfl⟩
          · have hb3 : ((s[0].toNat : Int) != 48) = true := by simp; omega
            have HD2 : Hid (decB (sl s) = true) := HD.out.trans (by simp [h48])
            clear h48
            go_wp2_with fail
            go_ret
            exact ⟨by rw [HD2.out]; rfl, rfl⟩

/-! Parse. -/
def parseE (l : List Nat) : Int := if decB l then limE (decV l) else 6
def parseL (l : List Nat) : List Nat := if decB l then limD (decV l) else []
set_option maxHeartbeats 800000 in
theorem parse_any (s : ByteArray) (w : World) (hn : s.size ≤ maxLen) : Calls Try.prog 36 #[.string s] w (GiveD w (parseL (sl s)) (parseE (sl s))) := by
  have C0 := Lib.hid (isd_any s w hn)
  unfold maxLen at hn
  cases hD : decB (sl s) with
  | false =>
    rw [hD] at C0
    have e1 := Lib.hid (show parseL (sl s) = [] by unfold parseL; rw [hD]; rfl)
    have e2 := Lib.hid (show parseE (sl s) = 6 by unfold parseE; rw [hD]; rfl)
    rw [e1.out, e2.out]
    clear e1 e2 hD
    go_enter Try.func36, Try.ntmps36
    go_wp2_with fail
    refine C0.out.mono ?_
    rintro e w' ⟨rfl, rfl⟩
    go_wp2_with fail
    go_ret2
    exact ⟨_, rfl, Rb.nil, Below.refl _ _⟩
  | true =>
    rw [hD] at C0
    have e1 := Lib.hid (show parseL (sl s) = limD (decV (sl s)) by unfold parseL; rw [hD]; rfl)
    have e2 := Lib.hid (show parseE (sl s) = limE (decV (sl s)) by unfold parseE; rw [hD]; rfl)
    rw [e1.out, e2.out]
    have hdig : ∀ k, (h : k < s.size) → 48 ≤ s[k].toNat ∧ s[k].toNat ≤ 57 := by
      intro k h
      unfold decB at hD
      rw [Bool.and_eq_true] at hD
      have := List.all_eq_true.1 hD.1 _ (List.mem_of_getElem? (sl_get s k h))
      simpa [decD] using this
    have HDIG := Lib.hid hdig
    obtain ⟨L, hL⟩ : ∃ L, limD (decV (sl s)) = L := ⟨_, rfl⟩
    obtain ⟨E, hE⟩ : ∃ E, limE (decV (sl s)) = E := ⟨_, rfl⟩
    rw [hL, hE]
    have HL := Lib.hid hL
    have HE := Lib.hid hE
    clear e1 e2 hD hdig hL hE
    go_enter Try.func36, Try.ntmps36
    go_wp2_with fail
    refine C0.out.mono ?_
    rintro e w' ⟨rfl, rfl⟩
    clear C0
    go_wp2_with fail
    go_loopw [4, 13] (fun p i wr => ∃ (k : Nat) (A : Option Addr) (c : Nat), k ≤ s.size ∧ i = .int .i64 k ∧ decV ((sl s).take k) < 256 ^ 64 ∧ p = .slice A (dig (decV ((sl s).take k))).length c ∧ c = (dig (decV ((sl s).take k))).length ∧
      Rb wr A (dig (decV ((sl s).take k))) ∧ Below w.heap.size w wr) (fun _ i _ => s.size - (intOf i).toNat)
    case atStart => exact ⟨0, none, 0, Nat.zero_le _, rfl, by simp [decV], rfl, rfl, Rb.nil, Below.refl _ _⟩
    case round =>
      obtain ⟨k, A, c, hk, rfl, hlim, rfl, hc, hr, hbel⟩ := hrel
      have HC := Lib.hid hc
      have HR := Lib.hid hr
      have HLIM := Lib.hid hlim
      have HBel := Lib.hid hbel
      have hl64 := (dig_length _ 64).2 hlim
      clear hc hr hbel hlim
      by_cases hlt : k < s.size
      · obtain ⟨h1, h2⟩ := HDIG.out k hlt
        obtain ⟨x, hx⟩ : ∃ x : Nat, (s[k].toNat : Int) - 48 = (x : Int) := ⟨s[k].toNat - 48, by omega⟩
        have hx9 : x ≤ 9 := by omega
        have HT : Hid (decV ((sl s).take (k + 1)) = 10 * decV ((sl s).take k) + x) := by
          show _ = _
          have hkl : k < (sl s).length := by rw [sl_length]; exact hlt
          have hg := sl_get s k hlt
          rw [List.getElem?_eq_getElem hkl] at hg
          rw [List.take_succ_eq_append_getElem hkl, decV_snoc, Option.some.inj hg]
          omega
        have C1 := dec_any A _ c x wr hl64 (by omega) HR.out
        rw [val_dig, ← HT.out] at C1
        have HC1 := Lib.hid C1
        have hmono : decV ((sl s).take (k + 1)) ≤ decV (sl s) := by
          have := decV_mono ((sl s).take (k + 1)) ((sl s).drop (k + 1))
          rwa [List.take_append_drop] at this
        have HM := Lib.hid hmono
        clear C1 hmono
        generalize dig (decV ((sl s).take k)) = P at HC1 hl64 HR HC
        by_cases hnext : decV ((sl s).take (k + 1)) < 256 ^ 64
        · rw [limD_lt hnext, limE_lt hnext] at HC1
          have HNX := Lib.hid hnext
          clear hnext
          go_wp2_with fail
          refine HC1.out.mono ?_
          rintro e w' ⟨A', rfl, h', hb'⟩
          have HH := Lib.hid h'
          have HBB := Lib.hid hb'
          clear h' hb'
          go_wp2_with fail
          exact ⟨⟨k + 1, A', _, by omega, by go_num, HNX.out, rfl, rfl, HH.out, (HBel.out).trans ((HBB.out).mono (HBel.out).size)⟩, by simp [intOf]; omega⟩
        · rw [limD_ge hnext, limE_ge hnext] at HC1
          have hfin : ¬ decV (sl s) < 256 ^ 64 := by have := HM.out; omega
          have HF := Lib.hid hfin
          clear hnext hfin
          go_wp2_with fail
          refine HC1.out.mono ?_
          rintro e w' ⟨A', rfl, h', hb'⟩
          have HH := Lib.hid h'
          have HBB := Lib.hid hb'
          clear h' hb'
          go_wp2_with fail
          go_ret2
          unfold GiveD
          rw [← HL.out, ← HE.out, limD_ge HF.out, limE_ge HF.out]
          exact ⟨_, rfl, Rb.nil, (HBel.out).trans ((HBB.out).mono (HBel.out).size)⟩
      · have hks : k = s.size := by omega
        subst hks
        have ht : (sl s).take s.size = sl s := List.take_of_length_le (by rw [sl_length]; exact Nat.le_refl _)
        rw [ht] at HLIM HR HC hl64
        have HT := Lib.hid ht
        clear ht
        go_wp2_with fail
        go_ret2
        unfold GiveD
        rw [← HL.out, ← HE.out, limD_lt HLIM.out, limE_lt HLIM.out]
        exact ⟨_, by rw [HC.out]; first | rfl | (simp [HT.out]), HR.out, HBel.out⟩
end Go.Proofs.Ytenbknmpkdidoaa
