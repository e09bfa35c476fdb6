/-
  The reference of layer 5: contracts of GetInt, GetBool.
  Conditions: slices read as bytes.
-/
import Derived.Test.YtdmbkbgnlmiilaaSclD
namespace Go.Proofs.Ytdmbkbgnlmiilaa.Scl
open Go.RowKit

theorem minB_two (x y : Nat) (t : List Nat) : minB (x :: y :: t) = !((decide (x = 0) && decide (y < 128)) || (decide (x = 255) && decide (128 ≤ y))) := rfl
theorem two_cells {w : World} {A : Option Addr} {x y : Nat} {t : List Nat} (h : Rb w A (x :: y :: t)) : ∃ b off, A = some ⟨b, off, none⟩ ∧ b < w.heap.size ∧ x < 256 ∧ y < 256 ∧ w.cell? ⟨b, off, none⟩ = some (.int .u8 (x : Int)) ∧ w.cell? ⟨b, off + 1, none⟩ = some (.int .u8 (y : Int)) := by
  obtain ⟨b, off, e, hb, hc⟩ := h.1 (by simp [cs8])
  exact ⟨b, off, e, hb, h.2 x (by simp), h.2 y (by simp), hc 0 _ rfl, hc 1 _ rfl⟩
/-- What the loop's reading needs of the octets behind the first one. -/
theorem at_in {w : World} {b off : Nat} {l : List Nat} (h : Rb w (some ⟨b, off, none⟩) l) {k : Nat} (hk : k < l.length) : l[k] < 256 ∧ w.cell? ⟨b, off + k, none⟩ = some (.int .u8 (l[k] : Int)) := by
  obtain ⟨b', off', e, _, hy, hcy⟩ := h.at_ hk
  simp only [Option.some.injEq, Addr.mk.injEq, and_true] at e
  obtain ⟨rfl, rfl⟩ := e
  exact ⟨hy, hcy⟩
set_option maxRecDepth 100000 in
set_option maxHeartbeats 1000000 in
theorem rgint_11 (A : Option Addr) (l : List Nat) (N c : Nat) (w : World) (h : Rb w A l) (hN : l.length = N) (hmin : minB l = false) :
    Calls Try.prog 21 #[.slice A N c] w fun e w' => e = .returned (.tuple #[.int .i64 (giV l), .int .i64 ((giE l : Nat) : Int)]) ∧ w = w' := by
  obtain ⟨e1, e2⟩ := giE_11 hmin
  rw [e1, e2]
  match l, h, hN, hmin with
  | [], _, hN, _ =>
    obtain rfl : 0 = N := hN
    clear e1 e2
    go_enter Try.func21, Try.ntmps21
    go_wp2_with fail
    go_ret2
    exact ⟨rfl, rfl⟩
  | x :: y :: t, h, hN, hmin =>
    have hN2 : 2 ≤ N := by rw [← hN]; simp
    obtain ⟨b, off, rfl, hb, hx, hy, c0, c1⟩ := two_cells h
    have hc : (x = 0 ∧ y < 128) ∨ (x = 255 ∧ 128 ≤ y) := by rw [minB_two] at hmin; simp at hmin; omega
    have hd : decide ((N : Int) > 1) = true := by simp; omega
    clear h hN hmin e1 e2
    rcases hc with ⟨rfl, h⟩ | ⟨rfl, h⟩
    · go_enter Try.func21, Try.ntmps21
      go_wp2_with fail
      go_ret2
      exact ⟨rfl, rfl⟩
    · go_enter Try.func21, Try.ntmps21
      go_wp2_with fail
      go_ret2
      exact ⟨rfl, rfl⟩
set_option maxRecDepth 100000 in
set_option maxHeartbeats 4000000 in
theorem rgint_ok (A : Option Addr) (l : List Nat) (N c : Nat) (w : World) (h : Rb w A l) (hN : l.length = N) (hmin : minB l = true) :
    Calls Try.prog 21 #[.slice A N c] w fun e w' => e = .returned (.tuple #[.int .i64 (giV l), .int .i64 ((giE l : Nat) : Int)]) ∧ w = w' := by
  have hcs : (∃ x, l = [x]) ∨ ∃ x y t, l = x :: y :: t ∧ ((x ≠ 0 ∧ x ≠ 255) ∨ (x = 0 ∧ 128 ≤ y) ∨ (x = 255 ∧ y < 128)) := by
    match l, hmin with
    | [x], _ => exact .inl ⟨x, rfl⟩
    | x :: y :: t, hmin =>
      rw [minB_two] at hmin
      simp at hmin
      exact .inr ⟨x, y, t, rfl, by omega⟩
  have HR := Lib.hid h
  have HN := Lib.hid hN
  by_cases h8 : 8 < N
  · obtain ⟨e1, e2⟩ := giE_3 hmin (by rw [hN]; exact h8)
    rw [e1, e2]
    rcases hcs with ⟨x, rfl⟩ | ⟨x, y, t, rfl, hcs⟩
    · simp at hN; omega
    obtain ⟨b, off, rfl, hb, hx, hy, c0, c1⟩ := two_cells h
    have hd : decide ((N : Int) > 1) = true := by simp; omega
    have hd0 : ((N : Int) == 0) = false := by simp; omega
    clear h hN hmin e1 e2
    generalize x :: y :: t = l at *
    rcases hcs with ⟨hx0, hx1⟩ | ⟨rfl, h⟩ | ⟨rfl, h⟩
    · have h1 : ((x : Int) == 0) = false := by simp; exact hx0
      have h2 : ((x : Int) == 255) = false := by simp; omega
      go_enter Try.func21, Try.ntmps21
      go_wp2_with fail
      go_ret2
      exact ⟨rfl, rfl⟩
    · have h3 : decide ((y : Int) < 128) = false := by simp; omega
      go_enter Try.func21, Try.ntmps21
      go_wp2_with fail
      go_ret2
      exact ⟨rfl, rfl⟩
    · have h3 : decide ((y : Int) > 127) = false := by simp; omega
      go_enter Try.func21, Try.ntmps21
      go_wp2_with fail
      go_ret2
      exact ⟨rfl, rfl⟩
  obtain ⟨e1, e2⟩ := giE_0 hmin (by rw [hN]; exact h8)
  rw [e1, e2]
  have HBD := Lib.hid fun k hk => tc_bd h.2 (by rw [hN]; omega) k hk
  have HT := Lib.hid (show tcv l = fld (sgn l) l from rfl)
  clear hmin e1 e2
  rcases hcs with ⟨x, rfl⟩ | ⟨x, y, t, rfl, hcs⟩
  · obtain ⟨b, off, rfl, hb, hx, c0⟩ := h.at_ (k := 0) (by simp)
    simp only [List.getElem_cons_zero, Nat.add_zero] at hx c0
    have hN1 : 1 = N := hN
    have hs1 : 128 ≤ x → sgn [x] = -1 := sgn_hi _
    have hs0 : ¬ 128 ≤ x → sgn [x] = 0 := sgn_lo _
    have HT0 : Hid (fld (sgn [x]) ([x].take 1) = sgn [x] * 256 + x) := Lib.hid rfl
    clear h hN
    have hd : decide ((N : Int) > 1) = false := by simp; omega
    have hd0 : ((N : Int) == 0) = false := by simp; omega
    generalize [x] = l at *
    by_cases hn : 128 ≤ x
    · have HT1 : Hid (fld (sgn l) (l.take 1) = (x : Int) - 256) := by show _ = _; rw [HT0.out, hs1 hn]; omega
      clear hs1 hs0
      have hNa : 1 ≤ N := by omega
      have hNb : N ≤ 1 := by omega
      clear hN1
      go_enter Try.func21, Try.ntmps21
      have hd8 : decide ((8 : Int) < (N : Int)) = false := by simp; omega
      go_wp2_with fail
      go_loop [4, 5] (fun n i => ∃ k : Nat, 1 ≤ k ∧ k ≤ N ∧ i = .int .i64 (k : Int) ∧ n = .int .i64 (fld (sgn l) (l.take k))) (fun _ i => N - (intOf i).toNat)
      case atStart => exact ⟨1, by omega, by omega, rfl, by rw [HT1.out] <;> go_num⟩
      case round =>
        obtain ⟨k, hk1, hk, rfl, rfl⟩ := hrel
        obtain ⟨b1, b2, b3⟩ := HBD.out k (by rw [HN.out]; exact hk)
        by_cases hlt : k < N
        · have hkl : k < l.length := by rw [HN.out]; exact hlt
          obtain ⟨b4, b5⟩ := b3 hkl
          obtain ⟨hy, hcy⟩ := at_in HR.out hkl
          have HF := Lib.hid (fld_take (s := sgn l) hkl)
          obtain ⟨y, hye⟩ : ∃ y, l[k] = y := ⟨_, rfl⟩
          rw [hye] at hcy hy HF
          obtain ⟨F, hF⟩ : ∃ F, fld (sgn l) (l.take k) = F := ⟨_, rfl⟩
          rw [hF] at b1 b2 b4 b5 HF ⊢
          clear b3 hye hF b1 b2
          go_wp2_with fail
          go_round
          case rel => exact ⟨k + 1, by omega, by omega, by go_num, by rw [HF.out]⟩
          case measure => simp [intOf]; omega
        · have hkN : k = N := by omega
          subst hkN
          have HTK := Lib.hid (show l.take k = l by rw [← HN.out, List.take_length])
          clear b1 b2 b3
          go_wp2_with fail
          go_ret2
          exact ⟨by rw [HTK.out, HT.out]; rfl, rfl⟩
    · have HT1 : Hid (fld (sgn l) (l.take 1) = (x : Int)) := by show _ = _; rw [HT0.out, hs0 hn]; omega
      clear hs1 hs0
      have hNa : 1 ≤ N := by omega
      have hNb : N ≤ 1 := by omega
      clear hN1
      go_enter Try.func21, Try.ntmps21
      have hd8 : decide ((8 : Int) < (N : Int)) = false := by simp; omega
      go_wp2_with fail
      go_loop [4, 5] (fun n i => ∃ k : Nat, 1 ≤ k ∧ k ≤ N ∧ i = .int .i64 (k : Int) ∧ n = .int .i64 (fld (sgn l) (l.take k))) (fun _ i => N - (intOf i).toNat)
      case atStart => exact ⟨1, by omega, by omega, rfl, by rw [HT1.out] <;> go_num⟩
      case round =>
        obtain ⟨k, hk1, hk, rfl, rfl⟩ := hrel
        obtain ⟨b1, b2, b3⟩ := HBD.out k (by rw [HN.out]; exact hk)
        by_cases hlt : k < N
        · have hkl : k < l.length := by rw [HN.out]; exact hlt
          obtain ⟨b4, b5⟩ := b3 hkl
          obtain ⟨hy, hcy⟩ := at_in HR.out hkl
          have HF := Lib.hid (fld_take (s := sgn l) hkl)
          obtain ⟨y, hye⟩ : ∃ y, l[k] = y := ⟨_, rfl⟩
          rw [hye] at hcy hy HF
          obtain ⟨F, hF⟩ : ∃ F, fld (sgn l) (l.take k) = F := ⟨_, rfl⟩
          rw [hF] at b1 b2 b4 b5 HF ⊢
          clear b3 hye hF b1 b2
          go_wp2_with fail
          go_round
          case rel => exact ⟨k + 1, by omega, by omega, by go_num, by rw [HF.out]⟩
          case measure => simp [intOf]; omega
        · have hkN : k = N := by omega
          subst hkN
          have HTK := Lib.hid (show l.take k = l by rw [← HN.out, List.take_length])
          clear b1 b2 b3
          go_wp2_with fail
          go_ret2
          exact ⟨by rw [HTK.out, HT.out]; rfl, rfl⟩
  · obtain ⟨b, off, rfl, hb, hx, hy, c0, c1⟩ := two_cells h
    have hN2 : 2 ≤ N := by rw [← hN]; simp
    have hs1 : 128 ≤ x → sgn (x :: y :: t) = -1 := sgn_hi _
    have hs0 : ¬ 128 ≤ x → sgn (x :: y :: t) = 0 := sgn_lo _
    have HT0 : Hid (fld (sgn (x :: y :: t)) ((x :: y :: t).take 1) = sgn (x :: y :: t) * 256 + x) := Lib.hid rfl
    have hd : decide ((N : Int) > 1) = true := by simp; omega
    have hd0 : ((N : Int) == 0) = false := by simp; omega
    clear h hN
    generalize x :: y :: t = l at *
    rcases hcs with ⟨hx0, hx1⟩ | ⟨rfl, h⟩ | ⟨rfl, h⟩
    · have h1 : ((x : Int) == 0) = false := by simp; exact hx0
      have h2 : ((x : Int) == 255) = false := by simp; omega
      by_cases hn : 128 ≤ x
      · have HT1 : Hid (fld (sgn l) (l.take 1) = (x : Int) - 256) := by show _ = _; rw [HT0.out, hs1 hn]; omega
        clear hs1 hs0
        go_enter Try.func21, Try.ntmps21
        have hd8 : decide ((8 : Int) < (N : Int)) = false := by simp; omega
        go_wp2_with fail
        go_loop [4, 5] (fun n i => ∃ k : Nat, 1 ≤ k ∧ k ≤ N ∧ i = .int .i64 (k : Int) ∧ n = .int .i64 (fld (sgn l) (l.take k))) (fun _ i => N - (intOf i).toNat)
        case atStart => exact ⟨1, by omega, by omega, rfl, by rw [HT1.out] <;> go_num⟩
        case round =>
          obtain ⟨k, hk1, hk, rfl, rfl⟩ := hrel
          obtain ⟨b1, b2, b3⟩ := HBD.out k (by rw [HN.out]; exact hk)
          by_cases hlt : k < N
          · have hkl : k < l.length := by rw [HN.out]; exact hlt
            obtain ⟨b4, b5⟩ := b3 hkl
            obtain ⟨hy, hcy⟩ := at_in HR.out hkl
            have HF := Lib.hid (fld_take (s := sgn l) hkl)
            obtain ⟨y, hye⟩ : ∃ y, l[k] = y := ⟨_, rfl⟩
            rw [hye] at hcy hy HF
            obtain ⟨F, hF⟩ : ∃ F, fld (sgn l) (l.take k) = F := ⟨_, rfl⟩
            rw [hF] at b1 b2 b4 b5 HF ⊢
            clear b3 hye hF b1 b2
            go_wp2_with fail
            go_round
            case rel => exact ⟨k + 1, by omega, by omega, by go_num, by rw [HF.out]⟩
            case measure => simp [intOf]; omega
          · have hkN : k = N := by omega
            subst hkN
            have HTK := Lib.hid (show l.take k = l by rw [← HN.out, List.take_length])
            clear b1 b2 b3
            go_wp2_with fail
            go_ret2
            exact ⟨by rw [HTK.out, HT.out]; rfl, rfl⟩
      · have HT1 : Hid (fld (sgn l) (l.take 1) = (x : Int)) := by show _ = _; rw [HT0.out, hs0 hn]; omega
        clear hs1 hs0
        go_enter Try.func21, Try.ntmps21
        have hd8 : decide ((8 : Int) < (N : Int)) = false := by simp; omega
        go_wp2_with fail
        go_loop [4, 5] (fun n i => ∃ k : Nat, 1 ≤ k ∧ k ≤ N ∧ i = .int .i64 (k : Int) ∧ n = .int .i64 (fld (sgn l) (l.take k))) (fun _ i => N - (intOf i).toNat)
        case atStart => exact ⟨1, by omega, by omega, rfl, by rw [HT1.out] <;> go_num⟩
        case round =>
          obtain ⟨k, hk1, hk, rfl, rfl⟩ := hrel
          obtain ⟨b1, b2, b3⟩ := HBD.out k (by rw [HN.out]; exact hk)
          by_cases hlt : k < N
          · have hkl : k < l.length := by rw [HN.out]; exact hlt
            obtain ⟨b4, b5⟩ := b3 hkl
            obtain ⟨hy, hcy⟩ := at_in HR.out hkl
            have HF := Lib.hid (fld_take (s := sgn l) hkl)
            obtain ⟨y, hye⟩ : ∃ y, l[k] = y := ⟨_, rfl⟩
            rw [hye] at hcy hy HF
            obtain ⟨F, hF⟩ : ∃ F, fld (sgn l) (l.take k) = F := ⟨_, rfl⟩
            rw [hF] at b1 b2 b4 b5 HF ⊢
            clear b3 hye hF b1 b2
            go_wp2_with fail
            go_round
            case rel => exact ⟨k + 1, by omega, by omega, by go_num, by rw [HF.out]⟩
            case measure => simp [intOf]; omega
          · have hkN : k = N := by omega
            subst hkN
            have HTK := Lib.hid (show l.take k = l by rw [← HN.out, List.take_length])
            clear b1 b2 b3
            go_wp2_with fail
            go_ret2
            exact ⟨by rw [HTK.out, HT.out]; rfl, rfl⟩
    · have HT1 : Hid (fld (sgn l) (l.take 1) = 0) := by show _ = _; rw [HT0.out, hs0 (by omega)] <;> omega
      have h3 : decide ((y : Int) < 128) = false := by simp; omega
      clear hs1 hs0
      go_enter Try.func21, Try.ntmps21
      have hd8 : decide ((8 : Int) < (N : Int)) = false := by simp; omega
      go_wp2_with fail
      go_loop [4, 5] (fun n i => ∃ k : Nat, 1 ≤ k ∧ k ≤ N ∧ i = .int .i64 (k : Int) ∧ n = .int .i64 (fld (sgn l) (l.take k))) (fun _ i => N - (intOf i).toNat)
      case atStart => exact ⟨1, by omega, by omega, rfl, by rw [HT1.out] <;> go_num⟩
      case round =>
        obtain ⟨k, hk1, hk, rfl, rfl⟩ := hrel
        obtain ⟨b1, b2, b3⟩ := HBD.out k (by rw [HN.out]; exact hk)
        by_cases hlt : k < N
        · have hkl : k < l.length := by rw [HN.out]; exact hlt
          obtain ⟨b4, b5⟩ := b3 hkl
          obtain ⟨hy, hcy⟩ := at_in HR.out hkl
          have HF := Lib.hid (fld_take (s := sgn l) hkl)
          obtain ⟨y, hye⟩ : ∃ y, l[k] = y := ⟨_, rfl⟩
          rw [hye] at hcy hy HF
          obtain ⟨F, hF⟩ : ∃ F, fld (sgn l) (l.take k) = F := ⟨_, rfl⟩
          rw [hF] at b1 b2 b4 b5 HF ⊢
          clear b3 hye hF b1 b2
          go_wp2_with fail
          go_round
          case rel => exact ⟨k + 1, by omega, by omega, by go_num, by rw [HF.out]⟩
          case measure => simp [intOf]; omega
        · have hkN : k = N := by omega
          subst hkN
          have HTK := Lib.hid (show l.take k = l by rw [← HN.out, List.take_length])
          clear b1 b2 b3
          go_wp2_with fail
          go_ret2
          exact ⟨by rw [HTK.out, HT.out]; rfl, rfl⟩
    · have HT1 : Hid (fld (sgn l) (l.take 1) = -1) := by show _ = _; rw [HT0.out, hs1 (by omega)] <;> omega
      have h3 : decide ((y : Int) > 127) = false := by simp; omega
      clear hs1 hs0
      go_enter Try.func21, Try.ntmps21
      have hd8 : decide ((8 : Int) < (N : Int)) = false := by simp; omega
      go_wp2_with fail
      go_loop [4, 5] (fun n i => ∃ k : Nat, 1 ≤ k ∧ k ≤ N ∧ i = .int .i64 (k : Int) ∧ n = .int .i64 (fld (sgn l) (l.take k))) (fun _ i => N - (intOf i).toNat)
      case atStart => exact ⟨1, by omega, by omega, rfl, by rw [HT1.out] <;> go_num⟩
      case round =>
        obtain ⟨k, hk1, hk, rfl, rfl⟩ := hrel
        obtain ⟨b1, b2, b3⟩ := HBD.out k (by rw [HN.out]; exact hk)
        by_cases hlt : k < N
        · have hkl : k < l.length := by rw [HN.out]; exact hlt
          obtain ⟨b4, b5⟩ := b3 hkl
          obtain ⟨hy, hcy⟩ := at_in HR.out hkl
          have HF := Lib.hid (fld_take (s := sgn l) hkl)
          obtain ⟨y, hye⟩ : ∃ y, l[k] = y := ⟨_, rfl⟩
          rw [hye] at hcy hy HF
          obtain ⟨F, hF⟩ : ∃ F, fld (sgn l) (l.take k) = F := ⟨_, rfl⟩
          rw [hF] at b1 b2 b4 b5 HF ⊢
          clear b3 hye hF b1 b2
          go_wp2_with fail
          go_round
          case rel => exact ⟨k + 1, by omega, by omega, by go_num, by rw [HF.out]⟩
          case measure => simp [intOf]; omega
        · have hkN : k = N := by omega
          subst hkN
          have HTK := Lib.hid (show l.take k = l by rw [← HN.out, List.take_length])
          clear b1 b2 b3
          go_wp2_with fail
          go_ret2
          exact ⟨by rw [HTK.out, HT.out]; rfl, rfl⟩
theorem rgint_any (A : Option Addr) (l : List Nat) (N c : Nat) (w : World) (h : Rb w A l) (hN : l.length = N) :
    Calls Try.prog 21 #[.slice A N c] w fun e w' => e = .returned (.tuple #[.int .i64 (giV l), .int .i64 ((giE l : Nat) : Int)]) ∧ w = w' := by
  cases hm : minB l
  · exact rgint_11 A l N c w h hN hm
  · exact rgint_ok A l N c w h hN hm

theorem bstr_list (l : List Nat) : (bstr l).toList = l.map UInt8.ofNat := by
  unfold bstr; rw [ByteArray.toList_mk]
theorem ofNat_inj : ∀ {l m : List Nat}, All8 l → All8 m → l.map UInt8.ofNat = m.map UInt8.ofNat → l = m
  | [], [], _, _, _ => rfl
  | [], _ :: _, _, _, h => by cases h
  | _ :: _, [], _, _, h => by cases h
  | x :: l, y :: m, h1, h2, h => by
    simp only [List.map_cons, List.cons.injEq] at h
    have hx := h1 x (by simp)
    have hy := h2 y (by simp)
    have e := congrArg UInt8.toNat h.1
    rw [UInt8.toNat_ofNat', UInt8.toNat_ofNat', Nat.mod_eq_of_lt (by omega), Nat.mod_eq_of_lt (by omega)] at e
    rw [e, ofNat_inj (fun z hz => h1 z (by simp [hz])) (fun z hz => h2 z (by simp [hz])) h.2]
theorem bstr_ne {l m : List Nat} (h1 : All8 l) (h2 : All8 m) (h : l ≠ m) : ((bstr l).toList == (bstr m).toList) = false := by
  rw [beq_eq_false_iff_ne, bstr_list, bstr_list]
  exact fun e => h (ofNat_inj h1 h2 e)
set_option maxHeartbeats 800000 in
theorem rgbool_any (A : Option Addr) (l : List Nat) (N c : Nat) (w : World) (h : Rb w A l) (hN : l.length = N) :
    Calls Try.prog 19 #[.slice A N c] w fun e w' => e = .returned (.tuple #[.bool (gbV l), .int .i64 ((gbE l : Nat) : Int)]) ∧ w = w' := by
  have s0 := run_str8 h c
  rw [hN] at s0
  have h8 := h.2
  obtain ⟨S, hS⟩ : ∃ S, bstr l = S := ⟨_, rfl⟩
  rw [hS] at s0
  by_cases hl : l = [0] ∨ l = [255]
  · rcases hl with rfl | rfl
    · have h1 : (S.toList == [0]) = true := by rw [← hS, bstr_list]; rfl
      clear h hN h8 hS
      rw [show gbV [0] = false from rfl, show gbE [0] = 0 from rfl]
      go_enter Try.func19, Try.ntmps19
      go_wp2_with fail
      go_ret2
      exact ⟨rfl, rfl⟩
    · have h1 : (S.toList == [0]) = false := by rw [← hS, bstr_list]; rfl
      have h2 : (S.toList == [255]) = true := by rw [← hS, bstr_list]; rfl
      clear h hN h8 hS
      rw [show gbV [255] = true from rfl, show gbE [255] = 0 from rfl]
      go_enter Try.func19, Try.ntmps19
      go_wp2_with fail
      go_ret2
      exact ⟨rfl, rfl⟩
  · have h1 : (S.toList == [0]) = false := by have := bstr_ne (m := [0]) h8 (by intro x hx; simp at hx; omega) (fun e => hl (.inl e)); rw [hS, bstr_list] at this; exact this
    have h2 : (S.toList == [255]) = false := by have := bstr_ne (m := [255]) h8 (by intro x hx; simp at hx; omega) (fun e => hl (.inr e)); rw [hS, bstr_list] at this; exact this
    have e1 : gbV l = false := by unfold gbV; simp; exact fun e => hl (.inr e)
    have e2 : gbE l = 11 := by unfold gbE; rw [if_neg hl]
    rw [e1, e2]
    clear h hN h8 hS hl e1 e2
    go_enter Try.func19, Try.ntmps19
    go_wp2_with fail
    go_ret2
    exact ⟨rfl, rfl⟩
end Go.Proofs.Ytdmbkbgnlmiilaa.Scl
