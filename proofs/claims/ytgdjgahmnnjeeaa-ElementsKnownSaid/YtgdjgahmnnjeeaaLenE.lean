/-
  The reference of layer 3: the contract of Put.
  Conditions: the length is valid.
-/
import Derived.Test.YtgdjgahmnnjeeaaLenD
namespace Go.Proofs.Ytgdjgahmnnjeeaa.Len
open Go.RowKit

/-- 'append(v, s...)' to what the call has built, whatever s is. -/
theorem app_src {P : Program} {t ty e : TypeId} {z : Value} {bytes : Nat} (ht : P.underlying t = some (.slice e)) (hinfo : (P.info? e).map (fun i => (i.zero, i.size, i.bytes)) = some (some z, 1, bytes)) (hz : z.cells.size = 1)
    {w : World} {base : Nat} {v : Value} {xs : List Value} (hown : w.ownsRow base e 1 v xs.length xs) {A : Option Addr} {ys : List Value} {c : Nat} (hy : Rd w A ys) (h1 : ∀ u ∈ ys, u.oneCell' = true) (hb : base ≤ w.heap.size)
    (hl : (xs.length + ys.length) * bytes ≤ 140737488355328) (hm : xs.length + ys.length ≤ maxLen) :
    ∃ v' w', (Builtin.append_ #[t, t] ty #[v, .slice A ys.length c]).run P w = .ok v' w' ∧ w'.ownsRow base e 1 v' (xs ++ ys).length (xs ++ ys) ∧ Below base w w' := by
  obtain ⟨i, hi, hz0, hz1, hz2⟩ := info_parts hinfo
  cases A with
  | some a =>
    obtain ⟨v', w', hrun, h2, h3, _⟩ := run_append_own (P := P) w base t ty e i z 1 bytes ht hi hz0 hz1 hz2 hz (by omega) v xs.length xs hown a ys.length c ys (by simp)
      (fun j u hu => by
        obtain ⟨b, off, e, _, hc⟩ := hy (by intro e; subst e; simp at hu)
        injection e with e
        subst e
        rw [addr_add]; exact hc j u hu) h1 hm hl hb
    exact ⟨v', w', hrun, by rw [List.length_append]; exact h2, (Below.refl base w).grown h3 hb (fun k hk => (hown.lt k hk).1)⟩
  | none =>
    have hnil : ys = [] := by
      cases ys with
      | nil => rfl
      | cons u m => obtain ⟨_, _, e, _⟩ := hy (by simp); cases e
    subst hnil
    refine ⟨v, w, ?_, by simpa using hown, Below.refl _ _⟩
    rcases hown.2 with ⟨rfl, h0⟩ | ⟨g, cap, cur, rfl, _, _, hnc, _⟩
    · simp [Builtin.append_, run_underlying ht, sizeOf, typeInfo, hi, Builtin.lenOf, Builtin.firstCells]
    · simp [Builtin.append_, run_underlying ht, sizeOf, typeInfo, hi, Builtin.lenOf, Builtin.firstCells, hnc, storeCells]
/-- A slice literal of one element. -/
theorem own_lit (w : World) (e : TypeId) (x : Value) : (w.alloc (.cells #[x] e)).ownsRow w.heap.size e 1 (.slice (some ⟨w.heap.size, 0, none⟩) 1 1) [x].length [x] :=
  ⟨rfl, .inr ⟨w.heap.size, 1, #[x], rfl, Nat.le_refl _, heap_alloc_new w _, Nat.le_refl _, by unfold maxLen; omega, rfl, rfl⟩⟩
/-- A slice is returned; what was there has not turned. -/
def GiveB (w : World) (l : List Nat) (e : Ending) (w' : World) : Prop :=
  ∃ A c, e = .returned (.slice A l.length c) ∧ Rb w' A l ∧ l.length ≤ c ∧ c ≤ maxLen ∧ Below w.heap.size w w'
theorem one_bytes {w : World} {x : Nat} (h : x < 256) : Rb (w.alloc (.cells #[.int .u8 (x : Int)] 5)) (some ⟨w.heap.size, 0, none⟩) [x] :=
  ⟨(Bk.new w 5 (cs8 [x])).rd 0, by intro y hy; simp at hy; omega⟩
/-- 'append([]byte{x}, s...)'. -/
theorem app_front (w1 : World) (x : Nat) {A : Option Addr} {out : List Nat} {c : Nat} (h : Rb w1 A out) (hl : out.length ≤ 1000) (N : Nat) (hN : out.length = N) :
    ∃ B2 c2 w2, (Builtin.append_ #[26, 26] 26 #[.slice (some ⟨w1.heap.size, 0, none⟩) 1 1, .slice A N c]).run Try.prog (w1.alloc (.cells #[.int .u8 (x : Int)] 5)) = .ok (.slice B2 (N + 1) c2) w2 ∧ Rd w2 B2 (cs8 (x :: out)) ∧ N + 1 ≤ c2 ∧ c2 ≤ maxLen ∧ Below w1.heap.size w1 w2 := by
  subst hN
  have hb2 : Below w1.heap.size w1 (w1.alloc (.cells #[.int .u8 (x : Int)] 5)) := (Below.refl _ _).alloc (Nat.le_refl _) _
  obtain ⟨v', w2, hrun, hown2, hb3⟩ := app_src (P := Try.prog) (ty := 26) Try.underlying26 info5 rfl (own_lit w1 5 (.int .u8 (x : Int))) (c := c) ((h.below hb2).1) (by intro u hu; obtain ⟨n, _, rfl⟩ := List.mem_map.1 hu; rfl) (by simp) (by rw [cs8_length, List.length_singleton]; omega) (by rw [cs8_length, List.length_singleton]; unfold maxLen; omega)
  rw [cs8_length] at hrun
  obtain ⟨B2, c2, rfl, hr2, hc2, hc3⟩ := own_open hown2
  have e1 : [Value.int .u8 (x : Int)] ++ cs8 out = cs8 (x :: out) := rfl
  rw [e1] at hr2 hc2 hrun
  rw [cs8_length] at hc2 hrun
  exact ⟨B2, c2, w2, hrun, hr2, hc2, hc3, hb2.trans hb3⟩

theorem dig_pos {v : Nat} (h : v ≠ 0) : dig v = dig (v / 256) ++ [v % 256] := by unfold dig; rw [dgs_pos (by omega) h, List.reverse_cons]
theorem putL_big {n : Nat} (h1 : 128 ≤ n) (h2 : n ≤ 16777215) : putL n = (128 + (dig n).length) :: dig n := by
  unfold putL
  rw [if_neg (by omega)]
  split
  · rw [dig_pos (by omega), show n / 256 = 0 by omega, dig_zero, Nat.mod_eq_of_lt (by omega)]; rfl
  split
  · rw [dig_pos (by omega), dig_pos (v := n / 256) (by omega), show n / 256 / 256 = 0 by omega, dig_zero, Nat.mod_eq_of_lt (a := n / 256) (by omega)]; rfl
  · rw [dig_pos (by omega), dig_pos (v := n / 256) (by omega), dig_pos (v := n / 256 / 256) (by omega), show n / 256 / 256 / 256 = 0 by omega, dig_zero, Nat.mod_eq_of_lt (a := n / 256 / 256) (by omega), show n / 256 / 256 = n / 65536 by omega]; rfl

set_option maxHeartbeats 1000000 in
set_option maxRecDepth 100000 in
theorem rput_any (n : Nat) (w : World) (hn : n ≤ 16777215) : Calls Try.prog 44 #[.int .i64 (n : Int)] w (GiveB w (putL n)) := by
  by_cases h0 : n < 128
  · have HP := Lib.hid (show putL n = [n] from if_pos h0)
    go_enter Try.func44, Try.ntmps44
    go_wp2_with fail
    go_ret
    rw [HP.out]
    exact ⟨_, 1, rfl, one_bytes (by omega), Nat.le_refl _, by unfold maxLen; omega, (Below.refl _ _).alloc (Nat.le_refl _) _⟩
  have HP := Lib.hid (putL_big (n := n) (by omega) hn)
  have HL := Lib.hid ((dig_length n 3).2 (by omega))
  have h1 : 128 ≤ n := by omega
  clear h0
  go_enter Try.func44, Try.ntmps44
  go_wp2_with fail
  go_loopw [0, 3] (fun d o wr => ∃ (u : Nat) (B : Option Addr) (out : List Nat) (N c : Nat), u ≤ 16777215 ∧ d = .int .i64 (u : Int) ∧ o = .slice B N c ∧ out.length = N ∧ Rb wr B out ∧ N ≤ c ∧ c ≤ maxLen ∧ dig n = dig u ++ out ∧ Below w.heap.size w wr) (fun d _ _ => (intOf d).toNat)
  case atStart => exact ⟨n, none, [], 0, 0, hn, rfl, rfl, rfl, Rb.nil, Nat.le_refl _, Nat.zero_le _, (List.append_nil _).symm, Below.refl _ _⟩
  case round =>
    obtain ⟨u, B, out, N, c, hu, rfl, rfl, hN, hb, hc1, hc2, hd, hbel⟩ := hrel
    have hol : N ≤ 3 := by
      have := congrArg List.length hd
      have h5 := HL.out
      rw [List.length_append] at this
      omega
    have HN := Lib.hid hN
    have HRb := Lib.hid hb
    have HO := Lib.hid (And.intro hc1 hc2)
    have HD := Lib.hid hd
    have HBel := Lib.hid hbel
    clear hb hc1 hc2 hd hbel hN
    by_cases hu0 : u = 0
    · subst hu0
      have HD2 : Hid (dig n = out) := HD.out.trans (by rw [dig_zero]; rfl)
      obtain ⟨x, hx⟩ : ∃ x, 128 + N = x := ⟨_, rfl⟩
      have hx1 : (128 + (N : Int)) = (x : Int) := by omega
      have hx2 : x < 256 := by omega
      have HX := Lib.hid hx
      obtain ⟨B2, c2, w2, hrun, hr2, h21, h22, hb2⟩ := app_front wr x (c := c) HRb.out (by rw [HN.out]; omega) N HN.out
      have HH := Lib.hid hr2
      have HC2 := Lib.hid (And.intro h21 h22)
      have HB2 := Lib.hid hb2
      have HR := Lib.hid hrun
      clear hr2 h21 h22 hb2 hx hrun
      go_wp2_with (at_builtin; refine wpList_app rfl _ _ _ _ rfl _ _ rfl rfl HR.out ?_)
      go_ret
      have e : putL n = x :: out := by rw [HP.out, HD2.out, HN.out, HX.out]
      rw [e]
      exact ⟨B2, c2, by rw [List.length_cons, HN.out]; rfl, ⟨HH.out, All8.cons hx2 HRb.out.2⟩, by rw [List.length_cons, HN.out]; exact HC2.out.1, HC2.out.2, (HBel.out).trans ((HB2.out).mono (HBel.out).size)⟩
    · have hupos : 0 < u := by omega
      obtain ⟨x, hx⟩ : ∃ x, u % 256 = x := ⟨_, rfl⟩
      obtain ⟨u', hu'⟩ : ∃ u', u / 256 = u' := ⟨_, rfl⟩
      have hx1 : ((u : Int) % 256) = (x : Int) := by omega
      have hu1 : ((u : Int) / 256) = (u' : Int) := by omega
      have hx2 : x < 256 := by omega
      have hu2 : u' < u := by omega
      obtain ⟨B2, c2, w2, hrun, hr2, h21, h22, hb2⟩ := app_front wr x (c := c) HRb.out (by rw [HN.out]; omega) N HN.out
      have HH := Lib.hid hr2
      have HC2 := Lib.hid (And.intro h21 h22)
      have HB2 := Lib.hid hb2
      have HR := Lib.hid hrun
      have HDN : Hid (dig n = dig u' ++ (x :: out)) := Lib.hid (HD.out.trans (by rw [dig_pos hu0, hu', hx, List.append_assoc]; rfl))
      clear hr2 h21 h22 hb2 hx hu' hu0 hrun
      go_wp2_with (at_builtin; refine wpList_app rfl _ _ _ _ rfl _ _ rfl rfl HR.out ?_)
      exact ⟨⟨u', B2, x :: out, N + 1, c2, by omega, rfl, rfl, by rw [List.length_cons, HN.out], ⟨HH.out, All8.cons hx2 HRb.out.2⟩, HC2.out.1, HC2.out.2, HDN.out, (HBel.out).trans ((HB2.out).mono (HBel.out).size)⟩, by simp [intOf]; omega⟩
end Go.Proofs.Ytgdjgahmnnjeeaa.Len
