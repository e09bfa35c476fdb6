/-
  The reference of layer 8: contracts of Bits, Bytes, Put; of the statements' L.Of.
  Conditions: slices read as bytes or as bits, and are short.
-/
import Derived.Test.YtnebjdgolbnkfaaBitH
import Derived.Laws.AppendOwnNone
namespace Go.Proofs.Ytnebjdgolbnkfaa.Bit
open Go.RowKit

/-- 'append(v, s...)' to what the call has built, whatever s is. -/
theorem app_src {P : Program} {t ty e : TypeId} {z : Value} {bytes : Nat} (ht : P.underlying t = some (.slice e)) (hinfo : (P.info? e).map (fun i => (i.zero, i.size, i.bytes)) = some (some z, 1, bytes)) (hz : z.cells.size = 1)
    {w : World} {base : Nat} {v : Value} {xs : List Value} (hown : w.ownsRow base e 1 v xs.length xs) {A : Option Addr} {ys : List Value} {c : Nat} (hy : Rd w A ys) (h1 : ∀ u ∈ ys, u.oneCell' = true) (hb : base ≤ w.heap.size)
    (hl : (xs.length + ys.length) * bytes ≤ 140737488355328) (hm : xs.length + ys.length ≤ maxLen) :
    ∃ v' w', (Builtin.append_ #[t, t] ty #[v, .slice A ys.length c]).run P w = .ok v' w' ∧ w'.ownsRow base e 1 v' (xs ++ ys).length (xs ++ ys) ∧ Below base w w' := by
  obtain ⟨i, hi, hz0, hz1, hz2⟩ := info_parts hinfo
  cases A with
  | some a =>
    obtain ⟨v', w', hrun, h2, h3, _⟩ := run_append_own (P := P) w base t ty e i z 1 bytes ht hi hz0 hz1 hz2 hz (by omega) v xs.length xs hown a ys.length c ys (by simp)
      (fun j u hu => by
        obtain ⟨b, off, e, _, hc⟩ := hy (by intro e; subst e; simp at hu)
        injection e with e
        subst e
        rw [addr_add]; exact hc j u hu) h1 hm hl hb
    exact ⟨v', w', hrun, by rw [List.length_append]; exact h2, (Below.refl base w).grown h3 hb (fun k hk => (hown.lt k hk).1)⟩
  | none =>
    have hnil : ys = [] := by
      cases ys with
      | nil => rfl
      | cons u m => obtain ⟨_, _, e, _⟩ := hy (by simp); cases e
    subst hnil
    refine ⟨v, w, ?_, by simpa using hown, Below.refl _ _⟩
    rcases hown.2 with ⟨rfl, h0⟩ | ⟨g, cap, cur, rfl, _, _, hnc, _⟩
    · simp [Builtin.append_, run_underlying ht, sizeOf, typeInfo, hi, Builtin.lenOf, Builtin.firstCells]
    · simp [Builtin.append_, run_underlying ht, sizeOf, typeInfo, hi, Builtin.lenOf, Builtin.firstCells, hnc, storeCells]
/-- A slice literal of one element. -/
theorem own_lit (w : World) (e : TypeId) (x : Value) : (w.alloc (.cells #[x] e)).ownsRow w.heap.size e 1 (.slice (some ⟨w.heap.size, 0, none⟩) 1 1) [x].length [x] :=
  ⟨rfl, .inr ⟨w.heap.size, 1, #[x], rfl, Nat.le_refl _, heap_alloc_new w _, Nat.le_refl _, by unfold maxLen; omega, rfl, rfl⟩⟩
/-- The walk's step at the builtin append, by what it runs to. -/
theorem wpList_app {P : Program} {w : World} {ops : Array Oper} {rest : List Oper} {o : Oper} {a : Act} {Q : Exit → Act → World → Prop} (hgd : o.guard = none) (s x : Operand) (t1 t2 : TypeId)
    (ho : o.op = .call { callee := .builtin .append, args := #[s, x], argTypes := #[t1, t2] }) (u v : Value) (hs : a.eval s = u) (hx : a.eval x = v) {r : Value} {w1 : World}
    (hrun : (Builtin.append_ #[t1, t2] o.type #[u, v]).run P w = .ok r w1) (h : wpList P ops Q rest (a.put o.dst r) w1) : wpList P ops Q (o :: rest) a w := by
  refine wpList_plain hgd fun K hK => ?_
  have hK' := hK _ _ h
  unfold Oper.wp execOp
  simp only [ho, resolve, invoke, builtin, Sem.run_bind, Sem.run_pure, Result.andThen_ok, List.map_toArray, List.map_cons, List.map_nil, hs, hx, hrun]
  exact hK'
theorem info3 : (Try.prog.info? 3).map (fun i => (i.zero, i.size, i.bytes)) = some (some (.int .i64 0), 1, 8) := by kernel_rfl
/-- 'append(v, x)' of one int to what the call has built. -/
theorem appI {w : World} {base : Nat} {v : Value} {l : List Nat} (hown : w.ownsRow base 3 1 v l.length (csI l)) (x : Nat) (hb : base ≤ w.heap.size) (hl : l.length ≤ 1000000) :
    ∃ v' w', (Builtin.append_ #[25, 25] 25 #[v, .slice (some ⟨w.heap.size, 0, none⟩) 1 1]).run Try.prog (w.alloc (.cells #[.int .i64 (x : Int)] 3)) = .ok v' w' ∧ w'.ownsRow base 3 1 v' (l ++ [x]).length (csI (l ++ [x])) ∧ Below base w w' := by
  rw [← csI_length] at hown
  obtain ⟨v', w', h1, h2, h3⟩ := app_one (P := Try.prog) (ty := 25) Try.underlying25 info3 rfl hown (.int .i64 (x : Int)) rfl hb (by rw [csI_length]; omega) (by rw [csI_length]; unfold maxLen; omega)
  refine ⟨v', w', h1, ?_, h3⟩
  rw [csI_snoc, csI_length] at h2
  exact h2
theorem cs8_snoc (l : List Nat) (x : Nat) : cs8 l ++ [.int .u8 (x : Int)] = cs8 (l ++ [x]) := by unfold cs8; rw [List.map_append]; rfl
/-- 'append(v, x)' of one byte to what the call has built. -/
theorem appB {w : World} {base : Nat} {v : Value} {l : List Nat} (hown : w.ownsRow base 5 1 v l.length (cs8 l)) (x : Nat) (hb : base ≤ w.heap.size) (hl : l.length ≤ 1000000) :
    ∃ v' w', (Builtin.append_ #[22, 22] 22 #[v, .slice (some ⟨w.heap.size, 0, none⟩) 1 1]).run Try.prog (w.alloc (.cells #[.int .u8 (x : Int)] 5)) = .ok v' w' ∧ w'.ownsRow base 5 1 v' (l ++ [x]).length (cs8 (l ++ [x])) ∧ Below base w w' := by
  rw [← cs8_length] at hown
  obtain ⟨v', w', h1, h2, h3⟩ := app_one (P := Try.prog) (ty := 22) Try.underlying22 info5 rfl hown (.int .u8 (x : Int)) rfl hb (by rw [cs8_length]; omega) (by rw [cs8_length]; unfold maxLen; omega)
  refine ⟨v', w', h1, ?_, h3⟩
  rw [cs8_snoc, cs8_length] at h2
  exact h2
/-- A slice of bits is returned; a slice of bytes is returned. -/
def GiveL (w : World) (l : List Nat) (e : Ending) (w' : World) : Prop :=
  ∃ A n c, l.length = n ∧ e = .returned (.slice A n c) ∧ Ri w' A l ∧ n ≤ c ∧ c ≤ maxLen ∧ Below w.heap.size w w'
def GiveB (w : World) (l : List Nat) (e : Ending) (w' : World) : Prop :=
  ∃ A n c, l.length = n ∧ e = .returned (.slice A n c) ∧ Rb w' A l ∧ n ≤ c ∧ c ≤ maxLen ∧ Below w.heap.size w w'
theorem bts_take {b : List Nat} {i : Nat} (h : i < 8 * b.length) : (bts b).take (i + 1) = (bts b).take i ++ [bt1 b i] := by
  have hl : i < (bts b).length := by rw [bts_length]; exact h
  rw [List.take_succ_eq_append_getElem hl]
  have := bts_get h
  rw [List.getElem?_eq_getElem hl] at this
  rw [Option.some.inj this]
theorem byt_take {l : List Nat} {j : Nat} (h : j < (l.length + 7) / 8) : (byt l).take (j + 1) = (byt l).take j ++ [vP l (8 * j) 8] := by
  have hl : j < (byt l).length := by rw [byt_length]; exact h
  rw [List.take_succ_eq_append_getElem hl]
  have := byt_get h
  rw [List.getElem?_eq_getElem hl] at this
  rw [Option.some.inj this]
theorem pow_half {m : Nat} (h : m < 8) : 128 / 2 ^ m = 2 ^ (7 - m) ∧ 128 / 2 ^ (m + 1) = 128 / 2 ^ m / 2 := by
  refine ⟨?_, by rw [Nat.pow_succ, Nat.div_div_eq_div_mul]⟩
  have : ∀ i : Fin 8, 128 / 2 ^ i.val = 2 ^ (7 - i.val) := by decide
  exact this ⟨m, h⟩

set_option maxHeartbeats 1000000 in
set_option maxRecDepth 100000 in
theorem rbits_any (A : Option Addr) (l : List Nat) (N c : Nat) (w : World) (h : Rb w A l) (hN : l.length = N) (hm : N ≤ 1000) :
    Calls Try.prog 34 #[.slice A N c] w (GiveL w (bts l)) := by
  have H := Lib.hid h
  have HN := Lib.hid hN
  clear h hN
  go_enter Try.func34, Try.ntmps34
  go_wp2_with fail
  go_loopw [3, 4] (fun v i wr => ∃ k : Nat, k ≤ N ∧ i = .int .i64 (k : Int) ∧ wr.ownsRow w.heap.size 3 1 v ((bts l).take (8 * k)).length (csI ((bts l).take (8 * k))) ∧ Below w.heap.size w wr) (fun _ i _ => N - (intOf i).toNat)
  case atStart => exact ⟨0, Nat.zero_le _, rfl, World.ownsRow_nil _ _ _ _, Below.refl _ _⟩
  case round =>
    obtain ⟨k, hk, rfl, hown, hbel⟩ := hrel
    have HOwn := Lib.hid hown
    have HBel := Lib.hid hbel
    clear hown hbel
    by_cases hlt : k < N
    · obtain ⟨b, off, rfl, hb, hx, hcell0⟩ := H.out.at_ (k := k) (by rw [HN.out]; exact hlt)
      have HBT := Lib.hid (show ∀ m, m < 8 → bt1 l (8 * k + m) = l[k]'(by rw [HN.out]; exact hlt) / 2 ^ (7 - m) % 2 from fun m hm => by
        unfold bt1
        rw [show (8 * k + m) / 8 = k from by omega, show (8 * k + m) % 8 = m from by omega, List.getD_eq_getElem?_getD, List.getElem?_eq_getElem (by rw [HN.out]; exact hlt)]; rfl)
      generalize l[k]'(by rw [HN.out]; exact hlt) = x at *
      have HC0 := Lib.hid hcell0
      clear hcell0
      go_wp2_with fail
      go_loopw [3, 5] (fun v i wr => ∃ m : Nat, m ≤ 8 ∧ i = .int .i64 ((128 / 2 ^ m : Nat) : Int) ∧ wr.ownsRow w.heap.size 3 1 v ((bts l).take (8 * k + m)).length (csI ((bts l).take (8 * k + m))) ∧ Below w.heap.size w wr) (fun _ i _ => (intOf i).toNat)
      case atStart => exact ⟨0, Nat.zero_le _, rfl, HOwn.out, HBel.out⟩
      case round =>
        clear HOwn HBel
        obtain ⟨m, hm8, rfl, hown, hbel⟩ := hrel
        by_cases hml : m < 8
        · obtain ⟨p1, p2⟩ := pow_half hml
          have hbt := HBT.out m hml
          have hcell := (hbel.cell (p := ⟨b, off + k, none⟩) hb).trans HC0.out
          have hl3 : ((bts l).take (8 * k + m)).length ≤ 1000000 := by rw [List.length_take, bts_length, HN.out]; omega
          obtain ⟨v', w1, hrun, hown1, hb1⟩ := appI hown (bt1 l (8 * k + m)) hbel.size hl3
          rw [← bts_take (by rw [HN.out]; omega)] at hown1
          have hK0 : 0 < 128 / 2 ^ m := by rw [p1]; exact Nat.pow_pos (by omega)
          have hK1 : 128 / 2 ^ m ≤ 128 := Nat.div_le_self _ _
          have hy : ((bt1 l (8 * k + m) : Nat) : Int) = ((x : Nat) : Int) / ((128 / 2 ^ m : Nat) : Int) % 2 := by rw [hbt, p1]; omega
          rw [hy] at hrun
          have HP := Lib.hid p2
          generalize 128 / 2 ^ m = K at *
          have hKi : (0 : Int) < (K : Int) := by omega
          have hq0 : 0 ≤ (x : Int) / (K : Int) := Int.ediv_nonneg (by omega) (by omega)
          have hq1 : (x : Int) / (K : Int) ≤ 255 := by
            have := Int.ediv_le_self (a := (x : Int)) (K : Int) (by omega)
            omega
          have HOwn1 := Lib.hid hown1
          have HB1 := Lib.hid (hbel.trans (hb1.mono (Nat.le_refl _)))
          clear hown hbel p1 p2 hbt hown1 hb1 hy hl3
          go_wp2_with (at_builtin; refine wpList_app rfl _ _ _ _ rfl _ _ rfl rfl hrun ?_)
          exact ⟨⟨m + 1, by omega, by rw [HP.out]; go_num, HOwn1.out, HB1.out⟩, by simp [intOf]; omega⟩
        · obtain rfl : m = 8 := by omega
          have HOwn := Lib.hid hown
          have HBel := Lib.hid hbel
          clear hown hbel
          rw [show ((128 / 2 ^ 8 : Nat) : Int) = 0 from rfl]
          go_wp2_with fail
          exact ⟨⟨k + 1, by omega, by go_num, HOwn.out, HBel.out⟩, by simp [intOf]; omega⟩
    · obtain rfl : k = N := by omega
      have e : (bts l).take (8 * k) = bts l := List.take_of_length_le (by rw [bts_length, HN.out]; omega)
      rw [e] at HOwn
      obtain ⟨A', c', hv', hr', hc1, hc2⟩ := own_open (by rw [csI_length]; exact HOwn.out)
      rw [csI_length] at hv' hc1
      have HR := Lib.hid (show Ri wr A' (bts l) from hr')
      have HC := Lib.hid (And.intro hc1 hc2)
      have HV := Lib.hid hv'
      clear hv' hr' hc1 hc2 e HOwn hlt
      obtain ⟨n, hn⟩ : ∃ n, (bts l).length = n := ⟨_, rfl⟩
      rw [hn] at HV HC
      have HNn := Lib.hid hn
      clear hn
      obtain rfl := HV.out
      go_wp2_with fail
      go_ret
      exact ⟨A', n, c', HNn.out, rfl, HR.out, HC.out.1, HC.out.2, HBel.out⟩
end Go.Proofs.Ytnebjdgolbnkfaa.Bit
