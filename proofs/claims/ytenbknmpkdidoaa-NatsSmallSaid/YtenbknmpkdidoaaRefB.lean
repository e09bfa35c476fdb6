/-
  The reference of layer 1: contracts of Divide, Bytes.
  Conditions: numbers are short, and read as digits.
-/
import Derived.Test.YtenbknmpkdidoaaRefA
import Derived.Laws.AppendOwnNone
namespace Go.Proofs.Ytenbknmpkdidoaa
open Go.RowKit

theorem made_one (v : Value) (n : Nat) : madeCells #[v] n = (List.replicate n v).toArray := by
  unfold madeCells
  apply Array.ext
  · simp
  · intro i h1 h2
    simp [Nat.mod_one]
theorem make_ints (n : Nat) (hn : n ≤ 1000000) (W : World) : (Instr.makeSlice 43 (.int .i64 (n : Int)) (.int .i64 (n : Int))).run Try.prog W = .ok (.slice (some ⟨W.heap.size, 0, none⟩) n n) (W.alloc (.cells (csI (List.replicate n 0)).toArray 3)) := by
  obtain ⟨i, hi, hz0, hz1, hz2⟩ := info_parts info3
  have h := run_make (P := Try.prog) W 43 3 i (.int .i64 0) Try.underlying43 hi hz0 .i64 .i64 (n : Int) (n : Int) (by omega) (Int.le_refl _) (by rw [hz2]; omega) (by omega)
  rw [h, hz1, Int.toNat_natCast, Nat.mul_one]
  congr 3
  rw [show (Value.int IntKind.i64 0).cells = #[Value.int IntKind.i64 0] from rfl, made_one]
  unfold csI
  rw [List.map_replicate]
  rfl
/-- The value of the digits from a place on. -/
def hi (l : List Nat) (k : Nat) : Nat := vl 10 (l.drop k)
theorem hi_step {l : List Nat} {k : Nat} (hk : k < l.length) : hi l k = l[k] + 10 * hi l (k + 1) := by
  unfold hi
  rw [List.drop_eq_getElem_cons hk]; rfl
theorem hi_zero (l : List Nat) : hi l 0 = vl 10 l := rfl
theorem hi_end {l : List Nat} : hi l l.length = 0 := by unfold hi; rw [List.drop_eq_nil_of_le (Nat.le_refl _)]; rfl
theorem hi_set {l : List Nat} {k : Nat} (hk : k < l.length) (y : Nat) : hi (l.set k y) k = y + 10 * hi l (k + 1) := by
  rw [hi_step (by simpa using hk), List.getElem_set_self]
  unfold hi
  rw [List.drop_set_of_lt (by omega)]

/-- A number's digits and another number are returned; what was there has not turned. -/
def GiveIR (w : World) (l : List Nat) (r : Nat) (e : Ending) (w' : World) : Prop :=
  ∃ A c, e = .returned (.tuple #[.slice A l.length c, .int .i64 r]) ∧ Ri w' A l ∧ l.length ≤ c ∧ c ≤ maxLen ∧ Below w.heap.size w w'

theorem csI_set (l : List Nat) (n y : Nat) : (csI l).set n (int64 y) = csI (l.set n y) := by unfold csI; rw [List.map_set]
set_option maxHeartbeats 800000 in
theorem rdiv_any (A : Option Addr) (l : List Nat) (c y : Nat) (w : World) (hl : l.length ≤ 100000) (h : Ri w A l) (h10 : Lt 10 l) (hy : 0 < y) (hy2 : y < 4294967296) :
    Calls Try.prog 32 #[.slice A l.length c, .int .i64 y] w (GiveIR w (dgs 10 (vl 10 l / y)) (vl 10 l % y)) := by
  have hmk := make_ints l.length (by omega)
  obtain ⟨Z, hZ⟩ : ∃ Z, csI (List.replicate l.length 0) = Z := ⟨_, rfl⟩
  have HZ := Lib.hid hZ
  rw [hZ] at hmk
  clear hZ
  go_enter Try.func32, Try.ntmps32
  go_wp2_with fail
  go_loopw [7, 8] (fun r i wr => ∃ (k q : Nat) (ds : List Nat), k ≤ l.length ∧ q < y ∧ i = .int .i64 ((k : Int) - 1) ∧ r = .int .i64 q ∧ ds.length = l.length ∧ Lt 10 ds ∧ y * hi ds k + q = hi l k ∧
    Bk wr w.heap.size 3 (csI ds) ∧ Below w.heap.size w wr) (fun _ i _ => (intOf i + 1).toNat)
  case atStart =>
    exact ⟨l.length, 0, List.replicate l.length 0, Nat.le_refl _, hy, rfl, rfl, by simp, by intro x hx; simp at hx; omega,
      by rw [hi_end]; unfold hi; rw [List.drop_eq_nil_of_le (by simp)]; rfl, by rw [HZ.out]; exact Bk.new _ _ _, (Below.refl _ _).alloc (Nat.le_refl _) _⟩
  case round =>
    clear hmk
    obtain ⟨k, q, ds, hk, hq, rfl, rfl, hds, hd10, hv, hB, hbel⟩ := hrel
    have HV := Lib.hid hv
    have HD := Lib.hid hds
    have HB := Lib.hid hB
    have HBel := Lib.hid hbel
    clear hv hds hB hbel
    by_cases hk0 : k = 0
    · subst hk0
      have hr : Ri wr (some ⟨w.heap.size, 0, none⟩) ds := by have := HB.out.rd 0; simpa [Ri] using this
      have C2 := trim_any (some ⟨w.heap.size, 0, none⟩) ds l.length wr (by rw [HD.out]; exact Nat.le_refl _) (by unfold maxLen; omega) hr
      rw [HD.out] at C2
      have hv := HV.out
      rw [hi_zero, hi_zero] at hv
      have e1 : vl 10 l / y = vl 10 ds := by rw [← hv, Nat.add_comm, Nat.add_mul_div_left _ _ hy, Nat.div_eq_of_lt hq, Nat.zero_add]
      have e2 : vl 10 l % y = q := by rw [← hv, Nat.add_comm, Nat.add_mul_mod_self_left, Nat.mod_eq_of_lt hq]
      have et : trimL ds = dgs 10 (vl 10 l / y) := by rw [e1]; exact trimL_eq_of (by omega) hd10 rfl
      have hcm : (trimL ds).length ≤ l.length := by rw [← HD.out]; exact trimL_length ds
      have HC := Lib.hid C2
      have HE2 := Lib.hid e2
      have HET := Lib.hid et
      have HCM := Lib.hid hcm
      clear hr C2 hv e1 e2 et hcm
      go_wp2_with fail
      refine HC.out.mono ?_
      rintro e w' ⟨rfl, h', rfl⟩
      go_wp2_with fail
      go_ret2
      unfold GiveIR
      rw [HE2.out, ← HET.out]
      exact ⟨_, _, rfl, h', HCM.out, by unfold maxLen; omega, HBel.out⟩
    · obtain ⟨j, rfl⟩ : ∃ j, k = j + 1 := ⟨k - 1, by omega⟩
      have hjl : j < l.length := by omega
      obtain ⟨b, off, rfl, hb, hcell0⟩ := h.at_ hjl
      have hcell : wr.cell? ⟨b, off + j, none⟩ = some (.int .i64 (l[j] : Int)) := (HBel.out.cell hb).trans hcell0
      have hx := h10 _ (List.getElem_mem hjl)
      have hjd : j < ds.length := by rw [HD.out]; exact hjl
      have hc2 : wr.cell? ⟨w.heap.size, j, none⟩ = some (.int .i64 ((ds[j] : Nat) : Int)) := by rw [HB.out.cell, csI_get hjd]
      have hfree : wr.frozen? ⟨w.heap.size, j, none⟩ = false := HB.out.free _
      have HS := Lib.hid (hi_step hjl)
      have e1 : (((j + 1 : Nat) : Int) - 1) = (j : Int) := by omega
      rw [e1]
      have H := Lib.hid h
      clear h hcell0
      obtain ⟨x, hxe⟩ : ∃ x, l[j] = x := ⟨_, rfl⟩
      rw [hxe] at hcell hx HS
      generalize ds[j] = old at hc2
      clear hxe e1 hk0
      have hdiv : (10 * (q : Int) + x) / y < 10 := by
        apply Int.ediv_lt_of_lt_mul (by omega)
        have : (q + 1) * 10 ≤ y * 10 := Nat.mul_le_mul_right _ hq
        omega
      have hdiv0 : 0 ≤ (10 * (q : Int) + x) / y := Int.ediv_nonneg (by omega) (by omega)
      have hmod : (10 * (q : Int) + x) % y < y := Int.emod_lt_of_pos _ (by omega)
      have hmod0 : 0 ≤ (10 * (q : Int) + x) % y := Int.emod_nonneg _ (by omega)
      go_wp2_with fail
      refine ⟨⟨j, (10 * q + x) % y, ds.set j ((10 * q + x) / y), by omega, Nat.mod_lt _ hy, rfl, by go_num, by rw [List.length_set, HD.out], ?_, ?_, ?_, (HBel.out).setCell (Nat.le_refl _) _⟩, by simp [intOf]⟩
      · exact Lt.set hd10 (by
          apply Nat.div_lt_of_lt_mul
          have : (q + 1) * 10 ≤ y * 10 := Nat.mul_le_mul_right _ hq
          omega)
      · rw [hi_set hjd, HS.out, ← HV.out, Nat.mul_add, Nat.mul_add]
        have h2 := Nat.div_add_mod (10 * q + x) y
        have h3 : y * (10 * hi ds (j + 1)) = 10 * (y * hi ds (j + 1)) := Nat.mul_left_comm _ _ _
        omega
      · have hs := HB.out.store j (int64 ((10 * q + x) / y))
        rw [csI_set] at hs
        have e : (Value.int .i64 ((10 * (q : Int) + x) / y)) = int64 ((10 * q + x) / y) := by unfold int64; congr 1
        rw [e]
        exact hs

/-! Bytes. -/
/-- 'append(v, s...)' to what the call has built, whatever s is. -/
theorem app_src {P : Program} {t ty e : TypeId} {z : Value} {bytes : Nat} (ht : P.underlying t = some (.slice e)) (hinfo : (P.info? e).map (fun i => (i.zero, i.size, i.bytes)) = some (some z, 1, bytes)) (hz : z.cells.size = 1)
    {w : World} {base : Nat} {v : Value} {xs : List Value} (hown : w.ownsRow base e 1 v xs.length xs) {A : Option Addr} {ys : List Value} {c : Nat} (hy : Rd w A ys) (h1 : ∀ u ∈ ys, u.oneCell' = true) (hb : base ≤ w.heap.size)
    (hl : (xs.length + ys.length) * bytes ≤ 140737488355328) (hm : xs.length + ys.length ≤ maxLen) :
    ∃ v' w', (Builtin.append_ #[t, t] ty #[v, .slice A ys.length c]).run P w = .ok v' w' ∧ w'.ownsRow base e 1 v' (xs ++ ys).length (xs ++ ys) ∧ Below base w w' := by
  obtain ⟨i, hi, hz0, hz1, hz2⟩ := info_parts hinfo
  cases A with
  | some a =>
    obtain ⟨v', w', hrun, h2, h3, _⟩ := run_append_own (P := P) w base t ty e i z 1 bytes ht hi hz0 hz1 hz2 hz (by omega) v xs.length xs hown a ys.length c ys (by simp)
      (fun j u hu => by
        obtain ⟨b, off, e, _, hc⟩ := hy (by intro e; subst e; simp at hu)
        injection e with e
        subst e
        rw [addr_add]; exact hc j u hu) h1 hm hl hb
    exact ⟨v', w', hrun, by rw [List.length_append]; exact h2, (Below.refl base w).grown h3 hb (fun k hk => (hown.lt k hk).1)⟩
  | none =>
    have hnil : ys = [] := by
      cases ys with
      | nil => rfl
      | cons u m => obtain ⟨_, _, e, _⟩ := hy (by simp); cases e
    subst hnil
    refine ⟨v, w, ?_, by simpa using hown, Below.refl _ _⟩
    rcases hown.2 with ⟨rfl, h0⟩ | ⟨g, cap, cur, rfl, _, _, hnc, _⟩
    · simp [Builtin.append_, run_underlying ht, sizeOf, typeInfo, hi, Builtin.lenOf, Builtin.firstCells]
    · simp [Builtin.append_, run_underlying ht, sizeOf, typeInfo, hi, Builtin.lenOf, Builtin.firstCells, hnc, storeCells]
/-- A slice literal of one element. -/
theorem own_lit (w : World) (e : TypeId) (x : Value) : (w.alloc (.cells #[x] e)).ownsRow w.heap.size e 1 (.slice (some ⟨w.heap.size, 0, none⟩) 1 1) [x].length [x] :=
  ⟨rfl, .inr ⟨w.heap.size, 1, #[x], rfl, Nat.le_refl _, heap_alloc_new w _, Nat.le_refl _, by unfold maxLen; omega, rfl, rfl⟩⟩
theorem dig_le_dgs (v : Nat) : (dig v).length ≤ (dgs 10 v).length := (dig_length v _).2 (Nat.lt_of_lt_of_le ((dgs_length (b := 10) (by omega) v _).1 (Nat.le_refl _)) (Nat.pow_le_pow_left (by omega) _))
theorem dig_step {u : Nat} (h : u ≠ 0) : dig u = dig (u / 256) ++ [u % 256] := by unfold dig; rw [dgs_pos (by omega) h, List.reverse_cons]
theorem cs8_length (l : List Nat) : (cs8 l).length = l.length := by unfold cs8; rw [List.length_map]

/-- A slice is returned; what was there has not turned. -/
def GiveB (w : World) (l : List Nat) (e : Ending) (w' : World) : Prop :=
  ∃ A c, e = .returned (.slice A l.length c) ∧ Rb w' A l ∧ l.length ≤ c ∧ c ≤ maxLen ∧ Below w.heap.size w w'
set_option maxHeartbeats 800000 in
theorem bytes_any (A : Option Addr) (v c : Nat) (w : World) (hv : (dgs 10 v).length ≤ 1000) (h : Ri w A (dgs 10 v)) :
    Calls Try.prog 47 #[.slice A (dgs 10 v).length c] w (GiveB w (dig v)) := by
  have hdl : (dig v).length ≤ 1000 := Nat.le_trans (dig_le_dgs v) hv
  go_enter Try.func47, Try.ntmps47
  go_wp2_with fail
  go_loopw [0, 3] (fun d o wr => ∃ (u : Nat) (A' : Option Addr) (c' : Nat) (B' : Option Addr) (out : List Nat) (c'' : Nat), (dgs 10 u).length ≤ 1000 ∧ d = .slice A' (dgs 10 u).length c' ∧ Ri wr A' (dgs 10 u) ∧ o = .slice B' out.length c'' ∧ Rb wr B' out ∧ out.length ≤ c'' ∧ c'' ≤ maxLen ∧
    dig v = dig u ++ out ∧ Below w.heap.size w wr) (fun d _ _ => match d with | .slice _ n _ => n | _ => 0)
  case atStart => exact ⟨v, A, c, none, [], 0, hv, rfl, h, rfl, Rb.nil, Nat.le_refl _, by unfold maxLen; omega, by rw [List.append_nil], Below.refl _ _⟩
  case round =>
    obtain ⟨u, A', c', B', out, c'', hu, rfl, hr, rfl, hb, ho1, ho2, hd, hbel⟩ := hrel
    have hol : out.length ≤ 1000 := by
      have := congrArg List.length hd
      rw [List.length_append] at this
      omega
    have HR := Lib.hid hr
    have HU := Lib.hid hu
    have HRb := Lib.hid hb
    have HO := Lib.hid (And.intro ho1 ho2)
    have HD := Lib.hid hd
    have HBel := Lib.hid hbel
    clear hr hb ho1 ho2 hd hbel h hv hu
    by_cases hu0 : u = 0
    · subst hu0
      have HD2 : Hid (dig v = out) := HD.out.trans (by rw [dig_zero, List.nil_append])
      have e0 : (dgs 10 0).length = 0 := rfl
      rw [e0]
      clear e0
      go_wp2_with fail
      go_ret
      rw [HD2.out]
      exact ⟨B', c'', rfl, HRb.out, HO.out.1, HO.out.2, HBel.out⟩
    · have hpos : 0 < (dgs 10 u).length := by rw [dgs_pos (by omega) hu0]; simp
      have hlen := HU.out
      have C1 := rdiv_any A' (dgs 10 u) c' 256 wr (by omega) HR.out (dgs_lt (by omega) _) (by omega) (by omega)
      rw [vl_dgs (by omega)] at C1
      have HC1 := Lib.hid C1
      have hx : u % 256 < 256 := Nat.mod_lt _ (by omega)
      have HDS := Lib.hid (dig_step hu0)
      have HLT : Hid ((dgs 10 (u / 256)).length < (dgs 10 u).length) := by
        show _ < _
        rw [dgs_pos (v := u) (by omega) hu0, List.length_cons]
        have h1 := (dgs_length (b := 10) (by omega) (u / 256) (dgs 10 (u / 10)).length).2 (Nat.lt_of_le_of_lt (show u / 256 ≤ u / 10 from Nat.div_le_div_left (by omega) (by omega)) ((dgs_length (b := 10) (by omega) (u / 10) _).1 (Nat.le_refl _)))
        omega
      have HU2 : Hid ((dgs 10 (u / 256)).length ≤ 1000) := Nat.le_trans (Nat.le_of_lt HLT.out) HU.out
      clear HU
      generalize dgs 10 u = P at hpos HC1 HR hlen HLT
      obtain ⟨x, hxe⟩ : ∃ x, u % 256 = x := ⟨_, rfl⟩
      rw [hxe] at HC1 hx HDS
      clear C1 hxe hu0
      go_wp2_with fail
      refine HC1.out.mono ?_
      rintro e w1 ⟨A1, c1, rfl, h1, hc1, hc1', hb1⟩
      have HH := Lib.hid h1
      have HBB := Lib.hid hb1
      have hb2 : Below w1.heap.size w1 (w1.alloc (.cells #[.int .u8 (x : Int)] 5)) := (Below.refl _ _).alloc (Nat.le_refl _) _
      obtain ⟨v', w2, hrun, hown2, hb3⟩ := app_src (P := Try.prog) (ty := 22) Try.underlying22 info5 rfl (own_lit w1 5 (.int .u8 (x : Int))) (c := c'') (((HRb.out.below hb1).below hb2).1) (by intro u hu; obtain ⟨n, _, rfl⟩ := List.mem_map.1 hu; rfl) (by simp) (by rw [cs8_length, List.length_singleton]; omega) (by rw [cs8_length, List.length_singleton]; unfold maxLen; omega)
      rw [cs8_length] at hrun
      have HOwn2 := Lib.hid hown2
      have HB3 := Lib.hid (hb2.trans hb3)
      clear h1 hc1 hc1' hb1 hb2 hown2 hb3
      go_wp2_with (at_builtin; refine wpList_app rfl _ _ _ _ rfl _ _ rfl rfl hrun ?_)
      obtain ⟨B2, c2, rfl, hr2, hc2, hc3⟩ := own_open HOwn2.out
      have e1 : [Value.int .u8 (x : Int)] ++ cs8 out = cs8 (x :: out) := rfl
      rw [e1] at hr2 hc2
      rw [e1, cs8_length]
      rw [cs8_length] at hc2
      refine ⟨⟨u / 256, A1, c1, B2, x :: out, c2, HU2.out, rfl, HH.out.below HB3.out, rfl, ⟨hr2, All8.cons hx HRb.out.2⟩, hc2, hc3, ?_, ((HBel.out).trans ((HBB.out).mono (HBel.out).size)).trans ((HB3.out).mono (Nat.le_trans (HBel.out).size (HBB.out).size))⟩, ?_⟩
      · rw [HD.out, HDS.out, List.append_assoc]; rfl
      · exact HLT.out
end Go.Proofs.Ytenbknmpkdidoaa
