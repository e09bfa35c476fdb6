/-
  The reference of layers 1 and 6: contracts of Small, Text (of a number), and layer 6's Text.
  Conditions: the OID's cells are in their kinds.
-/
import Derived.Test.YtmofpdilnapjiaaDoorOidN
import Derived.Deep.RegionHeld3
import Derived.StillTailTactics
namespace Go.Proofs.YtmofpdilnapjiaaDoor
open Go.RowKit

theorem info3 : (Tryd.prog.info? 3).map (fun i => (i.zero, i.size, i.bytes)) = some (some (.int .i64 0), 1, 8) := by kernel_rfl
theorem dgs10_le {v k : Nat} (h : v < 10 ^ k) : (dgs 10 v).length ≤ k := (dgs_length (by omega) v k).2 h
theorem appI {w : World} {base : Nat} {v : Value} {l : List Nat} (hown : w.ownsRow base 3 1 v l.length (csI l)) (x : Nat) (hb : base ≤ w.heap.size) (hl : l.length ≤ 1000000) :
    ∃ v' w', (Builtin.append_ #[67, 67] 67 #[v, .slice (some ⟨w.heap.size, 0, none⟩) 1 1]).run Tryd.prog (w.alloc (.cells #[.int .i64 (x : Int)] 3)) = .ok v' w' ∧ w'.ownsRow base 3 1 v' (l ++ [x]).length (csI (l ++ [x])) ∧ Below base w w' := by
  rw [← csI_length] at hown
  obtain ⟨v', w', h1, h2, h3⟩ := app_one (P := Tryd.prog) (ty := 67) Tryd.underlying67 info3 rfl hown (.int .i64 (x : Int)) rfl hb (by rw [csI_length]; omega) (by rw [csI_length]; unfold maxLen; omega)
  refine ⟨v', w', h1, ?_, h3⟩
  rw [csI_snoc, csI_length] at h2
  exact h2

set_option maxHeartbeats 800000 in
set_option maxRecDepth 100000 in
theorem small_any (n : Nat) (w : World) (hn : n < 9223372036854775808) : Calls Tryd.prog 38 #[.int .i64 n] w (GiveI w (dgs 10 n)) := by
  have hlen0 := dgs10_le (v := n) (k := 19) (by omega)
  go_enter Tryd.func38, Tryd.ntmps38
  go_wp2_with fail
  go_loopw [0, 3] (fun r v wr => ∃ (q : Nat) (o : List Nat), q < 9223372036854775808 ∧ r = .int .i64 q ∧ dgs 10 n = o ++ dgs 10 q ∧ wr.ownsRow w.heap.size 3 1 v o.length (csI o) ∧ Below w.heap.size w wr) (fun r _ _ => (intOf r).toNat)
  case atStart => exact ⟨n, [], hn, rfl, rfl, World.ownsRow_nil _ _ _ _, Below.refl _ _⟩
  case round =>
    obtain ⟨q, o, hq, rfl, hd, hown, hbel⟩ := hrel
    have hol : o.length ≤ 19 := by
      have := congrArg List.length hd
      rw [List.length_append] at this
      omega
    have HD := Lib.hid hd
    have HBel := Lib.hid hbel
    have HOwn := Lib.hid hown
    clear hd hbel hown
    by_cases hq0 : q = 0
    · subst hq0
      obtain ⟨A', c', hv', hr', hc1, hc2⟩ := own_open (by rw [csI_length]; exact HOwn.out)
      rw [csI_length] at hc1 hv'
      subst hv'
      have HR := Lib.hid (show Ri wr A' o from hr')
      have HC := Lib.hid (And.intro hc1 hc2)
      have HD2 : Hid (dgs 10 n = o) := HD.out.trans (by rw [dgs_zero, List.append_nil])
      clear hr' hc1 hc2
      go_wp2_with fail
      go_ret
      rw [HD2.out]
      exact ⟨A', c', rfl, HR.out, HC.out.1, HC.out.2, HBel.out⟩
    · have hqpos : 0 < q := by omega
      obtain ⟨v', w1, hrun, hown1, hb1⟩ := appI HOwn.out (q % 10) HBel.out.size (by omega)
      have hy : ((q % 10 : Nat) : Int) = (q : Int) % 10 := by omega
      rw [hy] at hrun
      have HOwn1 := Lib.hid hown1
      have HB1 := Lib.hid hb1
      have HD2 := Lib.hid (HD.out.trans (by rw [dgs_pos (by omega) hq0] : o ++ dgs 10 q = o ++ (q % 10 :: dgs 10 (q / 10))))
      clear hown1 hb1 hy hq0
      go_wp2_with (at_builtin; refine wpList_app rfl _ _ _ _ rfl _ _ rfl rfl hrun ?_)
      exact ⟨⟨q / 10, o ++ [q % 10], by omega, by go_num, by rw [HD2.out, List.append_assoc]; rfl, HOwn1.out, (HBel.out).trans ((HB1.out).mono (Nat.le_refl _))⟩, by simp [intOf]; omega⟩

/-- The k-th digit's character. -/
theorem dslice (x : Nat) (hx : x < 10) (W : World) : (Instr.slice 9 (.string ⟨#[48, 49, 50, 51, 52, 53, 54, 55, 56, 57]⟩) (some (.int .i64 (x : Int))) (some (.int .i64 ((x : Int) + 1))) none).run Tryd.prog W = .ok (.string (bstr [48 + x])) W := by
  rcases x with _ | _ | _ | _ | _ | _ | _ | _ | _ | _ | x
  all_goals first | omega | kernel_rfl
theorem dslice' (x : Nat) (hx : x < 10) (W : World) : (Instr.sliceAt 9 (.string ⟨#[48, 49, 50, 51, 52, 53, 54, 55, 56, 57]⟩) (some (.int .i64 (x : Int))) (some (.int .i64 ((x : Int) + 1))) none).run Tryd.prog W = .ok (.string (bstr [48 + x])) W := by
  rcases x with _ | _ | _ | _ | _ | _ | _ | _ | _ | _ | x
  all_goals first | omega | kernel_rfl
set_option maxHeartbeats 800000 in
set_option maxRecDepth 100000 in
theorem rtext_any (A : Option Addr) (v c : Nat) (w : World) (hv : (dgs 10 v).length ≤ 1000) (h : Ri w A (dgs 10 v)) :
    Calls Tryd.prog 39 #[.slice A (dgs 10 v).length c] w fun e w' => e = .returned (.string (bstr (textL v))) ∧ Below w.heap.size w w' := by
  by_cases hv0 : v = 0
  · subst hv0
    have e0 : (dgs 10 0).length = 0 := rfl
    rw [e0]
    clear h hv
    go_enter Tryd.func39, Tryd.ntmps39
    go_wp2_with fail
    go_ret
    exact ⟨rfl, Below.refl _ _⟩
  · have HT := Lib.hid (show textL v = (dgs 10 v).reverse.map (48 + ·) from if_neg hv0)
    have h10 := dgs_lt (b := 10) (by omega) v
    have hpos : 0 < (dgs 10 v).length := by rw [dgs_pos (by omega) hv0]; simp
    generalize dgs 10 v = l at *
    have hb0 : ((l.length : Int) == 0) = false := by rw [beq_eq_false_iff_ne]; omega
    clear hv0
    go_enter Tryd.func39, Tryd.ntmps39
    go_wp2_with fail
    go_loopw [3, 4] (fun s i wr => ∃ k : Nat, k ≤ l.length ∧ i = .int .i64 ((k : Int) - 1) ∧ s = .string (bstr ((l.drop k).reverse.map (48 + ·))) ∧ Below w.heap.size w wr) (fun _ i _ => (intOf i + 1).toNat)
    case atStart => exact ⟨l.length, Nat.le_refl _, rfl, by rw [List.drop_eq_nil_of_le (Nat.le_refl _)]; rfl, Below.refl _ _⟩
    case round =>
      obtain ⟨k, hk, rfl, rfl, hbel⟩ := hrel
      have HBel := Lib.hid hbel
      clear hbel
      by_cases hk0 : k = 0
      · subst hk0
        rw [List.drop_zero]
        go_wp2_with fail
        go_ret
        exact ⟨by rw [HT.out]; rfl, HBel.out⟩
      · obtain ⟨j, rfl⟩ : ∃ j, k = j + 1 := ⟨k - 1, by omega⟩
        have hjl : j < l.length := by omega
        obtain ⟨b, off, rfl, hb, hcell0⟩ := h.at_ hjl
        have hcell : wr.cell? ⟨b, off + j, none⟩ = some (.int .i64 (l[j] : Int)) := (HBel.out.cell hb).trans hcell0
        have hx := h10 _ (List.getElem_mem hjl)
        have HDr := Lib.hid (List.drop_eq_getElem_cons hjl)
        have e1 : (((j + 1 : Nat) : Int) - 1) = (j : Int) := by omega
        rw [e1]
        have H := Lib.hid h
        generalize l[j] = x at hcell hx HDr
        obtain ⟨S, hS⟩ : ∃ S, List.map (48 + ·) (List.drop (j + 1) l).reverse = S := ⟨_, rfl⟩
        have hSl : S.length ≤ 1000 := by rw [← hS]; simp; omega
        rw [hS]
        have HSe := Lib.hid hS
        clear hS
        have hsz : ¬ 9223372036854775807 < (bstr S).size + (bstr [48 + x]).size := by rw [bstr_size, bstr_size]; simp; omega
        have q1 : IntKind.i64.wrap ((x : Int) + 1) = (x : Int) + 1 := IntWalk.i64_in _ (by omega)
        have q2 := dslice x hx
        have q3 := dslice' x hx
        clear hcell0 e1 hk0 h
        go_wp2_with fail
        refine wp_region_still_tail 12 (by kernel_rfl) (by kernel_rfl) ?_
        simp only [List.take_succ_cons, List.take_zero, List.drop_succ_cons, List.drop_zero]
        repeat still_step
        refine wpStill_nil ?_
        change wpList _ _ _ _ _ wr.drew
        clear q1 q2 q3
        go_wp2_with fail
        refine ⟨⟨j, by omega, rfl, ?_, HBel.out.drew⟩, by simp [intOf]⟩
        rw [HDr.out, List.reverse_cons, List.map_append, HSe.out]
        exact congrArg Value.string (bstr_app S [48 + x])

set_option maxRecDepth 100000 in
set_option maxHeartbeats 2000000 in
theorem rtextO_any (n : Nat) (l : List Nat) (w : World) (ho : OkO n l) : Calls Tryd.prog 24 #[oV n l] w (GiveT w (txO n l)) := by
  have S := Lib.hid (Bk.new w 25 (oc n l))
  have B0 := Lib.hid (bel1 w (.cells (oc n l).toArray 25))
  have HO := Lib.hid ho
  have HL := Lib.hid ho.len
  have h32 := ho.a32
  clear ho
  go_enter Tryd.func24, Tryd.ntmps24
  go_upto_region 1 with fail
  generalize w.alloc (.cells (oc n l).toArray 25) = w1 at *
  rcases chkO_01 n l with hc | hc
  · have HT : Hid (txO n l = dot (l.take n)) := Lib.hid (if_pos hc)
    have hn := chkO_n hc
    have HC := Lib.hid hc
    have H32 := Lib.hid h32
    clear hc h32
    go_wp2_with (refine wpList_load25 rfl (.tmp 1) rfl rfl S.out HL.out ?_)
    refine (rcheck_any n l _ HO.out).mono ?_
    rw [HC.out]
    rintro e w2 ⟨rfl, hb⟩
    have B2 := bt B0 (Lib.hid hb)
    have S2 := kt S (Lib.hid hb)
    clear hb S B0
    go_wp2
    go_loopw [3, 4] (fun v i wr => ∃ j : Nat, j ≤ n ∧ i = .int .i64 (j : Int) ∧ v = .string (bstr (dot (l.take j))) ∧ Bk wr w.heap.size 25 (oc n l) ∧ Below w.heap.size w wr) (fun _ i _ => n - (intOf i).toNat)
    case atStart => exact ⟨0, Nat.zero_le _, rfl, rfl, S2.out, B2.out⟩
    case round =>
      obtain ⟨j, hj, rfl, rfl, hbk, hbel⟩ := hrel
      have HBK := Lib.hid hbk
      have HBEL := Lib.hid hbel
      have hlen := HL.out
      have cn := oid_n hbk
      rcases Nat.lt_or_ge j n with hjn | hjn
      · have hjl : j < l.length := by omega
        have hc := oid_a' hbk (i := j) hjl
        have hx32 := H32.out _ (List.getElem_mem hjl)
        have hts := List.take_succ_eq_append_getElem hjl
        generalize l[j] = x at *
        have HTS := Lib.hid hts
        have hdl := dot_len (l := l.take j) (fun y hy => H32.out y (List.mem_of_mem_take hy))
        rw [List.length_take] at hdl
        have hjl16 : j < 16 := by omega
        have hdl2 : (dot (l.take j)).length ≤ 400 := by omega
        have htl := textL_le (u := x) (by omega)
        by_cases hj0 : j = 0
        · subst hj0
          have hds : Hid (dot (l.take (0 + 1)) = dot (l.take 0) ++ textL x) := Lib.hid (by rw [HTS.out, List.take_zero]; exact dot_one x)
          generalize dot (l.take 0) = D at *
          have hsz : ¬ 9223372036854775807 < (bstr D).size + (bstr (textL x)).size := by rw [bstr_size, bstr_size]; omega
          clear hts hbk hbel hdl hlen
          rw [show ((0 : Nat) : Int) = 0 from rfl]
          go_wp2_with fail
          refine (small_any x _ (by omega)).mono ?_
          rintro e w3 ⟨A, c, rfl, hr, _, _, hb3⟩
          have HR := Lib.hid hr
          have HB3 := Lib.hid hb3
          clear hr hb3
          go_wp2_with fail
          refine (rtext_any A x c _ (by have := dgs10_le (v := x) (k := 10) (by omega); omega) HR.out).mono ?_
          rintro e w4 ⟨rfl, hb4⟩
          have HBK4 := Lib.hid ((HBK.out.below HB3.out HBK.out.lt).below hb4 (Nat.lt_of_lt_of_le HBK.out.lt HB3.out.size))
          have HBEL4 := Lib.hid ((HBEL.out.trans (HB3.out.mono HBEL.out.size)).trans (hb4.mono (Nat.le_trans HBEL.out.size HB3.out.size)))
          clear hb4 cn
          generalize textL x = tx at *
          go_wp2
          exact ⟨⟨1, by omega, rfl, by rw [show (1 : Nat) = 0 + 1 from rfl, hds.out, ← bstr_app], HBK4.out, HBEL4.out⟩, by simp [intOf]; omega⟩
        · have hne : l.take j ≠ [] := fun e => by
            have := congrArg List.length e
            rw [List.length_take, List.length_nil] at this
            omega
          have hds : Hid (dot (l.take (j + 1)) = (dot (l.take j) ++ [46]) ++ textL x) := Lib.hid (by rw [HTS.out, dot_snoc hne])
          have hjp : 0 < j := by omega
          generalize dot (l.take j) = D at *
          have hsz0 : ¬ 9223372036854775807 < (bstr D).size + 1 := by rw [bstr_size]; omega
          have hsz : ¬ 9223372036854775807 < (bstr D).size + 1 + (bstr (textL x)).size := by rw [bstr_size, bstr_size]; omega
          clear hts hbk hbel hdl hlen hj0 hne
          go_wp2_with fail
          refine (small_any x _ (by omega)).mono ?_
          rintro e w3 ⟨A, c, rfl, hr, _, _, hb3⟩
          have HR := Lib.hid hr
          have HB3 := Lib.hid hb3
          clear hr hb3
          go_wp2_with fail
          refine (rtext_any A x c _ (by have := dgs10_le (v := x) (k := 10) (by omega); omega) HR.out).mono ?_
          rintro e w4 ⟨rfl, hb4⟩
          have HBK4 := Lib.hid ((HBK.out.below HB3.out HBK.out.lt).below hb4 (Nat.lt_of_lt_of_le HBK.out.lt HB3.out.size))
          have HBEL4 := Lib.hid ((HBEL.out.trans (HB3.out.mono HBEL.out.size)).trans (hb4.mono (Nat.le_trans HBEL.out.size HB3.out.size)))
          clear hb4 cn
          generalize textL x = tx at *
          go_wp2
          exact ⟨⟨j + 1, by omega, by go_num, by rw [hds.out, ← bstr_app, ← bstr_app]; rfl, HBK4.out, HBEL4.out⟩, by simp [intOf]; omega⟩
      · obtain rfl : j = n := by omega
        clear hbk hbel
        go_wp2
        go_ret
        rw [HT.out]
        exact ⟨rfl, HBEL.out⟩
  · have HT : Hid (txO n l = [63]) := Lib.hid (if_neg (by rw [hc]; decide))
    have HC := Lib.hid hc
    clear hc h32
    go_wp2_with (refine wpList_load25 rfl (.tmp 1) rfl rfl S.out HL.out ?_)
    refine (rcheck_any n l _ HO.out).mono ?_
    rw [HC.out]
    rintro e w2 ⟨rfl, hb⟩
    have B2 := bt B0 (Lib.hid hb)
    clear hb
    go_wp2
    go_ret
    rw [HT.out]
    exact ⟨rfl, B2.out⟩
end Go.Proofs.YtmofpdilnapjiaaDoor
