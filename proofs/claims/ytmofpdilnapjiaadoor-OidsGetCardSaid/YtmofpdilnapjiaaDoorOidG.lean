/-
  The reference of layer 6: contract of Compare.
  Conditions: the OID's cells are in their kinds.
-/
import Derived.Test.YtmofpdilnapjiaaDoorOidF
import Derived.RegionTactic
namespace Go.Proofs.YtmofpdilnapjiaaDoor
open Go.RowKit

theorem oid_t {w : World} {g n a j : Nat} {t : TypeId} {l : List Nat} (h : Bk w g t (oc n l)) (hj : j < (l.take a).length) : w.cell? ⟨g, 1 + j, none⟩ = some (.int .u32 ((l.take a)[j] : Int)) := by
  rw [List.getElem_take]
  exact oid_a' h (by rw [List.length_take] at hj; omega)

set_option maxRecDepth 100000 in
set_option maxHeartbeats 2000000 in
theorem rcompare_any (n : Nat) (l : List Nat) (m : Nat) (k : List Nat) (w : World) (ho : OkO n l) (hp : OkO m k) :
    Calls Tryd.prog 28 #[oV n l, oV m k] w fun e w' => e = .returned (.int .i64 (cmpO n l m k)) ∧ Below w.heap.size w w' := by
  have hl := ho.len
  have hk := hp.len
  have S1 := Lib.hid ((Bk.new w 25 (oc n l)).alloc (.cells (oc m k).toArray 25))
  have S2' := Bk.new (w.alloc (.cells (oc n l).toArray 25)) 25 (oc m k)
  rw [World.size_alloc] at S2'
  have S2 := Lib.hid S2'
  clear S2'
  have B0 := Lib.hid ((bel1 w (.cells (oc n l).toArray 25)).alloc (by simp) (.cells (oc m k).toArray 25))
  have hn8 := ho.n8
  have hm8 := hp.n8
  have hnn : (if (16 : Int) < (n : Int) then (16 : Int) else (n : Int)) = ((min n 16 : Nat) : Int) := by split <;> omega
  have hmm : (if (16 : Int) < (m : Int) then (16 : Int) else (m : Int)) = ((min m 16 : Nat) : Int) := by split <;> omega
  have HNN := Lib.hid hnn
  have HMM := Lib.hid hmm
  have hA : (l.take (min n 16)).length = min n 16 := by rw [List.length_take]; omega
  have hB : (k.take (min m 16)).length = min m 16 := by rw [List.length_take]; omega
  have HG1 := Lib.hid (fun (W : World) (h : Bk W w.heap.size 25 (oc n l)) (j : Nat) (hj : j < (l.take (min n 16)).length) => oid_t h hj)
  have HG2 := Lib.hid (fun (W : World) (h : Bk W (w.heap.size + 1) 25 (oc m k)) (j : Nat) (hj : j < (k.take (min m 16)).length) => oid_t h hj)
  unfold cmpO
  have c1 := oid_n S1.out
  have c2 := oid_n S2.out
  clear hnn hmm
  have ha16 : min n 16 ≤ 16 := Nat.min_le_right _ _
  have hb16 : min m 16 ≤ 16 := Nat.min_le_right _ _
  generalize l.take (min n 16) = x at *
  generalize k.take (min m 16) = y at *
  generalize min n 16 = a at *
  generalize min m 16 = b at *
  have HA := Lib.hid hA
  have HB := Lib.hid hB
  clear hA hB hl hk ho hp
  go_enter Tryd.func28, Tryd.ntmps28
  go_upto_region 1 with fail
  generalize (w.alloc (.cells (oc n l).toArray 25)).alloc (.cells (oc m k).toArray 25) = w1 at *
  go_region
  rw [HNN.out, HMM.out]
  have B1 := Lib.hid B0.out.drew
  have T1 := Lib.hid (show Bk w1.drew w.heap.size 25 (oc n l) from S1.out)
  have T2 := Lib.hid (show Bk w1.drew (w.heap.size + 1) 25 (oc m k) from S2.out)
  clear S1 S2 B0 c1 c2 HNN HMM
  generalize w1.drew = w2 at *
  go_wp2
  go_loopw [7] (fun i wr => ∃ j q : Nat, j ≤ a ∧ j ≤ b ∧ i = .int .i64 (j : Int) ∧ cmpL x y = cmpL (x.drop j) (y.drop j) ∧ wr = w2.drewN q) (fun i _ => a - (intOf i).toNat)
  case atStart => exact ⟨0, 0, Nat.zero_le _, Nat.zero_le _, rfl, rfl, rfl⟩
  case round =>
    obtain ⟨j, q, hj1, hj2, rfl, hc, rfl⟩ := hrel
    have HC := Lib.hid hc
    clear hc
    rcases Nat.lt_or_ge j a with h1 | h1
    · rcases Nat.lt_or_ge j b with h2 | h2
      · have hj16 : (j : Int) < 16 := by omega
        have hj16' : j < 16 := by omega
        have h1x : j < x.length := by rw [HA.out]; exact h1
        have h2y : j < y.length := by rw [HB.out]; exact h2
        have hx := HG1.out w2 T1.out j h1x
        have hy := HG2.out w2 T2.out j h2y
        have HD := Lib.hid (cmpL_drop h1x h2y)
        generalize x[j] = u at *
        generalize y[j] = v at *
        rcases Nat.lt_trichotomy u v with h | h | h
        · have HE : Hid (cmpL x y = -1) := Lib.hid (by rw [HC.out, HD.out, if_pos h])
          have hd : decide (u < v) = true := decide_eq_true h
          go_wp2
          go_quiet (fail)
          go_wp2
          go_ret
          exact ⟨by rw [HE.out]; rfl, by first | exact bel_drewN B1.out _ | exact bel_drewN (bel_drewN B1.out _) _ | exact bel_drewN (bel_drewN (bel_drewN B1.out _) _) _⟩
        · have HE : Hid (cmpL x y = cmpL (x.drop (j + 1)) (y.drop (j + 1))) := Lib.hid (by rw [HC.out, HD.out, if_neg (by omega), if_neg (by omega)])
          subst h
          have hd : decide (u < u) = false := decide_eq_false (by omega)
          go_wp2
          go_quiet (fail)
          go_wp2
          go_quiet (fail)
          go_wp2
          exact ⟨⟨j + 1, _, by omega, by omega, by go_num, HE.out, rfl⟩, by simp [intOf]; omega⟩
        · have HE : Hid (cmpL x y = 1) := Lib.hid (by rw [HC.out, HD.out, if_neg (by omega), if_pos h])
          have hd : decide (u < v) = false := decide_eq_false (by omega)
          have hd2 : decide (v < u) = true := decide_eq_true h
          go_wp2
          go_quiet (fail)
          go_wp2
          go_quiet (fail)
          go_wp2
          go_ret
          exact ⟨by rw [HE.out]; rfl, by first | exact bel_drewN B1.out _ | exact bel_drewN (bel_drewN B1.out _) _ | exact bel_drewN (bel_drewN (bel_drewN B1.out _) _) _⟩
      · have HE : Hid (cmpL x y = 1) := Lib.hid (by rw [HC.out, List.drop_of_length_le (l := y) (by rw [HB.out]; exact h2), cmpL_nil_r, if_neg (by rw [List.length_drop, HA.out]; omega)])
        obtain rfl : j = b := by omega
        have hba : j < a := h1
        go_wp2
        go_ret
        exact ⟨by rw [HE.out]; rfl, by first | exact bel_drewN B1.out _ | exact bel_drewN (bel_drewN B1.out _) _ | exact bel_drewN (bel_drewN (bel_drewN B1.out _) _) _⟩
    · obtain rfl : j = a := by omega
      rcases Nat.lt_or_ge j b with h2 | h2
      · have HE : Hid (cmpL x y = -1) := Lib.hid (by rw [HC.out, List.drop_of_length_le (l := x) (by rw [HA.out]; exact Nat.le_refl _), cmpL_nil_l, if_neg (by rw [List.length_drop, HB.out]; omega)])
        go_wp2
        go_ret
        exact ⟨by rw [HE.out]; rfl, by first | exact bel_drewN B1.out _ | exact bel_drewN (bel_drewN B1.out _) _ | exact bel_drewN (bel_drewN (bel_drewN B1.out _) _) _⟩
      · have HE : Hid (cmpL x y = 0) := Lib.hid (by rw [HC.out, List.drop_of_length_le (l := x) (by rw [HA.out]; exact Nat.le_refl _), List.drop_of_length_le (l := y) (by rw [HB.out]; exact h2)]; rfl)
        obtain rfl : j = b := by omega
        go_wp2
        go_ret
        exact ⟨by rw [HE.out]; rfl, by first | exact bel_drewN B1.out _ | exact bel_drewN (bel_drewN B1.out _) _ | exact bel_drewN (bel_drewN (bel_drewN B1.out _) _) _⟩
end Go.Proofs.YtmofpdilnapjiaaDoor
