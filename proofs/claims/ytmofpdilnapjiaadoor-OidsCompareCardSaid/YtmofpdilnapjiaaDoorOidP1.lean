/-
  Layer 6, the statement OidsCompare: Compare is the order of the definition; 0 for valid OIDs only if they are equal.
  Conditions: the package-level variables that the row lists hold what the program's text lays (the card ties them).
-/
import Derived.Test.YtmofpdilnapjiaaDoorOidY
import Derived.Test.YtmofpdilnapjiaaDoorOidZ
namespace Go.Proofs.YtmofpdilnapjiaaDoor
open Go.RowKit

set_option maxHeartbeats 2000000 in
set_option maxRecDepth 100000 in
theorem cmp_lt_0 (n : Nat) (l : List Nat) (m : Nat) (k : List Nat) (w : World) (hE : Env w) (ho : OkO n l) (hp : OkO m k) (hv : cmpO n l m k = -1) (h1 : chkO n l = 1) :
    Calls Tryd.prog 7 #[oV n l, oV m k] w fun e w' => e = .returned (.bool true) ∧ Below w.heap.size w w' := by
  have hl := ho.len
  have hk := hp.len
  have E0 := Lib.hid hE
  have HO := Lib.hid ho
  have HP := Lib.hid hp
  have S := Lib.hid ((Bk.new w 25 (oc n l)).alloc (.cells (oc m k).toArray 25))
  have T := Lib.hid (show Bk ((w.alloc (.cells (oc n l).toArray 25)).alloc (.cells (oc m k).toArray 25)) (w.heap.size + 1) 25 (oc m k) from by
    have := Bk.new (w.alloc (.cells (oc n l).toArray 25)) 25 (oc m k)
    rwa [World.size_alloc] at this)
  have B0 := Lib.hid ((bel1 w (.cells (oc n l).toArray 25)).alloc (by simp) (.cells (oc m k).toArray 25))
  have hq := fun W => eql25 (n := n) (m := m) hl hk W
  obtain ⟨r, hr⟩ : ∃ r, (decide (n = m) && decide (l = k)) = r := ⟨_, rfl⟩
  rw [hr] at hq
  have HR := Lib.hid hr
  clear ho hp hE hr
  have C1 := Lib.hid (fun W => (by have := rcompare_any n l m k W HO.out HP.out; rw [hv] at this; exact this : Calls Tryd.prog 28 #[oV n l, oV m k] W fun e w' => e = .returned (.int .i64 (-1)) ∧ Below W.heap.size W w'))
  have C2 := Lib.hid (fun W => (by have := compare_any n l m k W HO.out HP.out; rw [hv] at this; exact this : Calls Tryd.prog 29 #[oV n l, oV m k] W fun e w' => e = .returned (.int .i64 (-1)) ∧ Below W.heap.size W w'))
  have C3 := Lib.hid (fun W => (by have := compare_any m k n l W HP.out HO.out; rw [cmpO_anti n l m k, hv] at this; exact this : Calls Tryd.prog 29 #[oV m k, oV n l] W fun e w' => e = .returned (.int .i64 (1)) ∧ Below W.heap.size W w'))
  have C4 := Lib.hid (fun W => (by have := compare_any n l n l W HO.out HO.out; rw [cmpO_self n l] at this; exact this : Calls Tryd.prog 29 #[oV n l, oV n l] W fun e w' => e = .returned (.int .i64 0) ∧ Below W.heap.size W w'))
  have K1 := Lib.hid (fun W => (by have := rcheck_any n l W HO.out; rw [h1] at this; exact this : Calls Tryd.prog 11 #[oV n l] W (GiveF W 1)))
  clear hv h1
  go_enter Tryd.func7, Tryd.ntmps7
  go_upto_region 1 with fail
  generalize (w.alloc (.cells (oc n l).toArray 25)).alloc (.cells (oc m k).toArray 25) = w0 at *
  go_wp2_with (first | (refine wpList_load25g (by rfl) (.tmp 2) rfl rfl S.out hl ?_) | (refine wpList_load25g (by rfl) (.tmp 3) rfl rfl T.out hk ?_))
  refine (C1.out _).mono ?_
  rintro e w1 ⟨rfl, hb⟩
  have B1 := bt B0 (Lib.hid hb)
  have Sn := kt S (Lib.hid hb)
  clear S
  have S := Sn
  clear Sn
  have Tn := kt T (Lib.hid hb)
  clear T
  have T := Tn
  clear Tn
  clear hb B0
  go_wp2_with (first | (refine wpList_load25g (by rfl) (.tmp 2) rfl rfl S.out hl ?_) | (refine wpList_load25g (by rfl) (.tmp 3) rfl rfl T.out hk ?_))
  refine (C2.out _).mono ?_
  rintro e w2 ⟨rfl, hb⟩
  have B2 := bt B1 (Lib.hid hb)
  have Sn := kt S (Lib.hid hb)
  clear S
  have S := Sn
  clear Sn
  have Tn := kt T (Lib.hid hb)
  clear T
  have T := Tn
  clear Tn
  clear hb B1
  go_wp2_with (first | (refine wpList_load25g (by rfl) (.tmp 2) rfl rfl S.out hl ?_) | (refine wpList_load25g (by rfl) (.tmp 3) rfl rfl T.out hk ?_))
  refine (C3.out _).mono ?_
  rintro e w3 ⟨rfl, hb⟩
  have B3 := bt B2 (Lib.hid hb)
  have Sn := kt S (Lib.hid hb)
  clear S
  have S := Sn
  clear Sn
  have Tn := kt T (Lib.hid hb)
  clear T
  have T := Tn
  clear Tn
  clear hb B2
  go_wp2_with (first | (refine wpList_load25g (by rfl) (.tmp 2) rfl rfl S.out hl ?_) | (refine wpList_load25g (by rfl) (.tmp 3) rfl rfl T.out hk ?_))
  refine (C4.out _).mono ?_
  rintro e w4 ⟨rfl, hb⟩
  have B4 := bt B3 (Lib.hid hb)
  have Sn := kt S (Lib.hid hb)
  clear S
  have S := Sn
  clear Sn
  have Tn := kt T (Lib.hid hb)
  clear T
  have T := Tn
  clear Tn
  clear hb B3
  go_wp2_with (first | (refine wpList_load25g (by rfl) (.tmp 2) rfl rfl S.out hl ?_) | (refine wpList_load25g (by rfl) (.tmp 3) rfl rfl T.out hk ?_))
  refine (K1.out _).mono ?_
  rintro e w5 ⟨rfl, hb⟩
  have B5 := bt B4 (Lib.hid hb)
  have Sn := kt S (Lib.hid hb)
  clear S
  have S := Sn
  clear Sn
  have Tn := kt T (Lib.hid hb)
  clear T
  have T := Tn
  clear Tn
  clear hb B4
  go_wp2_with (first | (refine wpList_load25g (by rfl) (.tmp 2) rfl rfl S.out hl ?_) | (refine wpList_load25g (by rfl) (.tmp 3) rfl rfl T.out hk ?_))
  refine (lives_any _ (E0.out.below B5.out)).mono ?_
  rintro e w6 ⟨rfl, hb⟩
  have B6 := bt B5 (Lib.hid hb)
  have Sn := kt S (Lib.hid hb)
  clear S
  have S := Sn
  clear Sn
  have Tn := kt T (Lib.hid hb)
  clear T
  have T := Tn
  clear Tn
  clear hb B5
  go_wp2_with (first | (refine wpList_load25g (by rfl) (.tmp 2) rfl rfl S.out hl ?_) | (refine wpList_load25g (by rfl) (.tmp 3) rfl rfl T.out hk ?_))
  go_ret
  exact ⟨rfl, B6.out⟩
set_option maxHeartbeats 2000000 in
set_option maxRecDepth 100000 in
theorem cmp_lt_1 (n : Nat) (l : List Nat) (m : Nat) (k : List Nat) (w : World) (hE : Env w) (ho : OkO n l) (hp : OkO m k) (hv : cmpO n l m k = -1) (h1 : chkO n l = 0) (h2 : chkO m k = 1) :
    Calls Tryd.prog 7 #[oV n l, oV m k] w fun e w' => e = .returned (.bool true) ∧ Below w.heap.size w w' := by
  have hl := ho.len
  have hk := hp.len
  have E0 := Lib.hid hE
  have HO := Lib.hid ho
  have HP := Lib.hid hp
  have S := Lib.hid ((Bk.new w 25 (oc n l)).alloc (.cells (oc m k).toArray 25))
  have T := Lib.hid (show Bk ((w.alloc (.cells (oc n l).toArray 25)).alloc (.cells (oc m k).toArray 25)) (w.heap.size + 1) 25 (oc m k) from by
    have := Bk.new (w.alloc (.cells (oc n l).toArray 25)) 25 (oc m k)
    rwa [World.size_alloc] at this)
  have B0 := Lib.hid ((bel1 w (.cells (oc n l).toArray 25)).alloc (by simp) (.cells (oc m k).toArray 25))
  have hq := fun W => eql25 (n := n) (m := m) hl hk W
  obtain ⟨r, hr⟩ : ∃ r, (decide (n = m) && decide (l = k)) = r := ⟨_, rfl⟩
  rw [hr] at hq
  have HR := Lib.hid hr
  clear ho hp hE hr
  have C1 := Lib.hid (fun W => (by have := rcompare_any n l m k W HO.out HP.out; rw [hv] at this; exact this : Calls Tryd.prog 28 #[oV n l, oV m k] W fun e w' => e = .returned (.int .i64 (-1)) ∧ Below W.heap.size W w'))
  have C2 := Lib.hid (fun W => (by have := compare_any n l m k W HO.out HP.out; rw [hv] at this; exact this : Calls Tryd.prog 29 #[oV n l, oV m k] W fun e w' => e = .returned (.int .i64 (-1)) ∧ Below W.heap.size W w'))
  have C3 := Lib.hid (fun W => (by have := compare_any m k n l W HP.out HO.out; rw [cmpO_anti n l m k, hv] at this; exact this : Calls Tryd.prog 29 #[oV m k, oV n l] W fun e w' => e = .returned (.int .i64 (1)) ∧ Below W.heap.size W w'))
  have C4 := Lib.hid (fun W => (by have := compare_any n l n l W HO.out HO.out; rw [cmpO_self n l] at this; exact this : Calls Tryd.prog 29 #[oV n l, oV n l] W fun e w' => e = .returned (.int .i64 0) ∧ Below W.heap.size W w'))
  have K1 := Lib.hid (fun W => (by have := rcheck_any n l W HO.out; rw [h1] at this; exact this : Calls Tryd.prog 11 #[oV n l] W (GiveF W 0)))
  have K2 := Lib.hid (fun W => (by have := rcheck_any m k W HP.out; rw [h2] at this; exact this : Calls Tryd.prog 11 #[oV m k] W (GiveF W 1)))
  clear hv h1 h2
  go_enter Tryd.func7, Tryd.ntmps7
  go_upto_region 1 with fail
  generalize (w.alloc (.cells (oc n l).toArray 25)).alloc (.cells (oc m k).toArray 25) = w0 at *
  go_wp2_with (first | (refine wpList_load25g (by rfl) (.tmp 2) rfl rfl S.out hl ?_) | (refine wpList_load25g (by rfl) (.tmp 3) rfl rfl T.out hk ?_))
  refine (C1.out _).mono ?_
  rintro e w1 ⟨rfl, hb⟩
  have B1 := bt B0 (Lib.hid hb)
  have Sn := kt S (Lib.hid hb)
  clear S
  have S := Sn
  clear Sn
  have Tn := kt T (Lib.hid hb)
  clear T
  have T := Tn
  clear Tn
  clear hb B0
  go_wp2_with (first | (refine wpList_load25g (by rfl) (.tmp 2) rfl rfl S.out hl ?_) | (refine wpList_load25g (by rfl) (.tmp 3) rfl rfl T.out hk ?_))
  refine (C2.out _).mono ?_
  rintro e w2 ⟨rfl, hb⟩
  have B2 := bt B1 (Lib.hid hb)
  have Sn := kt S (Lib.hid hb)
  clear S
  have S := Sn
  clear Sn
  have Tn := kt T (Lib.hid hb)
  clear T
  have T := Tn
  clear Tn
  clear hb B1
  go_wp2_with (first | (refine wpList_load25g (by rfl) (.tmp 2) rfl rfl S.out hl ?_) | (refine wpList_load25g (by rfl) (.tmp 3) rfl rfl T.out hk ?_))
  refine (C3.out _).mono ?_
  rintro e w3 ⟨rfl, hb⟩
  have B3 := bt B2 (Lib.hid hb)
  have Sn := kt S (Lib.hid hb)
  clear S
  have S := Sn
  clear Sn
  have Tn := kt T (Lib.hid hb)
  clear T
  have T := Tn
  clear Tn
  clear hb B2
  go_wp2_with (first | (refine wpList_load25g (by rfl) (.tmp 2) rfl rfl S.out hl ?_) | (refine wpList_load25g (by rfl) (.tmp 3) rfl rfl T.out hk ?_))
  refine (C4.out _).mono ?_
  rintro e w4 ⟨rfl, hb⟩
  have B4 := bt B3 (Lib.hid hb)
  have Sn := kt S (Lib.hid hb)
  clear S
  have S := Sn
  clear Sn
  have Tn := kt T (Lib.hid hb)
  clear T
  have T := Tn
  clear Tn
  clear hb B3
  go_wp2_with (first | (refine wpList_load25g (by rfl) (.tmp 2) rfl rfl S.out hl ?_) | (refine wpList_load25g (by rfl) (.tmp 3) rfl rfl T.out hk ?_))
  refine (K1.out _).mono ?_
  rintro e w5 ⟨rfl, hb⟩
  have B5 := bt B4 (Lib.hid hb)
  have Sn := kt S (Lib.hid hb)
  clear S
  have S := Sn
  clear Sn
  have Tn := kt T (Lib.hid hb)
  clear T
  have T := Tn
  clear Tn
  clear hb B4
  go_wp2_with (first | (refine wpList_load25g (by rfl) (.tmp 2) rfl rfl S.out hl ?_) | (refine wpList_load25g (by rfl) (.tmp 3) rfl rfl T.out hk ?_))
  refine (K2.out _).mono ?_
  rintro e w6 ⟨rfl, hb⟩
  have B6 := bt B5 (Lib.hid hb)
  have Sn := kt S (Lib.hid hb)
  clear S
  have S := Sn
  clear Sn
  have Tn := kt T (Lib.hid hb)
  clear T
  have T := Tn
  clear Tn
  clear hb B5
  go_wp2_with (first | (refine wpList_load25g (by rfl) (.tmp 2) rfl rfl S.out hl ?_) | (refine wpList_load25g (by rfl) (.tmp 3) rfl rfl T.out hk ?_))
  refine (lives_any _ (E0.out.below B6.out)).mono ?_
  rintro e w7 ⟨rfl, hb⟩
  have B7 := bt B6 (Lib.hid hb)
  have Sn := kt S (Lib.hid hb)
  clear S
  have S := Sn
  clear Sn
  have Tn := kt T (Lib.hid hb)
  clear T
  have T := Tn
  clear Tn
  clear hb B6
  go_wp2_with (first | (refine wpList_load25g (by rfl) (.tmp 2) rfl rfl S.out hl ?_) | (refine wpList_load25g (by rfl) (.tmp 3) rfl rfl T.out hk ?_))
  go_ret
  exact ⟨rfl, B7.out⟩
set_option maxHeartbeats 2000000 in
set_option maxRecDepth 100000 in
theorem cmp_lt_2 (n : Nat) (l : List Nat) (m : Nat) (k : List Nat) (w : World) (hE : Env w) (ho : OkO n l) (hp : OkO m k) (hv : cmpO n l m k = -1) (h1 : chkO n l = 0) (h2 : chkO m k = 0) :
    Calls Tryd.prog 7 #[oV n l, oV m k] w fun e w' => e = .returned (.bool true) ∧ Below w.heap.size w w' := by
  have hl := ho.len
  have hk := hp.len
  have E0 := Lib.hid hE
  have HO := Lib.hid ho
  have HP := Lib.hid hp
  have S := Lib.hid ((Bk.new w 25 (oc n l)).alloc (.cells (oc m k).toArray 25))
  have T := Lib.hid (show Bk ((w.alloc (.cells (oc n l).toArray 25)).alloc (.cells (oc m k).toArray 25)) (w.heap.size + 1) 25 (oc m k) from by
    have := Bk.new (w.alloc (.cells (oc n l).toArray 25)) 25 (oc m k)
    rwa [World.size_alloc] at this)
  have B0 := Lib.hid ((bel1 w (.cells (oc n l).toArray 25)).alloc (by simp) (.cells (oc m k).toArray 25))
  have hq := fun W => eql25 (n := n) (m := m) hl hk W
  obtain ⟨r, hr⟩ : ∃ r, (decide (n = m) && decide (l = k)) = r := ⟨_, rfl⟩
  rw [hr] at hq
  have HR := Lib.hid hr
  have hrv : r = false := by
    rw [← hr, Bool.eq_false_iff]
    intro h; simp at h; have := (cmpO_zero ho hp h1 h2).2 h; rw [hv] at this; cases this
  subst hrv
  clear ho hp hE HR
  have C1 := Lib.hid (fun W => (by have := rcompare_any n l m k W HO.out HP.out; rw [hv] at this; exact this : Calls Tryd.prog 28 #[oV n l, oV m k] W fun e w' => e = .returned (.int .i64 (-1)) ∧ Below W.heap.size W w'))
  have C2 := Lib.hid (fun W => (by have := compare_any n l m k W HO.out HP.out; rw [hv] at this; exact this : Calls Tryd.prog 29 #[oV n l, oV m k] W fun e w' => e = .returned (.int .i64 (-1)) ∧ Below W.heap.size W w'))
  have C3 := Lib.hid (fun W => (by have := compare_any m k n l W HP.out HO.out; rw [cmpO_anti n l m k, hv] at this; exact this : Calls Tryd.prog 29 #[oV m k, oV n l] W fun e w' => e = .returned (.int .i64 (1)) ∧ Below W.heap.size W w'))
  have C4 := Lib.hid (fun W => (by have := compare_any n l n l W HO.out HO.out; rw [cmpO_self n l] at this; exact this : Calls Tryd.prog 29 #[oV n l, oV n l] W fun e w' => e = .returned (.int .i64 0) ∧ Below W.heap.size W w'))
  have K1 := Lib.hid (fun W => (by have := rcheck_any n l W HO.out; rw [h1] at this; exact this : Calls Tryd.prog 11 #[oV n l] W (GiveF W 0)))
  have K2 := Lib.hid (fun W => (by have := rcheck_any m k W HP.out; rw [h2] at this; exact this : Calls Tryd.prog 11 #[oV m k] W (GiveF W 0)))
  clear hv h1 h2
  go_enter Tryd.func7, Tryd.ntmps7
  go_upto_region 1 with fail
  generalize (w.alloc (.cells (oc n l).toArray 25)).alloc (.cells (oc m k).toArray 25) = w0 at *
  go_wp2_with (first | (refine wpList_load25g (by rfl) (.tmp 2) rfl rfl S.out hl ?_) | (refine wpList_load25g (by rfl) (.tmp 3) rfl rfl T.out hk ?_))
  refine (C1.out _).mono ?_
  rintro e w1 ⟨rfl, hb⟩
  have B1 := bt B0 (Lib.hid hb)
  have Sn := kt S (Lib.hid hb)
  clear S
  have S := Sn
  clear Sn
  have Tn := kt T (Lib.hid hb)
  clear T
  have T := Tn
  clear Tn
  clear hb B0
  go_wp2_with (first | (refine wpList_load25g (by rfl) (.tmp 2) rfl rfl S.out hl ?_) | (refine wpList_load25g (by rfl) (.tmp 3) rfl rfl T.out hk ?_))
  refine (C2.out _).mono ?_
  rintro e w2 ⟨rfl, hb⟩
  have B2 := bt B1 (Lib.hid hb)
  have Sn := kt S (Lib.hid hb)
  clear S
  have S := Sn
  clear Sn
  have Tn := kt T (Lib.hid hb)
  clear T
  have T := Tn
  clear Tn
  clear hb B1
  go_wp2_with (first | (refine wpList_load25g (by rfl) (.tmp 2) rfl rfl S.out hl ?_) | (refine wpList_load25g (by rfl) (.tmp 3) rfl rfl T.out hk ?_))
  refine (C3.out _).mono ?_
  rintro e w3 ⟨rfl, hb⟩
  have B3 := bt B2 (Lib.hid hb)
  have Sn := kt S (Lib.hid hb)
  clear S
  have S := Sn
  clear Sn
  have Tn := kt T (Lib.hid hb)
  clear T
  have T := Tn
  clear Tn
  clear hb B2
  go_wp2_with (first | (refine wpList_load25g (by rfl) (.tmp 2) rfl rfl S.out hl ?_) | (refine wpList_load25g (by rfl) (.tmp 3) rfl rfl T.out hk ?_))
  refine (C4.out _).mono ?_
  rintro e w4 ⟨rfl, hb⟩
  have B4 := bt B3 (Lib.hid hb)
  have Sn := kt S (Lib.hid hb)
  clear S
  have S := Sn
  clear Sn
  have Tn := kt T (Lib.hid hb)
  clear T
  have T := Tn
  clear Tn
  clear hb B3
  go_wp2_with (first | (refine wpList_load25g (by rfl) (.tmp 2) rfl rfl S.out hl ?_) | (refine wpList_load25g (by rfl) (.tmp 3) rfl rfl T.out hk ?_))
  refine (K1.out _).mono ?_
  rintro e w5 ⟨rfl, hb⟩
  have B5 := bt B4 (Lib.hid hb)
  have Sn := kt S (Lib.hid hb)
  clear S
  have S := Sn
  clear Sn
  have Tn := kt T (Lib.hid hb)
  clear T
  have T := Tn
  clear Tn
  clear hb B4
  go_wp2_with (first | (refine wpList_load25g (by rfl) (.tmp 2) rfl rfl S.out hl ?_) | (refine wpList_load25g (by rfl) (.tmp 3) rfl rfl T.out hk ?_))
  refine (K2.out _).mono ?_
  rintro e w6 ⟨rfl, hb⟩
  have B6 := bt B5 (Lib.hid hb)
  have Sn := kt S (Lib.hid hb)
  clear S
  have S := Sn
  clear Sn
  have Tn := kt T (Lib.hid hb)
  clear T
  have T := Tn
  clear Tn
  clear hb B5
  go_wp2_with (first | (refine wpList_load25g (by rfl) (.tmp 2) rfl rfl S.out hl ?_) | (refine wpList_load25g (by rfl) (.tmp 3) rfl rfl T.out hk ?_))
  refine (lives_any _ (E0.out.below B6.out)).mono ?_
  rintro e w7 ⟨rfl, hb⟩
  have B7 := bt B6 (Lib.hid hb)
  have Sn := kt S (Lib.hid hb)
  clear S
  have S := Sn
  clear Sn
  have Tn := kt T (Lib.hid hb)
  clear T
  have T := Tn
  clear Tn
  clear hb B6
  go_wp2_with (first | (refine wpList_load25g (by rfl) (.tmp 2) rfl rfl S.out hl ?_) | (refine wpList_load25g (by rfl) (.tmp 3) rfl rfl T.out hk ?_))
  go_ret
  exact ⟨rfl, B7.out⟩
set_option maxHeartbeats 2000000 in
set_option maxRecDepth 100000 in
theorem cmp_eq_0 (n : Nat) (l : List Nat) (m : Nat) (k : List Nat) (w : World) (hE : Env w) (ho : OkO n l) (hp : OkO m k) (hv : cmpO n l m k = 0) (h1 : chkO n l = 1) :
    Calls Tryd.prog 7 #[oV n l, oV m k] w fun e w' => e = .returned (.bool true) ∧ Below w.heap.size w w' := by
  have hl := ho.len
  have hk := hp.len
  have E0 := Lib.hid hE
  have HO := Lib.hid ho
  have HP := Lib.hid hp
  have S := Lib.hid ((Bk.new w 25 (oc n l)).alloc (.cells (oc m k).toArray 25))
  have T := Lib.hid (show Bk ((w.alloc (.cells (oc n l).toArray 25)).alloc (.cells (oc m k).toArray 25)) (w.heap.size + 1) 25 (oc m k) from by
    have := Bk.new (w.alloc (.cells (oc n l).toArray 25)) 25 (oc m k)
    rwa [World.size_alloc] at this)
  have B0 := Lib.hid ((bel1 w (.cells (oc n l).toArray 25)).alloc (by simp) (.cells (oc m k).toArray 25))
  have hq := fun W => eql25 (n := n) (m := m) hl hk W
  obtain ⟨r, hr⟩ : ∃ r, (decide (n = m) && decide (l = k)) = r := ⟨_, rfl⟩
  rw [hr] at hq
  have HR := Lib.hid hr
  clear ho hp hE hr
  have C1 := Lib.hid (fun W => (by have := rcompare_any n l m k W HO.out HP.out; rw [hv] at this; exact this : Calls Tryd.prog 28 #[oV n l, oV m k] W fun e w' => e = .returned (.int .i64 (0)) ∧ Below W.heap.size W w'))
  have C2 := Lib.hid (fun W => (by have := compare_any n l m k W HO.out HP.out; rw [hv] at this; exact this : Calls Tryd.prog 29 #[oV n l, oV m k] W fun e w' => e = .returned (.int .i64 (0)) ∧ Below W.heap.size W w'))
  have C3 := Lib.hid (fun W => (by have := compare_any m k n l W HP.out HO.out; rw [cmpO_anti n l m k, hv] at this; exact this : Calls Tryd.prog 29 #[oV m k, oV n l] W fun e w' => e = .returned (.int .i64 (0)) ∧ Below W.heap.size W w'))
  have C4 := Lib.hid (fun W => (by have := compare_any n l n l W HO.out HO.out; rw [cmpO_self n l] at this; exact this : Calls Tryd.prog 29 #[oV n l, oV n l] W fun e w' => e = .returned (.int .i64 0) ∧ Below W.heap.size W w'))
  have K1 := Lib.hid (fun W => (by have := rcheck_any n l W HO.out; rw [h1] at this; exact this : Calls Tryd.prog 11 #[oV n l] W (GiveF W 1)))
  clear hv h1
  go_enter Tryd.func7, Tryd.ntmps7
  go_upto_region 1 with fail
  generalize (w.alloc (.cells (oc n l).toArray 25)).alloc (.cells (oc m k).toArray 25) = w0 at *
  go_wp2_with (first | (refine wpList_load25g (by rfl) (.tmp 2) rfl rfl S.out hl ?_) | (refine wpList_load25g (by rfl) (.tmp 3) rfl rfl T.out hk ?_))
  refine (C1.out _).mono ?_
  rintro e w1 ⟨rfl, hb⟩
  have B1 := bt B0 (Lib.hid hb)
  have Sn := kt S (Lib.hid hb)
  clear S
  have S := Sn
  clear Sn
  have Tn := kt T (Lib.hid hb)
  clear T
  have T := Tn
  clear Tn
  clear hb B0
  go_wp2_with (first | (refine wpList_load25g (by rfl) (.tmp 2) rfl rfl S.out hl ?_) | (refine wpList_load25g (by rfl) (.tmp 3) rfl rfl T.out hk ?_))
  refine (C2.out _).mono ?_
  rintro e w2 ⟨rfl, hb⟩
  have B2 := bt B1 (Lib.hid hb)
  have Sn := kt S (Lib.hid hb)
  clear S
  have S := Sn
  clear Sn
  have Tn := kt T (Lib.hid hb)
  clear T
  have T := Tn
  clear Tn
  clear hb B1
  go_wp2_with (first | (refine wpList_load25g (by rfl) (.tmp 2) rfl rfl S.out hl ?_) | (refine wpList_load25g (by rfl) (.tmp 3) rfl rfl T.out hk ?_))
  refine (C3.out _).mono ?_
  rintro e w3 ⟨rfl, hb⟩
  have B3 := bt B2 (Lib.hid hb)
  have Sn := kt S (Lib.hid hb)
  clear S
  have S := Sn
  clear Sn
  have Tn := kt T (Lib.hid hb)
  clear T
  have T := Tn
  clear Tn
  clear hb B2
  go_wp2_with (first | (refine wpList_load25g (by rfl) (.tmp 2) rfl rfl S.out hl ?_) | (refine wpList_load25g (by rfl) (.tmp 3) rfl rfl T.out hk ?_))
  refine (C4.out _).mono ?_
  rintro e w4 ⟨rfl, hb⟩
  have B4 := bt B3 (Lib.hid hb)
  have Sn := kt S (Lib.hid hb)
  clear S
  have S := Sn
  clear Sn
  have Tn := kt T (Lib.hid hb)
  clear T
  have T := Tn
  clear Tn
  clear hb B3
  go_wp2_with (first | (refine wpList_load25g (by rfl) (.tmp 2) rfl rfl S.out hl ?_) | (refine wpList_load25g (by rfl) (.tmp 3) rfl rfl T.out hk ?_))
  refine (K1.out _).mono ?_
  rintro e w5 ⟨rfl, hb⟩
  have B5 := bt B4 (Lib.hid hb)
  have Sn := kt S (Lib.hid hb)
  clear S
  have S := Sn
  clear Sn
  have Tn := kt T (Lib.hid hb)
  clear T
  have T := Tn
  clear Tn
  clear hb B4
  go_wp2_with (first | (refine wpList_load25g (by rfl) (.tmp 2) rfl rfl S.out hl ?_) | (refine wpList_load25g (by rfl) (.tmp 3) rfl rfl T.out hk ?_))
  refine (lives_any _ (E0.out.below B5.out)).mono ?_
  rintro e w6 ⟨rfl, hb⟩
  have B6 := bt B5 (Lib.hid hb)
  have Sn := kt S (Lib.hid hb)
  clear S
  have S := Sn
  clear Sn
  have Tn := kt T (Lib.hid hb)
  clear T
  have T := Tn
  clear Tn
  clear hb B5
  go_wp2_with (first | (refine wpList_load25g (by rfl) (.tmp 2) rfl rfl S.out hl ?_) | (refine wpList_load25g (by rfl) (.tmp 3) rfl rfl T.out hk ?_))
  go_ret
  exact ⟨rfl, B6.out⟩
set_option maxHeartbeats 2000000 in
set_option maxRecDepth 100000 in
theorem cmp_eq_1 (n : Nat) (l : List Nat) (m : Nat) (k : List Nat) (w : World) (hE : Env w) (ho : OkO n l) (hp : OkO m k) (hv : cmpO n l m k = 0) (h1 : chkO n l = 0) (h2 : chkO m k = 1) :
    Calls Tryd.prog 7 #[oV n l, oV m k] w fun e w' => e = .returned (.bool true) ∧ Below w.heap.size w w' := by
  have hl := ho.len
  have hk := hp.len
  have E0 := Lib.hid hE
  have HO := Lib.hid ho
  have HP := Lib.hid hp
  have S := Lib.hid ((Bk.new w 25 (oc n l)).alloc (.cells (oc m k).toArray 25))
  have T := Lib.hid (show Bk ((w.alloc (.cells (oc n l).toArray 25)).alloc (.cells (oc m k).toArray 25)) (w.heap.size + 1) 25 (oc m k) from by
    have := Bk.new (w.alloc (.cells (oc n l).toArray 25)) 25 (oc m k)
    rwa [World.size_alloc] at this)
  have B0 := Lib.hid ((bel1 w (.cells (oc n l).toArray 25)).alloc (by simp) (.cells (oc m k).toArray 25))
  have hq := fun W => eql25 (n := n) (m := m) hl hk W
  obtain ⟨r, hr⟩ : ∃ r, (decide (n = m) && decide (l = k)) = r := ⟨_, rfl⟩
  rw [hr] at hq
  have HR := Lib.hid hr
  clear ho hp hE hr
  have C1 := Lib.hid (fun W => (by have := rcompare_any n l m k W HO.out HP.out; rw [hv] at this; exact this : Calls Tryd.prog 28 #[oV n l, oV m k] W fun e w' => e = .returned (.int .i64 (0)) ∧ Below W.heap.size W w'))
  have C2 := Lib.hid (fun W => (by have := compare_any n l m k W HO.out HP.out; rw [hv] at this; exact this : Calls Tryd.prog 29 #[oV n l, oV m k] W fun e w' => e = .returned (.int .i64 (0)) ∧ Below W.heap.size W w'))
  have C3 := Lib.hid (fun W => (by have := compare_any m k n l W HP.out HO.out; rw [cmpO_anti n l m k, hv] at this; exact this : Calls Tryd.prog 29 #[oV m k, oV n l] W fun e w' => e = .returned (.int .i64 (0)) ∧ Below W.heap.size W w'))
  have C4 := Lib.hid (fun W => (by have := compare_any n l n l W HO.out HO.out; rw [cmpO_self n l] at this; exact this : Calls Tryd.prog 29 #[oV n l, oV n l] W fun e w' => e = .returned (.int .i64 0) ∧ Below W.heap.size W w'))
  have K1 := Lib.hid (fun W => (by have := rcheck_any n l W HO.out; rw [h1] at this; exact this : Calls Tryd.prog 11 #[oV n l] W (GiveF W 0)))
  have K2 := Lib.hid (fun W => (by have := rcheck_any m k W HP.out; rw [h2] at this; exact this : Calls Tryd.prog 11 #[oV m k] W (GiveF W 1)))
  clear hv h1 h2
  go_enter Tryd.func7, Tryd.ntmps7
  go_upto_region 1 with fail
  generalize (w.alloc (.cells (oc n l).toArray 25)).alloc (.cells (oc m k).toArray 25) = w0 at *
  go_wp2_with (first | (refine wpList_load25g (by rfl) (.tmp 2) rfl rfl S.out hl ?_) | (refine wpList_load25g (by rfl) (.tmp 3) rfl rfl T.out hk ?_))
  refine (C1.out _).mono ?_
  rintro e w1 ⟨rfl, hb⟩
  have B1 := bt B0 (Lib.hid hb)
  have Sn := kt S (Lib.hid hb)
  clear S
  have S := Sn
  clear Sn
  have Tn := kt T (Lib.hid hb)
  clear T
  have T := Tn
  clear Tn
  clear hb B0
  go_wp2_with (first | (refine wpList_load25g (by rfl) (.tmp 2) rfl rfl S.out hl ?_) | (refine wpList_load25g (by rfl) (.tmp 3) rfl rfl T.out hk ?_))
  refine (C2.out _).mono ?_
  rintro e w2 ⟨rfl, hb⟩
  have B2 := bt B1 (Lib.hid hb)
  have Sn := kt S (Lib.hid hb)
  clear S
  have S := Sn
  clear Sn
  have Tn := kt T (Lib.hid hb)
  clear T
  have T := Tn
  clear Tn
  clear hb B1
  go_wp2_with (first | (refine wpList_load25g (by rfl) (.tmp 2) rfl rfl S.out hl ?_) | (refine wpList_load25g (by rfl) (.tmp 3) rfl rfl T.out hk ?_))
  refine (C3.out _).mono ?_
  rintro e w3 ⟨rfl, hb⟩
  have B3 := bt B2 (Lib.hid hb)
  have Sn := kt S (Lib.hid hb)
  clear S
  have S := Sn
  clear Sn
  have Tn := kt T (Lib.hid hb)
  clear T
  have T := Tn
  clear Tn
  clear hb B2
  go_wp2_with (first | (refine wpList_load25g (by rfl) (.tmp 2) rfl rfl S.out hl ?_) | (refine wpList_load25g (by rfl) (.tmp 3) rfl rfl T.out hk ?_))
  refine (C4.out _).mono ?_
  rintro e w4 ⟨rfl, hb⟩
  have B4 := bt B3 (Lib.hid hb)
  have Sn := kt S (Lib.hid hb)
  clear S
  have S := Sn
  clear Sn
  have Tn := kt T (Lib.hid hb)
  clear T
  have T := Tn
  clear Tn
  clear hb B3
  go_wp2_with (first | (refine wpList_load25g (by rfl) (.tmp 2) rfl rfl S.out hl ?_) | (refine wpList_load25g (by rfl) (.tmp 3) rfl rfl T.out hk ?_))
  refine (K1.out _).mono ?_
  rintro e w5 ⟨rfl, hb⟩
  have B5 := bt B4 (Lib.hid hb)
  have Sn := kt S (Lib.hid hb)
  clear S
  have S := Sn
  clear Sn
  have Tn := kt T (Lib.hid hb)
  clear T
  have T := Tn
  clear Tn
  clear hb B4
  go_wp2_with (first | (refine wpList_load25g (by rfl) (.tmp 2) rfl rfl S.out hl ?_) | (refine wpList_load25g (by rfl) (.tmp 3) rfl rfl T.out hk ?_))
  refine (K2.out _).mono ?_
  rintro e w6 ⟨rfl, hb⟩
  have B6 := bt B5 (Lib.hid hb)
  have Sn := kt S (Lib.hid hb)
  clear S
  have S := Sn
  clear Sn
  have Tn := kt T (Lib.hid hb)
  clear T
  have T := Tn
  clear Tn
  clear hb B5
  go_wp2_with (first | (refine wpList_load25g (by rfl) (.tmp 2) rfl rfl S.out hl ?_) | (refine wpList_load25g (by rfl) (.tmp 3) rfl rfl T.out hk ?_))
  refine (lives_any _ (E0.out.below B6.out)).mono ?_
  rintro e w7 ⟨rfl, hb⟩
  have B7 := bt B6 (Lib.hid hb)
  have Sn := kt S (Lib.hid hb)
  clear S
  have S := Sn
  clear Sn
  have Tn := kt T (Lib.hid hb)
  clear T
  have T := Tn
  clear Tn
  clear hb B6
  go_wp2_with (first | (refine wpList_load25g (by rfl) (.tmp 2) rfl rfl S.out hl ?_) | (refine wpList_load25g (by rfl) (.tmp 3) rfl rfl T.out hk ?_))
  go_ret
  exact ⟨rfl, B7.out⟩
set_option maxHeartbeats 2000000 in
set_option maxRecDepth 100000 in
theorem cmp_eq_2 (n : Nat) (l : List Nat) (m : Nat) (k : List Nat) (w : World) (hE : Env w) (ho : OkO n l) (hp : OkO m k) (hv : cmpO n l m k = 0) (h1 : chkO n l = 0) (h2 : chkO m k = 0) :
    Calls Tryd.prog 7 #[oV n l, oV m k] w fun e w' => e = .returned (.bool true) ∧ Below w.heap.size w w' := by
  have hl := ho.len
  have hk := hp.len
  have E0 := Lib.hid hE
  have HO := Lib.hid ho
  have HP := Lib.hid hp
  have S := Lib.hid ((Bk.new w 25 (oc n l)).alloc (.cells (oc m k).toArray 25))
  have T := Lib.hid (show Bk ((w.alloc (.cells (oc n l).toArray 25)).alloc (.cells (oc m k).toArray 25)) (w.heap.size + 1) 25 (oc m k) from by
    have := Bk.new (w.alloc (.cells (oc n l).toArray 25)) 25 (oc m k)
    rwa [World.size_alloc] at this)
  have B0 := Lib.hid ((bel1 w (.cells (oc n l).toArray 25)).alloc (by simp) (.cells (oc m k).toArray 25))
  have hq := fun W => eql25 (n := n) (m := m) hl hk W
  obtain ⟨r, hr⟩ : ∃ r, (decide (n = m) && decide (l = k)) = r := ⟨_, rfl⟩
  rw [hr] at hq
  have HR := Lib.hid hr
  have hrv : r = true := by
    rw [← hr, Bool.eq_iff_iff]
    simp; exact (cmpO_zero ho hp h1 h2).1 hv
  subst hrv
  clear ho hp hE HR
  have C1 := Lib.hid (fun W => (by have := rcompare_any n l m k W HO.out HP.out; rw [hv] at this; exact this : Calls Tryd.prog 28 #[oV n l, oV m k] W fun e w' => e = .returned (.int .i64 (0)) ∧ Below W.heap.size W w'))
  have C2 := Lib.hid (fun W => (by have := compare_any n l m k W HO.out HP.out; rw [hv] at this; exact this : Calls Tryd.prog 29 #[oV n l, oV m k] W fun e w' => e = .returned (.int .i64 (0)) ∧ Below W.heap.size W w'))
  have C3 := Lib.hid (fun W => (by have := compare_any m k n l W HP.out HO.out; rw [cmpO_anti n l m k, hv] at this; exact this : Calls Tryd.prog 29 #[oV m k, oV n l] W fun e w' => e = .returned (.int .i64 (0)) ∧ Below W.heap.size W w'))
  have C4 := Lib.hid (fun W => (by have := compare_any n l n l W HO.out HO.out; rw [cmpO_self n l] at this; exact this : Calls Tryd.prog 29 #[oV n l, oV n l] W fun e w' => e = .returned (.int .i64 0) ∧ Below W.heap.size W w'))
  have K1 := Lib.hid (fun W => (by have := rcheck_any n l W HO.out; rw [h1] at this; exact this : Calls Tryd.prog 11 #[oV n l] W (GiveF W 0)))
  have K2 := Lib.hid (fun W => (by have := rcheck_any m k W HP.out; rw [h2] at this; exact this : Calls Tryd.prog 11 #[oV m k] W (GiveF W 0)))
  clear hv h1 h2
  go_enter Tryd.func7, Tryd.ntmps7
  go_upto_region 1 with fail
  generalize (w.alloc (.cells (oc n l).toArray 25)).alloc (.cells (oc m k).toArray 25) = w0 at *
  go_wp2_with (first | (refine wpList_load25g (by rfl) (.tmp 2) rfl rfl S.out hl ?_) | (refine wpList_load25g (by rfl) (.tmp 3) rfl rfl T.out hk ?_))
  refine (C1.out _).mono ?_
  rintro e w1 ⟨rfl, hb⟩
  have B1 := bt B0 (Lib.hid hb)
  have Sn := kt S (Lib.hid hb)
  clear S
  have S := Sn
  clear Sn
  have Tn := kt T (Lib.hid hb)
  clear T
  have T := Tn
  clear Tn
  clear hb B0
  go_wp2_with (first | (refine wpList_load25g (by rfl) (.tmp 2) rfl rfl S.out hl ?_) | (refine wpList_load25g (by rfl) (.tmp 3) rfl rfl T.out hk ?_))
  refine (C2.out _).mono ?_
  rintro e w2 ⟨rfl, hb⟩
  have B2 := bt B1 (Lib.hid hb)
  have Sn := kt S (Lib.hid hb)
  clear S
  have S := Sn
  clear Sn
  have Tn := kt T (Lib.hid hb)
  clear T
  have T := Tn
  clear Tn
  clear hb B1
  go_wp2_with (first | (refine wpList_load25g (by rfl) (.tmp 2) rfl rfl S.out hl ?_) | (refine wpList_load25g (by rfl) (.tmp 3) rfl rfl T.out hk ?_))
  refine (C3.out _).mono ?_
  rintro e w3 ⟨rfl, hb⟩
  have B3 := bt B2 (Lib.hid hb)
  have Sn := kt S (Lib.hid hb)
  clear S
  have S := Sn
  clear Sn
  have Tn := kt T (Lib.hid hb)
  clear T
  have T := Tn
  clear Tn
  clear hb B2
  go_wp2_with (first | (refine wpList_load25g (by rfl) (.tmp 2) rfl rfl S.out hl ?_) | (refine wpList_load25g (by rfl) (.tmp 3) rfl rfl T.out hk ?_))
  refine (C4.out _).mono ?_
  rintro e w4 ⟨rfl, hb⟩
  have B4 := bt B3 (Lib.hid hb)
  have Sn := kt S (Lib.hid hb)
  clear S
  have S := Sn
  clear Sn
  have Tn := kt T (Lib.hid hb)
  clear T
  have T := Tn
  clear Tn
  clear hb B3
  go_wp2_with (first | (refine wpList_load25g (by rfl) (.tmp 2) rfl rfl S.out hl ?_) | (refine wpList_load25g (by rfl) (.tmp 3) rfl rfl T.out hk ?_))
  refine (K1.out _).mono ?_
  rintro e w5 ⟨rfl, hb⟩
  have B5 := bt B4 (Lib.hid hb)
  have Sn := kt S (Lib.hid hb)
  clear S
  have S := Sn
  clear Sn
  have Tn := kt T (Lib.hid hb)
  clear T
  have T := Tn
  clear Tn
  clear hb B4
  go_wp2_with (first | (refine wpList_load25g (by rfl) (.tmp 2) rfl rfl S.out hl ?_) | (refine wpList_load25g (by rfl) (.tmp 3) rfl rfl T.out hk ?_))
  refine (K2.out _).mono ?_
  rintro e w6 ⟨rfl, hb⟩
  have B6 := bt B5 (Lib.hid hb)
  have Sn := kt S (Lib.hid hb)
  clear S
  have S := Sn
  clear Sn
  have Tn := kt T (Lib.hid hb)
  clear T
  have T := Tn
  clear Tn
  clear hb B5
  go_wp2_with (first | (refine wpList_load25g (by rfl) (.tmp 2) rfl rfl S.out hl ?_) | (refine wpList_load25g (by rfl) (.tmp 3) rfl rfl T.out hk ?_))
  refine (lives_any _ (E0.out.below B6.out)).mono ?_
  rintro e w7 ⟨rfl, hb⟩
  have B7 := bt B6 (Lib.hid hb)
  have Sn := kt S (Lib.hid hb)
  clear S
  have S := Sn
  clear Sn
  have Tn := kt T (Lib.hid hb)
  clear T
  have T := Tn
  clear Tn
  clear hb B6
  go_wp2_with (first | (refine wpList_load25g (by rfl) (.tmp 2) rfl rfl S.out hl ?_) | (refine wpList_load25g (by rfl) (.tmp 3) rfl rfl T.out hk ?_))
  go_ret
  exact ⟨rfl, B7.out⟩
set_option maxHeartbeats 2000000 in
set_option maxRecDepth 100000 in
theorem cmp_gt_0 (n : Nat) (l : List Nat) (m : Nat) (k : List Nat) (w : World) (hE : Env w) (ho : OkO n l) (hp : OkO m k) (hv : cmpO n l m k = 1) (h1 : chkO n l = 1) :
    Calls Tryd.prog 7 #[oV n l, oV m k] w fun e w' => e = .returned (.bool true) ∧ Below w.heap.size w w' := by
  have hl := ho.len
  have hk := hp.len
  have E0 := Lib.hid hE
  have HO := Lib.hid ho
  have HP := Lib.hid hp
  have S := Lib.hid ((Bk.new w 25 (oc n l)).alloc (.cells (oc m k).toArray 25))
  have T := Lib.hid (show Bk ((w.alloc (.cells (oc n l).toArray 25)).alloc (.cells (oc m k).toArray 25)) (w.heap.size + 1) 25 (oc m k) from by
    have := Bk.new (w.alloc (.cells (oc n l).toArray 25)) 25 (oc m k)
    rwa [World.size_alloc] at this)
  have B0 := Lib.hid ((bel1 w (.cells (oc n l).toArray 25)).alloc (by simp) (.cells (oc m k).toArray 25))
  have hq := fun W => eql25 (n := n) (m := m) hl hk W
  obtain ⟨r, hr⟩ : ∃ r, (decide (n = m) && decide (l = k)) = r := ⟨_, rfl⟩
  rw [hr] at hq
  have HR := Lib.hid hr
  clear ho hp hE hr
  have C1 := Lib.hid (fun W => (by have := rcompare_any n l m k W HO.out HP.out; rw [hv] at this; exact this : Calls Tryd.prog 28 #[oV n l, oV m k] W fun e w' => e = .returned (.int .i64 (1)) ∧ Below W.heap.size W w'))
  have C2 := Lib.hid (fun W => (by have := compare_any n l m k W HO.out HP.out; rw [hv] at this; exact this : Calls Tryd.prog 29 #[oV n l, oV m k] W fun e w' => e = .returned (.int .i64 (1)) ∧ Below W.heap.size W w'))
  have C3 := Lib.hid (fun W => (by have := compare_any m k n l W HP.out HO.out; rw [cmpO_anti n l m k, hv] at this; exact this : Calls Tryd.prog 29 #[oV m k, oV n l] W fun e w' => e = .returned (.int .i64 (-1)) ∧ Below W.heap.size W w'))
  have C4 := Lib.hid (fun W => (by have := compare_any n l n l W HO.out HO.out; rw [cmpO_self n l] at this; exact this : Calls Tryd.prog 29 #[oV n l, oV n l] W fun e w' => e = .returned (.int .i64 0) ∧ Below W.heap.size W w'))
  have K1 := Lib.hid (fun W => (by have := rcheck_any n l W HO.out; rw [h1] at this; exact this : Calls Tryd.prog 11 #[oV n l] W (GiveF W 1)))
  clear hv h1
  go_enter Tryd.func7, Tryd.ntmps7
  go_upto_region 1 with fail
  generalize (w.alloc (.cells (oc n l).toArray 25)).alloc (.cells (oc m k).toArray 25) = w0 at *
  go_wp2_with (first | (refine wpList_load25g (by rfl) (.tmp 2) rfl rfl S.out hl ?_) | (refine wpList_load25g (by rfl) (.tmp 3) rfl rfl T.out hk ?_))
  refine (C1.out _).mono ?_
  rintro e w1 ⟨rfl, hb⟩
  have B1 := bt B0 (Lib.hid hb)
  have Sn := kt S (Lib.hid hb)
  clear S
  have S := Sn
  clear Sn
  have Tn := kt T (Lib.hid hb)
  clear T
  have T := Tn
  clear Tn
  clear hb B0
  go_wp2_with (first | (refine wpList_load25g (by rfl) (.tmp 2) rfl rfl S.out hl ?_) | (refine wpList_load25g (by rfl) (.tmp 3) rfl rfl T.out hk ?_))
  refine (C2.out _).mono ?_
  rintro e w2 ⟨rfl, hb⟩
  have B2 := bt B1 (Lib.hid hb)
  have Sn := kt S (Lib.hid hb)
  clear S
  have S := Sn
  clear Sn
  have Tn := kt T (Lib.hid hb)
  clear T
  have T := Tn
  clear Tn
  clear hb B1
  go_wp2_with (first | (refine wpList_load25g (by rfl) (.tmp 2) rfl rfl S.out hl ?_) | (refine wpList_load25g (by rfl) (.tmp 3) rfl rfl T.out hk ?_))
  refine (C3.out _).mono ?_
  rintro e w3 ⟨rfl, hb⟩
  have B3 := bt B2 (Lib.hid hb)
  have Sn := kt S (Lib.hid hb)
  clear S
  have S := Sn
  clear Sn
  have Tn := kt T (Lib.hid hb)
  clear T
  have T := Tn
  clear Tn
  clear hb B2
  go_wp2_with (first | (refine wpList_load25g (by rfl) (.tmp 2) rfl rfl S.out hl ?_) | (refine wpList_load25g (by rfl) (.tmp 3) rfl rfl T.out hk ?_))
  refine (C4.out _).mono ?_
  rintro e w4 ⟨rfl, hb⟩
  have B4 := bt B3 (Lib.hid hb)
  have Sn := kt S (Lib.hid hb)
  clear S
  have S := Sn
  clear Sn
  have Tn := kt T (Lib.hid hb)
  clear T
  have T := Tn
  clear Tn
  clear hb B3
  go_wp2_with (first | (refine wpList_load25g (by rfl) (.tmp 2) rfl rfl S.out hl ?_) | (refine wpList_load25g (by rfl) (.tmp 3) rfl rfl T.out hk ?_))
  refine (K1.out _).mono ?_
  rintro e w5 ⟨rfl, hb⟩
  have B5 := bt B4 (Lib.hid hb)
  have Sn := kt S (Lib.hid hb)
  clear S
  have S := Sn
  clear Sn
  have Tn := kt T (Lib.hid hb)
  clear T
  have T := Tn
  clear Tn
  clear hb B4
  go_wp2_with (first | (refine wpList_load25g (by rfl) (.tmp 2) rfl rfl S.out hl ?_) | (refine wpList_load25g (by rfl) (.tmp 3) rfl rfl T.out hk ?_))
  refine (lives_any _ (E0.out.below B5.out)).mono ?_
  rintro e w6 ⟨rfl, hb⟩
  have B6 := bt B5 (Lib.hid hb)
  have Sn := kt S (Lib.hid hb)
  clear S
  have S := Sn
  clear Sn
  have Tn := kt T (Lib.hid hb)
  clear T
  have T := Tn
  clear Tn
  clear hb B5
  go_wp2_with (first | (refine wpList_load25g (by rfl) (.tmp 2) rfl rfl S.out hl ?_) | (refine wpList_load25g (by rfl) (.tmp 3) rfl rfl T.out hk ?_))
  go_ret
  exact ⟨rfl, B6.out⟩
set_option maxHeartbeats 2000000 in
set_option maxRecDepth 100000 in
theorem cmp_gt_1 (n : Nat) (l : List Nat) (m : Nat) (k : List Nat) (w : World) (hE : Env w) (ho : OkO n l) (hp : OkO m k) (hv : cmpO n l m k = 1) (h1 : chkO n l = 0) (h2 : chkO m k = 1) :
    Calls Tryd.prog 7 #[oV n l, oV m k] w fun e w' => e = .returned (.bool true) ∧ Below w.heap.size w w' := by
  have hl := ho.len
  have hk := hp.len
  have E0 := Lib.hid hE
  have HO := Lib.hid ho
  have HP := Lib.hid hp
  have S := Lib.hid ((Bk.new w 25 (oc n l)).alloc (.cells (oc m k).toArray 25))
  have T := Lib.hid (show Bk ((w.alloc (.cells (oc n l).toArray 25)).alloc (.cells (oc m k).toArray 25)) (w.heap.size + 1) 25 (oc m k) from by
    have := Bk.new (w.alloc (.cells (oc n l).toArray 25)) 25 (oc m k)
    rwa [World.size_alloc] at this)
  have B0 := Lib.hid ((bel1 w (.cells (oc n l).toArray 25)).alloc (by simp) (.cells (oc m k).toArray 25))
  have hq := fun W => eql25 (n := n) (m := m) hl hk W
  obtain ⟨r, hr⟩ : ∃ r, (decide (n = m) && decide (l = k)) = r := ⟨_, rfl⟩
  rw [hr] at hq
  have HR := Lib.hid hr
  clear ho hp hE hr
  have C1 := Lib.hid (fun W => (by have := rcompare_any n l m k W HO.out HP.out; rw [hv] at this; exact this : Calls Tryd.prog 28 #[oV n l, oV m k] W fun e w' => e = .returned (.int .i64 (1)) ∧ Below W.heap.size W w'))
  have C2 := Lib.hid (fun W => (by have := compare_any n l m k W HO.out HP.out; rw [hv] at this; exact this : Calls Tryd.prog 29 #[oV n l, oV m k] W fun e w' => e = .returned (.int .i64 (1)) ∧ Below W.heap.size W w'))
  have C3 := Lib.hid (fun W => (by have := compare_any m k n l W HP.out HO.out; rw [cmpO_anti n l m k, hv] at this; exact this : Calls Tryd.prog 29 #[oV m k, oV n l] W fun e w' => e = .returned (.int .i64 (-1)) ∧ Below W.heap.size W w'))
  have C4 := Lib.hid (fun W => (by have := compare_any n l n l W HO.out HO.out; rw [cmpO_self n l] at this; exact this : Calls Tryd.prog 29 #[oV n l, oV n l] W fun e w' => e = .returned (.int .i64 0) ∧ Below W.heap.size W w'))
  have K1 := Lib.hid (fun W => (by have := rcheck_any n l W HO.out; rw [h1] at this; exact this : Calls Tryd.prog 11 #[oV n l] W (GiveF W 0)))
  have K2 := Lib.hid (fun W => (by have := rcheck_any m k W HP.out; rw [h2] at this; exact this : Calls Tryd.prog 11 #[oV m k] W (GiveF W 1)))
  clear hv h1 h2
  go_enter Tryd.func7, Tryd.ntmps7
  go_upto_region 1 with fail
  generalize (w.alloc (.cells (oc n l).toArray 25)).alloc (.cells (oc m k).toArray 25) = w0 at *
  go_wp2_with (first | (refine wpList_load25g (by rfl) (.tmp 2) rfl rfl S.out hl ?_) | (refine wpList_load25g (by rfl) (.tmp 3) rfl rfl T.out hk ?_))
  refine (C1.out _).mono ?_
  rintro e w1 ⟨rfl, hb⟩
  have B1 := bt B0 (Lib.hid hb)
  have Sn := kt S (Lib.hid hb)
  clear S
  have S := Sn
  clear Sn
  have Tn := kt T (Lib.hid hb)
  clear T
  have T := Tn
  clear Tn
  clear hb B0
  go_wp2_with (first | (refine wpList_load25g (by rfl) (.tmp 2) rfl rfl S.out hl ?_) | (refine wpList_load25g (by rfl) (.tmp 3) rfl rfl T.out hk ?_))
  refine (C2.out _).mono ?_
  rintro e w2 ⟨rfl, hb⟩
  have B2 := bt B1 (Lib.hid hb)
  have Sn := kt S (Lib.hid hb)
  clear S
  have S := Sn
  clear Sn
  have Tn := kt T (Lib.hid hb)
  clear T
  have T := Tn
  clear Tn
  clear hb B1
  go_wp2_with (first | (refine wpList_load25g (by rfl) (.tmp 2) rfl rfl S.out hl ?_) | (refine wpList_load25g (by rfl) (.tmp 3) rfl rfl T.out hk ?_))
  refine (C3.out _).mono ?_
  rintro e w3 ⟨rfl, hb⟩
  have B3 := bt B2 (Lib.hid hb)
  have Sn := kt S (Lib.hid hb)
  clear S
  have S := Sn
  clear Sn
  have Tn := kt T (Lib.hid hb)
  clear T
  have T := Tn
  clear Tn
  clear hb B2
  go_wp2_with (first | (refine wpList_load25g (by rfl) (.tmp 2) rfl rfl S.out hl ?_) | (refine wpList_load25g (by rfl) (.tmp 3) rfl rfl T.out hk ?_))
  refine (C4.out _).mono ?_
  rintro e w4 ⟨rfl, hb⟩
  have B4 := bt B3 (Lib.hid hb)
  have Sn := kt S (Lib.hid hb)
  clear S
  have S := Sn
  clear Sn
  have Tn := kt T (Lib.hid hb)
  clear T
  have T := Tn
  clear Tn
  clear hb B3
  go_wp2_with (first | (refine wpList_load25g (by rfl) (.tmp 2) rfl rfl S.out hl ?_) | (refine wpList_load25g (by rfl) (.tmp 3) rfl rfl T.out hk ?_))
  refine (K1.out _).mono ?_
  rintro e w5 ⟨rfl, hb⟩
  have B5 := bt B4 (Lib.hid hb)
  have Sn := kt S (Lib.hid hb)
  clear S
  have S := Sn
  clear Sn
  have Tn := kt T (Lib.hid hb)
  clear T
  have T := Tn
  clear Tn
  clear hb B4
  go_wp2_with (first | (refine wpList_load25g (by rfl) (.tmp 2) rfl rfl S.out hl ?_) | (refine wpList_load25g (by rfl) (.tmp 3) rfl rfl T.out hk ?_))
  refine (K2.out _).mono ?_
  rintro e w6 ⟨rfl, hb⟩
  have B6 := bt B5 (Lib.hid hb)
  have Sn := kt S (Lib.hid hb)
  clear S
  have S := Sn
  clear Sn
  have Tn := kt T (Lib.hid hb)
  clear T
  have T := Tn
  clear Tn
  clear hb B5
  go_wp2_with (first | (refine wpList_load25g (by rfl) (.tmp 2) rfl rfl S.out hl ?_) | (refine wpList_load25g (by rfl) (.tmp 3) rfl rfl T.out hk ?_))
  refine (lives_any _ (E0.out.below B6.out)).mono ?_
  rintro e w7 ⟨rfl, hb⟩
  have B7 := bt B6 (Lib.hid hb)
  have Sn := kt S (Lib.hid hb)
  clear S
  have S := Sn
  clear Sn
  have Tn := kt T (Lib.hid hb)
  clear T
  have T := Tn
  clear Tn
  clear hb B6
  go_wp2_with (first | (refine wpList_load25g (by rfl) (.tmp 2) rfl rfl S.out hl ?_) | (refine wpList_load25g (by rfl) (.tmp 3) rfl rfl T.out hk ?_))
  go_ret
  exact ⟨rfl, B7.out⟩
set_option maxHeartbeats 2000000 in
set_option maxRecDepth 100000 in
theorem cmp_gt_2 (n : Nat) (l : List Nat) (m : Nat) (k : List Nat) (w : World) (hE : Env w) (ho : OkO n l) (hp : OkO m k) (hv : cmpO n l m k = 1) (h1 : chkO n l = 0) (h2 : chkO m k = 0) :
    Calls Tryd.prog 7 #[oV n l, oV m k] w fun e w' => e = .returned (.bool true) ∧ Below w.heap.size w w' := by
  have hl := ho.len
  have hk := hp.len
  have E0 := Lib.hid hE
  have HO := Lib.hid ho
  have HP := Lib.hid hp
  have S := Lib.hid ((Bk.new w 25 (oc n l)).alloc (.cells (oc m k).toArray 25))
  have T := Lib.hid (show Bk ((w.alloc (.cells (oc n l).toArray 25)).alloc (.cells (oc m k).toArray 25)) (w.heap.size + 1) 25 (oc m k) from by
    have := Bk.new (w.alloc (.cells (oc n l).toArray 25)) 25 (oc m k)
    rwa [World.size_alloc] at this)
  have B0 := Lib.hid ((bel1 w (.cells (oc n l).toArray 25)).alloc (by simp) (.cells (oc m k).toArray 25))
  have hq := fun W => eql25 (n := n) (m := m) hl hk W
  obtain ⟨r, hr⟩ : ∃ r, (decide (n = m) && decide (l = k)) = r := ⟨_, rfl⟩
  rw [hr] at hq
  have HR := Lib.hid hr
  have hrv : r = false := by
    rw [← hr, Bool.eq_false_iff]
    intro h; simp at h; have := (cmpO_zero ho hp h1 h2).2 h; rw [hv] at this; cases this
  subst hrv
  clear ho hp hE HR
  have C1 := Lib.hid (fun W => (by have := rcompare_any n l m k W HO.out HP.out; rw [hv] at this; exact this : Calls Tryd.prog 28 #[oV n l, oV m k] W fun e w' => e = .returned (.int .i64 (1)) ∧ Below W.heap.size W w'))
  have C2 := Lib.hid (fun W => (by have := compare_any n l m k W HO.out HP.out; rw [hv] at this; exact this : Calls Tryd.prog 29 #[oV n l, oV m k] W fun e w' => e = .returned (.int .i64 (1)) ∧ Below W.heap.size W w'))
  have C3 := Lib.hid (fun W => (by have := compare_any m k n l W HP.out HO.out; rw [cmpO_anti n l m k, hv] at this; exact this : Calls Tryd.prog 29 #[oV m k, oV n l] W fun e w' => e = .returned (.int .i64 (-1)) ∧ Below W.heap.size W w'))
  have C4 := Lib.hid (fun W => (by have := compare_any n l n l W HO.out HO.out; rw [cmpO_self n l] at this; exact this : Calls Tryd.prog 29 #[oV n l, oV n l] W fun e w' => e = .returned (.int .i64 0) ∧ Below W.heap.size W w'))
  have K1 := Lib.hid (fun W => (by have := rcheck_any n l W HO.out; rw [h1] at this; exact this : Calls Tryd.prog 11 #[oV n l] W (GiveF W 0)))
  have K2 := Lib.hid (fun W => (by have := rcheck_any m k W HP.out; rw [h2] at this; exact this : Calls Tryd.prog 11 #[oV m k] W (GiveF W 0)))
  clear hv h1 h2
  go_enter Tryd.func7, Tryd.ntmps7
  go_upto_region 1 with fail
  generalize (w.alloc (.cells (oc n l).toArray 25)).alloc (.cells (oc m k).toArray 25) = w0 at *
  go_wp2_with (first | (refine wpList_load25g (by rfl) (.tmp 2) rfl rfl S.out hl ?_) | (refine wpList_load25g (by rfl) (.tmp 3) rfl rfl T.out hk ?_))
  refine (C1.out _).mono ?_
  rintro e w1 ⟨rfl, hb⟩
  have B1 := bt B0 (Lib.hid hb)
  have Sn := kt S (Lib.hid hb)
  clear S
  have S := Sn
  clear Sn
  have Tn := kt T (Lib.hid hb)
  clear T
  have T := Tn
  clear Tn
  clear hb B0
  go_wp2_with (first | (refine wpList_load25g (by rfl) (.tmp 2) rfl rfl S.out hl ?_) | (refine wpList_load25g (by rfl) (.tmp 3) rfl rfl T.out hk ?_))
  refine (C2.out _).mono ?_
  rintro e w2 ⟨rfl, hb⟩
  have B2 := bt B1 (Lib.hid hb)
  have Sn := kt S (Lib.hid hb)
  clear S
  have S := Sn
  clear Sn
  have Tn := kt T (Lib.hid hb)
  clear T
  have T := Tn
  clear Tn
  clear hb B1
  go_wp2_with (first | (refine wpList_load25g (by rfl) (.tmp 2) rfl rfl S.out hl ?_) | (refine wpList_load25g (by rfl) (.tmp 3) rfl rfl T.out hk ?_))
  refine (C3.out _).mono ?_
  rintro e w3 ⟨rfl, hb⟩
  have B3 := bt B2 (Lib.hid hb)
  have Sn := kt S (Lib.hid hb)
  clear S
  have S := Sn
  clear Sn
  have Tn := kt T (Lib.hid hb)
  clear T
  have T := Tn
  clear Tn
  clear hb B2
  go_wp2_with (first | (refine wpList_load25g (by rfl) (.tmp 2) rfl rfl S.out hl ?_) | (refine wpList_load25g (by rfl) (.tmp 3) rfl rfl T.out hk ?_))
  refine (C4.out _).mono ?_
  rintro e w4 ⟨rfl, hb⟩
  have B4 := bt B3 (Lib.hid hb)
  have Sn := kt S (Lib.hid hb)
  clear S
  have S := Sn
  clear Sn
  have Tn := kt T (Lib.hid hb)
  clear T
  have T := Tn
  clear Tn
  clear hb B3
  go_wp2_with (first | (refine wpList_load25g (by rfl) (.tmp 2) rfl rfl S.out hl ?_) | (refine wpList_load25g (by rfl) (.tmp 3) rfl rfl T.out hk ?_))
  refine (K1.out _).mono ?_
  rintro e w5 ⟨rfl, hb⟩
  have B5 := bt B4 (Lib.hid hb)
  have Sn := kt S (Lib.hid hb)
  clear S
  have S := Sn
  clear Sn
  have Tn := kt T (Lib.hid hb)
  clear T
  have T := Tn
  clear Tn
  clear hb B4
  go_wp2_with (first | (refine wpList_load25g (by rfl) (.tmp 2) rfl rfl S.out hl ?_) | (refine wpList_load25g (by rfl) (.tmp 3) rfl rfl T.out hk ?_))
  refine (K2.out _).mono ?_
  rintro e w6 ⟨rfl, hb⟩
  have B6 := bt B5 (Lib.hid hb)
  have Sn := kt S (Lib.hid hb)
  clear S
  have S := Sn
  clear Sn
  have Tn := kt T (Lib.hid hb)
  clear T
  have T := Tn
  clear Tn
  clear hb B5
  go_wp2_with (first | (refine wpList_load25g (by rfl) (.tmp 2) rfl rfl S.out hl ?_) | (refine wpList_load25g (by rfl) (.tmp 3) rfl rfl T.out hk ?_))
  refine (lives_any _ (E0.out.below B6.out)).mono ?_
  rintro e w7 ⟨rfl, hb⟩
  have B7 := bt B6 (Lib.hid hb)
  have Sn := kt S (Lib.hid hb)
  clear S
  have S := Sn
  clear Sn
  have Tn := kt T (Lib.hid hb)
  clear T
  have T := Tn
  clear Tn
  clear hb B6
  go_wp2_with (first | (refine wpList_load25g (by rfl) (.tmp 2) rfl rfl S.out hl ?_) | (refine wpList_load25g (by rfl) (.tmp 3) rfl rfl T.out hk ?_))
  go_ret
  exact ⟨rfl, B7.out⟩
theorem compare_walk (n : Nat) (l : List Nat) (m : Nat) (k : List Nat) (w : World) (hE : Env w) (ho : OkO n l) (hp : OkO m k) :
    Calls Tryd.prog 7 #[oV n l, oV m k] w fun e w' => e = .returned (.bool true) ∧ Below w.heap.size w w' := by
  rcases cmpL_tri (l.take (min n 16)) (k.take (min m 16)) with hv | hv | hv <;> rcases chkO_01 n l with h1 | h1 <;> rcases chkO_01 m k with h2 | h2
  · exact cmp_lt_2 n l m k w hE ho hp hv h1 h2
  · exact cmp_lt_1 n l m k w hE ho hp hv h1 h2
  · exact cmp_lt_0 n l m k w hE ho hp hv h1
  · exact cmp_lt_0 n l m k w hE ho hp hv h1
  · exact cmp_eq_2 n l m k w hE ho hp hv h1 h2
  · exact cmp_eq_1 n l m k w hE ho hp hv h1 h2
  · exact cmp_eq_0 n l m k w hE ho hp hv h1
  · exact cmp_eq_0 n l m k w hE ho hp hv h1
  · exact cmp_gt_2 n l m k w hE ho hp hv h1 h2
  · exact cmp_gt_1 n l m k w hE ho hp hv h1 h2
  · exact cmp_gt_0 n l m k w hE ho hp hv h1
  · exact cmp_gt_0 n l m k w hE ho hp hv h1

open Go.ChangeShapes Go.WideShapes Go.ChangeAt Go.WideMaps Go.WideElems
set_option maxRecDepth 100000 in
theorem oidsCompare_lifted (os : Os) (started : os.Started) (H : Type) (enc : TypeId × Value → H) :
    ReturnsInHanded {} Tryd.checked os 7 .any (fun w args => (Rows.oidsCompareSpec.pre enc Tryd.prog Tryd.f7 [] false w args ∧ laidMetH Tryd.prog laidL w) ∧ sizedMet enc Tryd.prog Tryd.f7 (OpenSpec.ofChange Rows.oidsCompareSpec) false w args)
      (Rows.oidsCompareSpec.post enc Tryd.prog Tryd.f7 false true false false) := by
  refine returnsInHanded_of_change_and (C := Tryd.checked) (X := fun w _ => laidMetH Tryd.prog laidL w) (fun _ _ _ hh h => h.of_heap hh) x_own started (by kernel_rfl) Tryd.func7
    (ChangeSpec.witness_shaped (enc := enc) (C := Tryd.checked) (os := os) (X := fun w _ => laidMetH Tryd.prog laidL w) false (World.laidAll Tryd.prog os laidL) #[.agg #[.int .u8 0, .int .u32 0, .int .u32 0, .int .u32 0, .int .u32 0, .int .u32 0, .int .u32 0, .int .u32 0, .int .u32 0, .int .u32 0, .int .u32 0, .int .u32 0, .int .u32 0, .int .u32 0, .int .u32 0, .int .u32 0, .int .u32 0], .agg #[.int .u8 0, .int .u32 0, .int .u32 0, .int .u32 0, .int .u32 0, .int .u32 0, .int .u32 0, .int .u32 0, .int .u32 0, .int .u32 0, .int .u32 0, .int .u32 0, .int .u32 0, .int .u32 0, .int .u32 0, .int .u32 0, .int .u32 0]] 8 (World.laidAll_os _ _ _) (World.shaped_of_ZipB (by kernel_rfl) (by kernel_rfl)) (by kernel_rfl) (by kernel_rfl) (by kernel_rfl) (door_met os _)) ?_
  intro W base args ds gs before hval0 hW _ _ hL _
  have hval : ∀ (j : Nat) t v, Tryd.f7.params[j]? = some t → args[j]? = some v → Value.okWide Tryd.prog W .any base t v := hval0
  have hW' := hW
  obtain ⟨p, q, hA0, hV, rfl, hfz, hnd⟩ := hW
  have hA : DataW.TrodAll enc Tryd.prog W 0 (fun _ => true) true Tryd.f7.params.toList args.toList ds p := hA0
  rw [Tryd.params7] at hA hval
  obtain ⟨v0, v1, d0, d1, p0, p1, rfl, rfl, rfl, h0, h1⟩ := trodAll_two hA
  obtain ⟨rfl, rfl⟩ := trodVars_none hV
  obtain ⟨n, l, rfl, ho⟩ := open_oid (hval 0 _ v0 rfl rfl) h0
  obtain ⟨m, k, rfl, hp⟩ := open_oid (hval 1 _ v1 rfl rfl) h1
  have hE := of_laid hL
  clear hA0 hval0
  simp only [List.append_nil] at hW'
  refine (compare_walk n l m k W hE ho hp).mono fun e W' ⟨he, hb⟩ => ?_
  subst he
  exact ⟨_, rfl, law_post (tb := 4) x_laid (by decide +kernel) rfl rfl (by kernel_rfl) Tryd.underlying4 hW' hb⟩

/-- The row's statement. -/
theorem oidsCompare_row : Rows.OidsCompareSaid :=
  OpenClaim.holds_of_wide 7 Tryd.f7 rfl rfl rfl rfl rfl rfl rfl ⟨rfl, rfl, rfl, rfl, rfl⟩ rfl rfl rfl rfl rfl (by kernel_rfl) Tryd.func7 (by kernel_rfl)
    (of_decide_eq_true (by kernel_rfl)) (by unfold Func.isWrapper; first | (rw [if_pos (by decide +kernel)]; kernel_rfl) | (rw [if_neg (by decide +kernel)]; exact ⟨rfl, rfl⟩))
    (fun os started H enc _ => oidsCompare_lifted os started H enc)

/-- The statement: the card. -/
theorem oidsCompare_holds : Rows.OidsCompareCardSaid :=
  Claim7.holds_tied_plain_at .later [] [.data, .data, .data, .data, .sentinel, .sentinel, .pinned] true Rows.oidsCompareCard.stood.harness true
    oidsCompare_row (fun _ h => by cases h) (by kernel_rfl) (fun _ h => by cases h) oidsCompare_row_tie rfl ⟨rfl, rfl⟩ (by kernel_rfl) rfl
    (fun f fn hf hfn => by
      obtain rfl : f = 7 := Option.some.inj ((show Tryd.prog.funcNamed "vidimus/vidimuslaw06.OidsCompare" = some 7 by kernel_rfl).symm.trans hf) |>.symm
      obtain rfl : fn = Tryd.f7 := (Option.some.inj (Tryd.func7.symm.trans hfn)).symm
      exact ⟨by kernel_rfl, fun j t ht => by
        rw [Tryd.params7] at ht
        have hm : t ∈ Tryd.f7.params.toList := by rw [Tryd.params7]; exact Array.mem_toList_iff.2 (Array.mem_of_getElem? ht)
        have hall : (Tryd.f7.params.toList.all fun u => !Tryd.prog.wantsStandIn u) = true := by kernel_rfl
        exact (show Tryd.prog.wantsStandIn t = false by simpa using List.all_eq_true.1 hall t hm)⟩)
    (by kernel_rfl)
end Go.Proofs.YtmofpdilnapjiaaDoor
