/-
  Layer 6, the statement OidsCheck: exactly the valid OIDs are accepted; the other functions return the error, or the value that the chapter names.
  Conditions: the package-level variables that the row lists hold what the program's text lays (the card ties them).
-/
import Derived.Test.YtmofpdilnapjiaaDoorOidY
import Derived.Test.YtmofpdilnapjiaaDoorOidZ
import Derived.Test.YtmofpdilnapjiaaDoorOidI
import Derived.Test.YtmofpdilnapjiaaDoorOidN
namespace Go.Proofs.YtmofpdilnapjiaaDoor
open Go.RowKit

theorem r32t {a b : World} {A : Option Addr} {l : List Nat} (h : Hid (R32 a A l)) (h2 : Hid (Below a.heap.size a b)) : Hid (R32 b A l) := Lib.hid (h.out.below h2.out)
theorem neqO {n : Nat} {k : List Nat} (hk : k.length = 16) (w : World) : (binOp .neq 25 (oV n k) (oV n k)).run Tryd.prog w = .ok (.bool false) w := by
  rw [run_neq_struct, show (10000 : Nat) = 9997 + 3 from rfl, equalIn25 9997 hk hk w, decide_eq_true (p := n = n) rfl, decide_eq_true (p := k = k) rfl]
  rfl
set_option maxHeartbeats 4000000 in
set_option maxRecDepth 100000 in
theorem check_long (n : Nat) (l : List Nat) (m : Nat) (k : List Nat) (A : Option Addr) (ls : List Nat) (N c : Nat) (w : World) (hE : Env w) (ho : OkO n l) (hp : OkO m k) (_hN : ls.length = N) (hA : R32 w A ls) (_h32 : ∀ y ∈ ls, y < 4294967296) (_hlc : N ≤ c) (_hm : c ≤ maxLen) (hg : 20 < N) :
    Calls Tryd.prog 3 #[oV n l, oV m k, .slice A N c] w fun e w' => e = .returned (.bool true) ∧ Below w.heap.size w w' := by
  have hz := zero25
  obtain ⟨zl, hzl⟩ : ∃ zl, zeroL = zl := ⟨_, rfl⟩
  have HZ := Lib.hid hzl
  have HZL : Hid (zl.length = 16) := Lib.hid (by rw [← hzl]; exact zeroL_length)
  rw [hzl] at hz
  clear hzl
  have hl := ho.len
  have hk := hp.len
  have E0 := Lib.hid hE
  have S := Lib.hid ((Bk.new w 25 (oc n l)).alloc (.cells (oc m k).toArray 25))
  have T := Lib.hid (show Bk ((w.alloc (.cells (oc n l).toArray 25)).alloc (.cells (oc m k).toArray 25)) (w.heap.size + 1) 25 (oc m k) from by
    have := Bk.new (w.alloc (.cells (oc n l).toArray 25)) 25 (oc m k)
    rwa [World.size_alloc] at this)
  have B0 := Lib.hid ((bel1 w (.cells (oc n l).toArray 25)).alloc (by simp) (.cells (oc m k).toArray 25))
  have R : Hid (R32 ((w.alloc (.cells (oc n l).toArray 25)).alloc (.cells (oc m k).toArray 25)) A ls) := Lib.hid (hA.below B0.out)
  have HA0 := Lib.hid (fun (q : Addr) (hq : A = some q) (hne : cs32 ls ≠ []) => (by obtain ⟨b, off, e, hb, -⟩ := hA hne; rw [e] at hq; injection hq with hq; rw [← hq]; exact hb : q.block < w.heap.size))
  have hq := fun W => eql25 (n := n) (m := 5) hl (show anyL.length = 16 from rfl) W
  have CI := Lib.hid (fun W => isany_any n l W ho)
  obtain ⟨r, hr⟩ : ∃ r, (decide (n = 5) && decide (l = anyL)) = r := ⟨_, rfl⟩
  rw [hr] at hq CI
  clear hr
  clear hE hA ho hp hq hz
  go_enter Tryd.func3, Tryd.ntmps3
  go_upto_region 1 with fail
  generalize (w.alloc (.cells (oc n l).toArray 25)).alloc (.cells (oc m k).toArray 25) = w0 at *
  go_wp2_with fail
  refine (lives_any _ (E0.out.below B0.out)).mono ?_
  rintro e w1 ⟨rfl, hb⟩
  have B1 := bt B0 (Lib.hid hb)
  clear hb B0
  go_wp2_with fail
  go_ret
  exact ⟨rfl, B1.out⟩
set_option maxHeartbeats 4000000 in
set_option maxRecDepth 100000 in
theorem check_0_0 (n : Nat) (l : List Nat) (m : Nat) (k : List Nat) (A : Option Addr) (ls : List Nat) (N c : Nat) (w : World) (hE : Env w) (ho : OkO n l) (hp : OkO m k) (hN : ls.length = N) (hA : R32 w A ls) (h32 : ∀ y ∈ ls, y < 4294967296) (hlc : N ≤ c) (hm : c ≤ maxLen) (hg : N ≤ 20) (h1 : chkO n l = 0) (h2 : 17 ≤ N) :
    Calls Tryd.prog 3 #[oV n l, oV m k, .slice A N c] w fun e w' => e = .returned (.bool true) ∧ Below w.heap.size w w' := by
  have hz := zero25
  obtain ⟨zl, hzl⟩ : ∃ zl, zeroL = zl := ⟨_, rfl⟩
  have HZ := Lib.hid hzl
  have HZL : Hid (zl.length = 16) := Lib.hid (by rw [← hzl]; exact zeroL_length)
  rw [hzl] at hz
  clear hzl
  have hl := ho.len
  have hk := hp.len
  have E0 := Lib.hid hE
  have S := Lib.hid ((Bk.new w 25 (oc n l)).alloc (.cells (oc m k).toArray 25))
  have T := Lib.hid (show Bk ((w.alloc (.cells (oc n l).toArray 25)).alloc (.cells (oc m k).toArray 25)) (w.heap.size + 1) 25 (oc m k) from by
    have := Bk.new (w.alloc (.cells (oc n l).toArray 25)) 25 (oc m k)
    rwa [World.size_alloc] at this)
  have B0 := Lib.hid ((bel1 w (.cells (oc n l).toArray 25)).alloc (by simp) (.cells (oc m k).toArray 25))
  have R : Hid (R32 ((w.alloc (.cells (oc n l).toArray 25)).alloc (.cells (oc m k).toArray 25)) A ls) := Lib.hid (hA.below B0.out)
  have HA0 := Lib.hid (fun (q : Addr) (hq : A = some q) (hne : cs32 ls ≠ []) => (by obtain ⟨b, off, e, hb, -⟩ := hA hne; rw [e] at hq; injection hq with hq; rw [← hq]; exact hb : q.block < w.heap.size))
  have hq := fun W => eql25 (n := n) (m := 5) hl (show anyL.length = 16 from rfl) W
  have CI := Lib.hid (fun W => isany_any n l W ho)
  obtain ⟨r, hr⟩ : ∃ r, (decide (n = 5) && decide (l = anyL)) = r := ⟨_, rfl⟩
  rw [hr] at hq CI
  clear hr
  have C1 := Lib.hid (fun W => (by have := rcheck_any n l W ho; rw [h1] at this; exact this : Calls Tryd.prog 11 #[oV n l] W (GiveF W 0)))
  have C2 := Lib.hid (fun W => (by have := check_any n l W ho; rw [h1] at this; exact this : Calls Tryd.prog 12 #[oV n l] W (GiveF W 0)))
  have hnot : ¬ (ls.length ≤ 16 ∧ chkO ls.length (pad ls) = 0) := fun h => by have := h.1; have := h.2; rw [hN] at *; omega
  have CO := Lib.hid (fun W (hR : R32 W A ls) => (by have := of_any A ls c W (by rw [hN]; omega) h32 hR; rw [show ofN ls = 0 from if_neg hnot, show ofL ls = zl from (if_neg hnot).trans HZ.out, hN] at this; exact this : Calls Tryd.prog 16 #[.slice A N c] W (GiveO W 0 zl)))
  have hne := fun W => neqO (n := 0) HZL.out W
  clear hE hA ho hp h1 hN h32 hnot
  go_enter Tryd.func3, Tryd.ntmps3
  go_upto_region 1 with fail
  generalize (w.alloc (.cells (oc n l).toArray 25)).alloc (.cells (oc m k).toArray 25) = w0 at *
  go_wp2_with (first | (refine wpList_load25g (by rfl) (.tmp 3) rfl rfl S.out hl ?_) | (refine wpList_load25g (by rfl) (.tmp 4) rfl rfl T.out hk ?_))
  refine (C1.out _).mono ?_
  rintro e w1 ⟨rfl, hb⟩
  have hbh := Lib.hid hb
  clear hb
  have B1 := bt B0 hbh
  have Sn := kt S hbh
  clear S
  have S := Sn
  clear Sn
  have Tn := kt T hbh
  clear T
  have T := Tn
  clear Tn
  have Rn := r32t R hbh
  clear R
  have R := Rn
  clear Rn
  clear B0
  clear hbh
  go_upto_region 4 with fail
  refine wp_region_held_drew (S := fun W => Bk W w.heap.size 25 (oc n l)) (by kernel_rfl) (S.out) (fun hS => ?_)
  have hdr : Hid (Below w1.heap.size w1 w1.drew) := Lib.hid ⟨rfl, rfl, rfl, Nat.le_refl _, fun _ _ => rfl⟩
  have B2 := bt B1 hdr
  have Sn := kt S hdr
  clear S
  have S := Sn
  clear Sn
  have Tn := kt T hdr
  clear T
  have T := Tn
  clear Tn
  have Rn := r32t R hdr
  clear R
  have R := Rn
  clear Rn
  clear B1
  clear hdr
  generalize w1.drew = w2 at *
  refine wpAnyH_take (i := 0) (oi := ⟨some 17, _, _, _, _, _⟩) (v := oV n l) rfl (by kernel_rfl) (by kernel_rfl) (by kernel_rfl) (fun _ _ _ h => h) (yieldsIf_load_mid (by rfl) 25 (.tmp 3) rfl (w.heap.size) 0 rfl (oc n l) _ (fun W h => range25 h) Tryd.underlying25 rfl (by rw [oc_length, hl]; exact info25)) hS ?_
  simp only [Act.put, List.setIfInBounds_toArray, List.set_cons_zero, List.set_cons_succ]
  refine wpAnyH_take (i := 2) (oi := ⟨some 19, _, _, _, _, _⟩) (v := .int .i64 0) rfl (by kernel_rfl) (by kernel_rfl) (by kernel_rfl) (fun _ _ _ h => h) (Or.inl ⟨by rfl, fun w hSw => by (try dsimp only at hSw); go_simp⟩) hS ?_
  simp only [Act.put, List.setIfInBounds_toArray, List.set_cons_zero, List.set_cons_succ]
  refine wpAnyH_ready (rs := [1]) (by kernel_rfl) (by simp) ?_
  refine AllReadyH.cons (o := _) rfl (fun K hK => ?_) (AllReadyH.nil)
  go_simp
  refine (C2.out _).mono ?_
  rintro e w3 ⟨rfl, hb⟩
  have hbh := Lib.hid hb
  clear hb
  have B3 := bt B2 hbh
  have Sn := kt S hbh
  clear S
  have S := Sn
  clear Sn
  have Tn := kt T hbh
  clear T
  have T := Tn
  clear Tn
  have Rn := r32t R hbh
  clear R
  have R := Rn
  clear Rn
  clear B2
  clear hbh
  go_simp
  refine hK.out _ _ (S.out) (fun hS => ?_)
  clear hK K
  (try simp only [Act.put, List.setIfInBounds_toArray, List.set_cons_zero, List.set_cons_succ])
  refine wpAnyH_take (i := 3) (oi := ⟨some 20, _, _, _, _, _⟩) (v := .bool false) rfl (by kernel_rfl) (by kernel_rfl) (by kernel_rfl) (fun _ _ _ h => h) (Or.inl ⟨by rfl, fun w hSw => by (try dsimp only at hSw); go_simp⟩) hS ?_
  simp only [Act.put, List.setIfInBounds_toArray, List.set_cons_zero, List.set_cons_succ]
  refine wpAnyH_take (i := 4) (oi := ⟨some 21, _, _, _, _, _⟩) (v := .bool false) rfl (by kernel_rfl) (by kernel_rfl) (by kernel_rfl) (fun _ _ _ h => h) (Or.inl ⟨by rfl, fun w hSw => by (try dsimp only at hSw); go_simp⟩) hS ?_
  simp only [Act.put, List.setIfInBounds_toArray, List.set_cons_zero, List.set_cons_succ]
  refine wpAnyH_take (i := 5) (oi := ⟨some 22, _, _, _, _, _⟩) (v := oV n l) rfl (by kernel_rfl) (by kernel_rfl) (by kernel_rfl) (fun _ _ _ h => h) (yieldsIf_load_mid (by rfl) 25 (.tmp 3) rfl (w.heap.size) 0 rfl (oc n l) _ (fun W h => range25 h) Tryd.underlying25 rfl (by rw [oc_length, hl]; exact info25)) hS ?_
  simp only [Act.put, List.setIfInBounds_toArray, List.set_cons_zero, List.set_cons_succ]
  refine wpAnyH_take (i := 7) (oi := ⟨some 24, _, _, _, _, _⟩) (v := oV n l) rfl (by kernel_rfl) (by kernel_rfl) (by kernel_rfl) (fun _ _ _ h => h) (yieldsIf_load_mid (by rfl) 25 (.tmp 3) rfl (w.heap.size) 0 rfl (oc n l) _ (fun W h => range25 h) Tryd.underlying25 rfl (by rw [oc_length, hl]; exact info25)) hS ?_
  simp only [Act.put, List.setIfInBounds_toArray, List.set_cons_zero, List.set_cons_succ]
  refine wpAnyH_ready (rs := [6]) (by kernel_rfl) (by simp) ?_
  refine AllReadyH.cons (o := _) rfl (fun K hK => ?_) (AllReadyH.nil)
  go_simp
  refine (CI.out _).mono ?_
  rintro e w4 ⟨rfl, hb⟩
  have hbh := Lib.hid hb
  clear hb
  have B4 := bt B3 hbh
  have Sn := kt S hbh
  clear S
  have S := Sn
  clear Sn
  have Tn := kt T hbh
  clear T
  have T := Tn
  clear Tn
  have Rn := r32t R hbh
  clear R
  have R := Rn
  clear Rn
  clear B3
  clear hbh
  go_simp
  refine hK.out _ _ (S.out) (fun hS => ?_)
  clear hK K
  (try simp only [Act.put, List.setIfInBounds_toArray, List.set_cons_zero, List.set_cons_succ])
  refine wpAnyH_ready (rs := [8]) (by kernel_rfl) (by simp) ?_
  refine AllReadyH.cons (o := _) rfl (fun K hK => ?_) (AllReadyH.nil)
  go_simp
  refine (rany_any _).mono ?_
  rintro e w5 ⟨rfl, hb⟩
  have hbh := Lib.hid hb
  clear hb
  have B5 := bt B4 hbh
  have Sn := kt S hbh
  clear S
  have S := Sn
  clear Sn
  have Tn := kt T hbh
  clear T
  have T := Tn
  clear Tn
  have Rn := r32t R hbh
  clear R
  have R := Rn
  clear Rn
  clear B4
  clear hbh
  go_simp
  refine hK.out _ _ (S.out) (fun hS => ?_)
  clear hK K
  (try simp only [Act.put, List.setIfInBounds_toArray, List.set_cons_zero, List.set_cons_succ])
  refine wpAnyH_take (i := 9) (oi := ⟨some 26, _, _, _, _, _⟩) (v := .bool r) rfl (by kernel_rfl) (by kernel_rfl) (by kernel_rfl) (fun _ _ _ h => h) (Or.inl ⟨by rfl, fun w hSw => by (try dsimp only at hSw); go_simp⟩) hS ?_
  simp only [Act.put, List.setIfInBounds_toArray, List.set_cons_zero, List.set_cons_succ]
  refine wpAnyH_take (i := 10) (oi := ⟨some 27, _, _, _, _, _⟩) (v := .bool false) rfl (by kernel_rfl) (by kernel_rfl) (by kernel_rfl) (fun _ _ _ h => h) (Or.inl ⟨by rfl, fun w hSw => by (try dsimp only at hSw); go_simp⟩) hS ?_
  simp only [Act.put, List.setIfInBounds_toArray, List.set_cons_zero, List.set_cons_succ]
  refine wpAnyH_take (i := 11) (oi := ⟨some 28, _, _, _, _, _⟩) (v := .bool false) rfl (by kernel_rfl) (by kernel_rfl) (by kernel_rfl) (fun _ _ _ h => h) (Or.inl ⟨by rfl, fun w hSw => by (try dsimp only at hSw); go_simp⟩) hS ?_
  simp only [Act.put, List.setIfInBounds_toArray, List.set_cons_zero, List.set_cons_succ]
  refine wpAnyH_done (by kernel_rfl) ?_ _
  go_upto_region 7 with fail
  have V := Lib.hid (Bk.new w5 25 (oc 0 zl))
  have hbh := Lib.hid (bel1 w5 (.cells (oc 0 zl).toArray 25))
  have HG8 : Hid (w.heap.size + 1 < w5.heap.size) := Lib.hid T.out.lt
  have B6 := bt B5 hbh
  have Sn := kt S hbh
  clear S
  have S := Sn
  clear Sn
  have Tn := kt T hbh
  clear T
  have T := Tn
  clear Tn
  have Rn := r32t R hbh
  clear R
  have R := Rn
  clear Rn
  clear B5
  clear hbh
  generalize w5.alloc (.cells (oc 0 zl).toArray 25) = w6 at *
  generalize w5.heap.size = g8 at *
  go_upto_region 9 with fail
  refine wp_region_held_drew (S := fun W => Bk W g8 25 (oc 0 zl)) (by kernel_rfl) (V.out) (fun hS => ?_)
  have hdr : Hid (Below w6.heap.size w6 w6.drew) := Lib.hid ⟨rfl, rfl, rfl, Nat.le_refl _, fun _ _ => rfl⟩
  have B7 := bt B6 hdr
  have Sn := kt S hdr
  clear S
  have S := Sn
  clear Sn
  have Tn := kt T hdr
  clear T
  have T := Tn
  clear Tn
  have Vn := kt V hdr
  clear V
  have V := Vn
  clear Vn
  have Rn := r32t R hdr
  clear R
  have R := Rn
  clear Rn
  clear B6
  clear hdr
  generalize w6.drew = w7 at *
  refine wpAnyH_take (i := 0) (oi := ⟨some 40, _, _, _, _, _⟩) (v := .slice A N c) rfl (by kernel_rfl) (by kernel_rfl) (by kernel_rfl) (fun _ _ _ h => h) (Or.inl ⟨by rfl, fun w hSw => by (try dsimp only at hSw); go_simp⟩) hS ?_
  simp only [Act.put, List.setIfInBounds_toArray, List.set_cons_zero, List.set_cons_succ]
  refine wpAnyH_take (i := 2) (oi := ⟨some 42, _, _, _, _, _⟩) (v := oV 0 zl) rfl (by kernel_rfl) (by kernel_rfl) (by kernel_rfl) (fun _ _ _ h => h) (yieldsIf_load_mid (by rfl) 25 (.tmp 8) rfl (g8) 0 rfl (oc 0 zl) _ (fun W h => range25 h) Tryd.underlying25 rfl (by rw [oc_length, HZL.out]; exact info25)) hS ?_
  simp only [Act.put, List.setIfInBounds_toArray, List.set_cons_zero, List.set_cons_succ]
  refine wpAnyH_ready (rs := [1]) (by kernel_rfl) (by simp) ?_
  refine AllReadyH.cons (o := _) rfl (fun K hK => ?_) (AllReadyH.nil)
  go_simp
  refine (CO.out _ R.out).mono ?_
  rintro e w8 ⟨rfl, hb⟩
  have hbh := Lib.hid hb
  clear hb
  have B8 := bt B7 hbh
  have Sn := kt S hbh
  clear S
  have S := Sn
  clear Sn
  have Tn := kt T hbh
  clear T
  have T := Tn
  clear Tn
  have Vn := kt V hbh
  clear V
  have V := Vn
  clear Vn
  have Rn := r32t R hbh
  clear R
  have R := Rn
  clear Rn
  clear B7
  clear hbh
  go_simp
  refine hK.out _ _ (V.out) (fun hS => ?_)
  clear hK K
  (try simp only [Act.put, List.setIfInBounds_toArray, List.set_cons_zero, List.set_cons_succ])
  refine wpAnyH_take (i := 3) (oi := ⟨some 43, _, _, _, _, _⟩) (v := .bool false) rfl (by kernel_rfl) (by kernel_rfl) (by kernel_rfl) (fun _ _ _ h => h) (Or.inl ⟨by rfl, fun w hSw => by (try dsimp only at hSw); go_simp⟩) hS ?_
  simp only [Act.put, List.setIfInBounds_toArray, List.set_cons_zero, List.set_cons_succ]
  refine wpAnyH_done (by kernel_rfl) ?_ _
  go_wp2_with (first | (refine wpList_load25g (by rfl) (.tmp 3) rfl rfl S.out hl ?_) | (refine wpList_load25g (by rfl) (.tmp 4) rfl rfl T.out hk ?_))
  refine (lives_any _ (E0.out.below B8.out)).mono ?_
  rintro e w9 ⟨rfl, hb⟩
  have B9 := bt B8 (Lib.hid hb)
  clear hb B8
  go_wp2_with fail
  go_ret
  exact ⟨rfl, B9.out⟩
set_option maxHeartbeats 4000000 in
set_option maxRecDepth 100000 in
theorem check_0_1 (n : Nat) (l : List Nat) (m : Nat) (k : List Nat) (A : Option Addr) (ls : List Nat) (N c : Nat) (w : World) (hE : Env w) (ho : OkO n l) (hp : OkO m k) (hN : ls.length = N) (hA : R32 w A ls) (h32 : ∀ y ∈ ls, y < 4294967296) (hlc : N ≤ c) (hm : c ≤ maxLen) (hg : N ≤ 20) (h1 : chkO n l = 0) (h2 : N < 17) (h3 : chkO N (pad ls) = 1) :
    Calls Tryd.prog 3 #[oV n l, oV m k, .slice A N c] w fun e w' => e = .returned (.bool true) ∧ Below w.heap.size w w' := by
  have hz := zero25
  obtain ⟨zl, hzl⟩ : ∃ zl, zeroL = zl := ⟨_, rfl⟩
  have HZ := Lib.hid hzl
  have HZL : Hid (zl.length = 16) := Lib.hid (by rw [← hzl]; exact zeroL_length)
  rw [hzl] at hz
  clear hzl
  have hl := ho.len
  have hk := hp.len
  have E0 := Lib.hid hE
  have S := Lib.hid ((Bk.new w 25 (oc n l)).alloc (.cells (oc m k).toArray 25))
  have T := Lib.hid (show Bk ((w.alloc (.cells (oc n l).toArray 25)).alloc (.cells (oc m k).toArray 25)) (w.heap.size + 1) 25 (oc m k) from by
    have := Bk.new (w.alloc (.cells (oc n l).toArray 25)) 25 (oc m k)
    rwa [World.size_alloc] at this)
  have B0 := Lib.hid ((bel1 w (.cells (oc n l).toArray 25)).alloc (by simp) (.cells (oc m k).toArray 25))
  have R : Hid (R32 ((w.alloc (.cells (oc n l).toArray 25)).alloc (.cells (oc m k).toArray 25)) A ls) := Lib.hid (hA.below B0.out)
  have HA0 := Lib.hid (fun (q : Addr) (hq : A = some q) (hne : cs32 ls ≠ []) => (by obtain ⟨b, off, e, hb, -⟩ := hA hne; rw [e] at hq; injection hq with hq; rw [← hq]; exact hb : q.block < w.heap.size))
  have hq := fun W => eql25 (n := n) (m := 5) hl (show anyL.length = 16 from rfl) W
  have CI := Lib.hid (fun W => isany_any n l W ho)
  obtain ⟨r, hr⟩ : ∃ r, (decide (n = 5) && decide (l = anyL)) = r := ⟨_, rfl⟩
  rw [hr] at hq CI
  clear hr
  have C1 := Lib.hid (fun W => (by have := rcheck_any n l W ho; rw [h1] at this; exact this : Calls Tryd.prog 11 #[oV n l] W (GiveF W 0)))
  have C2 := Lib.hid (fun W => (by have := check_any n l W ho; rw [h1] at this; exact this : Calls Tryd.prog 12 #[oV n l] W (GiveF W 0)))
  have hnot : ¬ (ls.length ≤ 16 ∧ chkO ls.length (pad ls) = 0) := fun h => by have := h.1; have := h.2; rw [hN] at *; omega
  have CO := Lib.hid (fun W (hR : R32 W A ls) => (by have := of_any A ls c W (by rw [hN]; omega) h32 hR; rw [show ofN ls = 0 from if_neg hnot, show ofL ls = zl from (if_neg hnot).trans HZ.out, hN] at this; exact this : Calls Tryd.prog 16 #[.slice A N c] W (GiveO W 0 zl)))
  have CM := Lib.hid (fun W (hR : R32 W A ls) => (by have := made_any A ls c W (by omega) hR; rw [hN] at this; exact this : Calls Tryd.prog 15 #[.slice A N c] W (GiveO W N (pad ls))))
  have CR := Lib.hid (fun W => (by have := rcheck_any N (pad ls) W (by have := okO_pad (l := ls) (by omega) h32; rwa [hN] at this); rw [h3] at this; exact this : Calls Tryd.prog 11 #[oV N (pad ls)] W (GiveF W 1)))
  have hpl := pad_length (l := ls) (by omega)
  obtain ⟨pl, hpe⟩ : ∃ pl, pad ls = pl := ⟨_, rfl⟩
  rw [hpe] at CM CR hpl h3
  clear hpe
  have hne := fun W => neqO (n := 0) HZL.out W
  clear hE hA ho hp h1 hN h32 hnot h3
  go_enter Tryd.func3, Tryd.ntmps3
  go_upto_region 1 with fail
  generalize (w.alloc (.cells (oc n l).toArray 25)).alloc (.cells (oc m k).toArray 25) = w0 at *
  go_wp2_with (first | (refine wpList_load25g (by rfl) (.tmp 3) rfl rfl S.out hl ?_) | (refine wpList_load25g (by rfl) (.tmp 4) rfl rfl T.out hk ?_))
  refine (C1.out _).mono ?_
  rintro e w1 ⟨rfl, hb⟩
  have hbh := Lib.hid hb
  clear hb
  have B1 := bt B0 hbh
  have Sn := kt S hbh
  clear S
  have S := Sn
  clear Sn
  have Tn := kt T hbh
  clear T
  have T := Tn
  clear Tn
  have Rn := r32t R hbh
  clear R
  have R := Rn
  clear Rn
  clear B0
  clear hbh
  go_upto_region 4 with fail
  refine wp_region_held_drew (S := fun W => Bk W w.heap.size 25 (oc n l)) (by kernel_rfl) (S.out) (fun hS => ?_)
  have hdr : Hid (Below w1.heap.size w1 w1.drew) := Lib.hid ⟨rfl, rfl, rfl, Nat.le_refl _, fun _ _ => rfl⟩
  have B2 := bt B1 hdr
  have Sn := kt S hdr
  clear S
  have S := Sn
  clear Sn
  have Tn := kt T hdr
  clear T
  have T := Tn
  clear Tn
  have Rn := r32t R hdr
  clear R
  have R := Rn
  clear Rn
  clear B1
  clear hdr
  generalize w1.drew = w2 at *
  refine wpAnyH_take (i := 0) (oi := ⟨some 17, _, _, _, _, _⟩) (v := oV n l) rfl (by kernel_rfl) (by kernel_rfl) (by kernel_rfl) (fun _ _ _ h => h) (yieldsIf_load_mid (by rfl) 25 (.tmp 3) rfl (w.heap.size) 0 rfl (oc n l) _ (fun W h => range25 h) Tryd.underlying25 rfl (by rw [oc_length, hl]; exact info25)) hS ?_
  simp only [Act.put, List.setIfInBounds_toArray, List.set_cons_zero, List.set_cons_succ]
  refine wpAnyH_take (i := 2) (oi := ⟨some 19, _, _, _, _, _⟩) (v := .int .i64 0) rfl (by kernel_rfl) (by kernel_rfl) (by kernel_rfl) (fun _ _ _ h => h) (Or.inl ⟨by rfl, fun w hSw => by (try dsimp only at hSw); go_simp⟩) hS ?_
  simp only [Act.put, List.setIfInBounds_toArray, List.set_cons_zero, List.set_cons_succ]
  refine wpAnyH_ready (rs := [1]) (by kernel_rfl) (by simp) ?_
  refine AllReadyH.cons (o := _) rfl (fun K hK => ?_) (AllReadyH.nil)
  go_simp
  refine (C2.out _).mono ?_
  rintro e w3 ⟨rfl, hb⟩
  have hbh := Lib.hid hb
  clear hb
  have B3 := bt B2 hbh
  have Sn := kt S hbh
  clear S
  have S := Sn
  clear Sn
  have Tn := kt T hbh
  clear T
  have T := Tn
  clear Tn
  have Rn := r32t R hbh
  clear R
  have R := Rn
  clear Rn
  clear B2
  clear hbh
  go_simp
  refine hK.out _ _ (S.out) (fun hS => ?_)
  clear hK K
  (try simp only [Act.put, List.setIfInBounds_toArray, List.set_cons_zero, List.set_cons_succ])
  refine wpAnyH_take (i := 3) (oi := ⟨some 20, _, _, _, _, _⟩) (v := .bool false) rfl (by kernel_rfl) (by kernel_rfl) (by kernel_rfl) (fun _ _ _ h => h) (Or.inl ⟨by rfl, fun w hSw => by (try dsimp only at hSw); go_simp⟩) hS ?_
  simp only [Act.put, List.setIfInBounds_toArray, List.set_cons_zero, List.set_cons_succ]
  refine wpAnyH_take (i := 4) (oi := ⟨some 21, _, _, _, _, _⟩) (v := .bool false) rfl (by kernel_rfl) (by kernel_rfl) (by kernel_rfl) (fun _ _ _ h => h) (Or.inl ⟨by rfl, fun w hSw => by (try dsimp only at hSw); go_simp⟩) hS ?_
  simp only [Act.put, List.setIfInBounds_toArray, List.set_cons_zero, List.set_cons_succ]
  refine wpAnyH_take (i := 5) (oi := ⟨some 22, _, _, _, _, _⟩) (v := oV n l) rfl (by kernel_rfl) (by kernel_rfl) (by kernel_rfl) (fun _ _ _ h => h) (yieldsIf_load_mid (by rfl) 25 (.tmp 3) rfl (w.heap.size) 0 rfl (oc n l) _ (fun W h => range25 h) Tryd.underlying25 rfl (by rw [oc_length, hl]; exact info25)) hS ?_
  simp only [Act.put, List.setIfInBounds_toArray, List.set_cons_zero, List.set_cons_succ]
  refine wpAnyH_take (i := 7) (oi := ⟨some 24, _, _, _, _, _⟩) (v := oV n l) rfl (by kernel_rfl) (by kernel_rfl) (by kernel_rfl) (fun _ _ _ h => h) (yieldsIf_load_mid (by rfl) 25 (.tmp 3) rfl (w.heap.size) 0 rfl (oc n l) _ (fun W h => range25 h) Tryd.underlying25 rfl (by rw [oc_length, hl]; exact info25)) hS ?_
  simp only [Act.put, List.setIfInBounds_toArray, List.set_cons_zero, List.set_cons_succ]
  refine wpAnyH_ready (rs := [6]) (by kernel_rfl) (by simp) ?_
  refine AllReadyH.cons (o := _) rfl (fun K hK => ?_) (AllReadyH.nil)
  go_simp
  refine (CI.out _).mono ?_
  rintro e w4 ⟨rfl, hb⟩
  have hbh := Lib.hid hb
  clear hb
  have B4 := bt B3 hbh
  have Sn := kt S hbh
  clear S
  have S := Sn
  clear Sn
  have Tn := kt T hbh
  clear T
  have T := Tn
  clear Tn
  have Rn := r32t R hbh
  clear R
  have R := Rn
  clear Rn
  clear B3
  clear hbh
  go_simp
  refine hK.out _ _ (S.out) (fun hS => ?_)
  clear hK K
  (try simp only [Act.put, List.setIfInBounds_toArray, List.set_cons_zero, List.set_cons_succ])
  refine wpAnyH_ready (rs := [8]) (by kernel_rfl) (by simp) ?_
  refine AllReadyH.cons (o := _) rfl (fun K hK => ?_) (AllReadyH.nil)
  go_simp
  refine (rany_any _).mono ?_
  rintro e w5 ⟨rfl, hb⟩
  have hbh := Lib.hid hb
  clear hb
  have B5 := bt B4 hbh
  have Sn := kt S hbh
  clear S
  have S := Sn
  clear Sn
  have Tn := kt T hbh
  clear T
  have T := Tn
  clear Tn
  have Rn := r32t R hbh
  clear R
  have R := Rn
  clear Rn
  clear B4
  clear hbh
  go_simp
  refine hK.out _ _ (S.out) (fun hS => ?_)
  clear hK K
  (try simp only [Act.put, List.setIfInBounds_toArray, List.set_cons_zero, List.set_cons_succ])
  refine wpAnyH_take (i := 9) (oi := ⟨some 26, _, _, _, _, _⟩) (v := .bool r) rfl (by kernel_rfl) (by kernel_rfl) (by kernel_rfl) (fun _ _ _ h => h) (Or.inl ⟨by rfl, fun w hSw => by (try dsimp only at hSw); go_simp⟩) hS ?_
  simp only [Act.put, List.setIfInBounds_toArray, List.set_cons_zero, List.set_cons_succ]
  refine wpAnyH_take (i := 10) (oi := ⟨some 27, _, _, _, _, _⟩) (v := .bool false) rfl (by kernel_rfl) (by kernel_rfl) (by kernel_rfl) (fun _ _ _ h => h) (Or.inl ⟨by rfl, fun w hSw => by (try dsimp only at hSw); go_simp⟩) hS ?_
  simp only [Act.put, List.setIfInBounds_toArray, List.set_cons_zero, List.set_cons_succ]
  refine wpAnyH_take (i := 11) (oi := ⟨some 28, _, _, _, _, _⟩) (v := .bool false) rfl (by kernel_rfl) (by kernel_rfl) (by kernel_rfl) (fun _ _ _ h => h) (Or.inl ⟨by rfl, fun w hSw => by (try dsimp only at hSw); go_simp⟩) hS ?_
  simp only [Act.put, List.setIfInBounds_toArray, List.set_cons_zero, List.set_cons_succ]
  refine wpAnyH_done (by kernel_rfl) ?_ _
  go_upto_region 7 with fail
  have V := Lib.hid (Bk.new w5 25 (oc 0 zl))
  have hbh := Lib.hid (bel1 w5 (.cells (oc 0 zl).toArray 25))
  have HG8 : Hid (w.heap.size + 1 < w5.heap.size) := Lib.hid T.out.lt
  have B6 := bt B5 hbh
  have Sn := kt S hbh
  clear S
  have S := Sn
  clear Sn
  have Tn := kt T hbh
  clear T
  have T := Tn
  clear Tn
  have Rn := r32t R hbh
  clear R
  have R := Rn
  clear Rn
  clear B5
  clear hbh
  generalize w5.alloc (.cells (oc 0 zl).toArray 25) = w6 at *
  generalize w5.heap.size = g8 at *
  go_wp2_with (first | (refine wpList_load25g (by rfl) (.tmp 3) rfl rfl S.out hl ?_) | (refine wpList_load25g (by rfl) (.tmp 4) rfl rfl T.out hk ?_))
  refine (CM.out _ R.out).mono ?_
  rintro e w7 ⟨rfl, hb⟩
  have hbh := Lib.hid hb
  clear hb
  have B7 := bt B6 hbh
  have Sn := kt S hbh
  clear S
  have S := Sn
  clear Sn
  have Tn := kt T hbh
  clear T
  have T := Tn
  clear Tn
  have Vn := kt V hbh
  clear V
  have V := Vn
  clear Vn
  have Rn := r32t R hbh
  clear R
  have R := Rn
  clear Rn
  clear B6
  clear hbh
  go_wp2_with (first | (refine wpList_load25g (by rfl) (.tmp 3) rfl rfl S.out hl ?_) | (refine wpList_load25g (by rfl) (.tmp 4) rfl rfl T.out hk ?_))
  refine (CR.out _).mono ?_
  rintro e w8 ⟨rfl, hb⟩
  have hbh := Lib.hid hb
  clear hb
  have B8 := bt B7 hbh
  have Sn := kt S hbh
  clear S
  have S := Sn
  clear Sn
  have Tn := kt T hbh
  clear T
  have T := Tn
  clear Tn
  have Vn := kt V hbh
  clear V
  have V := Vn
  clear Vn
  have Rn := r32t R hbh
  clear R
  have R := Rn
  clear Rn
  clear B7
  clear hbh
  go_upto_region 9 with fail
  refine wp_region_held_drew (S := fun W => Bk W g8 25 (oc 0 zl)) (by kernel_rfl) (V.out) (fun hS => ?_)
  have hdr : Hid (Below w8.heap.size w8 w8.drew) := Lib.hid ⟨rfl, rfl, rfl, Nat.le_refl _, fun _ _ => rfl⟩
  have B9 := bt B8 hdr
  have Sn := kt S hdr
  clear S
  have S := Sn
  clear Sn
  have Tn := kt T hdr
  clear T
  have T := Tn
  clear Tn
  have Vn := kt V hdr
  clear V
  have V := Vn
  clear Vn
  have Rn := r32t R hdr
  clear R
  have R := Rn
  clear Rn
  clear B8
  clear hdr
  generalize w8.drew = w9 at *
  refine wpAnyH_take (i := 0) (oi := ⟨some 40, _, _, _, _, _⟩) (v := .slice A N c) rfl (by kernel_rfl) (by kernel_rfl) (by kernel_rfl) (fun _ _ _ h => h) (Or.inl ⟨by rfl, fun w hSw => by (try dsimp only at hSw); go_simp⟩) hS ?_
  simp only [Act.put, List.setIfInBounds_toArray, List.set_cons_zero, List.set_cons_succ]
  refine wpAnyH_take (i := 2) (oi := ⟨some 42, _, _, _, _, _⟩) (v := oV 0 zl) rfl (by kernel_rfl) (by kernel_rfl) (by kernel_rfl) (fun _ _ _ h => h) (yieldsIf_load_mid (by rfl) 25 (.tmp 8) rfl (g8) 0 rfl (oc 0 zl) _ (fun W h => range25 h) Tryd.underlying25 rfl (by rw [oc_length, HZL.out]; exact info25)) hS ?_
  simp only [Act.put, List.setIfInBounds_toArray, List.set_cons_zero, List.set_cons_succ]
  refine wpAnyH_ready (rs := [1]) (by kernel_rfl) (by simp) ?_
  refine AllReadyH.cons (o := _) rfl (fun K hK => ?_) (AllReadyH.nil)
  go_simp
  refine (CO.out _ R.out).mono ?_
  rintro e w10 ⟨rfl, hb⟩
  have hbh := Lib.hid hb
  clear hb
  have B10 := bt B9 hbh
  have Sn := kt S hbh
  clear S
  have S := Sn
  clear Sn
  have Tn := kt T hbh
  clear T
  have T := Tn
  clear Tn
  have Vn := kt V hbh
  clear V
  have V := Vn
  clear Vn
  have Rn := r32t R hbh
  clear R
  have R := Rn
  clear Rn
  clear B9
  clear hbh
  go_simp
  refine hK.out _ _ (V.out) (fun hS => ?_)
  clear hK K
  (try simp only [Act.put, List.setIfInBounds_toArray, List.set_cons_zero, List.set_cons_succ])
  refine wpAnyH_take (i := 3) (oi := ⟨some 43, _, _, _, _, _⟩) (v := .bool false) rfl (by kernel_rfl) (by kernel_rfl) (by kernel_rfl) (fun _ _ _ h => h) (Or.inl ⟨by rfl, fun w hSw => by (try dsimp only at hSw); go_simp⟩) hS ?_
  simp only [Act.put, List.setIfInBounds_toArray, List.set_cons_zero, List.set_cons_succ]
  refine wpAnyH_done (by kernel_rfl) ?_ _
  go_wp2_with (first | (refine wpList_load25g (by rfl) (.tmp 3) rfl rfl S.out hl ?_) | (refine wpList_load25g (by rfl) (.tmp 4) rfl rfl T.out hk ?_))
  refine (lives_any _ (E0.out.below B10.out)).mono ?_
  rintro e w11 ⟨rfl, hb⟩
  have B11 := bt B10 (Lib.hid hb)
  clear hb B10
  go_wp2_with fail
  go_ret
  exact ⟨rfl, B11.out⟩
set_option maxHeartbeats 4000000 in
set_option maxRecDepth 100000 in
theorem check_0_2 (n : Nat) (l : List Nat) (m : Nat) (k : List Nat) (A : Option Addr) (ls : List Nat) (N c : Nat) (w : World) (hE : Env w) (ho : OkO n l) (hp : OkO m k) (hN : ls.length = N) (hA : R32 w A ls) (h32 : ∀ y ∈ ls, y < 4294967296) (hlc : N ≤ c) (hm : c ≤ maxLen) (hg : N ≤ 20) (h1 : chkO n l = 0) (h2 : N < 17) (h3 : chkO N (pad ls) = 0) :
    Calls Tryd.prog 3 #[oV n l, oV m k, .slice A N c] w fun e w' => e = .returned (.bool true) ∧ Below w.heap.size w w' := by
  have hz := zero25
  obtain ⟨zl, hzl⟩ : ∃ zl, zeroL = zl := ⟨_, rfl⟩
  have HZ := Lib.hid hzl
  have HZL : Hid (zl.length = 16) := Lib.hid (by rw [← hzl]; exact zeroL_length)
  rw [hzl] at hz
  clear hzl
  have hl := ho.len
  have hk := hp.len
  have E0 := Lib.hid hE
  have S := Lib.hid ((Bk.new w 25 (oc n l)).alloc (.cells (oc m k).toArray 25))
  have T := Lib.hid (show Bk ((w.alloc (.cells (oc n l).toArray 25)).alloc (.cells (oc m k).toArray 25)) (w.heap.size + 1) 25 (oc m k) from by
    have := Bk.new (w.alloc (.cells (oc n l).toArray 25)) 25 (oc m k)
    rwa [World.size_alloc] at this)
  have B0 := Lib.hid ((bel1 w (.cells (oc n l).toArray 25)).alloc (by simp) (.cells (oc m k).toArray 25))
  have R : Hid (R32 ((w.alloc (.cells (oc n l).toArray 25)).alloc (.cells (oc m k).toArray 25)) A ls) := Lib.hid (hA.below B0.out)
  have HA0 := Lib.hid (fun (q : Addr) (hq : A = some q) (hne : cs32 ls ≠ []) => (by obtain ⟨b, off, e, hb, -⟩ := hA hne; rw [e] at hq; injection hq with hq; rw [← hq]; exact hb : q.block < w.heap.size))
  have hq := fun W => eql25 (n := n) (m := 5) hl (show anyL.length = 16 from rfl) W
  have CI := Lib.hid (fun W => isany_any n l W ho)
  obtain ⟨r, hr⟩ : ∃ r, (decide (n = 5) && decide (l = anyL)) = r := ⟨_, rfl⟩
  rw [hr] at hq CI
  clear hr
  have C1 := Lib.hid (fun W => (by have := rcheck_any n l W ho; rw [h1] at this; exact this : Calls Tryd.prog 11 #[oV n l] W (GiveF W 0)))
  have C2 := Lib.hid (fun W => (by have := check_any n l W ho; rw [h1] at this; exact this : Calls Tryd.prog 12 #[oV n l] W (GiveF W 0)))
  have hyes : ls.length ≤ 16 ∧ chkO ls.length (pad ls) = 0 := by rw [hN]; exact ⟨by omega, h3⟩
  have CO := Lib.hid (fun W (hR : R32 W A ls) => (by have := of_any A ls c W (by rw [hN]; omega) h32 hR; rw [show ofN ls = N from (if_pos hyes).trans hN, show ofL ls = pad ls from if_pos hyes, hN] at this; exact this : Calls Tryd.prog 16 #[.slice A N c] W (GiveO W N (pad ls))))
  have CM := Lib.hid (fun W (hR : R32 W A ls) => (by have := made_any A ls c W (by omega) hR; rw [hN] at this; exact this : Calls Tryd.prog 15 #[.slice A N c] W (GiveO W N (pad ls))))
  have CR := Lib.hid (fun W => (by have := rcheck_any N (pad ls) W (by have := okO_pad (l := ls) (by omega) h32; rwa [hN] at this); rw [h3] at this; exact this : Calls Tryd.prog 11 #[oV N (pad ls)] W (GiveF W 0)))
  have hpl := pad_length (l := ls) (by omega)
  obtain ⟨pl, hpe⟩ : ∃ pl, pad ls = pl := ⟨_, rfl⟩
  rw [hpe] at CO CM CR hpl h3
  clear hpe
  have hne := fun W => neqO (n := N) hpl W
  clear hE hA ho hp h1 hN h32 hyes h3
  go_enter Tryd.func3, Tryd.ntmps3
  go_upto_region 1 with fail
  generalize (w.alloc (.cells (oc n l).toArray 25)).alloc (.cells (oc m k).toArray 25) = w0 at *
  go_wp2_with (first | (refine wpList_load25g (by rfl) (.tmp 3) rfl rfl S.out hl ?_) | (refine wpList_load25g (by rfl) (.tmp 4) rfl rfl T.out hk ?_))
  refine (C1.out _).mono ?_
  rintro e w1 ⟨rfl, hb⟩
  have hbh := Lib.hid hb
  clear hb
  have B1 := bt B0 hbh
  have Sn := kt S hbh
  clear S
  have S := Sn
  clear Sn
  have Tn := kt T hbh
  clear T
  have T := Tn
  clear Tn
  have Rn := r32t R hbh
  clear R
  have R := Rn
  clear Rn
  clear B0
  clear hbh
  go_upto_region 4 with fail
  refine wp_region_held_drew (S := fun W => Bk W w.heap.size 25 (oc n l)) (by kernel_rfl) (S.out) (fun hS => ?_)
  have hdr : Hid (Below w1.heap.size w1 w1.drew) := Lib.hid ⟨rfl, rfl, rfl, Nat.le_refl _, fun _ _ => rfl⟩
  have B2 := bt B1 hdr
  have Sn := kt S hdr
  clear S
  have S := Sn
  clear Sn
  have Tn := kt T hdr
  clear T
  have T := Tn
  clear Tn
  have Rn := r32t R hdr
  clear R
  have R := Rn
  clear Rn
  clear B1
  clear hdr
  generalize w1.drew = w2 at *
  refine wpAnyH_take (i := 0) (oi := ⟨some 17, _, _, _, _, _⟩) (v := oV n l) rfl (by kernel_rfl) (by kernel_rfl) (by kernel_rfl) (fun _ _ _ h => h) (yieldsIf_load_mid (by rfl) 25 (.tmp 3) rfl (w.heap.size) 0 rfl (oc n l) _ (fun W h => range25 h) Tryd.underlying25 rfl (by rw [oc_length, hl]; exact info25)) hS ?_
  simp only [Act.put, List.setIfInBounds_toArray, List.set_cons_zero, List.set_cons_succ]
  refine wpAnyH_take (i := 2) (oi := ⟨some 19, _, _, _, _, _⟩) (v := .int .i64 0) rfl (by kernel_rfl) (by kernel_rfl) (by kernel_rfl) (fun _ _ _ h => h) (Or.inl ⟨by rfl, fun w hSw => by (try dsimp only at hSw); go_simp⟩) hS ?_
  simp only [Act.put, List.setIfInBounds_toArray, List.set_cons_zero, List.set_cons_succ]
  refine wpAnyH_ready (rs := [1]) (by kernel_rfl) (by simp) ?_
  refine AllReadyH.cons (o := _) rfl (fun K hK => ?_) (AllReadyH.nil)
  go_simp
  refine (C2.out _).mono ?_
  rintro e w3 ⟨rfl, hb⟩
  have hbh := Lib.hid hb
  clear hb
  have B3 := bt B2 hbh
  have Sn := kt S hbh
  clear S
  have S := Sn
  clear Sn
  have Tn := kt T hbh
  clear T
  have T := Tn
  clear Tn
  have Rn := r32t R hbh
  clear R
  have R := Rn
  clear Rn
  clear B2
  clear hbh
  go_simp
  refine hK.out _ _ (S.out) (fun hS => ?_)
  clear hK K
  (try simp only [Act.put, List.setIfInBounds_toArray, List.set_cons_zero, List.set_cons_succ])
  refine wpAnyH_take (i := 3) (oi := ⟨some 20, _, _, _, _, _⟩) (v := .bool false) rfl (by kernel_rfl) (by kernel_rfl) (by kernel_rfl) (fun _ _ _ h => h) (Or.inl ⟨by rfl, fun w hSw => by (try dsimp only at hSw); go_simp⟩) hS ?_
  simp only [Act.put, List.setIfInBounds_toArray, List.set_cons_zero, List.set_cons_succ]
  refine wpAnyH_take (i := 4) (oi := ⟨some 21, _, _, _, _, _⟩) (v := .bool false) rfl (by kernel_rfl) (by kernel_rfl) (by kernel_rfl) (fun _ _ _ h => h) (Or.inl ⟨by rfl, fun w hSw => by (try dsimp only at hSw); go_simp⟩) hS ?_
  simp only [Act.put, List.setIfInBounds_toArray, List.set_cons_zero, List.set_cons_succ]
  refine wpAnyH_take (i := 5) (oi := ⟨some 22, _, _, _, _, _⟩) (v := oV n l) rfl (by kernel_rfl) (by kernel_rfl) (by kernel_rfl) (fun _ _ _ h => h) (yieldsIf_load_mid (by rfl) 25 (.tmp 3) rfl (w.heap.size) 0 rfl (oc n l) _ (fun W h => range25 h) Tryd.underlying25 rfl (by rw [oc_length, hl]; exact info25)) hS ?_
  simp only [Act.put, List.setIfInBounds_toArray, List.set_cons_zero, List.set_cons_succ]
  refine wpAnyH_take (i := 7) (oi := ⟨some 24, _, _, _, _, _⟩) (v := oV n l) rfl (by kernel_rfl) (by kernel_rfl) (by kernel_rfl) (fun _ _ _ h => h) (yieldsIf_load_mid (by rfl) 25 (.tmp 3) rfl (w.heap.size) 0 rfl (oc n l) _ (fun W h => range25 h) Tryd.underlying25 rfl (by rw [oc_length, hl]; exact info25)) hS ?_
  simp only [Act.put, List.setIfInBounds_toArray, List.set_cons_zero, List.set_cons_succ]
  refine wpAnyH_ready (rs := [6]) (by kernel_rfl) (by simp) ?_
  refine AllReadyH.cons (o := _) rfl (fun K hK => ?_) (AllReadyH.nil)
  go_simp
  refine (CI.out _).mono ?_
  rintro e w4 ⟨rfl, hb⟩
  have hbh := Lib.hid hb
  clear hb
  have B4 := bt B3 hbh
  have Sn := kt S hbh
  clear S
  have S := Sn
  clear Sn
  have Tn := kt T hbh
  clear T
  have T := Tn
  clear Tn
  have Rn := r32t R hbh
  clear R
  have R := Rn
  clear Rn
  clear B3
  clear hbh
  go_simp
  refine hK.out _ _ (S.out) (fun hS => ?_)
  clear hK K
  (try simp only [Act.put, List.setIfInBounds_toArray, List.set_cons_zero, List.set_cons_succ])
  refine wpAnyH_ready (rs := [8]) (by kernel_rfl) (by simp) ?_
  refine AllReadyH.cons (o := _) rfl (fun K hK => ?_) (AllReadyH.nil)
  go_simp
  refine (rany_any _).mono ?_
  rintro e w5 ⟨rfl, hb⟩
  have hbh := Lib.hid hb
  clear hb
  have B5 := bt B4 hbh
  have Sn := kt S hbh
  clear S
  have S := Sn
  clear Sn
  have Tn := kt T hbh
  clear T
  have T := Tn
  clear Tn
  have Rn := r32t R hbh
  clear R
  have R := Rn
  clear Rn
  clear B4
  clear hbh
  go_simp
  refine hK.out _ _ (S.out) (fun hS => ?_)
  clear hK K
  (try simp only [Act.put, List.setIfInBounds_toArray, List.set_cons_zero, List.set_cons_succ])
  refine wpAnyH_take (i := 9) (oi := ⟨some 26, _, _, _, _, _⟩) (v := .bool r) rfl (by kernel_rfl) (by kernel_rfl) (by kernel_rfl) (fun _ _ _ h => h) (Or.inl ⟨by rfl, fun w hSw => by (try dsimp only at hSw); go_simp⟩) hS ?_
  simp only [Act.put, List.setIfInBounds_toArray, List.set_cons_zero, List.set_cons_succ]
  refine wpAnyH_take (i := 10) (oi := ⟨some 27, _, _, _, _, _⟩) (v := .bool false) rfl (by kernel_rfl) (by kernel_rfl) (by kernel_rfl) (fun _ _ _ h => h) (Or.inl ⟨by rfl, fun w hSw => by (try dsimp only at hSw); go_simp⟩) hS ?_
  simp only [Act.put, List.setIfInBounds_toArray, List.set_cons_zero, List.set_cons_succ]
  refine wpAnyH_take (i := 11) (oi := ⟨some 28, _, _, _, _, _⟩) (v := .bool false) rfl (by kernel_rfl) (by kernel_rfl) (by kernel_rfl) (fun _ _ _ h => h) (Or.inl ⟨by rfl, fun w hSw => by (try dsimp only at hSw); go_simp⟩) hS ?_
  simp only [Act.put, List.setIfInBounds_toArray, List.set_cons_zero, List.set_cons_succ]
  refine wpAnyH_done (by kernel_rfl) ?_ _
  go_upto_region 7 with fail
  have V := Lib.hid (Bk.new w5 25 (oc 0 zl))
  have hbh := Lib.hid (bel1 w5 (.cells (oc 0 zl).toArray 25))
  have HG8 : Hid (w.heap.size + 1 < w5.heap.size) := Lib.hid T.out.lt
  have B6 := bt B5 hbh
  have Sn := kt S hbh
  clear S
  have S := Sn
  clear Sn
  have Tn := kt T hbh
  clear T
  have T := Tn
  clear Tn
  have Rn := r32t R hbh
  clear R
  have R := Rn
  clear Rn
  clear B5
  clear hbh
  generalize w5.alloc (.cells (oc 0 zl).toArray 25) = w6 at *
  generalize w5.heap.size = g8 at *
  go_wp2_with (first | (refine wpList_load25g (by rfl) (.tmp 3) rfl rfl S.out hl ?_) | (refine wpList_load25g (by rfl) (.tmp 4) rfl rfl T.out hk ?_))
  refine (CM.out _ R.out).mono ?_
  rintro e w7 ⟨rfl, hb⟩
  have hbh := Lib.hid hb
  clear hb
  have B7 := bt B6 hbh
  have Sn := kt S hbh
  clear S
  have S := Sn
  clear Sn
  have Tn := kt T hbh
  clear T
  have T := Tn
  clear Tn
  have Vn := kt V hbh
  clear V
  have V := Vn
  clear Vn
  have Rn := r32t R hbh
  clear R
  have R := Rn
  clear Rn
  clear B6
  clear hbh
  go_wp2_with (first | (refine wpList_load25g (by rfl) (.tmp 3) rfl rfl S.out hl ?_) | (refine wpList_load25g (by rfl) (.tmp 4) rfl rfl T.out hk ?_))
  refine (CR.out _).mono ?_
  rintro e w8 ⟨rfl, hb⟩
  have hbh := Lib.hid hb
  clear hb
  have B8 := bt B7 hbh
  have Sn := kt S hbh
  clear S
  have S := Sn
  clear Sn
  have Tn := kt T hbh
  clear T
  have T := Tn
  clear Tn
  have Vn := kt V hbh
  clear V
  have V := Vn
  clear Vn
  have Rn := r32t R hbh
  clear R
  have R := Rn
  clear Rn
  clear B7
  clear hbh
  go_wp2_with (first | (refine wpList_load25g (by rfl) (.tmp 3) rfl rfl S.out hl ?_) | (refine wpList_load25g (by rfl) (.tmp 4) rfl rfl T.out hk ?_))
  refine (CM.out _ R.out).mono ?_
  rintro e w9 ⟨rfl, hb⟩
  have hbh := Lib.hid hb
  clear hb
  have B9 := bt B8 hbh
  have Sn := kt S hbh
  clear S
  have S := Sn
  clear Sn
  have Tn := kt T hbh
  clear T
  have T := Tn
  clear Tn
  have Vn := kt V hbh
  clear V
  have V := Vn
  clear Vn
  have Rn := r32t R hbh
  clear R
  have R := Rn
  clear Rn
  clear B8
  clear hbh
  go_upto_region 9 with (refine wpList_store25 rfl (.tmp 8) (.tmp 39) rfl (n := N) (l := pl) rfl rfl V.out (by rw [oc_length, HZL.out]) hpl ?_; intro w10 V5 hg5 hz5; have HV5 := Lib.hid V5; have S5 := Lib.hid (S.out.only hg5 (by intro e; injection e with e; have := HG8.out; omega)); have T5 := Lib.hid (T.out.only hg5 (by intro e; injection e with e; have := HG8.out; omega)); have R5 := Lib.hid (show R32 _ A ls from Rd.only (B := g8) R.out (fun q hq hne => by have := HA0.out q hq hne; have := HG8.out; omega) hg5 (Nat.le_refl _)); have B10 := Lib.hid (B9.out.grown hg5 B9.out.size (fun k e => by injection e with e; have := HG8.out; omega)); clear V5 hg5 hz5)
  clear S T V B9 R
  have S := S5
  have T := T5
  have V := HV5
  have R := R5
  clear S5 T5 HV5 R5
  refine wp_region_held_drew (S := fun W => Bk W g8 25 (oc N pl)) (by kernel_rfl) (V.out) (fun hS => ?_)
  have hdr : Hid (Below w10.heap.size w10 w10.drew) := Lib.hid ⟨rfl, rfl, rfl, Nat.le_refl _, fun _ _ => rfl⟩
  have B11 := bt B10 hdr
  have Sn := kt S hdr
  clear S
  have S := Sn
  clear Sn
  have Tn := kt T hdr
  clear T
  have T := Tn
  clear Tn
  have Vn := kt V hdr
  clear V
  have V := Vn
  clear Vn
  have Rn := r32t R hdr
  clear R
  have R := Rn
  clear Rn
  clear B10
  clear hdr
  generalize w10.drew = w11 at *
  refine wpAnyH_take (i := 0) (oi := ⟨some 40, _, _, _, _, _⟩) (v := .slice A N c) rfl (by kernel_rfl) (by kernel_rfl) (by kernel_rfl) (fun _ _ _ h => h) (Or.inl ⟨by rfl, fun w hSw => by (try dsimp only at hSw); go_simp⟩) hS ?_
  simp only [Act.put, List.setIfInBounds_toArray, List.set_cons_zero, List.set_cons_succ]
  refine wpAnyH_take (i := 2) (oi := ⟨some 42, _, _, _, _, _⟩) (v := oV N pl) rfl (by kernel_rfl) (by kernel_rfl) (by kernel_rfl) (fun _ _ _ h => h) (yieldsIf_load_mid (by rfl) 25 (.tmp 8) rfl (g8) 0 rfl (oc N pl) _ (fun W h => range25 h) Tryd.underlying25 rfl (by rw [oc_length, hpl]; exact info25)) hS ?_
  simp only [Act.put, List.setIfInBounds_toArray, List.set_cons_zero, List.set_cons_succ]
  refine wpAnyH_ready (rs := [1]) (by kernel_rfl) (by simp) ?_
  refine AllReadyH.cons (o := _) rfl (fun K hK => ?_) (AllReadyH.nil)
  go_simp
  refine (CO.out _ R.out).mono ?_
  rintro e w12 ⟨rfl, hb⟩
  have hbh := Lib.hid hb
  clear hb
  have B12 := bt B11 hbh
  have Sn := kt S hbh
  clear S
  have S := Sn
  clear Sn
  have Tn := kt T hbh
  clear T
  have T := Tn
  clear Tn
  have Vn := kt V hbh
  clear V
  have V := Vn
  clear Vn
  have Rn := r32t R hbh
  clear R
  have R := Rn
  clear Rn
  clear B11
  clear hbh
  go_simp
  refine hK.out _ _ (V.out) (fun hS => ?_)
  clear hK K
  (try simp only [Act.put, List.setIfInBounds_toArray, List.set_cons_zero, List.set_cons_succ])
  refine wpAnyH_take (i := 3) (oi := ⟨some 43, _, _, _, _, _⟩) (v := .bool false) rfl (by kernel_rfl) (by kernel_rfl) (by kernel_rfl) (fun _ _ _ h => h) (Or.inl ⟨by rfl, fun w hSw => by (try dsimp only at hSw); go_simp⟩) hS ?_
  simp only [Act.put, List.setIfInBounds_toArray, List.set_cons_zero, List.set_cons_succ]
  refine wpAnyH_done (by kernel_rfl) ?_ _
  go_wp2_with (first | (refine wpList_load25g (by rfl) (.tmp 3) rfl rfl S.out hl ?_) | (refine wpList_load25g (by rfl) (.tmp 4) rfl rfl T.out hk ?_))
  refine (lives_any _ (E0.out.below B12.out)).mono ?_
  rintro e w13 ⟨rfl, hb⟩
  have B13 := bt B12 (Lib.hid hb)
  clear hb B12
  go_wp2_with fail
  go_ret
  exact ⟨rfl, B13.out⟩
set_option maxHeartbeats 4000000 in
set_option maxRecDepth 100000 in
theorem check_1_0 (n : Nat) (l : List Nat) (m : Nat) (k : List Nat) (A : Option Addr) (ls : List Nat) (N c : Nat) (w : World) (hE : Env w) (ho : OkO n l) (hp : OkO m k) (hN : ls.length = N) (hA : R32 w A ls) (h32 : ∀ y ∈ ls, y < 4294967296) (hlc : N ≤ c) (hm : c ≤ maxLen) (hg : N ≤ 20) (h1 : chkO n l = 1) (h2 : 17 ≤ N) :
    Calls Tryd.prog 3 #[oV n l, oV m k, .slice A N c] w fun e w' => e = .returned (.bool true) ∧ Below w.heap.size w w' := by
  have hz := zero25
  obtain ⟨zl, hzl⟩ : ∃ zl, zeroL = zl := ⟨_, rfl⟩
  have HZ := Lib.hid hzl
  have HZL : Hid (zl.length = 16) := Lib.hid (by rw [← hzl]; exact zeroL_length)
  rw [hzl] at hz
  clear hzl
  have hl := ho.len
  have hk := hp.len
  have E0 := Lib.hid hE
  have S := Lib.hid ((Bk.new w 25 (oc n l)).alloc (.cells (oc m k).toArray 25))
  have T := Lib.hid (show Bk ((w.alloc (.cells (oc n l).toArray 25)).alloc (.cells (oc m k).toArray 25)) (w.heap.size + 1) 25 (oc m k) from by
    have := Bk.new (w.alloc (.cells (oc n l).toArray 25)) 25 (oc m k)
    rwa [World.size_alloc] at this)
  have B0 := Lib.hid ((bel1 w (.cells (oc n l).toArray 25)).alloc (by simp) (.cells (oc m k).toArray 25))
  have R : Hid (R32 ((w.alloc (.cells (oc n l).toArray 25)).alloc (.cells (oc m k).toArray 25)) A ls) := Lib.hid (hA.below B0.out)
  have HA0 := Lib.hid (fun (q : Addr) (hq : A = some q) (hne : cs32 ls ≠ []) => (by obtain ⟨b, off, e, hb, -⟩ := hA hne; rw [e] at hq; injection hq with hq; rw [← hq]; exact hb : q.block < w.heap.size))
  have hq := fun W => eql25 (n := n) (m := 5) hl (show anyL.length = 16 from rfl) W
  have CI := Lib.hid (fun W => isany_any n l W ho)
  obtain ⟨r, hr⟩ : ∃ r, (decide (n = 5) && decide (l = anyL)) = r := ⟨_, rfl⟩
  rw [hr] at hq CI
  clear hr
  have C1 := Lib.hid (fun W => (by have := rcheck_any n l W ho; rw [h1] at this; exact this : Calls Tryd.prog 11 #[oV n l] W (GiveF W 1)))
  have C2 := Lib.hid (fun W => (by have := check_any n l W ho; rw [h1] at this; exact this : Calls Tryd.prog 12 #[oV n l] W (GiveF W 1)))
  have hnot : ¬ (ls.length ≤ 16 ∧ chkO ls.length (pad ls) = 0) := fun h => by have := h.1; have := h.2; rw [hN] at *; omega
  have CO := Lib.hid (fun W (hR : R32 W A ls) => (by have := of_any A ls c W (by rw [hN]; omega) h32 hR; rw [show ofN ls = 0 from if_neg hnot, show ofL ls = zl from (if_neg hnot).trans HZ.out, hN] at this; exact this : Calls Tryd.prog 16 #[.slice A N c] W (GiveO W 0 zl)))
  have CP := Lib.hid (fun W => (put_bad n l W ho (by rw [h1]; decide) : Calls Tryd.prog 17 #[oV n l] W fun e w' => ∃ A, e = .returned (.tuple #[.slice A 0 0, .int .i64 1]) ∧ Rb w' A [] ∧ Below W.heap.size W w'))
  have CT := Lib.hid (fun W hE => (by have := text_any n l W ho hE; unfold txO GiveT at this; rw [if_neg (by rw [h1]; decide)] at this; exact this : Calls Tryd.prog 19 #[oV n l] W fun e w' => e = .returned (.string ⟨#[63]⟩) ∧ Below W.heap.size W w'))
  have CH := Lib.hid (fun W => (by have := has_any n l m k W ho hp; rw [show hasO n l m k = false by unfold hasO; simp [h1]] at this; exact this : Calls Tryd.prog 20 #[oV n l, oV m k] W fun e w' => e = .returned (.bool false) ∧ Below W.heap.size W w'))
  have CG := Lib.hid (fun W => (by have := has_any m k n l W hp ho; rw [show hasO m k n l = false by unfold hasO; simp [h1]] at this; exact this : Calls Tryd.prog 20 #[oV m k, oV n l] W fun e w' => e = .returned (.bool false) ∧ Below W.heap.size W w'))
  have hne := fun W => neqO (n := 0) HZL.out W
  clear hE hA ho hp h1 hN h32 hnot
  go_enter Tryd.func3, Tryd.ntmps3
  go_upto_region 1 with fail
  generalize (w.alloc (.cells (oc n l).toArray 25)).alloc (.cells (oc m k).toArray 25) = w0 at *
  go_wp2_with (first | (refine wpList_load25g (by rfl) (.tmp 3) rfl rfl S.out hl ?_) | (refine wpList_load25g (by rfl) (.tmp 4) rfl rfl T.out hk ?_))
  refine (C1.out _).mono ?_
  rintro e w1 ⟨rfl, hb⟩
  have hbh := Lib.hid hb
  clear hb
  have B1 := bt B0 hbh
  have Sn := kt S hbh
  clear S
  have S := Sn
  clear Sn
  have Tn := kt T hbh
  clear T
  have T := Tn
  clear Tn
  have Rn := r32t R hbh
  clear R
  have R := Rn
  clear Rn
  clear B0
  clear hbh
  go_upto_region 4 with fail
  refine wp_region_held_drew (S := fun W => Bk W w.heap.size 25 (oc n l)) (by kernel_rfl) (S.out) (fun hS => ?_)
  have hdr : Hid (Below w1.heap.size w1 w1.drew) := Lib.hid ⟨rfl, rfl, rfl, Nat.le_refl _, fun _ _ => rfl⟩
  have B2 := bt B1 hdr
  have Sn := kt S hdr
  clear S
  have S := Sn
  clear Sn
  have Tn := kt T hdr
  clear T
  have T := Tn
  clear Tn
  have Rn := r32t R hdr
  clear R
  have R := Rn
  clear Rn
  clear B1
  clear hdr
  generalize w1.drew = w2 at *
  refine wpAnyH_take (i := 0) (oi := ⟨some 17, _, _, _, _, _⟩) (v := oV n l) rfl (by kernel_rfl) (by kernel_rfl) (by kernel_rfl) (fun _ _ _ h => h) (yieldsIf_load_mid (by rfl) 25 (.tmp 3) rfl (w.heap.size) 0 rfl (oc n l) _ (fun W h => range25 h) Tryd.underlying25 rfl (by rw [oc_length, hl]; exact info25)) hS ?_
  simp only [Act.put, List.setIfInBounds_toArray, List.set_cons_zero, List.set_cons_succ]
  refine wpAnyH_take (i := 2) (oi := ⟨some 19, _, _, _, _, _⟩) (v := .int .i64 1) rfl (by kernel_rfl) (by kernel_rfl) (by kernel_rfl) (fun _ _ _ h => h) (Or.inl ⟨by rfl, fun w hSw => by (try dsimp only at hSw); go_simp⟩) hS ?_
  simp only [Act.put, List.setIfInBounds_toArray, List.set_cons_zero, List.set_cons_succ]
  refine wpAnyH_ready (rs := [1]) (by kernel_rfl) (by simp) ?_
  refine AllReadyH.cons (o := _) rfl (fun K hK => ?_) (AllReadyH.nil)
  go_simp
  refine (C2.out _).mono ?_
  rintro e w3 ⟨rfl, hb⟩
  have hbh := Lib.hid hb
  clear hb
  have B3 := bt B2 hbh
  have Sn := kt S hbh
  clear S
  have S := Sn
  clear Sn
  have Tn := kt T hbh
  clear T
  have T := Tn
  clear Tn
  have Rn := r32t R hbh
  clear R
  have R := Rn
  clear Rn
  clear B2
  clear hbh
  go_simp
  refine hK.out _ _ (S.out) (fun hS => ?_)
  clear hK K
  (try simp only [Act.put, List.setIfInBounds_toArray, List.set_cons_zero, List.set_cons_succ])
  refine wpAnyH_take (i := 3) (oi := ⟨some 20, _, _, _, _, _⟩) (v := .bool false) rfl (by kernel_rfl) (by kernel_rfl) (by kernel_rfl) (fun _ _ _ h => h) (Or.inl ⟨by rfl, fun w hSw => by (try dsimp only at hSw); go_simp⟩) hS ?_
  simp only [Act.put, List.setIfInBounds_toArray, List.set_cons_zero, List.set_cons_succ]
  refine wpAnyH_take (i := 4) (oi := ⟨some 21, _, _, _, _, _⟩) (v := .bool false) rfl (by kernel_rfl) (by kernel_rfl) (by kernel_rfl) (fun _ _ _ h => h) (Or.inl ⟨by rfl, fun w hSw => by (try dsimp only at hSw); go_simp⟩) hS ?_
  simp only [Act.put, List.setIfInBounds_toArray, List.set_cons_zero, List.set_cons_succ]
  refine wpAnyH_take (i := 5) (oi := ⟨some 22, _, _, _, _, _⟩) (v := oV n l) rfl (by kernel_rfl) (by kernel_rfl) (by kernel_rfl) (fun _ _ _ h => h) (yieldsIf_load_mid (by rfl) 25 (.tmp 3) rfl (w.heap.size) 0 rfl (oc n l) _ (fun W h => range25 h) Tryd.underlying25 rfl (by rw [oc_length, hl]; exact info25)) hS ?_
  simp only [Act.put, List.setIfInBounds_toArray, List.set_cons_zero, List.set_cons_succ]
  refine wpAnyH_take (i := 7) (oi := ⟨some 24, _, _, _, _, _⟩) (v := oV n l) rfl (by kernel_rfl) (by kernel_rfl) (by kernel_rfl) (fun _ _ _ h => h) (yieldsIf_load_mid (by rfl) 25 (.tmp 3) rfl (w.heap.size) 0 rfl (oc n l) _ (fun W h => range25 h) Tryd.underlying25 rfl (by rw [oc_length, hl]; exact info25)) hS ?_
  simp only [Act.put, List.setIfInBounds_toArray, List.set_cons_zero, List.set_cons_succ]
  refine wpAnyH_ready (rs := [6]) (by kernel_rfl) (by simp) ?_
  refine AllReadyH.cons (o := _) rfl (fun K hK => ?_) (AllReadyH.nil)
  go_simp
  refine (CI.out _).mono ?_
  rintro e w4 ⟨rfl, hb⟩
  have hbh := Lib.hid hb
  clear hb
  have B4 := bt B3 hbh
  have Sn := kt S hbh
  clear S
  have S := Sn
  clear Sn
  have Tn := kt T hbh
  clear T
  have T := Tn
  clear Tn
  have Rn := r32t R hbh
  clear R
  have R := Rn
  clear Rn
  clear B3
  clear hbh
  go_simp
  refine hK.out _ _ (S.out) (fun hS => ?_)
  clear hK K
  (try simp only [Act.put, List.setIfInBounds_toArray, List.set_cons_zero, List.set_cons_succ])
  refine wpAnyH_ready (rs := [8]) (by kernel_rfl) (by simp) ?_
  refine AllReadyH.cons (o := _) rfl (fun K hK => ?_) (AllReadyH.nil)
  go_simp
  refine (rany_any _).mono ?_
  rintro e w5 ⟨rfl, hb⟩
  have hbh := Lib.hid hb
  clear hb
  have B5 := bt B4 hbh
  have Sn := kt S hbh
  clear S
  have S := Sn
  clear Sn
  have Tn := kt T hbh
  clear T
  have T := Tn
  clear Tn
  have Rn := r32t R hbh
  clear R
  have R := Rn
  clear Rn
  clear B4
  clear hbh
  go_simp
  refine hK.out _ _ (S.out) (fun hS => ?_)
  clear hK K
  (try simp only [Act.put, List.setIfInBounds_toArray, List.set_cons_zero, List.set_cons_succ])
  refine wpAnyH_take (i := 9) (oi := ⟨some 26, _, _, _, _, _⟩) (v := .bool r) rfl (by kernel_rfl) (by kernel_rfl) (by kernel_rfl) (fun _ _ _ h => h) (Or.inl ⟨by rfl, fun w hSw => by (try dsimp only at hSw); go_simp⟩) hS ?_
  simp only [Act.put, List.setIfInBounds_toArray, List.set_cons_zero, List.set_cons_succ]
  refine wpAnyH_take (i := 10) (oi := ⟨some 27, _, _, _, _, _⟩) (v := .bool false) rfl (by kernel_rfl) (by kernel_rfl) (by kernel_rfl) (fun _ _ _ h => h) (Or.inl ⟨by rfl, fun w hSw => by (try dsimp only at hSw); go_simp⟩) hS ?_
  simp only [Act.put, List.setIfInBounds_toArray, List.set_cons_zero, List.set_cons_succ]
  refine wpAnyH_take (i := 11) (oi := ⟨some 28, _, _, _, _, _⟩) (v := .bool false) rfl (by kernel_rfl) (by kernel_rfl) (by kernel_rfl) (fun _ _ _ h => h) (Or.inl ⟨by rfl, fun w hSw => by (try dsimp only at hSw); go_simp⟩) hS ?_
  simp only [Act.put, List.setIfInBounds_toArray, List.set_cons_zero, List.set_cons_succ]
  refine wpAnyH_done (by kernel_rfl) ?_ _
  go_upto_region 7 with fail
  have V := Lib.hid (Bk.new w5 25 (oc 0 zl))
  have hbh := Lib.hid (bel1 w5 (.cells (oc 0 zl).toArray 25))
  have HG8 : Hid (w.heap.size + 1 < w5.heap.size) := Lib.hid T.out.lt
  have B6 := bt B5 hbh
  have Sn := kt S hbh
  clear S
  have S := Sn
  clear Sn
  have Tn := kt T hbh
  clear T
  have T := Tn
  clear Tn
  have Rn := r32t R hbh
  clear R
  have R := Rn
  clear Rn
  clear B5
  clear hbh
  generalize w5.alloc (.cells (oc 0 zl).toArray 25) = w6 at *
  generalize w5.heap.size = g8 at *
  go_upto_region 9 with fail
  refine wp_region_held_drew (S := fun W => Bk W g8 25 (oc 0 zl)) (by kernel_rfl) (V.out) (fun hS => ?_)
  have hdr : Hid (Below w6.heap.size w6 w6.drew) := Lib.hid ⟨rfl, rfl, rfl, Nat.le_refl _, fun _ _ => rfl⟩
  have B7 := bt B6 hdr
  have Sn := kt S hdr
  clear S
  have S := Sn
  clear Sn
  have Tn := kt T hdr
  clear T
  have T := Tn
  clear Tn
  have Vn := kt V hdr
  clear V
  have V := Vn
  clear Vn
  have Rn := r32t R hdr
  clear R
  have R := Rn
  clear Rn
  clear B6
  clear hdr
  generalize w6.drew = w7 at *
  refine wpAnyH_take (i := 0) (oi := ⟨some 40, _, _, _, _, _⟩) (v := .slice A N c) rfl (by kernel_rfl) (by kernel_rfl) (by kernel_rfl) (fun _ _ _ h => h) (Or.inl ⟨by rfl, fun w hSw => by (try dsimp only at hSw); go_simp⟩) hS ?_
  simp only [Act.put, List.setIfInBounds_toArray, List.set_cons_zero, List.set_cons_succ]
  refine wpAnyH_take (i := 2) (oi := ⟨some 42, _, _, _, _, _⟩) (v := oV 0 zl) rfl (by kernel_rfl) (by kernel_rfl) (by kernel_rfl) (fun _ _ _ h => h) (yieldsIf_load_mid (by rfl) 25 (.tmp 8) rfl (g8) 0 rfl (oc 0 zl) _ (fun W h => range25 h) Tryd.underlying25 rfl (by rw [oc_length, HZL.out]; exact info25)) hS ?_
  simp only [Act.put, List.setIfInBounds_toArray, List.set_cons_zero, List.set_cons_succ]
  refine wpAnyH_ready (rs := [1]) (by kernel_rfl) (by simp) ?_
  refine AllReadyH.cons (o := _) rfl (fun K hK => ?_) (AllReadyH.nil)
  go_simp
  refine (CO.out _ R.out).mono ?_
  rintro e w8 ⟨rfl, hb⟩
  have hbh := Lib.hid hb
  clear hb
  have B8 := bt B7 hbh
  have Sn := kt S hbh
  clear S
  have S := Sn
  clear Sn
  have Tn := kt T hbh
  clear T
  have T := Tn
  clear Tn
  have Vn := kt V hbh
  clear V
  have V := Vn
  clear Vn
  have Rn := r32t R hbh
  clear R
  have R := Rn
  clear Rn
  clear B7
  clear hbh
  go_simp
  refine hK.out _ _ (V.out) (fun hS => ?_)
  clear hK K
  (try simp only [Act.put, List.setIfInBounds_toArray, List.set_cons_zero, List.set_cons_succ])
  refine wpAnyH_take (i := 3) (oi := ⟨some 43, _, _, _, _, _⟩) (v := .bool false) rfl (by kernel_rfl) (by kernel_rfl) (by kernel_rfl) (fun _ _ _ h => h) (Or.inl ⟨by rfl, fun w hSw => by (try dsimp only at hSw); go_simp⟩) hS ?_
  simp only [Act.put, List.setIfInBounds_toArray, List.set_cons_zero, List.set_cons_succ]
  refine wpAnyH_done (by kernel_rfl) ?_ _
  go_wp2_with (first | (refine wpList_load25g (by rfl) (.tmp 3) rfl rfl S.out hl ?_) | (refine wpList_load25g (by rfl) (.tmp 4) rfl rfl T.out hk ?_))
  refine (CP.out _).mono ?_
  rintro e w9 ⟨A2, rfl, hR2, hb⟩
  have hbh := Lib.hid hb
  have R2 := Lib.hid hR2
  clear hb hR2
  have B9 := bt B8 hbh
  have Sn := kt S hbh
  clear S
  have S := Sn
  clear Sn
  have Tn := kt T hbh
  clear T
  have T := Tn
  clear Tn
  clear B8
  clear hbh
  go_wp2_with fail
  refine (same_ok A2 none [] 0 0 1 _ R2.out Rb.nil rfl).mono ?_
  rintro e w' ⟨rfl, rfl⟩
  go_wp2_with (first | (refine wpList_load25g (by rfl) (.tmp 3) rfl rfl S.out hl ?_) | (refine wpList_load25g (by rfl) (.tmp 4) rfl rfl T.out hk ?_))
  refine (CT.out _ (E0.out.below B9.out)).mono ?_
  rintro e w10 ⟨rfl, hb⟩
  have hbh := Lib.hid hb
  clear hb
  have B10 := bt B9 hbh
  have Sn := kt S hbh
  clear S
  have S := Sn
  clear Sn
  have Tn := kt T hbh
  clear T
  have T := Tn
  clear Tn
  clear B9
  clear hbh
  go_wp2_with (first | (refine wpList_load25g (by rfl) (.tmp 3) rfl rfl S.out hl ?_) | (refine wpList_load25g (by rfl) (.tmp 4) rfl rfl T.out hk ?_))
  refine (CH.out _).mono ?_
  rintro e w11 ⟨rfl, hb⟩
  have hbh := Lib.hid hb
  clear hb
  have B11 := bt B10 hbh
  have Sn := kt S hbh
  clear S
  have S := Sn
  clear Sn
  have Tn := kt T hbh
  clear T
  have T := Tn
  clear Tn
  clear B10
  clear hbh
  go_wp2_with (first | (refine wpList_load25g (by rfl) (.tmp 3) rfl rfl S.out hl ?_) | (refine wpList_load25g (by rfl) (.tmp 4) rfl rfl T.out hk ?_))
  refine (CG.out _).mono ?_
  rintro e w12 ⟨rfl, hb⟩
  have hbh := Lib.hid hb
  clear hb
  have B12 := bt B11 hbh
  have Sn := kt S hbh
  clear S
  have S := Sn
  clear Sn
  have Tn := kt T hbh
  clear T
  have T := Tn
  clear Tn
  clear B11
  clear hbh
  go_wp2_with (first | (refine wpList_load25g (by rfl) (.tmp 3) rfl rfl S.out hl ?_) | (refine wpList_load25g (by rfl) (.tmp 4) rfl rfl T.out hk ?_))
  refine (lives_any _ (E0.out.below B12.out)).mono ?_
  rintro e w13 ⟨rfl, hb⟩
  have B13 := bt B12 (Lib.hid hb)
  clear hb B12
  go_wp2_with fail
  go_ret
  exact ⟨rfl, B13.out⟩
set_option maxHeartbeats 4000000 in
set_option maxRecDepth 100000 in
theorem check_1_1 (n : Nat) (l : List Nat) (m : Nat) (k : List Nat) (A : Option Addr) (ls : List Nat) (N c : Nat) (w : World) (hE : Env w) (ho : OkO n l) (hp : OkO m k) (hN : ls.length = N) (hA : R32 w A ls) (h32 : ∀ y ∈ ls, y < 4294967296) (hlc : N ≤ c) (hm : c ≤ maxLen) (hg : N ≤ 20) (h1 : chkO n l = 1) (h2 : N < 17) (h3 : chkO N (pad ls) = 1) :
    Calls Tryd.prog 3 #[oV n l, oV m k, .slice A N c] w fun e w' => e = .returned (.bool true) ∧ Below w.heap.size w w' := by
  have hz := zero25
  obtain ⟨zl, hzl⟩ : ∃ zl, zeroL = zl := ⟨_, rfl⟩
  have HZ := Lib.hid hzl
  have HZL : Hid (zl.length = 16) := Lib.hid (by rw [← hzl]; exact zeroL_length)
  rw [hzl] at hz
  clear hzl
  have hl := ho.len
  have hk := hp.len
  have E0 := Lib.hid hE
  have S := Lib.hid ((Bk.new w 25 (oc n l)).alloc (.cells (oc m k).toArray 25))
  have T := Lib.hid (show Bk ((w.alloc (.cells (oc n l).toArray 25)).alloc (.cells (oc m k).toArray 25)) (w.heap.size + 1) 25 (oc m k) from by
    have := Bk.new (w.alloc (.cells (oc n l).toArray 25)) 25 (oc m k)
    rwa [World.size_alloc] at this)
  have B0 := Lib.hid ((bel1 w (.cells (oc n l).toArray 25)).alloc (by simp) (.cells (oc m k).toArray 25))
  have R : Hid (R32 ((w.alloc (.cells (oc n l).toArray 25)).alloc (.cells (oc m k).toArray 25)) A ls) := Lib.hid (hA.below B0.out)
  have HA0 := Lib.hid (fun (q : Addr) (hq : A = some q) (hne : cs32 ls ≠ []) => (by obtain ⟨b, off, e, hb, -⟩ := hA hne; rw [e] at hq; injection hq with hq; rw [← hq]; exact hb : q.block < w.heap.size))
  have hq := fun W => eql25 (n := n) (m := 5) hl (show anyL.length = 16 from rfl) W
  have CI := Lib.hid (fun W => isany_any n l W ho)
  obtain ⟨r, hr⟩ : ∃ r, (decide (n = 5) && decide (l = anyL)) = r := ⟨_, rfl⟩
  rw [hr] at hq CI
  clear hr
  have C1 := Lib.hid (fun W => (by have := rcheck_any n l W ho; rw [h1] at this; exact this : Calls Tryd.prog 11 #[oV n l] W (GiveF W 1)))
  have C2 := Lib.hid (fun W => (by have := check_any n l W ho; rw [h1] at this; exact this : Calls Tryd.prog 12 #[oV n l] W (GiveF W 1)))
  have hnot : ¬ (ls.length ≤ 16 ∧ chkO ls.length (pad ls) = 0) := fun h => by have := h.1; have := h.2; rw [hN] at *; omega
  have CO := Lib.hid (fun W (hR : R32 W A ls) => (by have := of_any A ls c W (by rw [hN]; omega) h32 hR; rw [show ofN ls = 0 from if_neg hnot, show ofL ls = zl from (if_neg hnot).trans HZ.out, hN] at this; exact this : Calls Tryd.prog 16 #[.slice A N c] W (GiveO W 0 zl)))
  have CM := Lib.hid (fun W (hR : R32 W A ls) => (by have := made_any A ls c W (by omega) hR; rw [hN] at this; exact this : Calls Tryd.prog 15 #[.slice A N c] W (GiveO W N (pad ls))))
  have CR := Lib.hid (fun W => (by have := rcheck_any N (pad ls) W (by have := okO_pad (l := ls) (by omega) h32; rwa [hN] at this); rw [h3] at this; exact this : Calls Tryd.prog 11 #[oV N (pad ls)] W (GiveF W 1)))
  have hpl := pad_length (l := ls) (by omega)
  obtain ⟨pl, hpe⟩ : ∃ pl, pad ls = pl := ⟨_, rfl⟩
  rw [hpe] at CM CR hpl h3
  clear hpe
  have CP := Lib.hid (fun W => (put_bad n l W ho (by rw [h1]; decide) : Calls Tryd.prog 17 #[oV n l] W fun e w' => ∃ A, e = .returned (.tuple #[.slice A 0 0, .int .i64 1]) ∧ Rb w' A [] ∧ Below W.heap.size W w'))
  have CT := Lib.hid (fun W hE => (by have := text_any n l W ho hE; unfold txO GiveT at this; rw [if_neg (by rw [h1]; decide)] at this; exact this : Calls Tryd.prog 19 #[oV n l] W fun e w' => e = .returned (.string ⟨#[63]⟩) ∧ Below W.heap.size W w'))
  have CH := Lib.hid (fun W => (by have := has_any n l m k W ho hp; rw [show hasO n l m k = false by unfold hasO; simp [h1]] at this; exact this : Calls Tryd.prog 20 #[oV n l, oV m k] W fun e w' => e = .returned (.bool false) ∧ Below W.heap.size W w'))
  have CG := Lib.hid (fun W => (by have := has_any m k n l W hp ho; rw [show hasO m k n l = false by unfold hasO; simp [h1]] at this; exact this : Calls Tryd.prog 20 #[oV m k, oV n l] W fun e w' => e = .returned (.bool false) ∧ Below W.heap.size W w'))
  have hne := fun W => neqO (n := 0) HZL.out W
  clear hE hA ho hp h1 hN h32 hnot h3
  go_enter Tryd.func3, Tryd.ntmps3
  go_upto_region 1 with fail
  generalize (w.alloc (.cells (oc n l).toArray 25)).alloc (.cells (oc m k).toArray 25) = w0 at *
  go_wp2_with (first | (refine wpList_load25g (by rfl) (.tmp 3) rfl rfl S.out hl ?_) | (refine wpList_load25g (by rfl) (.tmp 4) rfl rfl T.out hk ?_))
  refine (C1.out _).mono ?_
  rintro e w1 ⟨rfl, hb⟩
  have hbh := Lib.hid hb
  clear hb
  have B1 := bt B0 hbh
  have Sn := kt S hbh
  clear S
  have S := Sn
  clear Sn
  have Tn := kt T hbh
  clear T
  have T := Tn
  clear Tn
  have Rn := r32t R hbh
  clear R
  have R := Rn
  clear Rn
  clear B0
  clear hbh
  go_upto_region 4 with fail
  refine wp_region_held_drew (S := fun W => Bk W w.heap.size 25 (oc n l)) (by kernel_rfl) (S.out) (fun hS => ?_)
  have hdr : Hid (Below w1.heap.size w1 w1.drew) := Lib.hid ⟨rfl, rfl, rfl, Nat.le_refl _, fun _ _ => rfl⟩
  have B2 := bt B1 hdr
  have Sn := kt S hdr
  clear S
  have S := Sn
  clear Sn
  have Tn := kt T hdr
  clear T
  have T := Tn
  clear Tn
  have Rn := r32t R hdr
  clear R
  have R := Rn
  clear Rn
  clear B1
  clear hdr
  generalize w1.drew = w2 at *
  refine wpAnyH_take (i := 0) (oi := ⟨some 17, _, _, _, _, _⟩) (v := oV n l) rfl (by kernel_rfl) (by kernel_rfl) (by kernel_rfl) (fun _ _ _ h => h) (yieldsIf_load_mid (by rfl) 25 (.tmp 3) rfl (w.heap.size) 0 rfl (oc n l) _ (fun W h => range25 h) Tryd.underlying25 rfl (by rw [oc_length, hl]; exact info25)) hS ?_
  simp only [Act.put, List.setIfInBounds_toArray, List.set_cons_zero, List.set_cons_succ]
  refine wpAnyH_take (i := 2) (oi := ⟨some 19, _, _, _, _, _⟩) (v := .int .i64 1) rfl (by kernel_rfl) (by kernel_rfl) (by kernel_rfl) (fun _ _ _ h => h) (Or.inl ⟨by rfl, fun w hSw => by (try dsimp only at hSw); go_simp⟩) hS ?_
  simp only [Act.put, List.setIfInBounds_toArray, List.set_cons_zero, List.set_cons_succ]
  refine wpAnyH_ready (rs := [1]) (by kernel_rfl) (by simp) ?_
  refine AllReadyH.cons (o := _) rfl (fun K hK => ?_) (AllReadyH.nil)
  go_simp
  refine (C2.out _).mono ?_
  rintro e w3 ⟨rfl, hb⟩
  have hbh := Lib.hid hb
  clear hb
  have B3 := bt B2 hbh
  have Sn := kt S hbh
  clear S
  have S := Sn
  clear Sn
  have Tn := kt T hbh
  clear T
  have T := Tn
  clear Tn
  have Rn := r32t R hbh
  clear R
  have R := Rn
  clear Rn
  clear B2
  clear hbh
  go_simp
  refine hK.out _ _ (S.out) (fun hS => ?_)
  clear hK K
  (try simp only [Act.put, List.setIfInBounds_toArray, List.set_cons_zero, List.set_cons_succ])
  refine wpAnyH_take (i := 3) (oi := ⟨some 20, _, _, _, _, _⟩) (v := .bool false) rfl (by kernel_rfl) (by kernel_rfl) (by kernel_rfl) (fun _ _ _ h => h) (Or.inl ⟨by rfl, fun w hSw => by (try dsimp only at hSw); go_simp⟩) hS ?_
  simp only [Act.put, List.setIfInBounds_toArray, List.set_cons_zero, List.set_cons_succ]
  refine wpAnyH_take (i := 4) (oi := ⟨some 21, _, _, _, _, _⟩) (v := .bool false) rfl (by kernel_rfl) (by kernel_rfl) (by kernel_rfl) (fun _ _ _ h => h) (Or.inl ⟨by rfl, fun w hSw => by (try dsimp only at hSw); go_simp⟩) hS ?_
  simp only [Act.put, List.setIfInBounds_toArray, List.set_cons_zero, List.set_cons_succ]
  refine wpAnyH_take (i := 5) (oi := ⟨some 22, _, _, _, _, _⟩) (v := oV n l) rfl (by kernel_rfl) (by kernel_rfl) (by kernel_rfl) (fun _ _ _ h => h) (yieldsIf_load_mid (by rfl) 25 (.tmp 3) rfl (w.heap.size) 0 rfl (oc n l) _ (fun W h => range25 h) Tryd.underlying25 rfl (by rw [oc_length, hl]; exact info25)) hS ?_
  simp only [Act.put, List.setIfInBounds_toArray, List.set_cons_zero, List.set_cons_succ]
  refine wpAnyH_take (i := 7) (oi := ⟨some 24, _, _, _, _, _⟩) (v := oV n l) rfl (by kernel_rfl) (by kernel_rfl) (by kernel_rfl) (fun _ _ _ h => h) (yieldsIf_load_mid (by rfl) 25 (.tmp 3) rfl (w.heap.size) 0 rfl (oc n l) _ (fun W h => range25 h) Tryd.underlying25 rfl (by rw [oc_length, hl]; exact info25)) hS ?_
  simp only [Act.put, List.setIfInBounds_toArray, List.set_cons_zero, List.set_cons_succ]
  refine wpAnyH_ready (rs := [6]) (by kernel_rfl) (by simp) ?_
  refine AllReadyH.cons (o := _) rfl (fun K hK => ?_) (AllReadyH.nil)
  go_simp
  refine (CI.out _).mono ?_
  rintro e w4 ⟨rfl, hb⟩
  have hbh := Lib.hid hb
  clear hb
  have B4 := bt B3 hbh
  have Sn := kt S hbh
  clear S
  have S := Sn
  clear Sn
  have Tn := kt T hbh
  clear T
  have T := Tn
  clear Tn
  have Rn := r32t R hbh
  clear R
  have R := Rn
  clear Rn
  clear B3
  clear hbh
  go_simp
  refine hK.out _ _ (S.out) (fun hS => ?_)
  clear hK K
  (try simp only [Act.put, List.setIfInBounds_toArray, List.set_cons_zero, List.set_cons_succ])
  refine wpAnyH_ready (rs := [8]) (by kernel_rfl) (by simp) ?_
  refine AllReadyH.cons (o := _) rfl (fun K hK => ?_) (AllReadyH.nil)
  go_simp
  refine (rany_any _).mono ?_
  rintro e w5 ⟨rfl, hb⟩
  have hbh := Lib.hid hb
  clear hb
  have B5 := bt B4 hbh
  have Sn := kt S hbh
  clear S
  have S := Sn
  clear Sn
  have Tn := kt T hbh
  clear T
  have T := Tn
  clear Tn
  have Rn := r32t R hbh
  clear R
  have R := Rn
  clear Rn
  clear B4
  clear hbh
  go_simp
  refine hK.out _ _ (S.out) (fun hS => ?_)
  clear hK K
  (try simp only [Act.put, List.setIfInBounds_toArray, List.set_cons_zero, List.set_cons_succ])
  refine wpAnyH_take (i := 9) (oi := ⟨some 26, _, _, _, _, _⟩) (v := .bool r) rfl (by kernel_rfl) (by kernel_rfl) (by kernel_rfl) (fun _ _ _ h => h) (Or.inl ⟨by rfl, fun w hSw => by (try dsimp only at hSw); go_simp⟩) hS ?_
  simp only [Act.put, List.setIfInBounds_toArray, List.set_cons_zero, List.set_cons_succ]
  refine wpAnyH_take (i := 10) (oi := ⟨some 27, _, _, _, _, _⟩) (v := .bool false) rfl (by kernel_rfl) (by kernel_rfl) (by kernel_rfl) (fun _ _ _ h => h) (Or.inl ⟨by rfl, fun w hSw => by (try dsimp only at hSw); go_simp⟩) hS ?_
  simp only [Act.put, List.setIfInBounds_toArray, List.set_cons_zero, List.set_cons_succ]
  refine wpAnyH_take (i := 11) (oi := ⟨some 28, _, _, _, _, _⟩) (v := .bool false) rfl (by kernel_rfl) (by kernel_rfl) (by kernel_rfl) (fun _ _ _ h => h) (Or.inl ⟨by rfl, fun w hSw => by (try dsimp only at hSw); go_simp⟩) hS ?_
  simp only [Act.put, List.setIfInBounds_toArray, List.set_cons_zero, List.set_cons_succ]
  refine wpAnyH_done (by kernel_rfl) ?_ _
  go_upto_region 7 with fail
  have V := Lib.hid (Bk.new w5 25 (oc 0 zl))
  have hbh := Lib.hid (bel1 w5 (.cells (oc 0 zl).toArray 25))
  have HG8 : Hid (w.heap.size + 1 < w5.heap.size) := Lib.hid T.out.lt
  have B6 := bt B5 hbh
  have Sn := kt S hbh
  clear S
  have S := Sn
  clear Sn
  have Tn := kt T hbh
  clear T
  have T := Tn
  clear Tn
  have Rn := r32t R hbh
  clear R
  have R := Rn
  clear Rn
  clear B5
  clear hbh
  generalize w5.alloc (.cells (oc 0 zl).toArray 25) = w6 at *
  generalize w5.heap.size = g8 at *
  go_wp2_with (first | (refine wpList_load25g (by rfl) (.tmp 3) rfl rfl S.out hl ?_) | (refine wpList_load25g (by rfl) (.tmp 4) rfl rfl T.out hk ?_))
  refine (CM.out _ R.out).mono ?_
  rintro e w7 ⟨rfl, hb⟩
  have hbh := Lib.hid hb
  clear hb
  have B7 := bt B6 hbh
  have Sn := kt S hbh
  clear S
  have S := Sn
  clear Sn
  have Tn := kt T hbh
  clear T
  have T := Tn
  clear Tn
  have Vn := kt V hbh
  clear V
  have V := Vn
  clear Vn
  have Rn := r32t R hbh
  clear R
  have R := Rn
  clear Rn
  clear B6
  clear hbh
  go_wp2_with (first | (refine wpList_load25g (by rfl) (.tmp 3) rfl rfl S.out hl ?_) | (refine wpList_load25g (by rfl) (.tmp 4) rfl rfl T.out hk ?_))
  refine (CR.out _).mono ?_
  rintro e w8 ⟨rfl, hb⟩
  have hbh := Lib.hid hb
  clear hb
  have B8 := bt B7 hbh
  have Sn := kt S hbh
  clear S
  have S := Sn
  clear Sn
  have Tn := kt T hbh
  clear T
  have T := Tn
  clear Tn
  have Vn := kt V hbh
  clear V
  have V := Vn
  clear Vn
  have Rn := r32t R hbh
  clear R
  have R := Rn
  clear Rn
  clear B7
  clear hbh
  go_upto_region 9 with fail
  refine wp_region_held_drew (S := fun W => Bk W g8 25 (oc 0 zl)) (by kernel_rfl) (V.out) (fun hS => ?_)
  have hdr : Hid (Below w8.heap.size w8 w8.drew) := Lib.hid ⟨rfl, rfl, rfl, Nat.le_refl _, fun _ _ => rfl⟩
  have B9 := bt B8 hdr
  have Sn := kt S hdr
  clear S
  have S := Sn
  clear Sn
  have Tn := kt T hdr
  clear T
  have T := Tn
  clear Tn
  have Vn := kt V hdr
  clear V
  have V := Vn
  clear Vn
  have Rn := r32t R hdr
  clear R
  have R := Rn
  clear Rn
  clear B8
  clear hdr
  generalize w8.drew = w9 at *
  refine wpAnyH_take (i := 0) (oi := ⟨some 40, _, _, _, _, _⟩) (v := .slice A N c) rfl (by kernel_rfl) (by kernel_rfl) (by kernel_rfl) (fun _ _ _ h => h) (Or.inl ⟨by rfl, fun w hSw => by (try dsimp only at hSw); go_simp⟩) hS ?_
  simp only [Act.put, List.setIfInBounds_toArray, List.set_cons_zero, List.set_cons_succ]
  refine wpAnyH_take (i := 2) (oi := ⟨some 42, _, _, _, _, _⟩) (v := oV 0 zl) rfl (by kernel_rfl) (by kernel_rfl) (by kernel_rfl) (fun _ _ _ h => h) (yieldsIf_load_mid (by rfl) 25 (.tmp 8) rfl (g8) 0 rfl (oc 0 zl) _ (fun W h => range25 h) Tryd.underlying25 rfl (by rw [oc_length, HZL.out]; exact info25)) hS ?_
  simp only [Act.put, List.setIfInBounds_toArray, List.set_cons_zero, List.set_cons_succ]
  refine wpAnyH_ready (rs := [1]) (by kernel_rfl) (by simp) ?_
  refine AllReadyH.cons (o := _) rfl (fun K hK => ?_) (AllReadyH.nil)
  go_simp
  refine (CO.out _ R.out).mono ?_
  rintro e w10 ⟨rfl, hb⟩
  have hbh := Lib.hid hb
  clear hb
  have B10 := bt B9 hbh
  have Sn := kt S hbh
  clear S
  have S := Sn
  clear Sn
  have Tn := kt T hbh
  clear T
  have T := Tn
  clear Tn
  have Vn := kt V hbh
  clear V
  have V := Vn
  clear Vn
  have Rn := r32t R hbh
  clear R
  have R := Rn
  clear Rn
  clear B9
  clear hbh
  go_simp
  refine hK.out _ _ (V.out) (fun hS => ?_)
  clear hK K
  (try simp only [Act.put, List.setIfInBounds_toArray, List.set_cons_zero, List.set_cons_succ])
  refine wpAnyH_take (i := 3) (oi := ⟨some 43, _, _, _, _, _⟩) (v := .bool false) rfl (by kernel_rfl) (by kernel_rfl) (by kernel_rfl) (fun _ _ _ h => h) (Or.inl ⟨by rfl, fun w hSw => by (try dsimp only at hSw); go_simp⟩) hS ?_
  simp only [Act.put, List.setIfInBounds_toArray, List.set_cons_zero, List.set_cons_succ]
  refine wpAnyH_done (by kernel_rfl) ?_ _
  go_wp2_with (first | (refine wpList_load25g (by rfl) (.tmp 3) rfl rfl S.out hl ?_) | (refine wpList_load25g (by rfl) (.tmp 4) rfl rfl T.out hk ?_))
  refine (CP.out _).mono ?_
  rintro e w11 ⟨A2, rfl, hR2, hb⟩
  have hbh := Lib.hid hb
  have R2 := Lib.hid hR2
  clear hb hR2
  have B11 := bt B10 hbh
  have Sn := kt S hbh
  clear S
  have S := Sn
  clear Sn
  have Tn := kt T hbh
  clear T
  have T := Tn
  clear Tn
  clear B10
  clear hbh
  go_wp2_with fail
  refine (same_ok A2 none [] 0 0 1 _ R2.out Rb.nil rfl).mono ?_
  rintro e w' ⟨rfl, rfl⟩
  go_wp2_with (first | (refine wpList_load25g (by rfl) (.tmp 3) rfl rfl S.out hl ?_) | (refine wpList_load25g (by rfl) (.tmp 4) rfl rfl T.out hk ?_))
  refine (CT.out _ (E0.out.below B11.out)).mono ?_
  rintro e w12 ⟨rfl, hb⟩
  have hbh := Lib.hid hb
  clear hb
  have B12 := bt B11 hbh
  have Sn := kt S hbh
  clear S
  have S := Sn
  clear Sn
  have Tn := kt T hbh
  clear T
  have T := Tn
  clear Tn
  clear B11
  clear hbh
  go_wp2_with (first | (refine wpList_load25g (by rfl) (.tmp 3) rfl rfl S.out hl ?_) | (refine wpList_load25g (by rfl) (.tmp 4) rfl rfl T.out hk ?_))
  refine (CH.out _).mono ?_
  rintro e w13 ⟨rfl, hb⟩
  have hbh := Lib.hid hb
  clear hb
  have B13 := bt B12 hbh
  have Sn := kt S hbh
  clear S
  have S := Sn
  clear Sn
  have Tn := kt T hbh
  clear T
  have T := Tn
  clear Tn
  clear B12
  clear hbh
  go_wp2_with (first | (refine wpList_load25g (by rfl) (.tmp 3) rfl rfl S.out hl ?_) | (refine wpList_load25g (by rfl) (.tmp 4) rfl rfl T.out hk ?_))
  refine (CG.out _).mono ?_
  rintro e w14 ⟨rfl, hb⟩
  have hbh := Lib.hid hb
  clear hb
  have B14 := bt B13 hbh
  have Sn := kt S hbh
  clear S
  have S := Sn
  clear Sn
  have Tn := kt T hbh
  clear T
  have T := Tn
  clear Tn
  clear B13
  clear hbh
  go_wp2_with (first | (refine wpList_load25g (by rfl) (.tmp 3) rfl rfl S.out hl ?_) | (refine wpList_load25g (by rfl) (.tmp 4) rfl rfl T.out hk ?_))
  refine (lives_any _ (E0.out.below B14.out)).mono ?_
  rintro e w15 ⟨rfl, hb⟩
  have B15 := bt B14 (Lib.hid hb)
  clear hb B14
  go_wp2_with fail
  go_ret
  exact ⟨rfl, B15.out⟩
set_option maxHeartbeats 4000000 in
set_option maxRecDepth 100000 in
theorem check_1_2 (n : Nat) (l : List Nat) (m : Nat) (k : List Nat) (A : Option Addr) (ls : List Nat) (N c : Nat) (w : World) (hE : Env w) (ho : OkO n l) (hp : OkO m k) (hN : ls.length = N) (hA : R32 w A ls) (h32 : ∀ y ∈ ls, y < 4294967296) (hlc : N ≤ c) (hm : c ≤ maxLen) (hg : N ≤ 20) (h1 : chkO n l = 1) (h2 : N < 17) (h3 : chkO N (pad ls) = 0) :
    Calls Tryd.prog 3 #[oV n l, oV m k, .slice A N c] w fun e w' => e = .returned (.bool true) ∧ Below w.heap.size w w' := by
  have hz := zero25
  obtain ⟨zl, hzl⟩ : ∃ zl, zeroL = zl := ⟨_, rfl⟩
  have HZ := Lib.hid hzl
  have HZL : Hid (zl.length = 16) := Lib.hid (by rw [← hzl]; exact zeroL_length)
  rw [hzl] at hz
  clear hzl
  have hl := ho.len
  have hk := hp.len
  have E0 := Lib.hid hE
  have S := Lib.hid ((Bk.new w 25 (oc n l)).alloc (.cells (oc m k).toArray 25))
  have T := Lib.hid (show Bk ((w.alloc (.cells (oc n l).toArray 25)).alloc (.cells (oc m k).toArray 25)) (w.heap.size + 1) 25 (oc m k) from by
    have := Bk.new (w.alloc (.cells (oc n l).toArray 25)) 25 (oc m k)
    rwa [World.size_alloc] at this)
  have B0 := Lib.hid ((bel1 w (.cells (oc n l).toArray 25)).alloc (by simp) (.cells (oc m k).toArray 25))
  have R : Hid (R32 ((w.alloc (.cells (oc n l).toArray 25)).alloc (.cells (oc m k).toArray 25)) A ls) := Lib.hid (hA.below B0.out)
  have HA0 := Lib.hid (fun (q : Addr) (hq : A = some q) (hne : cs32 ls ≠ []) => (by obtain ⟨b, off, e, hb, -⟩ := hA hne; rw [e] at hq; injection hq with hq; rw [← hq]; exact hb : q.block < w.heap.size))
  have hq := fun W => eql25 (n := n) (m := 5) hl (show anyL.length = 16 from rfl) W
  have CI := Lib.hid (fun W => isany_any n l W ho)
  obtain ⟨r, hr⟩ : ∃ r, (decide (n = 5) && decide (l = anyL)) = r := ⟨_, rfl⟩
  rw [hr] at hq CI
  clear hr
  have C1 := Lib.hid (fun W => (by have := rcheck_any n l W ho; rw [h1] at this; exact this : Calls Tryd.prog 11 #[oV n l] W (GiveF W 1)))
  have C2 := Lib.hid (fun W => (by have := check_any n l W ho; rw [h1] at this; exact this : Calls Tryd.prog 12 #[oV n l] W (GiveF W 1)))
  have hyes : ls.length ≤ 16 ∧ chkO ls.length (pad ls) = 0 := by rw [hN]; exact ⟨by omega, h3⟩
  have CO := Lib.hid (fun W (hR : R32 W A ls) => (by have := of_any A ls c W (by rw [hN]; omega) h32 hR; rw [show ofN ls = N from (if_pos hyes).trans hN, show ofL ls = pad ls from if_pos hyes, hN] at this; exact this : Calls Tryd.prog 16 #[.slice A N c] W (GiveO W N (pad ls))))
  have CM := Lib.hid (fun W (hR : R32 W A ls) => (by have := made_any A ls c W (by omega) hR; rw [hN] at this; exact this : Calls Tryd.prog 15 #[.slice A N c] W (GiveO W N (pad ls))))
  have CR := Lib.hid (fun W => (by have := rcheck_any N (pad ls) W (by have := okO_pad (l := ls) (by omega) h32; rwa [hN] at this); rw [h3] at this; exact this : Calls Tryd.prog 11 #[oV N (pad ls)] W (GiveF W 0)))
  have hpl := pad_length (l := ls) (by omega)
  obtain ⟨pl, hpe⟩ : ∃ pl, pad ls = pl := ⟨_, rfl⟩
  rw [hpe] at CO CM CR hpl h3
  clear hpe
  have CP := Lib.hid (fun W => (put_bad n l W ho (by rw [h1]; decide) : Calls Tryd.prog 17 #[oV n l] W fun e w' => ∃ A, e = .returned (.tuple #[.slice A 0 0, .int .i64 1]) ∧ Rb w' A [] ∧ Below W.heap.size W w'))
  have CT := Lib.hid (fun W hE => (by have := text_any n l W ho hE; unfold txO GiveT at this; rw [if_neg (by rw [h1]; decide)] at this; exact this : Calls Tryd.prog 19 #[oV n l] W fun e w' => e = .returned (.string ⟨#[63]⟩) ∧ Below W.heap.size W w'))
  have CH := Lib.hid (fun W => (by have := has_any n l m k W ho hp; rw [show hasO n l m k = false by unfold hasO; simp [h1]] at this; exact this : Calls Tryd.prog 20 #[oV n l, oV m k] W fun e w' => e = .returned (.bool false) ∧ Below W.heap.size W w'))
  have CG := Lib.hid (fun W => (by have := has_any m k n l W hp ho; rw [show hasO m k n l = false by unfold hasO; simp [h1]] at this; exact this : Calls Tryd.prog 20 #[oV m k, oV n l] W fun e w' => e = .returned (.bool false) ∧ Below W.heap.size W w'))
  have hne := fun W => neqO (n := N) hpl W
  clear hE hA ho hp h1 hN h32 hyes h3
  go_enter Tryd.func3, Tryd.ntmps3
  go_upto_region 1 with fail
  generalize (w.alloc (.cells (oc n l).toArray 25)).alloc (.cells (oc m k).toArray 25) = w0 at *
  go_wp2_with (first | (refine wpList_load25g (by rfl) (.tmp 3) rfl rfl S.out hl ?_) | (refine wpList_load25g (by rfl) (.tmp 4) rfl rfl T.out hk ?_))
  refine (C1.out _).mono ?_
  rintro e w1 ⟨rfl, hb⟩
  have hbh := Lib.hid hb
  clear hb
  have B1 := bt B0 hbh
  have Sn := kt S hbh
  clear S
  have S := Sn
  clear Sn
  have Tn := kt T hbh
  clear T
  have T := Tn
  clear Tn
  have Rn := r32t R hbh
  clear R
  have R := Rn
  clear Rn
  clear B0
  clear hbh
  go_upto_region 4 with fail
  refine wp_region_held_drew (S := fun W => Bk W w.heap.size 25 (oc n l)) (by kernel_rfl) (S.out) (fun hS => ?_)
  have hdr : Hid (Below w1.heap.size w1 w1.drew) := Lib.hid ⟨rfl, rfl, rfl, Nat.le_refl _, fun _ _ => rfl⟩
  have B2 := bt B1 hdr
  have Sn := kt S hdr
  clear S
  have S := Sn
  clear Sn
  have Tn := kt T hdr
  clear T
  have T := Tn
  clear Tn
  have Rn := r32t R hdr
  clear R
  have R := Rn
  clear Rn
  clear B1
  clear hdr
  generalize w1.drew = w2 at *
  refine wpAnyH_take (i := 0) (oi := ⟨some 17, _, _, _, _, _⟩) (v := oV n l) rfl (by kernel_rfl) (by kernel_rfl) (by kernel_rfl) (fun _ _ _ h => h) (yieldsIf_load_mid (by rfl) 25 (.tmp 3) rfl (w.heap.size) 0 rfl (oc n l) _ (fun W h => range25 h) Tryd.underlying25 rfl (by rw [oc_length, hl]; exact info25)) hS ?_
  simp only [Act.put, List.setIfInBounds_toArray, List.set_cons_zero, List.set_cons_succ]
  refine wpAnyH_take (i := 2) (oi := ⟨some 19, _, _, _, _, _⟩) (v := .int .i64 1) rfl (by kernel_rfl) (by kernel_rfl) (by kernel_rfl) (fun _ _ _ h => h) (Or.inl ⟨by rfl, fun w hSw => by (try dsimp only at hSw); go_simp⟩) hS ?_
  simp only [Act.put, List.setIfInBounds_toArray, List.set_cons_zero, List.set_cons_succ]
  refine wpAnyH_ready (rs := [1]) (by kernel_rfl) (by simp) ?_
  refine AllReadyH.cons (o := _) rfl (fun K hK => ?_) (AllReadyH.nil)
  go_simp
  refine (C2.out _).mono ?_
  rintro e w3 ⟨rfl, hb⟩
  have hbh := Lib.hid hb
  clear hb
  have B3 := bt B2 hbh
  have Sn := kt S hbh
  clear S
  have S := Sn
  clear Sn
  have Tn := kt T hbh
  clear T
  have T := Tn
  clear Tn
  have Rn := r32t R hbh
  clear R
  have R := Rn
  clear Rn
  clear B2
  clear hbh
  go_simp
  refine hK.out _ _ (S.out) (fun hS => ?_)
  clear hK K
  (try simp only [Act.put, List.setIfInBounds_toArray, List.set_cons_zero, List.set_cons_succ])
  refine wpAnyH_take (i := 3) (oi := ⟨some 20, _, _, _, _, _⟩) (v := .bool false) rfl (by kernel_rfl) (by kernel_rfl) (by kernel_rfl) (fun _ _ _ h => h) (Or.inl ⟨by rfl, fun w hSw => by (try dsimp only at hSw); go_simp⟩) hS ?_
  simp only [Act.put, List.setIfInBounds_toArray, List.set_cons_zero, List.set_cons_succ]
  refine wpAnyH_take (i := 4) (oi := ⟨some 21, _, _, _, _, _⟩) (v := .bool false) rfl (by kernel_rfl) (by kernel_rfl) (by kernel_rfl) (fun _ _ _ h => h) (Or.inl ⟨by rfl, fun w hSw => by (try dsimp only at hSw); go_simp⟩) hS ?_
  simp only [Act.put, List.setIfInBounds_toArray, List.set_cons_zero, List.set_cons_succ]
  refine wpAnyH_take (i := 5) (oi := ⟨some 22, _, _, _, _, _⟩) (v := oV n l) rfl (by kernel_rfl) (by kernel_rfl) (by kernel_rfl) (fun _ _ _ h => h) (yieldsIf_load_mid (by rfl) 25 (.tmp 3) rfl (w.heap.size) 0 rfl (oc n l) _ (fun W h => range25 h) Tryd.underlying25 rfl (by rw [oc_length, hl]; exact info25)) hS ?_
  simp only [Act.put, List.setIfInBounds_toArray, List.set_cons_zero, List.set_cons_succ]
  refine wpAnyH_take (i := 7) (oi := ⟨some 24, _, _, _, _, _⟩) (v := oV n l) rfl (by kernel_rfl) (by kernel_rfl) (by kernel_rfl) (fun _ _ _ h => h) (yieldsIf_load_mid (by rfl) 25 (.tmp 3) rfl (w.heap.size) 0 rfl (oc n l) _ (fun W h => range25 h) Tryd.underlying25 rfl (by rw [oc_length, hl]; exact info25)) hS ?_
  simp only [Act.put, List.setIfInBounds_toArray, List.set_cons_zero, List.set_cons_succ]
  refine wpAnyH_ready (rs := [6]) (by kernel_rfl) (by simp) ?_
  refine AllReadyH.cons (o := _) rfl (fun K hK => ?_) (AllReadyH.nil)
  go_simp
  refine (CI.out _).mono ?_
  rintro e w4 ⟨rfl, hb⟩
  have hbh := Lib.hid hb
  clear hb
  have B4 := bt B3 hbh
  have Sn := kt S hbh
  clear S
  have S := Sn
  clear Sn
  have Tn := kt T hbh
  clear T
  have T := Tn
  clear Tn
  have Rn := r32t R hbh
  clear R
  have R := Rn
  clear Rn
  clear B3
  clear hbh
  go_simp
  refine hK.out _ _ (S.out) (fun hS => ?_)
  clear hK K
  (try simp only [Act.put, List.setIfInBounds_toArray, List.set_cons_zero, List.set_cons_succ])
  refine wpAnyH_ready (rs := [8]) (by kernel_rfl) (by simp) ?_
  refine AllReadyH.cons (o := _) rfl (fun K hK => ?_) (AllReadyH.nil)
  go_simp
  refine (rany_any _).mono ?_
  rintro e w5 ⟨rfl, hb⟩
  have hbh := Lib.hid hb
  clear hb
  have B5 := bt B4 hbh
  have Sn := kt S hbh
  clear S
  have S := Sn
  clear Sn
  have Tn := kt T hbh
  clear T
  have T := Tn
  clear Tn
  have Rn := r32t R hbh
  clear R
  have R := Rn
  clear Rn
  clear B4
  clear hbh
  go_simp
  refine hK.out _ _ (S.out) (fun hS => ?_)
  clear hK K
  (try simp only [Act.put, List.setIfInBounds_toArray, List.set_cons_zero, List.set_cons_succ])
  refine wpAnyH_take (i := 9) (oi := ⟨some 26, _, _, _, _, _⟩) (v := .bool r) rfl (by kernel_rfl) (by kernel_rfl) (by kernel_rfl) (fun _ _ _ h => h) (Or.inl ⟨by rfl, fun w hSw => by (try dsimp only at hSw); go_simp⟩) hS ?_
  simp only [Act.put, List.setIfInBounds_toArray, List.set_cons_zero, List.set_cons_succ]
  refine wpAnyH_take (i := 10) (oi := ⟨some 27, _, _, _, _, _⟩) (v := .bool false) rfl (by kernel_rfl) (by kernel_rfl) (by kernel_rfl) (fun _ _ _ h => h) (Or.inl ⟨by rfl, fun w hSw => by (try dsimp only at hSw); go_simp⟩) hS ?_
  simp only [Act.put, List.setIfInBounds_toArray, List.set_cons_zero, List.set_cons_succ]
  refine wpAnyH_take (i := 11) (oi := ⟨some 28, _, _, _, _, _⟩) (v := .bool false) rfl (by kernel_rfl) (by kernel_rfl) (by kernel_rfl) (fun _ _ _ h => h) (Or.inl ⟨by rfl, fun w hSw => by (try dsimp only at hSw); go_simp⟩) hS ?_
  simp only [Act.put, List.setIfInBounds_toArray, List.set_cons_zero, List.set_cons_succ]
  refine wpAnyH_done (by kernel_rfl) ?_ _
  go_upto_region 7 with fail
  have V := Lib.hid (Bk.new w5 25 (oc 0 zl))
  have hbh := Lib.hid (bel1 w5 (.cells (oc 0 zl).toArray 25))
  have HG8 : Hid (w.heap.size + 1 < w5.heap.size) := Lib.hid T.out.lt
  have B6 := bt B5 hbh
  have Sn := kt S hbh
  clear S
  have S := Sn
  clear Sn
  have Tn := kt T hbh
  clear T
  have T := Tn
  clear Tn
  have Rn := r32t R hbh
  clear R
  have R := Rn
  clear Rn
  clear B5
  clear hbh
  generalize w5.alloc (.cells (oc 0 zl).toArray 25) = w6 at *
  generalize w5.heap.size = g8 at *
  go_wp2_with (first | (refine wpList_load25g (by rfl) (.tmp 3) rfl rfl S.out hl ?_) | (refine wpList_load25g (by rfl) (.tmp 4) rfl rfl T.out hk ?_))
  refine (CM.out _ R.out).mono ?_
  rintro e w7 ⟨rfl, hb⟩
  have hbh := Lib.hid hb
  clear hb
  have B7 := bt B6 hbh
  have Sn := kt S hbh
  clear S
  have S := Sn
  clear Sn
  have Tn := kt T hbh
  clear T
  have T := Tn
  clear Tn
  have Vn := kt V hbh
  clear V
  have V := Vn
  clear Vn
  have Rn := r32t R hbh
  clear R
  have R := Rn
  clear Rn
  clear B6
  clear hbh
  go_wp2_with (first | (refine wpList_load25g (by rfl) (.tmp 3) rfl rfl S.out hl ?_) | (refine wpList_load25g (by rfl) (.tmp 4) rfl rfl T.out hk ?_))
  refine (CR.out _).mono ?_
  rintro e w8 ⟨rfl, hb⟩
  have hbh := Lib.hid hb
  clear hb
  have B8 := bt B7 hbh
  have Sn := kt S hbh
  clear S
  have S := Sn
  clear Sn
  have Tn := kt T hbh
  clear T
  have T := Tn
  clear Tn
  have Vn := kt V hbh
  clear V
  have V := Vn
  clear Vn
  have Rn := r32t R hbh
  clear R
  have R := Rn
  clear Rn
  clear B7
  clear hbh
  go_wp2_with (first | (refine wpList_load25g (by rfl) (.tmp 3) rfl rfl S.out hl ?_) | (refine wpList_load25g (by rfl) (.tmp 4) rfl rfl T.out hk ?_))
  refine (CM.out _ R.out).mono ?_
  rintro e w9 ⟨rfl, hb⟩
  have hbh := Lib.hid hb
  clear hb
  have B9 := bt B8 hbh
  have Sn := kt S hbh
  clear S
  have S := Sn
  clear Sn
  have Tn := kt T hbh
  clear T
  have T := Tn
  clear Tn
  have Vn := kt V hbh
  clear V
  have V := Vn
  clear Vn
  have Rn := r32t R hbh
  clear R
  have R := Rn
  clear Rn
  clear B8
  clear hbh
  go_upto_region 9 with (refine wpList_store25 rfl (.tmp 8) (.tmp 39) rfl (n := N) (l := pl) rfl rfl V.out (by rw [oc_length, HZL.out]) hpl ?_; intro w10 V5 hg5 hz5; have HV5 := Lib.hid V5; have S5 := Lib.hid (S.out.only hg5 (by intro e; injection e with e; have := HG8.out; omega)); have T5 := Lib.hid (T.out.only hg5 (by intro e; injection e with e; have := HG8.out; omega)); have R5 := Lib.hid (show R32 _ A ls from Rd.only (B := g8) R.out (fun q hq hne => by have := HA0.out q hq hne; have := HG8.out; omega) hg5 (Nat.le_refl _)); have B10 := Lib.hid (B9.out.grown hg5 B9.out.size (fun k e => by injection e with e; have := HG8.out; omega)); clear V5 hg5 hz5)
  clear S T V B9 R
  have S := S5
  have T := T5
  have V := HV5
  have R := R5
  clear S5 T5 HV5 R5
  refine wp_region_held_drew (S := fun W => Bk W g8 25 (oc N pl)) (by kernel_rfl) (V.out) (fun hS => ?_)
  have hdr : Hid (Below w10.heap.size w10 w10.drew) := Lib.hid ⟨rfl, rfl, rfl, Nat.le_refl _, fun _ _ => rfl⟩
  have B11 := bt B10 hdr
  have Sn := kt S hdr
  clear S
  have S := Sn
  clear Sn
  have Tn := kt T hdr
  clear T
  have T := Tn
  clear Tn
  have Vn := kt V hdr
  clear V
  have V := Vn
  clear Vn
  have Rn := r32t R hdr
  clear R
  have R := Rn
  clear Rn
  clear B10
  clear hdr
  generalize w10.drew = w11 at *
  refine wpAnyH_take (i := 0) (oi := ⟨some 40, _, _, _, _, _⟩) (v := .slice A N c) rfl (by kernel_rfl) (by kernel_rfl) (by kernel_rfl) (fun _ _ _ h => h) (Or.inl ⟨by rfl, fun w hSw => by (try dsimp only at hSw); go_simp⟩) hS ?_
  simp only [Act.put, List.setIfInBounds_toArray, List.set_cons_zero, List.set_cons_succ]
  refine wpAnyH_take (i := 2) (oi := ⟨some 42, _, _, _, _, _⟩) (v := oV N pl) rfl (by kernel_rfl) (by kernel_rfl) (by kernel_rfl) (fun _ _ _ h => h) (yieldsIf_load_mid (by rfl) 25 (.tmp 8) rfl (g8) 0 rfl (oc N pl) _ (fun W h => range25 h) Tryd.underlying25 rfl (by rw [oc_length, hpl]; exact info25)) hS ?_
  simp only [Act.put, List.setIfInBounds_toArray, List.set_cons_zero, List.set_cons_succ]
  refine wpAnyH_ready (rs := [1]) (by kernel_rfl) (by simp) ?_
  refine AllReadyH.cons (o := _) rfl (fun K hK => ?_) (AllReadyH.nil)
  go_simp
  refine (CO.out _ R.out).mono ?_
  rintro e w12 ⟨rfl, hb⟩
  have hbh := Lib.hid hb
  clear hb
  have B12 := bt B11 hbh
  have Sn := kt S hbh
  clear S
  have S := Sn
  clear Sn
  have Tn := kt T hbh
  clear T
  have T := Tn
  clear Tn
  have Vn := kt V hbh
  clear V
  have V := Vn
  clear Vn
  have Rn := r32t R hbh
  clear R
  have R := Rn
  clear Rn
  clear B11
  clear hbh
  go_simp
  refine hK.out _ _ (V.out) (fun hS => ?_)
  clear hK K
  (try simp only [Act.put, List.setIfInBounds_toArray, List.set_cons_zero, List.set_cons_succ])
  refine wpAnyH_take (i := 3) (oi := ⟨some 43, _, _, _, _, _⟩) (v := .bool false) rfl (by kernel_rfl) (by kernel_rfl) (by kernel_rfl) (fun _ _ _ h => h) (Or.inl ⟨by rfl, fun w hSw => by (try dsimp only at hSw); go_simp⟩) hS ?_
  simp only [Act.put, List.setIfInBounds_toArray, List.set_cons_zero, List.set_cons_succ]
  refine wpAnyH_done (by kernel_rfl) ?_ _
  go_wp2_with (first | (refine wpList_load25g (by rfl) (.tmp 3) rfl rfl S.out hl ?_) | (refine wpList_load25g (by rfl) (.tmp 4) rfl rfl T.out hk ?_))
  refine (CP.out _).mono ?_
  rintro e w13 ⟨A2, rfl, hR2, hb⟩
  have hbh := Lib.hid hb
  have R2 := Lib.hid hR2
  clear hb hR2
  have B13 := bt B12 hbh
  have Sn := kt S hbh
  clear S
  have S := Sn
  clear Sn
  have Tn := kt T hbh
  clear T
  have T := Tn
  clear Tn
  clear B12
  clear hbh
  go_wp2_with fail
  refine (same_ok A2 none [] 0 0 1 _ R2.out Rb.nil rfl).mono ?_
  rintro e w' ⟨rfl, rfl⟩
  go_wp2_with (first | (refine wpList_load25g (by rfl) (.tmp 3) rfl rfl S.out hl ?_) | (refine wpList_load25g (by rfl) (.tmp 4) rfl rfl T.out hk ?_))
  refine (CT.out _ (E0.out.below B13.out)).mono ?_
  rintro e w14 ⟨rfl, hb⟩
  have hbh := Lib.hid hb
  clear hb
  have B14 := bt B13 hbh
  have Sn := kt S hbh
  clear S
  have S := Sn
  clear Sn
  have Tn := kt T hbh
  clear T
  have T := Tn
  clear Tn
  clear B13
  clear hbh
  go_wp2_with (first | (refine wpList_load25g (by rfl) (.tmp 3) rfl rfl S.out hl ?_) | (refine wpList_load25g (by rfl) (.tmp 4) rfl rfl T.out hk ?_))
  refine (CH.out _).mono ?_
  rintro e w15 ⟨rfl, hb⟩
  have hbh := Lib.hid hb
  clear hb
  have B15 := bt B14 hbh
  have Sn := kt S hbh
  clear S
  have S := Sn
  clear Sn
  have Tn := kt T hbh
  clear T
  have T := Tn
  clear Tn
  clear B14
  clear hbh
  go_wp2_with (first | (refine wpList_load25g (by rfl) (.tmp 3) rfl rfl S.out hl ?_) | (refine wpList_load25g (by rfl) (.tmp 4) rfl rfl T.out hk ?_))
  refine (CG.out _).mono ?_
  rintro e w16 ⟨rfl, hb⟩
  have hbh := Lib.hid hb
  clear hb
  have B16 := bt B15 hbh
  have Sn := kt S hbh
  clear S
  have S := Sn
  clear Sn
  have Tn := kt T hbh
  clear T
  have T := Tn
  clear Tn
  clear B15
  clear hbh
  go_wp2_with (first | (refine wpList_load25g (by rfl) (.tmp 3) rfl rfl S.out hl ?_) | (refine wpList_load25g (by rfl) (.tmp 4) rfl rfl T.out hk ?_))
  refine (lives_any _ (E0.out.below B16.out)).mono ?_
  rintro e w17 ⟨rfl, hb⟩
  have B17 := bt B16 (Lib.hid hb)
  clear hb B16
  go_wp2_with fail
  go_ret
  exact ⟨rfl, B17.out⟩
theorem check_walk (n : Nat) (l : List Nat) (m : Nat) (k : List Nat) (A : Option Addr) (ls : List Nat) (c : Nat) (w : World) (hE : Env w) (ho : OkO n l) (hp : OkO m k) (hA : R32 w A ls) (h32 : ∀ y ∈ ls, y < 4294967296) (hlc : ls.length ≤ c) (hm : c ≤ maxLen) :
    Calls Tryd.prog 3 #[oV n l, oV m k, .slice A ls.length c] w fun e w' => e = .returned (.bool true) ∧ Below w.heap.size w w' := by
  rcases Nat.lt_or_ge 20 ls.length with hg | hg
  · exact check_long n l m k A ls _ c w hE ho hp rfl hA h32 hlc hm hg
  · rcases chkO_01 n l with h1 | h1 <;> rcases Nat.lt_or_ge ls.length 17 with h2 | h2
    · rcases chkO_01 ls.length (pad ls) with h3 | h3
      · exact check_0_2 n l m k A ls _ c w hE ho hp rfl hA h32 hlc hm hg h1 h2 h3
      · exact check_0_1 n l m k A ls _ c w hE ho hp rfl hA h32 hlc hm hg h1 h2 h3
    · exact check_0_0 n l m k A ls _ c w hE ho hp rfl hA h32 hlc hm hg h1 h2
    · rcases chkO_01 ls.length (pad ls) with h3 | h3
      · exact check_1_2 n l m k A ls _ c w hE ho hp rfl hA h32 hlc hm hg h1 h2 h3
      · exact check_1_1 n l m k A ls _ c w hE ho hp rfl hA h32 hlc hm hg h1 h2 h3
    · exact check_1_0 n l m k A ls _ c w hE ho hp rfl hA h32 hlc hm hg h1 h2

open Go.ChangeShapes Go.WideShapes Go.ChangeAt Go.WideMaps Go.WideElems
set_option maxRecDepth 100000 in
theorem oidsCheck_lifted (os : Os) (started : os.Started) (H : Type) (enc : TypeId × Value → H) :
    ReturnsInHanded {} Tryd.checked os 3 .any (fun w args => (Rows.oidsCheckSpec.pre enc Tryd.prog Tryd.f3 [] false w args ∧ laidMetH Tryd.prog laidL w) ∧ sizedMet enc Tryd.prog Tryd.f3 (OpenSpec.ofChange Rows.oidsCheckSpec) false w args)
      (Rows.oidsCheckSpec.post enc Tryd.prog Tryd.f3 false true false false) := by
  refine returnsInHanded_of_change_and (C := Tryd.checked) (X := fun w _ => laidMetH Tryd.prog laidL w) (fun _ _ _ hh h => h.of_heap hh) x_own started (by kernel_rfl) Tryd.func3
    (ChangeSpec.witness_shaped (enc := enc) (C := Tryd.checked) (os := os) (X := fun w _ => laidMetH Tryd.prog laidL w) false (World.laidAll Tryd.prog os laidL) #[.agg #[.int .u8 0, .int .u32 0, .int .u32 0, .int .u32 0, .int .u32 0, .int .u32 0, .int .u32 0, .int .u32 0, .int .u32 0, .int .u32 0, .int .u32 0, .int .u32 0, .int .u32 0, .int .u32 0, .int .u32 0, .int .u32 0, .int .u32 0], .agg #[.int .u8 0, .int .u32 0, .int .u32 0, .int .u32 0, .int .u32 0, .int .u32 0, .int .u32 0, .int .u32 0, .int .u32 0, .int .u32 0, .int .u32 0, .int .u32 0, .int .u32 0, .int .u32 0, .int .u32 0, .int .u32 0, .int .u32 0], .slice none 0 0] 8 (World.laidAll_os _ _ _) (World.shaped_of_ZipB (by kernel_rfl) (by kernel_rfl)) (by kernel_rfl) (by kernel_rfl) (by kernel_rfl) (door_met os _)) ?_
  intro W base args ds gs before hval0 hW _ _ hL _
  have hval : ∀ (j : Nat) t v, Tryd.f3.params[j]? = some t → args[j]? = some v → Value.okWide Tryd.prog W .any base t v := hval0
  have hW' := hW
  obtain ⟨p, q, hA0, hV, rfl, hfz, hnd⟩ := hW
  have hA : DataW.TrodAll enc Tryd.prog W 0 (fun _ => true) true Tryd.f3.params.toList args.toList ds p := hA0
  rw [Tryd.params3] at hA hval
  obtain ⟨v0, v1, v2, d0, d1, d2, p0, p1, p2, rfl, rfl, rfl, h0, h1, h2⟩ := trodAll_three hA
  obtain ⟨rfl, rfl⟩ := trodVars_none hV
  obtain ⟨n, l, rfl, ho⟩ := open_oid (hval 0 _ v0 rfl rfl) h0
  obtain ⟨m, k, rfl, hp⟩ := open_oid (hval 1 _ v1 rfl rfl) h1
  obtain ⟨A, ls, c, rfl, hA2, h32, hlc, hm⟩ := open_words (hval 2 _ v2 rfl rfl) h2
  have hE := of_laid hL
  clear hA0 hval0
  simp only [List.append_nil] at hW'
  refine (check_walk n l m k A ls c W hE ho hp hA2 h32 hlc hm).mono fun e W' ⟨he, hb⟩ => ?_
  subst he
  exact ⟨_, rfl, law_post (tb := 4) x_laid (by decide +kernel) rfl rfl (by kernel_rfl) Tryd.underlying4 hW' hb⟩

/-- The row's statement. -/
theorem oidsCheck_row : Rows.OidsCheckSaid :=
  OpenClaim.holds_of_wide 3 Tryd.f3 rfl rfl rfl rfl rfl rfl rfl ⟨rfl, rfl, rfl, rfl, rfl⟩ rfl rfl rfl rfl rfl (by kernel_rfl) Tryd.func3 (by kernel_rfl)
    (of_decide_eq_true (by kernel_rfl)) (by unfold Func.isWrapper; first | (rw [if_pos (by decide +kernel)]; kernel_rfl) | (rw [if_neg (by decide +kernel)]; exact ⟨rfl, rfl⟩))
    (fun os started H enc _ => oidsCheck_lifted os started H enc)

/-- The statement: the card. -/
theorem oidsCheck_holds : Rows.OidsCheckCardSaid :=
  Claim7.holds_tied_plain_at .later [] [.data, .data, .data, .data, .sentinel, .sentinel, .pinned] true Rows.oidsCheckCard.stood.harness true
    oidsCheck_row (fun _ h => by cases h) (by kernel_rfl) (fun _ h => by cases h) oidsCheck_row_tie rfl ⟨rfl, rfl⟩ (by kernel_rfl) rfl
    (fun f fn hf hfn => by
      obtain rfl : f = 3 := Option.some.inj ((show Tryd.prog.funcNamed "vidimus/vidimuslaw06.OidsCheck" = some 3 by kernel_rfl).symm.trans hf) |>.symm
      obtain rfl : fn = Tryd.f3 := (Option.some.inj (Tryd.func3.symm.trans hfn)).symm
      exact ⟨by kernel_rfl, fun j t ht => by
        rw [Tryd.params3] at ht
        have hm : t ∈ Tryd.f3.params.toList := by rw [Tryd.params3]; exact Array.mem_toList_iff.2 (Array.mem_of_getElem? ht)
        have hall : (Tryd.f3.params.toList.all fun u => !Tryd.prog.wantsStandIn u) = true := by kernel_rfl
        exact (show Tryd.prog.wantsStandIn t = false by simpa using List.all_eq_true.1 hall t hm)⟩)
    (by kernel_rfl)
end Go.Proofs.YtmofpdilnapjiaaDoor
