/-
  The order of OIDs: contracts of Compare, and of the reference's Compare.
  Conditions: the OID's cells are in their kinds.
-/
import Derived.Test.YtndamidmgglneaaDoorOidE
namespace Go.Proofs.YtndamidmgglneaaDoor
open Go.RowKit

/-- The order of two OIDs, which may be any values. -/
def cmpO (n : Nat) (l : List Nat) (m : Nat) (k : List Nat) : Int := cmpL (l.take (min n 16)) (k.take (min m 16))
theorem scompare_t (g g' a b : Nat) (l k : List Nat) (w : World) (hl : l.length = 16) (hk : k.length = 16) (ha : a ≤ 16) (hb : b ≤ 16) (hA : R32 w (some ⟨g, 1, none⟩) (l.take a)) (hB : R32 w (some ⟨g', 1, none⟩) (k.take b)) :
    Calls Tryd.prog 24 #[.slice (some ⟨g, 1, none⟩) a 16, .slice (some ⟨g', 1, none⟩) b 16] w fun e w' => e = .returned (.int .i64 (cmpL (l.take a) (k.take b))) ∧ w = w' := by
  have h1 : (l.take a).length = a := by rw [List.length_take]; omega
  have h2 : (k.take b).length = b := by rw [List.length_take]; omega
  have := scompare_any _ _ (l.take a) (k.take b) 16 16 w (by omega) (by omega) hA hB
  rw [h1, h2] at this
  exact this

set_option maxRecDepth 100000 in
set_option maxHeartbeats 2000000 in
theorem compare_any (n : Nat) (l : List Nat) (m : Nat) (k : List Nat) (w : World) (ho : OkO n l) (hp : OkO m k) :
    Calls Tryd.prog 11 #[oV n l, oV m k] w fun e w' => e = .returned (.int .i64 (cmpO n l m k)) ∧ Below w.heap.size w w' := by
  have hl := ho.len
  have hk := hp.len
  have S1 := Lib.hid ((Bk.new w 26 (oc n l)).alloc (.cells (oc m k).toArray 26))
  have S2' := Bk.new (w.alloc (.cells (oc n l).toArray 26)) 26 (oc m k)
  rw [World.size_alloc] at S2'
  have S2 := Lib.hid S2'
  clear S2'
  have B0 := Lib.hid ((bel1 w (.cells (oc n l).toArray 26)).alloc (by simp) (.cells (oc m k).toArray 26))
  have ha : min n 16 ≤ 16 := Nat.min_le_right _ _
  have hb : min m 16 ≤ 16 := Nat.min_le_right _ _
  have HC := Lib.hid (counted_any n l · ho)
  have HD := Lib.hid (counted_any m k · hp)
  unfold cmpO
  generalize min n 16 = a at *
  generalize min m 16 = b at *
  have q1 := slice23h w.heap.size a ha .i64
  have q2 := slice23h (w.heap.size + 1) b hb .i64
  have HL := Lib.hid hl
  have HK := Lib.hid hk
  clear ho hp hl hk
  go_enter Tryd.func11, Tryd.ntmps11
  go_upto_region 1 with fail
  generalize (w.alloc (.cells (oc n l).toArray 26)).alloc (.cells (oc m k).toArray 26) = w1 at *
  refine wp_region_held_drew (S := fun W => Bk W w.heap.size 26 (oc n l) ∧ Bk W (w.heap.size + 1) 26 (oc m k)) (by kernel_rfl) (⟨S1.out, S2.out⟩) (fun hS => ?_)
  refine wpAnyH_take (i := 0) (oi := ⟨some 5, _, _, _, _, _⟩) (v := .pointer (some ⟨w.heap.size, 1, none⟩)) rfl (by kernel_rfl) (by kernel_rfl) (by kernel_rfl) (fun _ _ _ h => h) (Or.inl ⟨by rfl, fun w hSw => by (try dsimp only at hSw); go_simp⟩) hS ?_
  simp only [Act.put, List.setIfInBounds_toArray, List.set_cons_zero, List.set_cons_succ]
  refine wpAnyH_take (i := 1) (oi := ⟨some 6, _, _, _, _, _⟩) (v := oV n l) rfl (by kernel_rfl) (by kernel_rfl) (by kernel_rfl) (fun _ _ _ h => h) (yieldsIf_load_mid (by rfl) 26 (.tmp 2) rfl (w.heap.size) 0 rfl (oc n l) _ (fun W h => range25 h.1) Tryd.underlying26 rfl (by rw [oc_length, HL.out]; exact info25)) hS ?_
  simp only [Act.put, List.setIfInBounds_toArray, List.set_cons_zero, List.set_cons_succ]
  refine wpAnyH_take (i := 4) (oi := ⟨some 9, _, _, _, _, _⟩) (v := .pointer (some ⟨w.heap.size + 1, 1, none⟩)) rfl (by kernel_rfl) (by kernel_rfl) (by kernel_rfl) (fun _ _ _ h => h) (Or.inl ⟨by rfl, fun w hSw => by (try dsimp only at hSw); go_simp⟩) hS ?_
  simp only [Act.put, List.setIfInBounds_toArray, List.set_cons_zero, List.set_cons_succ]
  refine wpAnyH_take (i := 5) (oi := ⟨some 10, _, _, _, _, _⟩) (v := oV m k) rfl (by kernel_rfl) (by kernel_rfl) (by kernel_rfl) (fun _ _ _ h => h) (yieldsIf_load_mid (by rfl) 26 (.tmp 3) rfl (w.heap.size + 1) 0 rfl (oc m k) _ (fun W h => range25 h.2) Tryd.underlying26 rfl (by rw [oc_length, HK.out]; exact info25)) hS ?_
  simp only [Act.put, List.setIfInBounds_toArray, List.set_cons_zero, List.set_cons_succ]
  refine wpAnyH_ready (rs := [2]) (by kernel_rfl) (by simp) ?_
  refine AllReadyH.cons (o := _) rfl (fun K hK => ?_) (AllReadyH.nil)
  go_simp
  refine (HC.out w1.drew).mono ?_
  rintro e w2 ⟨rfl, hb⟩
  have B2 := Lib.hid (B0.out.drew.trans (hb.mono B0.out.drew.size))
  have T1 := Lib.hid (hS.1.below hb hS.1.lt)
  have T2 := Lib.hid (hS.2.below hb hS.2.lt)
  clear hb S1 S2 B0
  go_simp
  refine hK.out _ _ (⟨T1.out, T2.out⟩) (fun hS => ?_)
  clear hK K
  (try simp only [Act.put, List.setIfInBounds_toArray, List.set_cons_zero, List.set_cons_succ])
  refine wpAnyH_take (i := 3) (oi := ⟨some 8, _, _, _, _, _⟩) (v := .slice (some ⟨w.heap.size, 1, none⟩) a 16) rfl (by kernel_rfl) (by kernel_rfl) (by kernel_rfl) (fun _ _ _ h => h) (Or.inl ⟨by rfl, fun w hSw => by (try dsimp only at hSw); go_simp⟩) hS ?_
  simp only [Act.put, List.setIfInBounds_toArray, List.set_cons_zero, List.set_cons_succ]
  refine wpAnyH_ready (rs := [6]) (by kernel_rfl) (by simp) ?_
  refine AllReadyH.cons (o := _) rfl (fun K hK => ?_) (AllReadyH.nil)
  go_simp
  refine (HD.out w2).mono ?_
  rintro e w3 ⟨rfl, hb⟩
  have B3 := bt B2 (Lib.hid hb)
  have U1 := Lib.hid (hS.1.below hb hS.1.lt)
  have U2 := Lib.hid (hS.2.below hb hS.2.lt)
  clear hb T1 T2 B2
  go_simp
  refine hK.out _ _ (⟨U1.out, U2.out⟩) (fun hS => ?_)
  clear hK K
  (try simp only [Act.put, List.setIfInBounds_toArray, List.set_cons_zero, List.set_cons_succ])
  refine wpAnyH_take (i := 7) (oi := ⟨some 12, _, _, _, _, _⟩) (v := .slice (some ⟨w.heap.size + 1, 1, none⟩) b 16) rfl (by kernel_rfl) (by kernel_rfl) (by kernel_rfl) (fun _ _ _ h => h) (Or.inl ⟨by rfl, fun w hSw => by (try dsimp only at hSw); go_simp⟩) hS ?_
  simp only [Act.put, List.setIfInBounds_toArray, List.set_cons_zero, List.set_cons_succ]
  refine wpAnyH_ready (rs := [8]) (by kernel_rfl) (by simp) ?_
  refine AllReadyH.cons (o := _) rfl (fun K hK => ?_) (AllReadyH.nil)
  go_simp
  refine (scompare_t _ _ a b l k w3 HL.out HK.out ha ‹b ≤ 16› (r32_arr U1.out a) (r32_arr U2.out b)).mono ?_
  rintro e w4 ⟨rfl, rfl⟩
  go_simp
  refine hK.out _ _ (⟨U1.out, U2.out⟩) (fun hS => ?_)
  clear hK K
  (try simp only [Act.put, List.setIfInBounds_toArray, List.set_cons_zero, List.set_cons_succ])
  refine wpAnyH_ready (rs := [9]) (by kernel_rfl) (by simp) ?_
  refine AllReadyH.cons (o := _) rfl (fun K hK => ?_) (AllReadyH.nil)
  go_simp
  refine hK.out _ _ (⟨U1.out, U2.out⟩) (fun hS => ?_)
  clear hK K
  (try simp only [Act.put, List.setIfInBounds_toArray, List.set_cons_zero, List.set_cons_succ])
  refine wpAnyH_done (by kernel_rfl) ?_ _
  go_wp2_with fail
  go_ret
  exact ⟨rfl, B3.out⟩
end Go.Proofs.YtndamidmgglneaaDoor
