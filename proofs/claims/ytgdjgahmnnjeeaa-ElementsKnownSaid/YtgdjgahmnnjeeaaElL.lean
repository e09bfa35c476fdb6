/-
  Layer 4: the program's contentSize, fullSize.
  Conditions: none beyond that values read as elements that are valid one by one.
-/
import Derived.Test.YtgdjgahmnnjeeaaElK
namespace Go.Proofs.Ytgdjgahmnnjeeaa
open Go.RowKit

set_option maxHeartbeats 2000000 in
set_option maxRecDepth 100000 in
/-- fullSize, where contentSize is as it should be. -/
theorem full_of {x : Bool} {S : Nat → Prop} (e : El) (v : Value) (w : World) (hE : RdE x S w e v) (hv : valE e) (hN1 : (encE e).length ≤ 1048576)
    (hc : ∀ w', RdE x S w' e v → Calls Try.prog 40 #[v] w' fun e' w'' => e' = .returned (.int .i64 (conL e : Int)) ∧ Below w'.heap.size w' w'') :
    Calls Try.prog 53 #[v] w fun e' w' => e' = .returned (.int .i64 ((encE e).length : Int)) ∧ Below w.heap.size w w' := by
  obtain ⟨c, n, k, bs, ss⟩ := e
  have hE2 := hE
  obtain ⟨h1, h2, h3, A, ca, B, cb, rfl, h5, h6, h7, h8, h9, h10, h11⟩ := hE
  rw [valE] at hv
  have HT := Lib.hid fun w => size_any c n k w h1 h2
  have htot := fun h => tot_enc (bs := bs) (ss := ss) (k := k) hv.1 h
  have hle := conL_le (e := .mk c n k bs ss)
  have HTot := Lib.hid htot
  have hba := bel1 w (.cells #[.int .u8 (c : Int), .bool k, .int .u32 (n : Int), .slice A bs.length ca, .slice B ss.length cb] 29)
  have hka := Bk.new w 29 [.int .u8 (c : Int), .bool k, .int .u32 (n : Int), .slice A bs.length ca, .slice B ss.length cb]
  obtain ⟨w1, hw1⟩ : ∃ w1, w.alloc (.cells #[.int .u8 (c : Int), .bool k, .int .u32 (n : Int), .slice A bs.length ca, .slice B ss.length cb] 29) = w1 := ⟨_, rfl⟩
  obtain ⟨m, hm⟩ : ∃ m, conL (.mk c n k bs ss) = m := ⟨_, rfl⟩
  obtain ⟨N, hN⟩ : ∃ N, (encE (.mk c n k bs ss)).length = N := ⟨_, rfl⟩
  obtain ⟨t, ht⟩ : ∃ t, sizeN c n k = t := ⟨_, rfl⟩
  rw [hw1] at hba hka
  rw [hm, hN] at hle
  rw [hN] at hN1
  have HE2 := Lib.hid (hE2.stay hba)
  have Hm := Lib.hid hm
  have HN := Lib.hid hN
  have Ht := Lib.hid ht
  have hcell : ∀ W : World, Below w1.heap.size w1 W → W.cell? ⟨w.heap.size, 0, none⟩ = some (.int .u8 (c : Int)) ∧ W.cell? ⟨w.heap.size, 1, none⟩ = some (.bool k) ∧ W.cell? ⟨w.heap.size, 2, none⟩ = some (.int .u32 (n : Int)) ∧ W.cell? ⟨w.heap.size, 3, none⟩ = some (.slice A bs.length ca) ∧ W.cell? ⟨w.heap.size, 4, none⟩ = some (.slice B ss.length cb) := fun W hb =>
    let ⟨e0, e1, e2, e3, e4, _⟩ := (hka.below hb hka.lt).five
    ⟨e0, e1, e2, e3, e4⟩
  have HCell := Lib.hid hcell
  have HBA := Lib.hid hba
  clear hE2 h1 h2 h3 h5 h6 h7 h8 h9 h10 h11 htot hba hka hm hN hcell ht
  have b1 := Below.refl w1.heap.size w1
  have hm1 : m ≤ 1048576 := by omega
  have hto : Len.totI ((t : Nat) : Int) ((m : Nat) : Int) = ((N : Nat) : Int) := by
    have := HTot.out (by rw [Hm.out]; exact hm1)
    rwa [Hm.out, HN.out, Ht.out] at this
  have HTo := Lib.hid hto
  have hc2 : ∀ w', RdE x S w' (.mk c n k bs ss) (elV c n k (.slice A bs.length ca) (.slice B ss.length cb)) → Calls Try.prog 40 #[elV c n k (.slice A bs.length ca) (.slice B ss.length cb)] w' fun e w'' => e = .returned (.int .i64 (m : Int)) ∧ Below w'.heap.size w' w'' := fun w' h => by
    have := hc w' h; rw [Hm.out] at this; exact this
  have HC2 := Lib.hid hc2
  clear hc hc2 hto
  go_enter Try.func53, Try.ntmps53
  go_wp2_with fail
  go_region_held3 (fun w' => w'.cell? ⟨w.heap.size, 0, none⟩ = some (.int .u8 (c : Int)) ∧ w'.cell? ⟨w.heap.size, 1, none⟩ = some (.bool k) ∧ w'.cell? ⟨w.heap.size, 2, none⟩ = some (.int .u32 (n : Int)) ∧ w'.cell? ⟨w.heap.size, 3, none⟩ = some (.slice A bs.length ca) ∧ w'.cell? ⟨w.heap.size, 4, none⟩ = some (.slice B ss.length cb))
    (first | exact HCell.out _ b1.drew | exact HCell.out _ d2 | exact HCell.out _ d3)
    (first | (go_at_call 56; refine (HT.out _).mono ?_; rintro e w2 ⟨rfl, hb2⟩; rw [Ht.out]; have d2 := b1.drew.trans (hb2.mono b1.drew.size)) | (go_at_call 40; refine (HC2.out _ (HE2.out.stay d2)).mono ?_; rintro e w3 ⟨rfl, hb3⟩; have d3 := d2.trans (hb3.mono d2.size)) | (go_at_call 77; refine (Len.total_any (t : Int) (m : Int) _).mono ?_; rw [HTo.out]; rintro e w4 ⟨rfl, rfl⟩) | (go_at_call 59; refine (bnd_no N _ hN1).mono ?_; rintro e w5 ⟨rfl, rfl⟩))
  have HD := Lib.hid (HBA.out.trans (d3.mono HBA.out.size))
  go_wp2_with fail
  go_ret
  exact ⟨by rw [HN.out]; rfl, HD.out⟩

set_option maxHeartbeats 2000000 in
set_option maxRecDepth 100000 in
theorem con_any {x : Bool} {S : Nat → Prop} (e : El) : ∀ (v : Value) (w : World), RdE x S w e v → valE e → conL e ≤ 1048576 →
    Calls Try.prog 40 #[v] w fun e' w' => e' = .returned (.int .i64 (conL e : Int)) ∧ Below w.heap.size w w' := by
  refine El.ind (P := fun e => ∀ (v : Value) (w : World), RdE x S w e v → valE e → conL e ≤ 1048576 →
    Calls Try.prog 40 #[v] w fun e' w' => e' = .returned (.int .i64 (conL e : Int)) ∧ Below w.heap.size w w') ?_ e
  clear e
  intro c n k bs ss ih v w h hv hm
  obtain ⟨h1, h2, h3, A, ca, B, cb, rfl, h5, h6, h7, h8, h9, h10, h11⟩ := h
  have hlen : ss.length ≤ 9223372036854775807 := by unfold maxLen at h9; omega
  rw [valE] at hv
  rw [conL] at hm ⊢
  have hvs := hv.2.2.2
  clear hv h1 h2 h3 h5 h6 h7 h8 h9 h10
  have HBA := Lib.hid (bel1 w (.cells #[.int .u8 (c : Int), .bool k, .int .u32 (n : Int), .slice A bs.length ca, .slice B ss.length cb] 29))
  have HKA := Lib.hid (Bk.new w 29 [.int .u8 (c : Int), .bool k, .int .u32 (n : Int), .slice A bs.length ca, .slice B ss.length cb])
  go_enter Try.func40, Try.ntmps40
  go_wp2_with fail
  refine (bnd_no bs.length _ (by omega)).mono ?_
  rintro e' w' ⟨rfl, rfl⟩
  go_wp2_with fail
  go_loopw [3, 13, 5] (fun a i _ wr => ∃ (p q : Nat), p ≤ ss.length ∧ a = .int .i64 (q : Int) ∧ i = .int .i64 (p : Int) ∧ q = bs.length + (encS (ss.take p)).length ∧ Below w.heap.size w wr) (fun _ i _ _ => ss.length - (intOf i).toNat)
  case atStart =>
    exact ⟨0, bs.length, Nat.zero_le _, rfl, rfl, by simp [encS], HBA.out⟩
  case round =>
    obtain ⟨p, q, hp, rfl, rfl, hM, hbel⟩ := hrel
    have H11 := Lib.hid (h11.stay hbel)
    have HIH := Lib.hid ih
    have HM := Lib.hid hM
    have HB := Lib.hid hbel
    have HV := Lib.hid hvs
    clear ih hM hbel h11 hvs
    by_cases hlt : p < ss.length
    · obtain ⟨b, off, c', n', k', A1, l1, q1, A2, l2, q2, rfl, hb, hS, f0, f1, f2, f3, f4, hE⟩ := H11.out.fives hlt
      have hpart := encS_part hlt
      have HN := Lib.hid (encS_take hlt)
      have hve := valS_mem HV.out (List.getElem_mem hlt)
      have hba2 := bel1 wr (.cells #[.int .u8 (c' : Int), .bool k', .int .u32 (n' : Int), .slice A1 l1 q1, .slice A2 l2 q2] 29)
      have hM2 := HM.out
      obtain ⟨r, hr⟩ : ∃ r, (encE ss[p]).length = r := ⟨_, rfl⟩
      have hcr := conL_le (e := ss[p])
      have hf := full_of _ _ _ (hE.stay hba2) hve (by omega) (fun w' hE' => HIH.out _ (List.getElem_mem hlt) _ w' hE' hve (by omega))
      rw [hr] at hpart hf hcr
      have HF := Lib.hid hf
      have HR := Lib.hid hr
      have HB2 := Lib.hid (HB.out.trans (hba2.mono HB.out.size))
      have hqr : q + r ≤ 1048576 := by omega
      clear hE hS hf hr hba2 hve hcr hM2 hpart
      go_wp2_with fail
      refine HF.out.mono ?_
      rintro e' w1 ⟨rfl, hb1⟩
      have HB1 := Lib.hid (HB2.out.trans (hb1.mono HB2.out.size))
      clear hb1
      go_wp2_with fail
      refine (bnd_no (q + r) _ hqr).mono ?_
      rintro e' w2 ⟨rfl, rfl⟩
      go_wp2_with fail
      exact ⟨⟨p + 1, q + r, by omega, rfl, by go_num, by rw [HN.out, HM.out, HR.out]; omega, HB1.out⟩, by simp [intOf]; omega⟩
    · have HQ := Lib.hid (show q = bs.length + (encS ss).length from by have := HM.out; rwa [List.take_of_length_le (by omega)] at this)
      go_wp2_with fail
      go_ret
      exact ⟨by rw [← HQ.out]; rfl, HB.out⟩
theorem full_any {x : Bool} {S : Nat → Prop} (e : El) (v : Value) (w : World) (hE : RdE x S w e v) (hv : valE e) (hN : (encE e).length ≤ 1048576) :
    Calls Try.prog 53 #[v] w fun e' w' => e' = .returned (.int .i64 ((encE e).length : Int)) ∧ Below w.heap.size w w' :=
  full_of e v w hE hv hN fun w' hE' => con_any e v w' hE' hv (Nat.le_trans conL_le hN)

set_option maxHeartbeats 2000000 in
set_option maxRecDepth 100000 in
/-- fullSize, where the octets of the whole alone are too many. -/
theorem full_over {x : Bool} {S : Nat → Prop} (e : El) (v : Value) (w : World) (hE : RdE x S w e v) (hv : valE e) (hm1 : conL e ≤ 1048576) (hN1 : 1048576 < (encE e).length) :
    Calls Try.prog 53 #[v] w fun e' w' => e' = .panicked [fltP 3 0] ∧ Below w.heap.size w w' := by
  have hc := fun w' hE' => con_any e v w' (hE' : RdE x S w' e v) hv hm1
  obtain ⟨c, n, k, bs, ss⟩ := e
  have hE2 := hE
  obtain ⟨h1, h2, h3, A, ca, B, cb, rfl, h5, h6, h7, h8, h9, h10, h11⟩ := hE
  rw [valE] at hv
  have HT := Lib.hid fun w => size_any c n k w h1 h2
  have htot := fun h => tot_enc (bs := bs) (ss := ss) (k := k) hv.1 h
  have hle := conL_le (e := .mk c n k bs ss)
  have HTot := Lib.hid htot
  have hba := bel1 w (.cells #[.int .u8 (c : Int), .bool k, .int .u32 (n : Int), .slice A bs.length ca, .slice B ss.length cb] 29)
  have hka := Bk.new w 29 [.int .u8 (c : Int), .bool k, .int .u32 (n : Int), .slice A bs.length ca, .slice B ss.length cb]
  obtain ⟨w1, hw1⟩ : ∃ w1, w.alloc (.cells #[.int .u8 (c : Int), .bool k, .int .u32 (n : Int), .slice A bs.length ca, .slice B ss.length cb] 29) = w1 := ⟨_, rfl⟩
  obtain ⟨m, hm⟩ : ∃ m, conL (.mk c n k bs ss) = m := ⟨_, rfl⟩
  obtain ⟨N, hN⟩ : ∃ N, (encE (.mk c n k bs ss)).length = N := ⟨_, rfl⟩
  obtain ⟨t, ht⟩ : ∃ t, sizeN c n k = t := ⟨_, rfl⟩
  rw [hw1] at hba hka
  rw [hm, hN] at hle
  rw [hN] at hN1
  rw [hm] at hm1
  have HE2 := Lib.hid (hE2.stay hba)
  have Hm := Lib.hid hm
  have HN := Lib.hid hN
  have Ht := Lib.hid ht
  have hcell : ∀ W : World, Below w1.heap.size w1 W → W.cell? ⟨w.heap.size, 0, none⟩ = some (.int .u8 (c : Int)) ∧ W.cell? ⟨w.heap.size, 1, none⟩ = some (.bool k) ∧ W.cell? ⟨w.heap.size, 2, none⟩ = some (.int .u32 (n : Int)) ∧ W.cell? ⟨w.heap.size, 3, none⟩ = some (.slice A bs.length ca) ∧ W.cell? ⟨w.heap.size, 4, none⟩ = some (.slice B ss.length cb) := fun W hb =>
    let ⟨e0, e1, e2, e3, e4, _⟩ := (hka.below hb hka.lt).five
    ⟨e0, e1, e2, e3, e4⟩
  have HCell := Lib.hid hcell
  have HBA := Lib.hid hba
  clear hE2 h1 h2 h3 h5 h6 h7 h8 h9 h10 h11 htot hba hka hm hN hcell ht
  have b1 := Below.refl w1.heap.size w1
  have hto : Len.totI ((t : Nat) : Int) ((m : Nat) : Int) = ((N : Nat) : Int) := by
    have := HTot.out (by rw [Hm.out]; exact hm1)
    rwa [Hm.out, HN.out, Ht.out] at this
  have HTo := Lib.hid hto
  have hc2 : ∀ w', RdE x S w' (.mk c n k bs ss) (elV c n k (.slice A bs.length ca) (.slice B ss.length cb)) → Calls Try.prog 40 #[elV c n k (.slice A bs.length ca) (.slice B ss.length cb)] w' fun e w'' => e = .returned (.int .i64 (m : Int)) ∧ Below w'.heap.size w' w'' := fun w' h => by
    have := hc w' h; rw [Hm.out] at this; exact this
  have HC2 := Lib.hid hc2
  clear hc hc2 hto
  go_enter Try.func53, Try.ntmps53
  go_wp2_with fail
  refine wp_region_held_drew (S := fun w' => w'.cell? ⟨w.heap.size, 0, none⟩ = some (.int .u8 (c : Int)) ∧ w'.cell? ⟨w.heap.size, 1, none⟩ = some (.bool k) ∧ w'.cell? ⟨w.heap.size, 2, none⟩ = some (.int .u32 (n : Int)) ∧ w'.cell? ⟨w.heap.size, 3, none⟩ = some (.slice A bs.length ca) ∧ w'.cell? ⟨w.heap.size, 4, none⟩ = some (.slice B ss.length cb)) (by kernel_rfl) (HCell.out _ b1.drew) (fun hS => ?_)
  refine wpAnyH_take (i := 0) (v := ?_) rfl (by kernel_rfl) (by kernel_rfl) (by kernel_rfl) (fun _ _ _ h => h) (Or.inl ⟨by rfl, ?_⟩) hS ?_
  rotate_left
  · intro w hSw
    (try dsimp only at hSw)
    go_simp
    try with_reducible rfl
  try simp only [Act.put, List.setIfInBounds_toArray]
  refine wpAnyH_take (i := 1) (v := ?_) rfl (by kernel_rfl) (by kernel_rfl) (by kernel_rfl) (fun _ _ _ h => h) (Or.inl ⟨by rfl, ?_⟩) hS ?_
  rotate_left
  · intro w hSw
    (try dsimp only at hSw)
    go_simp
    try with_reducible rfl
  try simp only [Act.put]
  refine wpAnyH_take (i := 3) (v := ?_) rfl (by kernel_rfl) (by kernel_rfl) (by kernel_rfl) (fun _ _ _ h => h) (Or.inl ⟨by rfl, ?_⟩) hS ?_
  rotate_left
  · intro w hSw
    (try dsimp only at hSw)
    go_simp
    try with_reducible rfl
  try simp only [Act.put]
  refine wpAnyH_ready (rs := [2]) (by kernel_rfl) (by simp) ?_
  refine AllReadyH.cons (o := _) rfl (fun K hK => ?_) (AllReadyH.nil)
  go_simp
  refine (HT.out _).mono ?_
  rintro e w2 ⟨rfl, hb2⟩
  rw [Ht.out]
  have d2 := b1.drew.trans (hb2.mono b1.drew.size)
  refine hK.out _ _ (HCell.out _ d2) (fun hS => ?_)
  clear hK K
  try simp only [Act.put, List.setIfInBounds_toArray, List.set_cons_zero, List.set_cons_succ]
  refine wpAnyH_ready (rs := [4]) (by kernel_rfl) (by simp) ?_
  refine AllReadyH.cons (o := _) rfl (fun K hK => ?_) (AllReadyH.nil)
  go_simp
  refine (HC2.out _ (HE2.out.stay d2)).mono ?_
  rintro e w3 ⟨rfl, hb3⟩
  have d3 := d2.trans (hb3.mono d2.size)
  refine hK.out _ _ (HCell.out _ d3) (fun hS => ?_)
  clear hK K
  try simp only [Act.put, List.setIfInBounds_toArray, List.set_cons_zero, List.set_cons_succ]
  refine wpAnyH_ready (rs := [5]) (by kernel_rfl) (by simp) ?_
  refine AllReadyH.cons (o := _) rfl (fun K hK => ?_) (AllReadyH.nil)
  go_simp
  refine (Len.total_any (t : Int) (m : Int) _).mono ?_
  rw [HTo.out]
  rintro e w4 ⟨rfl, rfl⟩
  refine hK.out _ _ (HCell.out _ d3) (fun hS => ?_)
  clear hK K
  try simp only [Act.put, List.setIfInBounds_toArray, List.set_cons_zero, List.set_cons_succ]
  refine wpAnyH_ready (rs := [6]) (by kernel_rfl) (by simp) ?_
  refine AllReadyH.cons (o := _) rfl (fun K hK => ?_) (AllReadyH.nil)
  go_simp
  refine (bnd_yes N _ hN1).mono ?_
  rintro e w5 ⟨rfl, rfl⟩
  exact ⟨rfl, rfl, HBA.out.trans (d3.mono HBA.out.size)⟩
end Go.Proofs.Ytgdjgahmnnjeeaa
