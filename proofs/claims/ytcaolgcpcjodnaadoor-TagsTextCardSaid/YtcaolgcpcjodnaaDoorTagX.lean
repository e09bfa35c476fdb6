/-
  The reference of layer 2: the contract of Text (of a tag).
  Conditions: the class is one of four.
-/
import Derived.Test.YtcaolgcpcjodnaaDoorTagW
import Derived.Deep.RegionHeld3
namespace Go.Proofs.YtcaolgcpcjodnaaDoor
open Go.RowKit

/-- What holds behind every operation may be said more sharply. -/
theorem wpAnyH_mono {P : Program} {md : Region.Mode} {ops : Array Oper} {Q : Exit → Act → World → Prop} {S S' : World → Prop} (hs : ∀ w, S' w → S w) :
    ∀ (fuel : Nat) (listed : Array Bool) (a : Act) (w : World), wpAnyH P md ops Q S' fuel listed a w → wpAnyH P md ops Q S fuel listed a w
  | 0, _, _, _, h => h
  | fuel + 1, _, _, _, h => ⟨h.1, fun i hi => wpOp_mono (fun a' w' h' => ⟨hs _ h'.1, wpAnyH_mono hs fuel _ a' w' h'.2⟩) (h.2 i hi)⟩

def cnames : List Value := [.string ⟨#[117, 110, 105, 118, 101, 114, 115, 97, 108]⟩, .string ⟨#[97, 112, 112, 108, 105, 99, 97, 116, 105, 111, 110]⟩, .string ⟨#[99, 111, 110, 116, 101, 120, 116]⟩, .string ⟨#[112, 114, 105, 118, 97, 116, 101]⟩]
theorem cnames_at (c : Nat) (h : c ≤ 3) : cnames[c]? = some (.string (bstr (cname c))) := by
  rcases (show c = 0 ∨ c = 1 ∨ c = 2 ∨ c = 3 by omega) with rfl | rfl | rfl | rfl
  all_goals exact congrArg some (congrArg Value.string (by decide +kernel))
theorem cname_len (c : Nat) : (cname c).length ≤ 11 := by
  unfold cname
  repeat' split
  all_goals decide

set_option linter.unusedSimpArgs false in
set_option maxRecDepth 100000 in
set_option maxHeartbeats 4000000 in
theorem rtextT_any (c n : Nat) (k : Bool) (w : World) (hc : c ≤ 3) (hn : n < 4294967296) :
    Calls Tryd.prog 23 #[tagV c n k] w fun e w' => e = .returned (.string (bstr (ttext c n k))) ∧ Below w.heap.size w w' := by
  have htl := textL_le (u := n) (by omega)
  have hdl := dgs10_le (v := n) (k := 10) (by omega)
  have hcl := cname_len c
  have HCN := Lib.hid (cnames_at c hc)
  obtain ⟨T, hT⟩ : ∃ T, textL n = T := ⟨_, rfl⟩
  rw [hT] at htl
  have HT := Lib.hid hT
  have HD := Lib.hid hdl
  clear hT hdl
  obtain ⟨N1, hN1⟩ : ∃ N1, cname c = N1 := ⟨_, rfl⟩
  rw [hN1] at hcl HCN
  obtain ⟨S1, hS1⟩ : ∃ S1, N1 ++ [32] = S1 := ⟨_, rfl⟩
  obtain ⟨U, hU⟩ : ∃ U, S1 ++ T = U := ⟨_, rfl⟩
  have hS1l : S1.length ≤ 12 := by rw [← hS1, List.length_append, List.length_singleton]; omega
  have hUl : U.length ≤ 32 := by rw [← hU, List.length_append]; omega
  have ha1 : bstr N1 ++ ⟨#[32]⟩ = bstr S1 := by rw [← hS1]; exact bstr_app N1 [32]
  have ha2 : bstr S1 ++ bstr T = bstr U := by rw [← hU]; exact bstr_app _ _
  have HTT := Lib.hid (show ttext c n k = U ++ (if k then [32, 99, 111, 110, 115, 116, 114, 117, 99, 116, 101, 100] else []) by rw [ttext, HT.out, hN1, hS1, hU])
  have ha3 : bstr U ++ ⟨#[32, 99, 111, 110, 115, 116, 114, 117, 99, 116, 101, 100]⟩ = bstr (U ++ [32, 99, 111, 110, 115, 116, 114, 117, 99, 116, 101, 100]) := bstr_app U [32, 99, 111, 110, 115, 116, 114, 117, 99, 116, 101, 100]
  have hz1 : ¬ 9223372036854775807 < (bstr N1).size + 1 := by rw [bstr_size]; omega
  have hz2 : ¬ 9223372036854775807 < (bstr S1).size + (bstr T).size := by rw [bstr_size, bstr_size]; omega
  have hz3 : ¬ 9223372036854775807 < (bstr U).size + (⟨#[32, 99, 111, 110, 115, 116, 114, 117, 99, 116, 101, 100]⟩ : ByteArray).size := by rw [bstr_size]; show ¬ _ < U.length + 12; omega
  have hn63 : n < 9223372036854775808 := by omega
  have hwc : IntKind.i64.wrap (c : Int) = (c : Int) := IntWalk.i64_in _ (by omega)
  have hwr : IntKind.i64.wrap (n : Int) = (n : Int) := IntWalk.i64_in _ (by omega)
  have hc0 : (0 : Int) ≤ (c : Int) := by omega
  have hc4 : (c : Int) < 4 := by omega
  have hc4' : c < 4 := by omega
  clear hS1 hU hN1
  go_enter Tryd.func23, Tryd.ntmps23
  go_wp2_with fail
  obtain ⟨W, hW⟩ : ∃ W, w.alloc (.cells #[.int .u8 (c : Int), .bool k, .int .u32 (n : Int)] 25) = W := ⟨_, rfl⟩
  have S0 : Bk W w.heap.size 25 [.int .u8 (c : Int), .bool k, .int .u32 (n : Int)] := by rw [← hW]; exact Bk.new w 25 [.int .u8 (c : Int), .bool k, .int .u32 (n : Int)]
  have BW := Lib.hid (show Below w.heap.size w W by rw [← hW]; exact (Below.refl _ _).alloc (Nat.le_refl _) _)
  obtain ⟨s0, s1, s2, hsz⟩ := (show W.cell? ⟨w.heap.size, 0, none⟩ = some (.int .u8 (c : Int)) ∧ W.cell? ⟨w.heap.size, 1, none⟩ = some (.bool k) ∧ W.cell? ⟨w.heap.size, 2, none⟩ = some (.int .u32 (n : Int)) ∧ w.heap.size < W.heap.size from ⟨S0.cell 0, S0.cell 1, S0.cell 2, S0.lt⟩)
  rw [hW]
  clear hW S0
  have kS : ∀ V : World, Below W.heap.size W V → V.cell? ⟨w.heap.size, 0, none⟩ = some (.int .u8 (c : Int)) ∧ V.cell? ⟨w.heap.size, 1, none⟩ = some (.bool k) ∧ V.cell? ⟨w.heap.size, 2, none⟩ = some (.int .u32 (n : Int)) ∧ Below W.heap.size W V := fun V h =>
    ⟨(h.cell (p := ⟨w.heap.size, 0, none⟩) hsz).trans s0, (h.cell (p := ⟨w.heap.size, 1, none⟩) hsz).trans s1, (h.cell (p := ⟨w.heap.size, 2, none⟩) hsz).trans s2, h⟩
  have HkS := Lib.hid kS
  clear kS s0 s1 s2
  refine wp_region_held_drew (S := fun w' => w'.cell? ⟨w.heap.size, 0, none⟩ = some (.int .u8 (c : Int)) ∧ w'.cell? ⟨w.heap.size, 1, none⟩ = some (.bool k) ∧ w'.cell? ⟨w.heap.size, 2, none⟩ = some (.int .u32 (n : Int)) ∧ Below W.heap.size W w') (by kernel_rfl) (HkS.out _ (Below.refl _ _).drew) (fun hS => ?_)
  refine wpAnyH_take (i := 1) (v := ?_) rfl (by kernel_rfl) (by kernel_rfl) (by kernel_rfl) (fun _ _ _ h => h) (Or.inl ⟨by rfl, ?_⟩) hS ?_
  rotate_left
  · intro w hSw
    (try dsimp only at hSw)
    go_simp
    try with_reducible rfl
  try simp only [Act.put, List.setIfInBounds_toArray, List.set_cons_zero, List.set_cons_succ]
  refine wpAnyH_take (i := 2) (v := ?_) rfl (by kernel_rfl) (by kernel_rfl) (by kernel_rfl) (fun _ _ _ h => h) (Or.inl ⟨by rfl, ?_⟩) hS ?_
  rotate_left
  · intro w hSw
    (try dsimp only at hSw)
    go_simp
    try with_reducible rfl
  try simp only [Act.put, List.setIfInBounds_toArray, List.set_cons_zero, List.set_cons_succ]
  refine wpAnyH_take (i := 3) (v := ?_) rfl (by kernel_rfl) (by kernel_rfl) (by kernel_rfl) (fun _ _ _ h => h) (Or.inl ⟨by rfl, ?_⟩) hS ?_
  rotate_left
  · intro w hSw
    (try dsimp only at hSw)
    go_simp
    try with_reducible rfl
  try simp only [Act.put, List.setIfInBounds_toArray, List.set_cons_zero, List.set_cons_succ]
  refine wpAnyH_take (i := 7) (v := ?_) rfl (by kernel_rfl) (by kernel_rfl) (by kernel_rfl) (fun _ _ _ h => h) (Or.inl ⟨by rfl, ?_⟩) hS ?_
  rotate_left
  · intro w hSw
    (try dsimp only at hSw)
    go_simp
    try with_reducible rfl
  try simp only [Act.put, List.setIfInBounds_toArray, List.set_cons_zero, List.set_cons_succ]
  refine wpAnyH_take (i := 8) (v := ?_) rfl (by kernel_rfl) (by kernel_rfl) (by kernel_rfl) (fun _ _ _ h => h) (Or.inl ⟨by rfl, ?_⟩) hS ?_
  rotate_left
  · intro w hSw
    (try dsimp only at hSw)
    go_simp
    try with_reducible rfl
  try simp only [Act.put, List.setIfInBounds_toArray, List.set_cons_zero, List.set_cons_succ]
  refine wpAnyH_take (i := 9) (v := ?_) rfl (by kernel_rfl) (by kernel_rfl) (by kernel_rfl) (fun _ _ _ h => h) (Or.inl ⟨by rfl, ?_⟩) hS ?_
  rotate_left
  · intro w hSw
    (try dsimp only at hSw)
    go_simp
    try with_reducible rfl
  try simp only [Act.put, List.setIfInBounds_toArray, List.set_cons_zero, List.set_cons_succ]
  refine wpAnyH_ready (rs := [0, 10]) (by kernel_rfl) (by simp) ?_
  refine AllReadyH.cons (o := _) rfl (fun K hK => ?_) (AllReadyH.cons (o := _) rfl (fun K hK => ?_) (AllReadyH.nil))
  · go_simp
    refine hK.out _ _ (HkS.out _ ((Below.refl W.heap.size W).trans (((bel1 W _).drew).mono (Below.refl W.heap.size W).size))) (fun hS0 => ?_)
    clear hK K hS
    try simp only [Act.put, List.setIfInBounds_toArray, List.set_cons_zero, List.set_cons_succ]
    have cX : (W.alloc (.cells #[.string ⟨#[117, 110, 105, 118, 101, 114, 115, 97, 108]⟩, .string ⟨#[97, 112, 112, 108, 105, 99, 97, 116, 105, 111, 110]⟩, .string ⟨#[99, 111, 110, 116, 101, 120, 116]⟩, .string ⟨#[112, 114, 105, 118, 97, 116, 101]⟩] 9)).drew.cell? ⟨W.heap.size, c, none⟩ = some (.string (bstr N1)) := ((Bk.new W 9 cnames).cell c).trans HCN.out
    have HX := Lib.hid ((Below.refl W.heap.size W).trans (((bel1 W (.cells #[.string ⟨#[117, 110, 105, 118, 101, 114, 115, 97, 108]⟩, .string ⟨#[97, 112, 112, 108, 105, 99, 97, 116, 105, 111, 110]⟩, .string ⟨#[99, 111, 110, 116, 101, 120, 116]⟩, .string ⟨#[112, 114, 105, 118, 97, 116, 101]⟩] 9)).drew).mono (Below.refl W.heap.size W).size))
    have hAl : W.heap.size < (W.alloc (.cells #[.string ⟨#[117, 110, 105, 118, 101, 114, 115, 97, 108]⟩, .string ⟨#[97, 112, 112, 108, 105, 99, 97, 116, 105, 111, 110]⟩, .string ⟨#[99, 111, 110, 116, 101, 120, 116]⟩, .string ⟨#[112, 114, 105, 118, 97, 116, 101]⟩] 9)).drew.heap.size := (Bk.new W 9 cnames).lt
    generalize hX : (W.alloc (.cells #[.string ⟨#[117, 110, 105, 118, 101, 114, 115, 97, 108]⟩, .string ⟨#[97, 112, 112, 108, 105, 99, 97, 116, 105, 111, 110]⟩, .string ⟨#[99, 111, 110, 116, 101, 120, 116]⟩, .string ⟨#[112, 114, 105, 118, 97, 116, 101]⟩] 9)).drew = X at *
    clear hX hS0
    have kX : ∀ V : World, Below X.heap.size X V → V.cell? ⟨w.heap.size, 0, none⟩ = some (.int .u8 (c : Int)) ∧ V.cell? ⟨w.heap.size, 1, none⟩ = some (.bool k) ∧ V.cell? ⟨w.heap.size, 2, none⟩ = some (.int .u32 (n : Int)) ∧ V.cell? ⟨W.heap.size, c, none⟩ = some (.string (bstr N1)) ∧ Below W.heap.size W V := fun V h =>
      have h1 := HkS.out V (HX.out.trans (h.mono HX.out.size))
      ⟨h1.1, h1.2.1, h1.2.2.1, (h.cell (p := ⟨W.heap.size, c, none⟩) hAl).trans cX, h1.2.2.2⟩
    have HkX := Lib.hid kX
    clear kX cX
    have hS := HkX.out X (Below.refl _ _)
    refine wpAnyH_mono (S' := fun w' => w'.cell? ⟨w.heap.size, 0, none⟩ = some (.int .u8 (c : Int)) ∧ w'.cell? ⟨w.heap.size, 1, none⟩ = some (.bool k) ∧ w'.cell? ⟨w.heap.size, 2, none⟩ = some (.int .u32 (n : Int)) ∧ w'.cell? ⟨W.heap.size, c, none⟩ = some (.string (bstr N1)) ∧ Below W.heap.size W w') (fun _ h => ⟨h.1, h.2.1, h.2.2.1, h.2.2.2.2⟩) _ _ _ _ ?_
    refine wpAnyH_take (i := 4) (v := ?_) rfl (by kernel_rfl) (by kernel_rfl) (by kernel_rfl) (fun _ _ _ h => h) (Or.inl ⟨by rfl, ?_⟩) hS ?_
    rotate_left
    · intro w hSw
      (try dsimp only at hSw)
      go_simp
      try with_reducible rfl
    try simp only [Act.put, List.setIfInBounds_toArray, List.set_cons_zero, List.set_cons_succ]
    refine wpAnyH_take (i := 5) (v := ?_) rfl (by kernel_rfl) (by kernel_rfl) (by kernel_rfl) (fun _ _ _ h => h) (Or.inl ⟨by rfl, ?_⟩) hS ?_
    rotate_left
    · intro w hSw
      (try dsimp only at hSw)
      go_simp
      try with_reducible rfl
    try simp only [Act.put, List.setIfInBounds_toArray, List.set_cons_zero, List.set_cons_succ]
    refine wpAnyH_take (i := 6) (v := ?_) rfl (by kernel_rfl) (by kernel_rfl) (by kernel_rfl) (fun _ _ _ h => h) (Or.inl ⟨by rfl, ?_⟩) hS ?_
    rotate_left
    · intro w hSw
      (try dsimp only at hSw)
      go_simp
      try with_reducible rfl
    try simp only [Act.put, List.setIfInBounds_toArray, List.set_cons_zero, List.set_cons_succ]
    refine wpAnyH_ready (rs := [10]) (by kernel_rfl) (by simp) ?_
    refine AllReadyH.cons (o := _) rfl (fun K hK => ?_) (AllReadyH.nil)
    go_simp
    refine (small_any n _ hn63).mono ?_
    rintro e w5 ⟨A5, c5, rfl, r5, -, -, hb5⟩
    refine hK.out _ _ (HkX.out _ hb5) (fun hS5 => ?_)
    clear hK K hS
    have hS := hS5
    clear hS5
    try simp only [Act.put, List.setIfInBounds_toArray, List.set_cons_zero, List.set_cons_succ]
    refine wpAnyH_ready (rs := [11]) (by kernel_rfl) (by simp) ?_
    refine AllReadyH.cons (o := _) rfl (fun K hK => ?_) (AllReadyH.nil)
    go_simp
    refine (rtext_any A5 n c5 _ (by have := HD.out; omega) r5).mono ?_
    rintro e w6 ⟨rfl, hb6⟩
    rw [HT.out]
    refine hK.out _ _ (HkX.out _ (hb5.trans (hb6.mono hb5.size))) (fun hS6 => ?_)
    clear hK K hS
    have hS := hS6
    clear hS6
    try simp only [Act.put, List.setIfInBounds_toArray, List.set_cons_zero, List.set_cons_succ]
    refine wpAnyH_take (i := 12) (v := ?_) rfl (by kernel_rfl) (by kernel_rfl) (by kernel_rfl) (fun _ _ _ h => h) (Or.inl ⟨by rfl, ?_⟩) hS ?_
    rotate_left
    · intro w hSw
      (try dsimp only at hSw)
      go_simp
      try with_reducible rfl
    try simp only [Act.put, List.setIfInBounds_toArray, List.set_cons_zero, List.set_cons_succ]
    refine wpAnyH_take (i := 13) (v := ?_) rfl (by kernel_rfl) (by kernel_rfl) (by kernel_rfl) (fun _ _ _ h => h) (Or.inl ⟨by rfl, ?_⟩) hS ?_
    rotate_left
    · intro w hSw
      (try dsimp only at hSw)
      go_simp
      try with_reducible rfl
    try simp only [Act.put, List.setIfInBounds_toArray, List.set_cons_zero, List.set_cons_succ]
    refine wpAnyH_done (by kernel_rfl) ?_ _
    obtain ⟨g0, g1, g2, g3, hbF⟩ := hS
    cases k
    · go_wp2_with fail
      go_ret
      refine ⟨?_, BW.out.trans (hbF.mono BW.out.size)⟩
      rw [HTT.out]
      exact congrArg (fun l => Ending.returned (Value.string (bstr l))) (List.append_nil U).symm
    · go_wp2_with fail
      go_ret
      refine ⟨?_, BW.out.trans (hbF.mono BW.out.size)⟩
      rw [HTT.out]
      rfl
  · go_simp
    refine (small_any n _ hn63).mono ?_
    rintro e w5 ⟨A5, c5, rfl, r5, -, -, hb5⟩
    refine hK.out _ _ (HkS.out _ ((Below.refl W.heap.size W).drew.trans (hb5.mono (Below.refl W.heap.size W).drew.size))) (fun hS5 => ?_)
    clear hK K hS
    have hS := hS5
    clear hS5
    try simp only [Act.put, List.setIfInBounds_toArray, List.set_cons_zero, List.set_cons_succ]
    have b5 := (Below.refl W.heap.size W).drew.trans (hb5.mono (Below.refl W.heap.size W).drew.size)
    refine wpAnyH_ready (rs := [0, 11]) (by kernel_rfl) (by simp) ?_
    refine AllReadyH.cons (o := _) rfl (fun K hK => ?_) (AllReadyH.cons (o := _) rfl (fun K hK => ?_) (AllReadyH.nil))
    · go_simp
      refine hK.out _ _ (HkS.out _ (b5.trans (((bel1 w5 _)).mono b5.size))) (fun hS0 => ?_)
      clear hK K hS
      try simp only [Act.put, List.setIfInBounds_toArray, List.set_cons_zero, List.set_cons_succ]
      have cX : (w5.alloc (.cells #[.string ⟨#[117, 110, 105, 118, 101, 114, 115, 97, 108]⟩, .string ⟨#[97, 112, 112, 108, 105, 99, 97, 116, 105, 111, 110]⟩, .string ⟨#[99, 111, 110, 116, 101, 120, 116]⟩, .string ⟨#[112, 114, 105, 118, 97, 116, 101]⟩] 9)).cell? ⟨w5.heap.size, c, none⟩ = some (.string (bstr N1)) := ((Bk.new w5 9 cnames).cell c).trans HCN.out
      have HX := Lib.hid (b5.trans (((bel1 w5 (.cells #[.string ⟨#[117, 110, 105, 118, 101, 114, 115, 97, 108]⟩, .string ⟨#[97, 112, 112, 108, 105, 99, 97, 116, 105, 111, 110]⟩, .string ⟨#[99, 111, 110, 116, 101, 120, 116]⟩, .string ⟨#[112, 114, 105, 118, 97, 116, 101]⟩] 9))).mono b5.size))
      have HX5 := bel1 w5 (.cells #[.string ⟨#[117, 110, 105, 118, 101, 114, 115, 97, 108]⟩, .string ⟨#[97, 112, 112, 108, 105, 99, 97, 116, 105, 111, 110]⟩, .string ⟨#[99, 111, 110, 116, 101, 120, 116]⟩, .string ⟨#[112, 114, 105, 118, 97, 116, 101]⟩] 9)
      have hAl : w5.heap.size < (w5.alloc (.cells #[.string ⟨#[117, 110, 105, 118, 101, 114, 115, 97, 108]⟩, .string ⟨#[97, 112, 112, 108, 105, 99, 97, 116, 105, 111, 110]⟩, .string ⟨#[99, 111, 110, 116, 101, 120, 116]⟩, .string ⟨#[112, 114, 105, 118, 97, 116, 101]⟩] 9)).heap.size := (Bk.new w5 9 cnames).lt
      generalize hX : (w5.alloc (.cells #[.string ⟨#[117, 110, 105, 118, 101, 114, 115, 97, 108]⟩, .string ⟨#[97, 112, 112, 108, 105, 99, 97, 116, 105, 111, 110]⟩, .string ⟨#[99, 111, 110, 116, 101, 120, 116]⟩, .string ⟨#[112, 114, 105, 118, 97, 116, 101]⟩] 9)) = X at *
      clear hX hS0
      have kX : ∀ V : World, Below X.heap.size X V → V.cell? ⟨w.heap.size, 0, none⟩ = some (.int .u8 (c : Int)) ∧ V.cell? ⟨w.heap.size, 1, none⟩ = some (.bool k) ∧ V.cell? ⟨w.heap.size, 2, none⟩ = some (.int .u32 (n : Int)) ∧ V.cell? ⟨w5.heap.size, c, none⟩ = some (.string (bstr N1)) ∧ Below W.heap.size W V := fun V h =>
        have h1 := HkS.out V (HX.out.trans (h.mono HX.out.size))
        ⟨h1.1, h1.2.1, h1.2.2.1, (h.cell (p := ⟨w5.heap.size, c, none⟩) hAl).trans cX, h1.2.2.2⟩
      have HkX := Lib.hid kX
      clear kX cX
      have hS := HkX.out X (Below.refl _ _)
      refine wpAnyH_mono (S' := fun w' => w'.cell? ⟨w.heap.size, 0, none⟩ = some (.int .u8 (c : Int)) ∧ w'.cell? ⟨w.heap.size, 1, none⟩ = some (.bool k) ∧ w'.cell? ⟨w.heap.size, 2, none⟩ = some (.int .u32 (n : Int)) ∧ w'.cell? ⟨w5.heap.size, c, none⟩ = some (.string (bstr N1)) ∧ Below W.heap.size W w') (fun _ h => ⟨h.1, h.2.1, h.2.2.1, h.2.2.2.2⟩) _ _ _ _ ?_
      refine wpAnyH_take (i := 4) (v := ?_) rfl (by kernel_rfl) (by kernel_rfl) (by kernel_rfl) (fun _ _ _ h => h) (Or.inl ⟨by rfl, ?_⟩) hS ?_
      rotate_left
      · intro w hSw
        (try dsimp only at hSw)
        go_simp
        try with_reducible rfl
      try simp only [Act.put, List.setIfInBounds_toArray, List.set_cons_zero, List.set_cons_succ]
      refine wpAnyH_take (i := 5) (v := ?_) rfl (by kernel_rfl) (by kernel_rfl) (by kernel_rfl) (fun _ _ _ h => h) (Or.inl ⟨by rfl, ?_⟩) hS ?_
      rotate_left
      · intro w hSw
        (try dsimp only at hSw)
        go_simp
        try with_reducible rfl
      try simp only [Act.put, List.setIfInBounds_toArray, List.set_cons_zero, List.set_cons_succ]
      refine wpAnyH_take (i := 6) (v := ?_) rfl (by kernel_rfl) (by kernel_rfl) (by kernel_rfl) (fun _ _ _ h => h) (Or.inl ⟨by rfl, ?_⟩) hS ?_
      rotate_left
      · intro w hSw
        (try dsimp only at hSw)
        go_simp
        try with_reducible rfl
      try simp only [Act.put, List.setIfInBounds_toArray, List.set_cons_zero, List.set_cons_succ]
      refine wpAnyH_ready (rs := [11]) (by kernel_rfl) (by simp) ?_
      refine AllReadyH.cons (o := _) rfl (fun K hK => ?_) (AllReadyH.nil)
      go_simp
      refine (rtext_any A5 n c5 _ (by have := HD.out; omega) (r5.below HX5)).mono ?_
      rintro e w6 ⟨rfl, hb6⟩
      rw [HT.out]
      refine hK.out _ _ (HkX.out _ hb6) (fun hS6 => ?_)
      clear hK K hS
      have hS := hS6
      clear hS6
      try simp only [Act.put, List.setIfInBounds_toArray, List.set_cons_zero, List.set_cons_succ]
      refine wpAnyH_take (i := 12) (v := ?_) rfl (by kernel_rfl) (by kernel_rfl) (by kernel_rfl) (fun _ _ _ h => h) (Or.inl ⟨by rfl, ?_⟩) hS ?_
      rotate_left
      · intro w hSw
        (try dsimp only at hSw)
        go_simp
        try with_reducible rfl
      try simp only [Act.put, List.setIfInBounds_toArray, List.set_cons_zero, List.set_cons_succ]
      refine wpAnyH_take (i := 13) (v := ?_) rfl (by kernel_rfl) (by kernel_rfl) (by kernel_rfl) (fun _ _ _ h => h) (Or.inl ⟨by rfl, ?_⟩) hS ?_
      rotate_left
      · intro w hSw
        (try dsimp only at hSw)
        go_simp
        try with_reducible rfl
      try simp only [Act.put, List.setIfInBounds_toArray, List.set_cons_zero, List.set_cons_succ]
      refine wpAnyH_done (by kernel_rfl) ?_ _
      obtain ⟨g0, g1, g2, g3, hbF⟩ := hS
      cases k
      · go_wp2_with fail
        go_ret
        refine ⟨?_, BW.out.trans (hbF.mono BW.out.size)⟩
        rw [HTT.out]
        exact congrArg (fun l => Ending.returned (Value.string (bstr l))) (List.append_nil U).symm
      · go_wp2_with fail
        go_ret
        refine ⟨?_, BW.out.trans (hbF.mono BW.out.size)⟩
        rw [HTT.out]
        rfl
    · go_simp
      refine (rtext_any A5 n c5 _ (by have := HD.out; omega) r5).mono ?_
      rintro e w6 ⟨rfl, hb6⟩
      rw [HT.out]
      refine hK.out _ _ (HkS.out _ (b5.trans (hb6.mono b5.size))) (fun hS6 => ?_)
      clear hK K hS
      have hS := hS6
      clear hS6
      try simp only [Act.put, List.setIfInBounds_toArray, List.set_cons_zero, List.set_cons_succ]
      have b6 := b5.trans (hb6.mono b5.size)
      refine wpAnyH_ready (rs := [0]) (by kernel_rfl) (by simp) ?_
      refine AllReadyH.cons (o := _) rfl (fun K hK => ?_) (AllReadyH.nil)
      go_simp
      refine hK.out _ _ (HkS.out _ (b6.trans (((bel1 w6 _)).mono b6.size))) (fun hS0 => ?_)
      clear hK K hS
      try simp only [Act.put, List.setIfInBounds_toArray, List.set_cons_zero, List.set_cons_succ]
      have cX : (w6.alloc (.cells #[.string ⟨#[117, 110, 105, 118, 101, 114, 115, 97, 108]⟩, .string ⟨#[97, 112, 112, 108, 105, 99, 97, 116, 105, 111, 110]⟩, .string ⟨#[99, 111, 110, 116, 101, 120, 116]⟩, .string ⟨#[112, 114, 105, 118, 97, 116, 101]⟩] 9)).cell? ⟨w6.heap.size, c, none⟩ = some (.string (bstr N1)) := ((Bk.new w6 9 cnames).cell c).trans HCN.out
      have HX := Lib.hid (b6.trans (((bel1 w6 (.cells #[.string ⟨#[117, 110, 105, 118, 101, 114, 115, 97, 108]⟩, .string ⟨#[97, 112, 112, 108, 105, 99, 97, 116, 105, 111, 110]⟩, .string ⟨#[99, 111, 110, 116, 101, 120, 116]⟩, .string ⟨#[112, 114, 105, 118, 97, 116, 101]⟩] 9))).mono b6.size))
      have hAl : w6.heap.size < (w6.alloc (.cells #[.string ⟨#[117, 110, 105, 118, 101, 114, 115, 97, 108]⟩, .string ⟨#[97, 112, 112, 108, 105, 99, 97, 116, 105, 111, 110]⟩, .string ⟨#[99, 111, 110, 116, 101, 120, 116]⟩, .string ⟨#[112, 114, 105, 118, 97, 116, 101]⟩] 9)).heap.size := (Bk.new w6 9 cnames).lt
      generalize hX : (w6.alloc (.cells #[.string ⟨#[117, 110, 105, 118, 101, 114, 115, 97, 108]⟩, .string ⟨#[97, 112, 112, 108, 105, 99, 97, 116, 105, 111, 110]⟩, .string ⟨#[99, 111, 110, 116, 101, 120, 116]⟩, .string ⟨#[112, 114, 105, 118, 97, 116, 101]⟩] 9)) = X at *
      clear hX hS0
      have kX : ∀ V : World, Below X.heap.size X V → V.cell? ⟨w.heap.size, 0, none⟩ = some (.int .u8 (c : Int)) ∧ V.cell? ⟨w.heap.size, 1, none⟩ = some (.bool k) ∧ V.cell? ⟨w.heap.size, 2, none⟩ = some (.int .u32 (n : Int)) ∧ V.cell? ⟨w6.heap.size, c, none⟩ = some (.string (bstr N1)) ∧ Below W.heap.size W V := fun V h =>
        have h1 := HkS.out V (HX.out.trans (h.mono HX.out.size))
        ⟨h1.1, h1.2.1, h1.2.2.1, (h.cell (p := ⟨w6.heap.size, c, none⟩) hAl).trans cX, h1.2.2.2⟩
      have HkX := Lib.hid kX
      clear kX cX
      have hS := HkX.out X (Below.refl _ _)
      refine wpAnyH_mono (S' := fun w' => w'.cell? ⟨w.heap.size, 0, none⟩ = some (.int .u8 (c : Int)) ∧ w'.cell? ⟨w.heap.size, 1, none⟩ = some (.bool k) ∧ w'.cell? ⟨w.heap.size, 2, none⟩ = some (.int .u32 (n : Int)) ∧ w'.cell? ⟨w6.heap.size, c, none⟩ = some (.string (bstr N1)) ∧ Below W.heap.size W w') (fun _ h => ⟨h.1, h.2.1, h.2.2.1, h.2.2.2.2⟩) _ _ _ _ ?_
      refine wpAnyH_take (i := 4) (v := ?_) rfl (by kernel_rfl) (by kernel_rfl) (by kernel_rfl) (fun _ _ _ h => h) (Or.inl ⟨by rfl, ?_⟩) hS ?_
      rotate_left
      · intro w hSw
        (try dsimp only at hSw)
        go_simp
        try with_reducible rfl
      try simp only [Act.put, List.setIfInBounds_toArray, List.set_cons_zero, List.set_cons_succ]
      refine wpAnyH_take (i := 5) (v := ?_) rfl (by kernel_rfl) (by kernel_rfl) (by kernel_rfl) (fun _ _ _ h => h) (Or.inl ⟨by rfl, ?_⟩) hS ?_
      rotate_left
      · intro w hSw
        (try dsimp only at hSw)
        go_simp
        try with_reducible rfl
      try simp only [Act.put, List.setIfInBounds_toArray, List.set_cons_zero, List.set_cons_succ]
      refine wpAnyH_take (i := 6) (v := ?_) rfl (by kernel_rfl) (by kernel_rfl) (by kernel_rfl) (fun _ _ _ h => h) (Or.inl ⟨by rfl, ?_⟩) hS ?_
      rotate_left
      · intro w hSw
        (try dsimp only at hSw)
        go_simp
        try with_reducible rfl
      try simp only [Act.put, List.setIfInBounds_toArray, List.set_cons_zero, List.set_cons_succ]
      refine wpAnyH_take (i := 12) (v := ?_) rfl (by kernel_rfl) (by kernel_rfl) (by kernel_rfl) (fun _ _ _ h => h) (Or.inl ⟨by rfl, ?_⟩) hS ?_
      rotate_left
      · intro w hSw
        (try dsimp only at hSw)
        go_simp
        try with_reducible rfl
      try simp only [Act.put, List.setIfInBounds_toArray, List.set_cons_zero, List.set_cons_succ]
      refine wpAnyH_take (i := 13) (v := ?_) rfl (by kernel_rfl) (by kernel_rfl) (by kernel_rfl) (fun _ _ _ h => h) (Or.inl ⟨by rfl, ?_⟩) hS ?_
      rotate_left
      · intro w hSw
        (try dsimp only at hSw)
        go_simp
        try with_reducible rfl
      try simp only [Act.put, List.setIfInBounds_toArray, List.set_cons_zero, List.set_cons_succ]
      refine wpAnyH_done (by kernel_rfl) ?_ _
      obtain ⟨g0, g1, g2, g3, hbF⟩ := hS
      cases k
      · go_wp2_with fail
        go_ret
        refine ⟨?_, BW.out.trans (hbF.mono BW.out.size)⟩
        rw [HTT.out]
        exact congrArg (fun l => Ending.returned (Value.string (bstr l))) (List.append_nil U).symm
      · go_wp2_with fail
        go_ret
        refine ⟨?_, BW.out.trans (hbF.mono BW.out.size)⟩
        rw [HTT.out]
        rfl
end Go.Proofs.YtcaolgcpcjodnaaDoor
