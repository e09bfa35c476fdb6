/-
  Layer 9: the characters of a printable string: strings.ContainsRune at the twelve others, for every character.
  Conditions: a character is below 2^21.
-/
import Derived.Test.YthefnfjhnallfaaDoorChsB
import Derived.Laws.Runes
import Derived.Laws.RangeAny
import Derived.Lib.OthersKept
import Derived.WalkMore
namespace Go.Proofs.YthefnfjhnallfaaDoor.Chs
open Go.RowKit Go.Shelf

/-- The other characters of a printable string. -/
def S12 : ByteArray := ⟨#[32, 39, 40, 41, 43, 44, 45, 46, 47, 58, 61, 63]⟩
theorem idx12 : ∀ (c : Nat), c < 128 → decide (0 ≤ Lib.indexByte S12.data.toList ((c : Int).toNat.toUInt8)) = othL.contains c := by
  have h : ∀ c : Fin 128, decide (0 ≤ Lib.indexByte S12.data.toList (((c.val : Nat) : Int).toNat.toUInt8)) = othL.contains c.val := by decide +kernel
  exact fun c hc => h ⟨c, hc⟩
theorem idx_high (j : Nat) (b : UInt8) (hb : 128 ≤ b.toNat) : Lib.indexByte (S12.data.toList.drop j) b = -1 := by
  have key : ∀ (l : List UInt8), (∀ x ∈ l, x.toNat < 128) → Lib.indexByte l b = -1 := fun l => by
    induction l with
    | nil => intro _; rfl
    | cons x l ih =>
      intro h
      have hx := h x (by simp)
      have hne : (x == b) = false := by
        rw [beq_eq_false_iff_ne]
        intro e
        subst e
        omega
      rw [Lib.indexByte, hne, ih fun y hy => h y (by simp [hy])]
      rfl
  refine key _ fun x hx => ?_
  have hx := List.mem_of_mem_drop hx
  have h : ∀ x ∈ S12.data.toList, x.toNat < 128 := by decide
  exact h x hx
theorem dec12 (p : Nat) (hp : p < 12) : ∃ x : Nat, Utf8.decode S12 p = (x, 1) ∧ x < 128 := by
  have h : ∀ p : Fin 12, (Utf8.decode S12 p.val).2 = 1 ∧ (Utf8.decode S12 p.val).1 < 128 := by decide +kernel
  exact ⟨_, Prod.ext rfl (h ⟨p, hp⟩).1, (h ⟨p, hp⟩).2⟩
theorem at12 (p : Nat) (hp : p < 12) : ∃ x : Nat, x < 128 ∧ ∀ W, (Instr.index 9 (.string S12) (.int .i64 (p : Int))).run Tryd.prog W = .ok (.int .u8 (x : Int)) W := by
  refine ⟨(S12[p]'hp).toNat, ?_, fun W => ?_⟩
  · have h : ∀ p : Fin 12, (S12[p.val]'(by exact p.2)).toNat < 128 := by decide
    exact h ⟨p, hp⟩
  · rw [run_index_string (P := Tryd.prog) W 9 S12 .i64 (p : Int) Tryd.underlying9]
    have hi : p < S12.size := hp
    rw [dif_pos ⟨by omega, by omega⟩]
    rfl
set_option linter.unusedSimpArgs false in
set_option maxHeartbeats 4000000 in
set_option maxRecDepth 100000 in
theorem idxr_bad (c : Nat) (hc : 128 ≤ c) (hm : c ≤ 2147483647) (hn : c ≠ 65533) (hv : scal c = false) (w : World) : Calls Tryd.prog 63 #[.string S12, .int .i32 (c : Int)] w fun e w' => e = .returned (.int .i64 (-1)) ∧ Below w.heap.size w w' := by
  have CV := Lib.hid (fun W => Tryd.utf8_ValidRune (c : Int) W)
  rw [validRune_eq, hv] at CV
  have h1 : ¬ (c : Int) < 128 := by omega
  have h2 : ((c : Int) == 65533) = false := by rw [beq_eq_false_iff_ne]; omega
  generalize S12 = S at *
  go_enter Tryd.func63, Tryd.ntmps63
  go_wp2_with fail
  refine (CV.out _).mono ?_
  rintro e w' ⟨rfl, rfl⟩
  go_wp2_with fail
  go_ret
  exact ⟨rfl, Below.refl _ _⟩
set_option linter.unusedSimpArgs false in
set_option maxHeartbeats 4000000 in
set_option maxRecDepth 100000 in
theorem idxr_err (w : World) : Calls Tryd.prog 63 #[.string S12, .int .i32 65533] w fun e w' => e = .returned (.int .i64 (-1)) ∧ Below w.heap.size w w' := by
  have HD := Lib.hid dec12
  have hs : S12.size = 12 := rfl
  generalize S12 = S at *
  go_enter Tryd.func63, Tryd.ntmps63
  go_upto_region 38 with fail
  go_loopw [] (fun w' => ∃ pos, pos ≤ 12 ∧ w' = w.iter S pos) (fun w' => 12 - w'.iterPos w.heap.size)
  case atStart => exact ⟨0, by omega, rfl⟩
  case round =>
    obtain ⟨pos, hp, rfl⟩ := hrel
    by_cases hlt : pos < S.size
    · have hnx : ∀ ty, (Instr.next (.pointer (some ⟨w.heap.size, 0, none⟩)) true ty).run Tryd.prog (w.iter S pos) = _ := fun ty => run_next_any w S pos ty hlt
      obtain ⟨x, hx, hx128⟩ := HD.out pos (by rw [hs] at hlt; exact hlt)
      rw [hx] at hnx
      dsimp only at hnx
      have hxb : ((x : Int) == 65533) = false := by rw [beq_eq_false_iff_ne]; omega
      clear hx
      go_wp2_with fail
      go_roundw
      case rel => exact ⟨pos + 1, by omega, rfl⟩
      case measure => simp; omega
    · have hnx : ∀ ty, (Instr.next (.pointer (some ⟨w.heap.size, 0, none⟩)) true ty).run Tryd.prog (w.iter S pos) = _ := fun ty => run_next_end w S pos ty hlt
      go_wp2_with fail
      go_ret
      exact ⟨rfl, bel1 w _⟩
set_option linter.unusedSimpArgs false in
set_option maxHeartbeats 4000000 in
set_option maxRecDepth 100000 in
theorem idxr_ok (c : Nat) (hc : 128 ≤ c) (hn : c ≠ 65533) (hv : scal c = true) (w : World) : Calls Tryd.prog 63 #[.string S12, .int .i32 (c : Int)] w fun e w' => e = .returned (.int .i64 (-1)) ∧ Below w.heap.size w w' := by
  have CV := Lib.hid (fun W => Tryd.utf8_ValidRune (c : Int) W)
  rw [validRune_eq, hv] at CV
  have h1 : ¬ (c : Int) < 128 := by omega
  have h2 : ((c : Int) == 65533) = false := by rw [beq_eq_false_iff_ne]; omega
  have hvv : Utf8.valid (c : Int) = true := by
    have := scal_iff.1 hv
    unfold Utf8.valid
    simp only [Bool.or_eq_true, Bool.and_eq_true, decide_eq_true_eq]
    omega
  obtain ⟨q1, q2, q3⟩ := encode_facts (c : Int) hvv (by omega)
  have hcv := (fun W => run_convert_int_string (P := Tryd.prog) W 21 9 .i32 (c : Int) (by kernel_rfl) Tryd.underlying9)
  generalize Utf8.encode (c : Int) = E at *
  have q3 := q3 (by omega)
  obtain ⟨k, hk⟩ : ∃ k, E.size - 1 = k := ⟨_, rfl⟩
  have hksz : k < E.size := by omega
  obtain ⟨b, hb⟩ : ∃ b, E[k]'hksz = b := ⟨_, rfl⟩
  have hb128 : 128 ≤ b.toNat := by
    rw [← hb]
    have : E[E.size - 1]'(by omega) = E[k]'hksz := by congr 1
    rw [← this]; exact q3
  have hbi : ∀ W, (Instr.index 9 (.string E) (.int .i64 (k : Int))).run Tryd.prog W = .ok (.int .u8 (b.toNat : Int)) W := fun W => by
    rw [run_index_string (P := Tryd.prog) W 9 E .i64 (k : Int) Tryd.underlying9, dif_pos ⟨by omega, by omega⟩, ← hb]
    rfl
  have hEs : E.size = k + 1 := by omega
  have hk13 : 1 ≤ k ∧ k ≤ 3 := by omega
  obtain ⟨x, hx128, hxi⟩ := at12 k (by omega)
  have hs : S12.size = 12 := rfl
  have CI := Lib.hid (fun W => Tryd.strings_IndexByte (S12.extract (k + 1) 12) (b.toNat : Int) W)
  have hdr : (S12.extract (k + 1) 12).data.toList = S12.data.toList.drop (k + 1) := by
    rcases (show k = 1 ∨ k = 2 ∨ k = 3 by omega) with rfl | rfl | rfl <;> rfl
  have hbb : ((b.toNat : Int)).toNat.toUInt8 = b := by simp
  rw [hdr, hbb, idx_high _ _ hb128] at CI
  have hsl : ∀ W, (Instr.slice 9 (.string S12) (some (.int .i64 ((k : Int) + 1))) none none).run Tryd.prog W = .ok (.string (S12.extract (k + 1) 12)) W := fun W => by
    rw [run_slice_string_l (P := Tryd.prog) W 9 S12 Tryd.underlying9 .i64 ((k : Int) + 1) (by omega) (by rw [hs]; omega)]
    rfl
  have hsl' : ∀ W, (Instr.sliceAt 9 (.string S12) (some (.int .i64 ((k : Int) + 1))) none none).run Tryd.prog W = .ok (.string (S12.extract (k + 1) 12)) W := fun W => by
    rw [run_sliceAt_string (P := Tryd.prog) W 9 _ _ _ _ Tryd.underlying9]; exact hsl W
  generalize S12.extract (k + 1) 12 = SX at *
  generalize S12 = S at *
  obtain ⟨n, hsn⟩ : ∃ n, E.size = n := ⟨_, rfl⟩
  have hnk : (n : Int) - 1 = (k : Int) := by omega
  have hbn := hb128
  have hb256 : b.toNat < 256 := b.toNat_lt
  generalize b.toNat = bn at *
  have hne : ((x : Int) != (bn : Int)) = true := by rw [bne_iff_ne]; omega
  have hk12 : (k : Int) < 12 := by omega
  have hn4 : n ≤ 4 := by omega
  clear hb hdr hbb q3 q1 q2 hEs hksz hk hvv hv
  go_enter Tryd.func63, Tryd.ntmps63
  go_wp2_with fail
  refine (CV.out _).mono ?_
  rintro e w' ⟨rfl, rfl⟩
  go_wp2_with fail
  go_step3
  go_upto_region 5 with fail
  go_loopw [9] (fun i wx => i = .int .i64 (k : Int) ∧ wx = w') (fun _ _ => 0)
  case atStart => exact ⟨rfl, rfl⟩
  case round =>
    obtain ⟨rfl, rfl⟩ := hrel
    have hk12' : (k : Int) < (12 : Nat) := by omega
    have hkw : IntKind.i64.wrap ((k : Int) + 1) = (k : Int) + 1 := by rw [IntKind.wrap_i64]; omega
    go_wp2_with fail
    go_step3
    go_upto_region 6 with fail
    refine wp_region_held_drew (S := fun _ => True) (by kernel_rfl) trivial (fun hS => ?_)
    refine wpAnyH_take (i := 0) (oi := ⟨some 27, _, _, _, _, _⟩) (v := .string S) rfl (by kernel_rfl) (by kernel_rfl) (by kernel_rfl) (fun _ _ _ h => h) (Or.inl ⟨by rfl, fun w hSw => by go_simp⟩) hS ?_
    simp only [Act.put, List.setIfInBounds_toArray, List.set_cons_zero, List.set_cons_succ]
    refine wpAnyH_take (i := 1) (oi := ⟨some 28, _, _, _, _, _⟩) (v := .int .i64 (k : Int)) rfl (by kernel_rfl) (by kernel_rfl) (by kernel_rfl) (fun _ _ _ h => h) (Or.inl ⟨by rfl, fun w hSw => by go_simp⟩) hS ?_
    simp only [Act.put, List.setIfInBounds_toArray, List.set_cons_zero, List.set_cons_succ]
    refine wpAnyH_take (i := 2) (oi := ⟨some 29, _, _, _, _, _⟩) (v := .int .u8 (x : Int)) rfl (by kernel_rfl) (by kernel_rfl) (by kernel_rfl) (fun _ _ _ h => h) (Or.inl ⟨by rfl, fun w hSw => by go_simp⟩) hS ?_
    simp only [Act.put, List.setIfInBounds_toArray, List.set_cons_zero, List.set_cons_succ]
    refine wpAnyH_take (i := 3) (oi := ⟨some 30, _, _, _, _, _⟩) (v := .string E) rfl (by kernel_rfl) (by kernel_rfl) (by kernel_rfl) (fun _ _ _ h => h) (Or.inl ⟨by rfl, fun w hSw => by go_simp⟩) hS ?_
    simp only [Act.put, List.setIfInBounds_toArray, List.set_cons_zero, List.set_cons_succ]
    refine wpAnyH_take (i := 4) (oi := ⟨some 31, _, _, _, _, _⟩) (v := .int .i64 (k : Int)) rfl (by kernel_rfl) (by kernel_rfl) (by kernel_rfl) (fun _ _ _ h => h) (Or.inl ⟨by rfl, fun w hSw => by go_simp⟩) hS ?_
    simp only [Act.put, List.setIfInBounds_toArray, List.set_cons_zero, List.set_cons_succ]
    refine wpAnyH_take (i := 5) (oi := ⟨some 32, _, _, _, _, _⟩) (v := .int .u8 (bn : Int)) rfl (by kernel_rfl) (by kernel_rfl) (by kernel_rfl) (fun _ _ _ h => h) (Or.inl ⟨by rfl, fun w hSw => by go_simp⟩) hS ?_
    simp only [Act.put, List.setIfInBounds_toArray, List.set_cons_zero, List.set_cons_succ]
    refine wpAnyH_take (i := 6) (oi := ⟨some 33, _, _, _, _, _⟩) (v := .bool true) rfl (by kernel_rfl) (by kernel_rfl) (by kernel_rfl) (fun _ _ _ h => h) (Or.inl ⟨by rfl, fun w hSw => by go_simp⟩) hS ?_
    simp only [Act.put, List.setIfInBounds_toArray, List.set_cons_zero, List.set_cons_succ]
    refine wpAnyH_done (by kernel_rfl) ?_ _
    go_wp2_with fail
    refine wp_region_held_drew (S := fun _ => True) (by kernel_rfl) trivial (fun hS => ?_)
    refine wpAnyH_take (i := 0) (oi := ⟨some 34, _, _, _, _, _⟩) (v := .string S) rfl (by kernel_rfl) (by kernel_rfl) (by kernel_rfl) (fun _ _ _ h => h) (Or.inl ⟨by rfl, fun w hSw => by go_simp⟩) hS ?_
    simp only [Act.put, List.setIfInBounds_toArray, List.set_cons_zero, List.set_cons_succ]
    refine wpAnyH_take (i := 1) (oi := ⟨some 35, _, _, _, _, _⟩) (v := .int .i64 (k : Int)) rfl (by kernel_rfl) (by kernel_rfl) (by kernel_rfl) (fun _ _ _ h => h) (Or.inl ⟨by rfl, fun w hSw => by go_simp⟩) hS ?_
    simp only [Act.put, List.setIfInBounds_toArray, List.set_cons_zero, List.set_cons_succ]
    refine wpAnyH_take (i := 2) (oi := ⟨some 36, _, _, _, _, _⟩) (v := .int .i64 ((k : Int) + 1)) rfl (by kernel_rfl) (by kernel_rfl) (by kernel_rfl) (fun _ _ _ h => h) (Or.inl ⟨by rfl, fun w hSw => by go_simp⟩) hS ?_
    simp only [Act.put, List.setIfInBounds_toArray, List.set_cons_zero, List.set_cons_succ]
    refine wpAnyH_take (i := 3) (oi := ⟨some 37, _, _, _, _, _⟩) (v := .string SX) rfl (by kernel_rfl) (by kernel_rfl) (by kernel_rfl) (fun _ _ _ h => h) (Or.inl ⟨by rfl, fun w hSw => by go_simp⟩) hS ?_
    simp only [Act.put, List.setIfInBounds_toArray, List.set_cons_zero, List.set_cons_succ]
    refine wpAnyH_take (i := 4) (oi := ⟨some 38, _, _, _, _, _⟩) (v := .string E) rfl (by kernel_rfl) (by kernel_rfl) (by kernel_rfl) (fun _ _ _ h => h) (Or.inl ⟨by rfl, fun w hSw => by go_simp⟩) hS ?_
    simp only [Act.put, List.setIfInBounds_toArray, List.set_cons_zero, List.set_cons_succ]
    refine wpAnyH_take (i := 5) (oi := ⟨some 39, _, _, _, _, _⟩) (v := .int .i64 (k : Int)) rfl (by kernel_rfl) (by kernel_rfl) (by kernel_rfl) (fun _ _ _ h => h) (Or.inl ⟨by rfl, fun w hSw => by go_simp⟩) hS ?_
    simp only [Act.put, List.setIfInBounds_toArray, List.set_cons_zero, List.set_cons_succ]
    refine wpAnyH_take (i := 6) (oi := ⟨some 40, _, _, _, _, _⟩) (v := .int .u8 (bn : Int)) rfl (by kernel_rfl) (by kernel_rfl) (by kernel_rfl) (fun _ _ _ h => h) (Or.inl ⟨by rfl, fun w hSw => by go_simp⟩) hS ?_
    simp only [Act.put, List.setIfInBounds_toArray, List.set_cons_zero, List.set_cons_succ]
    refine wpAnyH_ready (rs := [7]) (by kernel_rfl) (by simp) ?_
    refine AllReadyH.cons (o := ⟨some 41, _, _, _, _, _⟩) rfl (fun K hK => ?_) (AllReadyH.nil)
    go_simp
    refine (CI.out _).mono ?_
    rintro e w2 ⟨rfl, rfl⟩
    refine hK.out _ _ trivial (fun hS => ?_)
    clear hK K
    (try simp only [Act.put, List.setIfInBounds_toArray, List.set_cons_zero, List.set_cons_succ])
    refine wpAnyH_take (i := 8) (oi := ⟨some 11, _, _, _, _, _⟩) (v := .int .i64 (-1)) rfl (by kernel_rfl) (by kernel_rfl) (by kernel_rfl) (fun _ _ _ h => h) (Or.inl ⟨by rfl, fun w hSw => by go_simp⟩) hS ?_
    simp only [Act.put, List.setIfInBounds_toArray, List.set_cons_zero, List.set_cons_succ]
    refine wpAnyH_done (by kernel_rfl) ?_ _
    clear hS
    go_wp2_with fail
    rw [Exit.noGoto_ret]
    simp +zetaDelta only [Exit.then, Exit.noGoto_ret, Exit.inBlock]
    go_ret
    exact ⟨rfl, (Below.refl _ wr).drew.drew⟩
end Go.Proofs.YthefnfjhnallfaaDoor.Chs
