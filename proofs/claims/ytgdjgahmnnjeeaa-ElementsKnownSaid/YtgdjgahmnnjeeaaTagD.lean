/-
  Package tags: contracts of groups, Size and Put.
  Conditions: none.
-/
import Derived.Test.YtgdjgahmnnjeeaaTagC
import Derived.ArgAppend
namespace Go.Proofs.Ytgdjgahmnnjeeaa
open Go.RowKit Go.Shelf
attribute [local go_sem] Oper.semAt_some

theorem bcell {W w1 : World} (hb : Below W.heap.size W w1) : (∀ b o, b < W.heap.size → w1.cell? ⟨b, o, none⟩ = W.cell? ⟨b, o, none⟩) ∧ (∀ b o, b < W.heap.size → w1.frozen? ⟨b, o, none⟩ = W.frozen? ⟨b, o, none⟩) :=
  ⟨fun b o h => hb.cell (p := ⟨b, o, none⟩) h, fun b o h => hb.frozen (p := ⟨b, o, none⟩) h⟩
theorem cell_new_l (W : World) (v : Value) (t : TypeId) : (W.alloc (.cells #[v] t)).cell? ⟨W.heap.size, 0, none⟩ = some v ∧ (W.alloc (.cells #[v] t)).frozen? ⟨W.heap.size, 0, none⟩ = false := by
  have h := Boxed.new W t v
  exact ⟨h.cell, h.frozen⟩

theorem groups_in (n0 : Nat) (n : Nat) (w : World) :
    CallsIn Fence.wide n Try.prog 57 #[.int .u32 (n0 : Int)] w fun e w' => e = .returned (.func (.func 79) #[] #[.pointer (some ⟨w.heap.size, 0, none⟩)]) ∧ w' = w.alloc (.cells #[.int .u32 (n0 : Int)] 23) := by
  refine callsIn_of_wp Try.func57 rfl trivial ?_ rfl
  simp only [Try.ntmps57, List.size_toArray, List.length_cons, List.length_nil, Nat.reduceAdd, Nat.reduceSub, Array.replicate_succ, Array.replicate_zero, List.push_toArray, List.append_toArray, List.nil_append, List.cons_append]
  gi_wp2_with fail
  go_ret
  exact ⟨rfl, rfl⟩

/-- What lies in a tag's box, behind whatever has been made since. -/
theorem tag_cells {w w1 : World} {c n : Nat} {k : Bool} (hb : Below (w.alloc (.cells #[.int .u8 (c : Int), .bool k, .int .u32 (n : Int)] 25)).heap.size (w.alloc (.cells #[.int .u8 (c : Int), .bool k, .int .u32 (n : Int)] 25)) w1) :
    w1.cell? ⟨w.heap.size, 0, none⟩ = some (.int .u8 (c : Int)) ∧ w1.cell? ⟨w.heap.size, 1, none⟩ = some (.bool k) ∧ w1.cell? ⟨w.heap.size, 2, none⟩ = some (.int .u32 (n : Int)) ∧ w.heap.size < w1.heap.size := by
  have hz := hb.size
  rw [World.size_alloc] at hz
  have h := fun o => hb.cell (p := ⟨w.heap.size, o, none⟩) (show w.heap.size < (w.alloc (.cells #[.int .u8 (c : Int), .bool k, .int .u32 (n : Int)] 25)).heap.size by rw [World.size_alloc]; omega)
  refine ⟨(h 0).trans ?_, (h 1).trans ?_, (h 2).trans ?_, by omega⟩ <;> simp

/-- How many identifier octets a tag has. -/
def sizeN (c n : Nat) (k : Bool) : Nat := if chk c n k ≠ 0 then 0 else if n < 31 then 1 else gk n + 2

theorem chk_zero {c n : Nat} {k : Bool} (h : chk c n k = 0) : c ≤ 3 ∧ n < 268435456 := by
  unfold chk at h
  by_cases h1 : 3 < c ∨ 268435455 < n
  · rw [if_pos h1] at h; cases h
  · omega

set_option maxRecDepth 100000 in
set_option maxHeartbeats 1000000 in
theorem size_small (c n : Nat) (k : Bool) (w : World) (hc : c < 256) (hn : n < 4294967296) (h : chk c n k ≠ 0 ∨ n < 31) :
    Calls Try.prog 56 #[tagV c n k] w fun e w' => e = .returned (.int .i64 (sizeN c n k : Nat)) ∧ Below w.heap.size w w' := by
  by_cases h0 : chk c n k = 0
  · have hn31 : n < 31 := by omega
    have HS := Lib.hid (show sizeN c n k = 1 by unfold sizeN; rw [if_neg (by omega), if_pos hn31])
    have H0 := Lib.hid h0
    clear h0 h
    go_enter Try.func56, Try.ntmps56
    go_wp2_with (go_at_call 55; refine (check_any c n k _ hc hn).mono ?_; rintro e w1 ⟨rfl, hb⟩; rw [H0.out]; obtain ⟨c0, c1, c2, hsz⟩ := tag_cells hb; have HB := Lib.hid hb; clear hb)
    go_ret
    exact ⟨by rw [HS.out]; rfl, (((Below.refl _ _).alloc (Nat.le_refl _) _).trans (HB.out.mono (by simp))).alloc (by omega) _⟩
  · have HS := Lib.hid (show sizeN c n k = 0 by unfold sizeN; rw [if_pos h0])
    have h1 : ((chk c n k : Int) != 0) = true := by rw [bne_iff_ne]; omega
    obtain ⟨e0, he⟩ : ∃ e0, chk c n k = e0 := ⟨_, rfl⟩
    have HE := Lib.hid he
    rw [he] at h1
    clear he h0
    clear h
    go_enter Try.func56, Try.ntmps56
    go_wp2_with (go_at_call 55; refine (check_any c n k _ hc hn).mono ?_; rintro e w1 ⟨rfl, hb⟩; rw [HE.out]; have HB := Lib.hid hb; clear hb)
    go_ret
    exact ⟨by rw [HS.out]; rfl, ((Below.refl _ _).alloc (Nat.le_refl _) _).trans (HB.out.mono (by simp))⟩

set_option maxRecDepth 100000 in
set_option maxHeartbeats 2000000 in
theorem size_big_in (c n : Nat) (k : Bool) (m : Nat) (hm : 6 ≤ m) (w : World) (hc : c < 256) (hn : n < 4294967296) (h : chk c n k = 0) (hn31 : 31 ≤ n) :
    CallsIn Fence.wide m Try.prog 56 #[tagV c n k] w fun e w' => e = .returned (.int .i64 (sizeN c n k : Nat)) ∧ Below w.heap.size w w' := by
  have HS := Lib.hid (show sizeN c n k = gk n + 2 by unfold sizeN; rw [if_neg (by omega), if_neg (by omega)])
  have h28 := (chk_zero h).2
  have hg := gk_le h28
  have H0 := Lib.hid h
  have h1 : 1 ≤ m := by omega
  clear h
  refine callsIn_of_wp_marks Try.func56 rfl trivial ?_ rfl
  simp only [Try.ntmps56, List.size_toArray, List.length_cons, List.length_nil, Nat.reduceAdd, Nat.reduceSub, Array.replicate_succ, Array.replicate_zero, List.push_toArray, List.append_toArray, List.nil_append, List.cons_append]
  gi_wp2_with (first | (refine ⟨trivial, ?_⟩; gi_at_call 55; refine (callsIn_wide.2 (check_any c n k _ hc hn)).mono ?_; rintro e w1 ⟨rfl, hb⟩; rw [H0.out]; obtain ⟨c0, c1, c2, hsz⟩ := tag_cells hb; have HB := Lib.hid hb; clear hb) | (refine ⟨trivial, ?_⟩; gi_at_call 57; refine (groups_in n _ _).mono ?_; rintro e w' ⟨rfl, rfl⟩))
  have hs := cell_new_l w1 (.int .i64 1) 3
  have hb := cell_new_l (w1.alloc (.cells #[.int .i64 1] 3)) (.int .u32 (n : Int)) 23
  rw [World.size_alloc] at hb
  have hB0 : Below w.heap.size w ((w1.alloc (.cells #[.int .i64 1] 3)).alloc (.cells #[.int .u32 (n : Int)] 23)) := ((((Below.refl _ w).alloc (Nat.le_refl _) _).trans (HB.out.mono (by simp))).alloc (by omega) _).alloc (by simp; omega) _
  refine wpIn_rangeFunc_ownF rfl h1 (gf := 79) (lb := #[.pointer (some ⟨w1.heap.size + 1, 0, none⟩)]) rfl trivial (enters_of Try.func79 (by kernel_rfl) rfl)
    (iter_stops n (by omega) h28 (m - 1) (by omega) (w1.heap.size + 1) _ (by simp) hb.1) KeepB.t (KeepB.b (by simp)) (Below.refl _ _) (fun _ => rfl)
    (fun pre W => (W.cell? ⟨w1.heap.size, 0, none⟩ = some (.int .i64 ((1 + pre.length : Nat) : Int)) ∧ W.frozen? ⟨w1.heap.size, 0, none⟩ = false) ∧ Below w.heap.size w W)
    (fun _ _ _ => False)
    (OwnFrom.and (Own.from (fun s A B row hs hg hr => ⟨cell_kept hs.1 hg hr, (frozen_kept hs.1 hg hr).trans hs.2⟩) _) (ownFrom_below (Nat.le_refl _) (by simp; omega)))
    (fun _ _ _ _ _ hs _ _ => hs)
    ⟨⟨by rw [List.length_nil]; exact (Boxed.new w1 _ _).alloc _ |>.cell, (Boxed.new w1 _ _).alloc _ |>.frozen⟩, hB0⟩
    (fun x => { tmps := #[tagV c n k, .pointer (some ⟨w.heap.size, 0, none⟩), .int .i64 0, .pointer (some ⟨w1.heap.size, 0, none⟩), .agg #[.int .u8 (c : Int), .bool k, .int .u32 (n : Int)], .int .i64 0, .bool false, .pointer (some ⟨w.heap.size, 2, none⟩), .int .u32 (n : Int), .bool true, .pointer (some ⟨w.heap.size, 2, none⟩), .int .u32 (n : Int), .func (.func 79) #[] #[.pointer (some ⟨w1.heap.size + 1, 0, none⟩)], .int .u8 (x.1 : Int), .bool x.2, undef, undef, undef], defers := [] }) ?assign ?body ?done ?stop
  case assign =>
    rintro l ⟨x1, x2⟩ W K hK
    gi_wp2_with fail
    simpa [encI] using hK
  case body =>
    rintro l pre x W ⟨⟨hcW, hfW⟩, hBW⟩ hpl
    have hle : pre.length ≤ 100 := by omega
    have HBW := Lib.hid hBW
    clear hBW
    gi_wp2_with fail
    refine ⟨KeepsOthers.setCell _ _ _, World.cell?_setCell_other W ⟨w1.heap.size, 0, none⟩ ⟨w1.heap.size + 1, 0, none⟩ _ (by simp), ⟨?_, by rw [World.frozen?_setCell]; exact hfW⟩, HBW.out.setCell (p := ⟨w1.heap.size, 0, none⟩) (by show w.heap.size ≤ w1.heap.size; omega) _⟩
    rw [World.cell?_setCell_same' _ _ _ (by rw [hcW]; rfl)]
    rw [List.length_append, List.length_singleton]
    congr 2
  case done =>
    rintro D ys W hD rfl ⟨⟨hcW, _⟩, hBW⟩ hK
    rw [items_length] at hcW
    have HBW := Lib.hid hBW
    clear hBW
    gi_wp2_with fail
    refine ⟨by simp, .inl ⟨_, _, rfl, run_takeDeferred hK, ?_⟩⟩
    exact ⟨_, results_tmp rfl _ _ _, by rw [HS.out, show gk n + 2 = 1 + (gk n + 1) by omega]; rfl, HBW.out.trans (belowK_b (w := w) (Nat.le_refl _) W D _ _ (by simp at hD; omega) hK rfl rfl)⟩
  case stop =>
    rintro D c pre W _ _ h _
    exact h.elim
theorem size_any (c n : Nat) (k : Bool) (w : World) (hc : c < 256) (hn : n < 4294967296) :
    Calls Try.prog 56 #[tagV c n k] w fun e w' => e = .returned (.int .i64 (sizeN c n k : Nat)) ∧ Below w.heap.size w w' := by
  by_cases h : chk c n k ≠ 0 ∨ n < 31
  · exact size_small c n k w hc hn h
  · exact (callsIn_wide (n := 6)).1 (size_big_in c n k 6 (Nat.le_refl _) w hc hn (by omega) (by omega))
end Go.Proofs.Ytgdjgahmnnjeeaa
