/-
  Layer 2: the statements' own helpers same, read, Of.
  Conditions: the variables hold what the program's text lays.
-/
import Derived.Test.YtcaolgcpcjodnaaDoorTagM
namespace Go.Proofs.YtcaolgcpcjodnaaDoor
open Go.RowKit

theorem run_str8 {w : World} {A : Option Addr} {l : List Nat} (h : Rb w A l) (c : Nat) : (convert 30 9 (.slice A l.length c)).run Tryd.prog w = .ok (.string (bstr l)) w :=
  run_str Tryd.underlying30 Tryd.underlying5 Tryd.underlying9 h c
set_option maxHeartbeats 400000 in
theorem same_ok (A B : Option Addr) (l : List Nat) (c f : Nat) (w : World) (hA : Rb w A l) (hB : Rb w B l) :
    Calls Tryd.prog 14 #[.slice A l.length l.length, .int .i64 (f : Int), .slice B l.length c, .int .i64 (f : Int)] w fun e w' => e = .returned (.bool true) ∧ w = w' := by
  have s0 := run_str8 hA l.length
  have s1 := run_str8 hB c
  have hself := bstr_self (bstr l)
  clear hA hB
  obtain ⟨N, hN⟩ : ∃ N, l.length = N := ⟨_, rfl⟩
  rw [hN] at s0 s1 ⊢
  generalize bstr l = S at *
  clear hN
  go_enter Tryd.func14, Tryd.ntmps14
  go_wp2_with fail
  go_ret
  exact ⟨by simp, rfl⟩

set_option maxRecDepth 100000 in
set_option maxHeartbeats 1000000 in
theorem read_ok (A : Option Addr) (l : List Nat) (cap c n s f : Nat) (k : Bool) (w : World) (hl : l.length ≤ cap) (hc : cap ≤ maxLen) (hA : Rb w A l) (hq : rdL l = (c, n, k, s, f)) :
    Calls Tryd.prog 19 #[.slice A l.length cap, tagV c n k, .int .i64 (s : Int), .int .i64 (f : Int)] w fun e w' => e = .returned (.bool true) ∧ Below w.heap.size w w' := by
  have HA := Lib.hid hA
  have HQ := Lib.hid hq
  clear hA hq
  go_enter Tryd.func19, Tryd.ntmps19
  go_wp2_with (go_at_call 29; refine (get_any A l cap _ hl hc (HA.out.below ((Below.refl _ w).alloc (Nat.le_refl _) _))).mono ?_; rintro e w1 ⟨he, hb⟩; rw [HQ.out] at he; obtain rfl := he; obtain ⟨c0, c1, c2, hsz⟩ := tag_cells hb; have HB := Lib.hid (((Below.refl w.heap.size w).alloc (Nat.le_refl _) _).trans (hb.mono (by simp))); clear hb)
  go_ret
  exact ⟨by simp, HB.out.alloc HB.out.size _⟩

/-- The tag that the plain data stand for. -/
def ofN (c n : Nat) (k : Bool) : Nat := if chk c n k ≠ 0 then 4 else n
theorem of_ok (a f n : Nat) (ha : a < 256) (hf : f < 256) (hn : n < 4294967296) : chk (a % 4) (ofN (a % 4) (n % 268435456) (decide (f % 2 = 1))) (decide (f % 2 = 1)) = 0 := by
  unfold ofN
  split
  · unfold chk; rw [if_neg (by omega), if_neg (by omega)]
  · omega
theorem of_pre {w w1 : World} {o : Obj} {u v x u' v' x' : Value} (hb : Below (((w.alloc o).alloc (.cells #[u, v, x] 25)).alloc (.cells #[u', v', x'] 25)).heap.size (((w.alloc o).alloc (.cells #[u, v, x] 25)).alloc (.cells #[u', v', x'] 25)) w1) :
    Bk w1 (w.heap.size + 1) 25 [u, v, x] ∧ Bk w1 (w.heap.size + 1 + 1) 25 [u', v', x'] ∧ Below w.heap.size w w1 := by
  have h1 := (Bk.new (w.alloc o) 25 [u, v, x]).alloc (.cells #[u', v', x'] 25)
  have h2 := Bk.new ((w.alloc o).alloc (.cells #[u, v, x] 25)) 25 [u', v', x']
  rw [World.size_alloc] at h1
  rw [World.size_alloc, World.size_alloc] at h2
  exact ⟨h1.below hb h1.lt, h2.below hb h2.lt, ((((Below.refl w.heap.size w).alloc (Nat.le_refl _) _).alloc (by simp) _).alloc (by simp; omega) _).trans (hb.mono (by simp; omega))⟩
set_option maxRecDepth 100000 in
set_option maxHeartbeats 1000000 in
theorem of_any (a f n : Nat) (w : World) (ha : a < 256) (hf : f < 256) (hn : n < 4294967296) :
    Calls Tryd.prog 17 #[.agg #[.int .u8 (a : Int), .int .u8 (f : Int), .int .u32 (n : Int)]] w fun e w' => e = .returned (tagV (a % 4) (ofN (a % 4) (n % 268435456) (decide (f % 2 = 1))) (decide (f % 2 = 1))) ∧ Below w.heap.size w w' := by
  obtain ⟨c, hc⟩ : ∃ c, a % 4 = c := ⟨_, rfl⟩
  obtain ⟨m, hm⟩ : ∃ m, n % 268435456 = m := ⟨_, rfl⟩
  obtain ⟨k, hk⟩ : ∃ k, decide (f % 2 = 1) = k := ⟨_, rfl⟩
  rw [hc, hm, hk]
  have hc' : ((a : Int) % 4) = (c : Int) := by omega
  have hm' : ((n : Int) % 268435456) = (m : Int) := by omega
  have hk' : ((f : Int) % 2 == 1) = k := by rw [← hk, Bool.eq_iff_iff, beq_iff_eq, decide_eq_true_iff]; omega
  have hc4 : c < 256 := by omega
  have hm4 : m < 4294967296 := by omega
  clear hc hm hk ha hf hn
  obtain ⟨e0, he⟩ : ∃ e0, chk c m k = e0 := ⟨_, rfl⟩
  have HE := Lib.hid he
  by_cases hz : e0 = 0
  · have HF := Lib.hid (show ofN c m k = m by unfold ofN; rw [if_neg (by omega)])
    subst hz
    clear he
    go_enter Tryd.func17, Tryd.ntmps17
    go_wp2_with (go_at_call 10; refine (rcheck_any c m k _ hc4 hm4).mono ?_; rintro e w1 ⟨rfl, hb⟩; rw [HE.out]; obtain ⟨hk1, hk2, hb1⟩ := of_pre hb; have r0 := hk1.cell 0; have r1 := hk1.cell 1; have r2 := hk1.cell 2; have f0 := hk1.free 0; have f1 := hk1.free 1; have f2 := hk1.free 2; have q0 := hk2.cell 0; have q1 := hk2.cell 1; have q2 := hk2.cell 2; have g2 := hk2.free 2; have hsz := hk2.lt; simp only [List.getElem?_cons_zero, List.getElem?_cons_succ] at r0 r1 r2 q0 q1 q2; have HB := Lib.hid hb1; have HK1 := Lib.hid hk1; clear hb hb1 hk1 hk2)
    have HS := Lib.hid (set3 (a' := .int .u8 (c : Int)) (b' := .bool k) (c' := .int .u32 (m : Int)) HK1.out)
    have s0 := HS.out.cell 0
    have s1 := HS.out.cell 1
    have s2 := HS.out.cell 2
    simp only [List.getElem?_cons_zero, List.getElem?_cons_succ] at s0 s1 s2
    refine bodyPost_ret (v := tagV c m k) (by simp [results, Tryd.results17, go_sem, s0, s1, s2]) rfl ⟨by rw [HF.out], below3 HB.out (by omega)⟩
  · have HF := Lib.hid (show ofN c m k = 4 by unfold ofN; rw [if_pos (by omega)])
    have hzb : ((e0 : Int) != 0) = true := by rw [bne_iff_ne]; omega
    clear he hz
    go_enter Tryd.func17, Tryd.ntmps17
    go_wp2_with (go_at_call 10; refine (rcheck_any c m k _ hc4 hm4).mono ?_; rintro e w1 ⟨rfl, hb⟩; rw [HE.out]; obtain ⟨hk1, hk2, hb1⟩ := of_pre hb; have r0 := hk1.cell 0; have r1 := hk1.cell 1; have r2 := hk1.cell 2; have f0 := hk1.free 0; have f1 := hk1.free 1; have f2 := hk1.free 2; have q0 := hk2.cell 0; have q1 := hk2.cell 1; have q2 := hk2.cell 2; have g2 := hk2.free 2; have hsz := hk2.lt; simp only [List.getElem?_cons_zero, List.getElem?_cons_succ] at r0 r1 r2 q0 q1 q2; have HB := Lib.hid hb1; have HK1 := Lib.hid hk1; clear hb hb1 hk1 hk2)
    have HS := Lib.hid (set3 (a' := .int .u8 (c : Int)) (b' := .bool k) (c' := .int .u32 4) (HK1.out.far (p := ⟨w.heap.size + 1 + 1, 2, none⟩) (by simp) (.int .u32 4)))
    have s0 := HS.out.cell 0
    have s1 := HS.out.cell 1
    have s2 := HS.out.cell 2
    simp only [List.getElem?_cons_zero, List.getElem?_cons_succ] at s0 s1 s2
    refine bodyPost_ret (v := tagV c 4 k) (by simp [results, Tryd.results17, go_sem, s0, s1, s2]) rfl ⟨by rw [HF.out], below3 (HB.out.setCell (p := ⟨w.heap.size + 1 + 1, 2, none⟩) (by show w.heap.size ≤ w.heap.size + 1 + 1; omega) _) (by omega)⟩
end Go.Proofs.YtcaolgcpcjodnaaDoor
