/-
  Layer 2: the tag that plain data T stand for (the statements' T.Of).
  Conditions: none.
-/
import Derived.Test.YtgdjgahmnnjeeaaTagG
namespace Go.Proofs.Ytgdjgahmnnjeeaa
open Go.RowKit

theorem run_str8 {w : World} {A : Option Addr} {l : List Nat} (h : Rb w A l) (c : Nat) : (convert 26 9 (.slice A l.length c)).run Try.prog w = .ok (.string (bstr l)) w :=
  run_str Try.underlying26 Try.underlying5 Try.underlying9 h c
/-- The tag that the plain data stand for. -/
def ofN (c n : Nat) (k : Bool) : Nat := if chk c n k ≠ 0 then 4 else n
theorem of_ok (a f n : Nat) (_ha : a < 256) (_hf : f < 256) (_hn : n < 4294967296) : chk (a % 4) (ofN (a % 4) (n % 268435456) (decide (f % 2 = 1))) (decide (f % 2 = 1)) = 0 := by
  unfold ofN
  split
  · unfold chk; rw [if_neg (by omega), if_neg (by omega)]
  · omega
theorem of_pre {w w1 : World} {o : Obj} {u v x u' v' x' : Value} (hb : Below (((w.alloc o).alloc (.cells #[u, v, x] 25)).alloc (.cells #[u', v', x'] 25)).heap.size (((w.alloc o).alloc (.cells #[u, v, x] 25)).alloc (.cells #[u', v', x'] 25)) w1) :
    Bk w1 (w.heap.size + 1) 25 [u, v, x] ∧ Bk w1 (w.heap.size + 1 + 1) 25 [u', v', x'] ∧ Below w.heap.size w w1 := by
  have h1 := (Bk.new (w.alloc o) 25 [u, v, x]).alloc (.cells #[u', v', x'] 25)
  have h2 := Bk.new ((w.alloc o).alloc (.cells #[u, v, x] 25)) 25 [u', v', x']
  rw [World.size_alloc] at h1
  rw [World.size_alloc, World.size_alloc] at h2
  exact ⟨h1.below hb h1.lt, h2.below hb h2.lt, ((((Below.refl w.heap.size w).alloc (Nat.le_refl _) _).alloc (by simp) _).alloc (by simp; omega) _).trans (hb.mono (by simp; omega))⟩
set_option maxRecDepth 100000 in
set_option maxHeartbeats 1000000 in
theorem of_any (a f n : Nat) (w : World) (_ha : a < 256) (_hf : f < 256) (_hn : n < 4294967296) :
    Calls Try.prog 47 #[.agg #[.int .u8 (a : Int), .int .u8 (f : Int), .int .u32 (n : Int)]] w fun e w' => e = .returned (tagV (a % 4) (ofN (a % 4) (n % 268435456) (decide (f % 2 = 1))) (decide (f % 2 = 1))) ∧ Below w.heap.size w w' := by
  obtain ⟨c, hc⟩ : ∃ c, a % 4 = c := ⟨_, rfl⟩
  obtain ⟨m, hm⟩ : ∃ m, n % 268435456 = m := ⟨_, rfl⟩
  obtain ⟨k, hk⟩ : ∃ k, decide (f % 2 = 1) = k := ⟨_, rfl⟩
  rw [hc, hm, hk]
  have hc' : ((a : Int) % 4) = (c : Int) := by omega
  have hm' : ((n : Int) % 268435456) = (m : Int) := by omega
  have hk' : ((f : Int) % 2 == 1) = k := by rw [← hk, Bool.eq_iff_iff, beq_iff_eq, decide_eq_true_iff]; omega
  have hc4 : c < 256 := by omega
  have hm4 : m < 4294967296 := by omega
  clear hc hm hk _ha _hf _hn
  obtain ⟨e0, he⟩ : ∃ e0, chk c m k = e0 := ⟨_, rfl⟩
  have HE := Lib.hid he
  by_cases hz : e0 = 0
  · have HF := Lib.hid (show ofN c m k = m by unfold ofN; rw [if_neg (by omega)])
    subst hz
    clear he
    go_enter Try.func47, Try.ntmps47
    go_wp2_with (go_at_call 34; refine (rcheck_any c m k _ hc4 hm4).mono ?_; rintro e w1 ⟨rfl, hb⟩; rw [HE.out]; obtain ⟨hk1, hk2, hb1⟩ := of_pre hb; have r0 := hk1.cell 0; have r1 := hk1.cell 1; have r2 := hk1.cell 2; have f0 := hk1.free 0; have f1 := hk1.free 1; have f2 := hk1.free 2; have q0 := hk2.cell 0; have q1 := hk2.cell 1; have q2 := hk2.cell 2; have g2 := hk2.free 2; have hsz := hk2.lt; simp only [List.getElem?_cons_zero, List.getElem?_cons_succ] at r0 r1 r2 q0 q1 q2; have HB := Lib.hid hb1; have HK1 := Lib.hid hk1; clear hb hb1 hk1 hk2)
    have HS := Lib.hid (set3 (a' := .int .u8 (c : Int)) (b' := .bool k) (c' := .int .u32 (m : Int)) HK1.out)
    have s0 := HS.out.cell 0
    have s1 := HS.out.cell 1
    have s2 := HS.out.cell 2
    simp only [List.getElem?_cons_zero, List.getElem?_cons_succ] at s0 s1 s2
    refine bodyPost_ret (v := tagV c m k) (by simp [results, Try.results47, go_sem, s0, s1, s2]) rfl ⟨by rw [HF.out], below3 HB.out (by omega)⟩
  · have HF := Lib.hid (show ofN c m k = 4 by unfold ofN; rw [if_pos (by omega)])
    have hzb : ((e0 : Int) != 0) = true := by rw [bne_iff_ne]; omega
    clear he hz
    go_enter Try.func47, Try.ntmps47
    go_wp2_with (go_at_call 34; refine (rcheck_any c m k _ hc4 hm4).mono ?_; rintro e w1 ⟨rfl, hb⟩; rw [HE.out]; obtain ⟨hk1, hk2, hb1⟩ := of_pre hb; have r0 := hk1.cell 0; have r1 := hk1.cell 1; have r2 := hk1.cell 2; have f0 := hk1.free 0; have f1 := hk1.free 1; have f2 := hk1.free 2; have q0 := hk2.cell 0; have q1 := hk2.cell 1; have q2 := hk2.cell 2; have g2 := hk2.free 2; have hsz := hk2.lt; simp only [List.getElem?_cons_zero, List.getElem?_cons_succ] at r0 r1 r2 q0 q1 q2; have HB := Lib.hid hb1; have HK1 := Lib.hid hk1; clear hb hb1 hk1 hk2)
    have HS := Lib.hid (set3 (a' := .int .u8 (c : Int)) (b' := .bool k) (c' := .int .u32 4) (HK1.out.far (p := ⟨w.heap.size + 1 + 1, 2, none⟩) (by simp) (.int .u32 4)))
    have s0 := HS.out.cell 0
    have s1 := HS.out.cell 1
    have s2 := HS.out.cell 2
    simp only [List.getElem?_cons_zero, List.getElem?_cons_succ] at s0 s1 s2
    refine bodyPost_ret (v := tagV c 4 k) (by simp [results, Try.results47, go_sem, s0, s1, s2]) rfl ⟨by rw [HF.out], below3 (HB.out.setCell (p := ⟨w.heap.size + 1 + 1, 2, none⟩) (by show w.heap.size ≤ w.heap.size + 1 + 1; omega) _) (by omega)⟩
end Go.Proofs.Ytgdjgahmnnjeeaa
