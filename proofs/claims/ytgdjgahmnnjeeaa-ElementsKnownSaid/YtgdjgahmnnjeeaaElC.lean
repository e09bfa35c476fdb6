/-
  Layer 4: the reference's Many.
  Conditions: none beyond that values read as elements.
-/
import Derived.Test.YtgdjgahmnnjeeaaElB
import Derived.Test.YtgdjgahmnnjeeaaTagA
namespace Go.Proofs.Ytgdjgahmnnjeeaa
open Go.RowKit

/-- The five cells of one of the elements that lie one behind the other. -/
theorem RdS.five {x : Bool} {S : Nat → Prop} {w : World} {A : Option Addr} {ss : List El} (h : RdS x S w A ss) {i : Nat} (hi : i < ss.length) :
    ∃ b off c n k u v, A = some ⟨b, off, none⟩ ∧ b < w.heap.size ∧ S b ∧ w.cell? ⟨b, off + i * 5, none⟩ = some (.int .u8 ((c : Nat) : Int)) ∧ w.cell? ⟨b, off + i * 5 + 1, none⟩ = some (.bool k) ∧ w.cell? ⟨b, off + i * 5 + 2, none⟩ = some (.int .u32 ((n : Nat) : Int)) ∧
      w.cell? ⟨b, off + i * 5 + 3, none⟩ = some u ∧ w.cell? ⟨b, off + i * 5 + 4, none⟩ = some v ∧ RdE x S w ss[i] (elV c n k u v) := by
  obtain ⟨b, off, y, h1, h2, h3, h4, h5⟩ := h.at_ hi
  generalize ss[i] = e at h5
  obtain ⟨c, n, k, bs, ts⟩ := e
  have h6 := h5
  obtain ⟨g1, g2, g3, A', ca, B', cb, rfl, g5⟩ := h5
  exact ⟨b, off, c, n, k, _, _, h1, h2, h3, h4 0 _ rfl, h4 1 _ rfl, h4 2 _ rfl, h4 3 _ rfl, h4 4 _ rfl, h6⟩

set_option maxHeartbeats 1000000 in
set_option maxRecDepth 100000 in
theorem many_any {x : Bool} {S : Nat → Prop} (e : El) : ∀ (v : Value) (m : Nat) (w : World), m ≤ 9000 → RdE x S w e v →
    Calls Try.prog 28 #[v, .int .i64 (m : Int)] w fun e' w' => e' = .returned (.int .i64 (manE e m : Nat)) ∧ Below w.heap.size w w' := by
  refine El.ind (P := fun e => ∀ (v : Value) (m : Nat) (w : World), m ≤ 9000 → RdE x S w e v →
    Calls Try.prog 28 #[v, .int .i64 (m : Int)] w fun e' w' => e' = .returned (.int .i64 (manE e m : Nat)) ∧ Below w.heap.size w w') ?_ e
  clear e
  intro c n k bs ss ih v m w hm h
  obtain ⟨h1, h2, h3, A, ca, B, cb, rfl, h5, h6, h7, h8, h9, h10, h11⟩ := h
  by_cases hm0 : m = 0
  · subst hm0
    go_enter Try.func28, Try.ntmps28
    go_wp2_with fail
    go_ret
    exact ⟨by simp [manE], (Below.refl _ _).alloc (Nat.le_refl _) _⟩
  go_enter Try.func28, Try.ntmps28
  go_wp2_with fail
  have hlen : ss.length ≤ 9223372036854775807 := by unfold maxLen at h9; omega
  go_loopw [5, 6] (fun a i wr => ∃ (p q : Nat), p ≤ ss.length ∧ q ≤ m + 1 ∧ a = .int .i64 (q : Int) ∧ i = .int .i64 (p : Int) ∧ manS (ss.drop p) m q = manE (.mk c n k bs ss) m ∧ Bk wr w.heap.size 29 [.int .u8 (c : Int), .bool k, .int .u32 (n : Int), .slice A bs.length ca, .slice B ss.length cb] ∧ Below w.heap.size w wr) (fun _ i _ => ss.length - (intOf i).toNat)
  case atStart =>
    exact ⟨0, 1, Nat.zero_le _, by omega, rfl, rfl, by rw [manE, if_neg hm0]; rfl, Bk.new w 29 [_, _, _, _, _], (Below.refl _ _).alloc (Nat.le_refl _) _⟩
  case round =>
    obtain ⟨p, q, hp, hq, rfl, rfl, hM, hbk, hbel⟩ := hrel
    have e0 := hbk.cell 0
    have e1 := hbk.cell 1
    have e2 := hbk.cell 2
    have e3 := hbk.cell 3
    have e4 := hbk.cell 4
    have hsz := hbk.lt
    simp only [List.getElem?_cons_zero, List.getElem?_cons_succ] at e0 e1 e2 e3 e4
    have H11 := Lib.hid (h11.stay hbel)
    have HIH := Lib.hid ih
    have HM := Lib.hid hM
    have HK := Lib.hid hbk
    have HB := Lib.hid hbel
    clear ih hM hbk hbel h11 h5 h6 h7 h8 h9 h10
    by_cases hlt : p < ss.length
    · by_cases hqm : q ≤ m
      · obtain ⟨b, off, c', n', k', u, v, rfl, hb, hS, f0, f1, f2, f3, f4, hE⟩ := H11.out.five hlt
        obtain ⟨d, hd⟩ : ∃ d, m - q = d := ⟨_, rfl⟩
        have hd1 : ((m : Int) - (q : Int)) = (d : Int) := by omega
        have hd2 := manE_le ss[p] d
        have HN := Lib.hid (HM.out.symm.trans ((manS_drop hlt).trans ((if_pos hqm).trans (by rw [hd]))))
        have HC := Lib.hid (HIH.out _ (List.getElem_mem hlt) _ d wr (by omega) hE)
        obtain ⟨r, hr⟩ : ∃ r, manE ss[p] d = r := ⟨_, rfl⟩
        rw [hr] at hd2
        have HR := Lib.hid hr
        clear hE hS hd hr
        go_wp2_with fail
        refine HC.out.mono ?_
        rintro e' w1 ⟨rfl, hb1⟩
        have HB1 := Lib.hid hb1
        clear hb1
        rw [HR.out]
        go_wp2_with fail
        exact ⟨⟨p + 1, q + r, by omega, by omega, by go_num, by go_num, by rw [HN.out, HR.out], HK.out.below HB1.out hsz, HB.out.trans (HB1.out.mono HB.out.size)⟩, by simp [intOf]; omega⟩
      · have HQ := Lib.hid (HM.out.symm.trans ((manS_drop hlt).trans (if_neg hqm)))
        go_wp2_with fail
        go_ret
        exact ⟨by rw [HQ.out]; rfl, HB.out⟩
    · have HQ := Lib.hid (HM.out.symm.trans (manS_done (by omega)))
      go_wp2_with fail
      go_ret
      exact ⟨by rw [HQ.out]; rfl, HB.out⟩
end Go.Proofs.Ytgdjgahmnnjeeaa
