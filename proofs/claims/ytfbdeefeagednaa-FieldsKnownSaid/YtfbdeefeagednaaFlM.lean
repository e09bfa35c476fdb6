/-
  Layer 12: offsetOf, Offset, Report.
  Conditions: none beyond that values read as what they are.
-/
import Derived.Test.YtfbdeefeagednaaFlL
namespace Go.Proofs.Ytfbdeefeagednaa.Fl
open Go.RowKit

theorem cntE_mem {ss : List El} {e : El} (h : e ∈ ss) : cntE e ≤ cntS ss := by
  induction ss with
  | nil => simp at h
  | cons x ss ih =>
    rw [cntS]
    rcases List.mem_cons.1 h with rfl | h
    · omega
    · have := ih h; omega
/-- A valid element. -/
def OKe (e : El) : Prop := valE e ∧ depE e ≤ 16 ∧ cntE e ≤ 8192 ∧ (encE e).length ≤ 1048576
theorem OKe.chk {e : El} (h : OKe e) : (chkE e 1 0).1 = 0 := (chkE_zero e 1 0).2 ⟨h.1, by have := h.2.1; omega, by have := h.2.2.1; omega⟩
theorem OKe.siz {e : El} (h : OKe e) : sizR e = ((encE e).length, 0) := by unfold sizR; rw [if_neg (by rw [h.chk]; simp), if_pos h.2.2.2]
theorem OKe.con {e : El} (h : OKe e) : conOk e := fun _ => Nat.le_trans conL_le h.2.2.2
theorem OKe.of {e : El} (h : (sizR e).2 = 0) : OKe e := by
  unfold sizR at h
  by_cases h1 : (chkE e 1 0).1 ≠ 0
  · rw [if_pos h1] at h; exact absurd h h1
  · rw [if_neg h1] at h
    by_cases h2 : (encE e).length ≤ 1048576
    · obtain ⟨g1, g2, g3⟩ := (chkE_zero e 1 0).1 (by omega)
      exact ⟨g1, by omega, by omega, h2⟩
    · rw [if_neg h2] at h; cases h
theorem OKe.sub {c n : Nat} {k : Bool} {bs : List Nat} {ss : List El} (h : OKe (.mk c n k bs ss)) {i : Nat} (hi : i < ss.length) : OKe ss[i] := by
  obtain ⟨h1, h2, h3, h4⟩ := h
  rw [valE] at h1
  rw [depE] at h2
  rw [cntE] at h3
  have hm := List.getElem_mem hi
  have := depE_mem hm
  have := cntE_mem hm
  have := encS_part hi
  have := encE_len (c := c) (n := n) (k := k) (bs := bs) (ss := ss)
  have h6 : conL (.mk c n k bs ss) = bs.length + (encS ss).length := rfl
  exact ⟨valS_mem h1.2.2.2 hm, by omega, by omega, by omega⟩
theorem encS_drop_le (ss : List El) (i : Nat) : (encS (ss.drop i)).length ≤ (encS ss).length := by
  have := congrArg (fun l => (encS l).length) (List.take_append_drop i ss)
  simp only [encS_app, List.length_append] at this
  omega
theorem encS_le {c n : Nat} {k : Bool} {bs : List Nat} {ss : List El} : (encS ss).length ≤ (encE (.mk c n k bs ss)).length := by
  have := encE_len (c := c) (n := n) (k := k) (bs := bs) (ss := ss)
  have h6 : conL (.mk c n k bs ss) = bs.length + (encS ss).length := rfl
  omega
set_option maxHeartbeats 2000000 in
set_option maxRecDepth 100000 in
theorem offOf_any {x : Bool} {S : Nat → Prop} (c n : Nat) (k : Bool) (bs : List Nat) (ss : List El) (v : Value) (i : Nat) (w : World) (hE : RdE x S w (.mk c n k bs ss) v) (hok : OKe (.mk c n k bs ss)) (hi : i < ss.length) :
    Calls Try.prog 42 #[v, .int .i64 (i : Int)] w fun e' w' => e' = .returned (.int .i64 (((encE (.mk c n k bs ss)).length - (encS (ss.drop i)).length : Nat) : Int)) ∧ Below w.heap.size w w' := by
  have hE0 := hE
  obtain ⟨h1, h2, h3, A, ca, B, cb, rfl, h5, h6, h7, h8, h9, h10, h11⟩ := hE
  have hle := Nat.le_trans (encS_drop_le ss i) (encS_le (c := c) (n := n) (k := k) (bs := bs) (ss := ss))
  obtain ⟨T, hT⟩ : ∃ T, ss.drop i = T := ⟨_, rfl⟩
  have hTk : ∀ q, (hq : q < T.length) → OKe T[q] := by
    intro q hq
    have : T[q] = ss[i + q]'(by rw [← hT, List.length_drop] at hq; omega) := by simp [← hT]
    rw [this]
    exact hok.sub _
  obtain ⟨d, hd⟩ : ∃ d, i + d = ss.length := ⟨ss.length - i, by omega⟩
  obtain ⟨A2, c2, hdc, hsl, hrd⟩ := slE_part B ss.length cb i d hd h8
  have hTl : T.length = d := by rw [← hT, List.length_drop]; omega
  have hS2 := hrd _ _ _ _ rfl h11
  rw [hT] at hS2 hle
  obtain ⟨m, hm⟩ : ∃ m, ss.length = m := ⟨_, rfl⟩
  rw [hm] at hsl hd ⊢
  obtain ⟨L, hL⟩ : ∃ L, (encE (.mk c n k bs ss)).length = L := ⟨_, rfl⟩
  have hLm : L ≤ 1048576 := by rw [← hL]; exact hok.2.2.2
  have HSZ := Lib.hid (esize_any (.mk c n k bs ss) _ _ (by have := hok.2.1; omega) (hE0.stay (bel1 w (.cells #[.int .u8 (c : Int), .bool k, .int .u32 (n : Int), .slice A bs.length ca, .slice B ss.length cb] 29))) hok.con)
  rw [hok.siz, hL] at HSZ
  rw [hm] at HSZ
  rw [hL, hT]
  rw [hL] at hle
  have HLE := Lib.hid hle
  have HB0 := Lib.hid (bel1 w (.cells #[.int .u8 (c : Int), .bool k, .int .u32 (n : Int), .slice A bs.length ca, .slice B m cb] 29))
  have HK0 := Lib.hid (Bk.new w 29 [.int .u8 (c : Int), .bool k, .int .u32 (n : Int), .slice A bs.length ca, .slice B m cb])
  have HS := Lib.hid hS2
  have HTK := Lib.hid hTk
  have HTL := Lib.hid hTl
  have hmm : m ≤ 9223372036854775807 := by unfold maxLen at h9; omega
  have him : i ≤ m := by omega
  have hdm : d ≤ m := by omega
  clear hE0 h1 h2 h3 h5 h6 h7 h8 h9 h10 h11 hle hTk hS2 hTl hrd hok hT hL hm hi hdc
  obtain ⟨G, hG⟩ : ∃ G, w.heap.size = G := ⟨_, rfl⟩
  have HG := Lib.hid hG
  rw [hG] at HK0
  clear hG
  go_enter Try.func42, Try.ntmps42
  go_wp2_with fail
  refine HSZ.out.mono ?_
  rintro e w1 ⟨rfl, hb1⟩
  have B1 := bt HB0 (Lib.hid hb1)
  have K1 := kt HK0 (Lib.hid hb1)
  rw [HG.out]
  obtain ⟨e0, e1, e2, e3, e4, ez⟩ := K1.out.five
  have HL9 := Lib.hid hLm
  clear hb1 HB0 HK0 HSZ e0 e1 e2 e3 hd hLm
  go_wp2_with fail
  go_loopw [5, 7, 15] (fun s _ i wr => ∃ (q a : Nat), q ≤ d ∧ i = .int .i64 (q : Int) ∧ s = .int .i64 (a : Int) ∧ a + (encS (T.take q)).length = L ∧ Below w.heap.size w wr) (fun _ _ i _ => d - (intOf i).toNat)
  case atStart => exact ⟨0, L, Nat.zero_le _, rfl, rfl, by rw [List.take_zero]; rfl, B1.out⟩
  case round =>
    clear B1 K1 e4 ez
    obtain ⟨q, a, hq, rfl, rfl, ha, hbl⟩ := hrel
    have BB := Lib.hid hbl
    have HA := Lib.hid ha
    clear hbl ha
    by_cases hlt : q < d
    · obtain ⟨b, off, c', n', k', A1, l1, q1, A3, l3, q3, rfl, hb, hS, f0, f1, f2, f3, f4, hE⟩ := (HS.out.stay BB.out).fives (i := q) (by rw [HTL.out]; exact hlt)
      have hok := HTK.out q (by rw [HTL.out]; exact hlt)
      have htk := encS_take (ss := T) (i := q) (by rw [HTL.out]; exact hlt)
      obtain ⟨y, hy⟩ : ∃ y, T[q]'(by rw [HTL.out]; exact hlt) = y := ⟨_, rfl⟩
      rw [hy] at hok hE htk
      obtain ⟨M, hM⟩ : ∃ M, (encE y).length = M := ⟨_, rfl⟩
      have HSZ := Lib.hid (esize_any y _ _ (by have := hok.2.1; omega) (hE.stay (bel1 wr (.cells #[.int .u8 (c' : Int), .bool k', .int .u32 (n' : Int), .slice A1 l1 q1, .slice A3 l3 q3] 29))) hok.con)
      rw [hok.siz, hM] at HSZ
      rw [hM] at htk
      have hall : (encS (T.take (q + 1))).length ≤ (encS T).length := by
        have := congrArg (fun l => (encS l).length) (List.take_append_drop (q + 1) T)
        simp only [encS_app, List.length_append] at this
        omega
      have hMa : M ≤ a := by have := HA.out; have := HLE.out; omega
      obtain ⟨a2, ha2⟩ : ∃ a2, a2 + M = a := ⟨a - M, by omega⟩
      have ha3 : (a : Int) - (M : Int) = (a2 : Int) := by omega
      have HA2 := Lib.hid (show a2 + (encS (T.take (q + 1))).length = L by have := HA.out; omega)
      have B2 := bt BB (Lib.hid (bel1 wr (.cells #[.int .u8 (c' : Int), .bool k', .int .u32 (n' : Int), .slice A1 l1 q1, .slice A3 l3 q3] 29)))
      have haL : a ≤ 1048576 := by have := HA.out; have := HL9.out; omega
      clear hok htk hE hS hM hall ha2 hy hMa
      go_wp2_with fail
      refine HSZ.out.mono ?_
      rintro e w2 ⟨rfl, hb2⟩
      have B3 := bt B2 (Lib.hid hb2)
      clear hb2
      go_wp2_with fail
      exact ⟨⟨q + 1, a2, by omega, by go_num, rfl, HA2.out, B3.out⟩, by simp [intOf]; omega⟩
    · obtain rfl : q = d := by omega
      have hfin : a = L - (encS T).length := by have := HA.out; rw [List.take_of_length_le (by rw [HTL.out]; exact Nat.le_refl _)] at this; omega
      have HF := Lib.hid hfin
      clear hfin
      go_wp2_with fail
      go_ret
      exact ⟨by rw [HF.out]; rfl, BB.out⟩
end Go.Proofs.Ytfbdeefeagednaa.Fl
