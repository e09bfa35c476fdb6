/-
  Layer 10: Seconds of the program.
  Conditions: the table of the months holds what the program's text lays.
-/
import Derived.Test.YtecmgkmonehmfaaDoorTimD
import Derived.Outline
import Derived.BigQuiet
namespace Go.Proofs.YtecmgkmonehmfaaDoor.Tim
open Go.RowKit

theorem rangeB {w : World} {g : Nat} {t : TypeId} {cs : List Value} (h : Bk w g t cs) : w.rangeAt g 0 cs := fun j v hj => by rw [Nat.zero_add, h.cell]; exact hj
/-- The walk's step at the load of a whole struct. -/
theorem wpList_loadG {t : TypeId} {d : TypeDesc} {ops : Array Oper} {rest : List Oper} {o : Oper} {a : Act} {w : World} {Q : Exit → Act → World → Prop} (hgd : o.guard = none) (x : Operand) (ho : o.op = .load t x)
    {g off : Nat} {cs : List Value} (hx : a.eval x = .pointer (some ⟨g, off, none⟩)) (hg : w.rangeAt g off cs) (hu : Tryd.prog.underlying t = some d) (hd : d.isRow = true) (hi : (Tryd.prog.info? t).map (·.size) = some cs.length)
    (h : wpList Tryd.prog ops Q rest (a.put o.dst (.agg cs.toArray)) w) : wpList Tryd.prog ops Q (o :: rest) a w :=
  wpList_load_mid hgd t x ho g off hx cs d hg hu hd hi h
theorem infoTm : (Tryd.prog.info? 23).map (·.size) = some 6 := by kernel_rfl
/-- The days of the first months of a year. -/
def msT (y : Int) : Nat → Nat
  | 0 => 0
  | k + 1 => msT y k + dyT y ((k : Int) + 1)
theorem msT_le (y : Int) (k : Nat) : msT y k ≤ 32 * k := by
  induction k with
  | zero => exact Nat.le_refl _
  | succ k ih =>
    have := dyT_le y ((k : Int) + 1)
    unfold msT
    omega
theorem mulT_le (y k : Nat) (hy : y ≤ 10000) (hk : 1 ≤ k) (h2 : k ≤ 400) : mulT y k ≤ 10400 := by unfold mulT; exact Nat.le_trans (Nat.div_le_self _ _) (by omega)
theorem dbT_le (y : Nat) (hy : y ≤ 10000) : dbT y ≤ 3700000 := by
  have := mulT_le y 4 hy (by decide) (by decide)
  have := mulT_le y 400 hy (by decide) (by decide)
  unfold dbT
  omega
/-- The seconds before a time. -/
def ssT (y m d h mi s : Nat) : Nat := (dbT y + d - 1 + msT y (m - 1)) * 86400 + h * 3600 + mi * 60 + s

set_option linter.unusedSimpArgs false in
set_option linter.unusedVariables false in
set_option maxHeartbeats 4000000 in
set_option maxRecDepth 100000 in
theorem secs_bad (y mo d h mi s : Int) (hmo : I64 mo) (hck : ck y mo d h mi s = 1) (w : World) (hE : Env w) :
    Calls Tryd.prog 18 #[tV y mo d h mi s] w fun e w' => e = .returned (.int .i64 (-1)) ∧ Below w.heap.size w w' := by
  obtain ⟨g, hg⟩ : ∃ g, w.heap.size = g := ⟨_, rfl⟩
  obtain ⟨w1, hw1⟩ : ∃ w1, w.alloc (.cells #[.int .i64 y, .int .i64 mo, .int .i64 d, .int .i64 h, .int .i64 mi, .int .i64 s] 23) = w1 := ⟨_, rfl⟩
  have B1 : Hid (Below w.heap.size w w1) := Lib.hid (by rw [← hw1]; exact bel1 w _)
  have K1 : Hid (Bk w1 g 23 (tL y mo d h mi s)) := Lib.hid (by rw [← hw1, ← hg]; exact Bk.new w _ (tL y mo d h mi s))
  have CK := Lib.hid (check_any y mo d h mi s hmo w1 (hE.below B1.out))
  rw [hck] at CK
  have HW1 := Lib.hid hw1
  have HG := Lib.hid hg
  clear hw1 hg hck hE
  go_enter Tryd.func18, Tryd.ntmps18
  go_upto_region 1 with fail
  rw [HW1.out, HG.out]
  go_wp2_with (refine wpList_loadG rfl (.tmp 1) rfl rfl (rangeB K1.out) Tryd.underlying23 rfl infoTm ?_)
  refine CK.out.mono ?_
  rintro e w2 ⟨rfl, hb⟩
  have B2 := bt B1 (Lib.hid hb)
  clear hb
  go_wp2_with fail
  go_ret
  exact ⟨rfl, B2.out⟩

set_option linter.unusedSimpArgs false in
set_option linter.unusedVariables false in
set_option maxHeartbeats 4000000 in
set_option maxRecDepth 100000 in
theorem secs_ok (y m d h mi s : Nat) (hy : y ≤ 9999) (hm0 : 1 ≤ m) (hm : m ≤ 12) (hd0 : 1 ≤ d) (hd : d ≤ 31) (hh : h ≤ 23) (hmi : mi ≤ 59) (hs : s ≤ 59) (hck : ck y m d h mi s = 0) (w : World) (hE : Env w) :
    Calls Tryd.prog 18 #[tV y m d h mi s] w fun e w' => e = .returned (.int .i64 (ssT y m d h mi s : Int)) ∧ Below w.heap.size w w' := by
  obtain ⟨g, hg⟩ : ∃ g, w.heap.size = g := ⟨_, rfl⟩
  obtain ⟨w1, hw1⟩ : ∃ w1, w.alloc (.cells #[.int .i64 (y : Int), .int .i64 (m : Int), .int .i64 (d : Int), .int .i64 (h : Int), .int .i64 (mi : Int), .int .i64 (s : Int)] 23) = w1 := ⟨_, rfl⟩
  have B1 : Hid (Below w.heap.size w w1) := Lib.hid (by rw [← hw1]; exact bel1 w _)
  have K1 : Hid (Bk w1 g 23 (tL y m d h mi s)) := Lib.hid (by rw [← hw1, ← hg]; exact Bk.new w _ (tL y m d h mi s))
  have CK := Lib.hid (check_any y m d h mi s (by unfold I64; omega) w1 (hE.below B1.out))
  rw [hck] at CK
  have HE := Lib.hid hE
  have HW1 := Lib.hid hw1
  have HG := Lib.hid hg
  clear hw1 hg hck hE
  obtain ⟨R, hR⟩ : ∃ R, ssT y m d h mi s = R := ⟨_, rfl⟩
  rw [hR]
  have HR := Lib.hid hR
  obtain ⟨D, hD⟩ : ∃ D, dbT y = D := ⟨_, rfl⟩
  have HD := Lib.hid hD
  have hDl : D ≤ 3700000 := by rw [← hD]; exact dbT_le y (by omega)
  have CB := Lib.hid (fun W => before_any y (by omega) W)
  rw [hD] at CB
  clear hR hD
  go_enter Tryd.func18, Tryd.ntmps18
  go_upto_region 1 with fail
  rw [HW1.out, HG.out]
  go_upto_region 3 with (refine wpList_loadG rfl (.tmp 1) rfl rfl (rangeB K1.out) Tryd.underlying23 rfl infoTm ?_)
  refine CK.out.mono ?_
  rintro e w2 ⟨rfl, hb⟩
  have B2 := bt B1 (Lib.hid hb)
  have K2 := kt K1 (Lib.hid hb)
  clear hb CK K1
  go_upto_region 3 with fail
  have hc0 : w2.cell? ⟨g, 0, none⟩ = some (.int .i64 (y : Int)) := by rw [K2.out.cell]; rfl
  have hc2 : w2.cell? ⟨g, 2, none⟩ = some (.int .i64 (d : Int)) := by rw [K2.out.cell]; rfl
  have hlt : g < w2.drew.heap.size := K2.out.lt
  have hbd := B2.out.drew
  have q1 : IntKind.i64.wrap ((D : Int) + (d : Int)) = (D : Int) + (d : Int) := by rw [IntKind.wrap_i64]; omega
  have q2 : IntKind.i64.wrap ((D : Int) + (d : Int) - 1) = (D : Int) + (d : Int) - 1 := by rw [IntKind.wrap_i64]; omega
  go_region_held3 (fun W => W.cell? ⟨g, 0, none⟩ = some (.int .i64 (y : Int)) ∧ W.cell? ⟨g, 2, none⟩ = some (.int .i64 (d : Int)))
    (first | exact ⟨hc0, hc2⟩ | exact ⟨(hb1.cell (p := ⟨g, 0, none⟩) hlt).trans hc0, (hb1.cell (p := ⟨g, 2, none⟩) hlt).trans hc2⟩)
    (first | (go_at_call 36; refine (CB.out _).mono ?_; rintro e w3 ⟨rfl, hb1⟩))
  have B3 := Lib.hid (hbd.trans (hb1.mono hbd.size))
  have K3 : Hid (Bk w3 g 23 (tL y m d h mi s)) := Lib.hid ((show Bk w2.drew g 23 (tL y m d h mi s) from K2.out).below hb1 hlt)
  have E3 : Hid (Env w3) := Lib.hid (HE.out.below B3.out)
  obtain ⟨N0, hN0⟩ : ∃ N0, D + d - 1 = N0 := ⟨_, rfl⟩
  have HN0 : Hid ((D : Int) + (d : Int) - 1 = (N0 : Int)) := Lib.hid (by omega)
  have HZ0 := Lib.hid hN0
  have hN0l : N0 ≤ 3700100 := by omega
  clear hN0
  clear hc0 hc2 hlt hbd q1 q2 B2 K2 B1 hb1
  go_upto_region 5 with fail
  rw [HN0.out]
  go_loopw [3, 4] (fun n i wr => ∃ q : Nat, 1 ≤ q ∧ q ≤ m ∧ n = .int .i64 ((N0 + msT y (q - 1) : Nat) : Int) ∧ i = .int .i64 (q : Int) ∧ Below w3.heap.size w3 wr) (fun _ i _ => m - (intOf i).toNat)
  case atStart => exact ⟨1, Nat.le_refl _, hm0, rfl, rfl, Below.refl _ _⟩
  case round =>
    obtain ⟨q, hq1, hqm, rfl, rfl, hbr⟩ := hrel
    have K4 := kt K3 (Lib.hid hbr)
    have E4 := et E3 (Lib.hid hbr)
    have B4 := bt B3 (Lib.hid hbr)
    have BR := Lib.hid hbr
    clear hbr
    have hml := msT_le y (q - 1)
    have c0 : wr.cell? ⟨g, 0, none⟩ = some (.int .i64 (y : Int)) := by rw [K4.out.cell]; rfl
    have c1 : wr.cell? ⟨g, 1, none⟩ = some (.int .i64 (m : Int)) := by rw [K4.out.cell]; rfl
    obtain ⟨N, hN⟩ : ∃ N, N0 + msT y (q - 1) = N := ⟨_, rfl⟩
    rw [hN]
    have hNl : N ≤ 3702000 := by omega
    by_cases hlt : q < m
    · have CD := Lib.hid (days_any y q (by unfold I64; omega) wr E4.out)
      have hz := dyT_le y q
      have HZ : Hid (N0 + msT y (q + 1 - 1) = N + dyT y q) := Lib.hid (by
        rw [← hN, Nat.add_sub_cancel]
        obtain ⟨p, rfl⟩ : ∃ p, q = p + 1 := ⟨q - 1, by omega⟩
        rw [Nat.add_sub_cancel]
        show _ + (msT y p + dyT y ((p : Int) + 1)) = _
        rw [Int.natCast_add]
        show _ + (_ + _) = _ + _ + dyT y ((p : Int) + 1)
        omega)
      generalize dyT y q = Z at *
      have q3 : IntKind.i64.wrap ((N : Int) + (Z : Int)) = (N : Int) + (Z : Int) := by rw [IntKind.wrap_i64]; omega
      have hlti : (q : Int) < (m : Int) := by omega
      clear hN hml
      go_wp2_with fail
      refine CD.out.mono ?_
      rintro e w4 ⟨rfl, rfl⟩
      go_wp2_with fail
      exact ⟨⟨q + 1, by omega, by omega, by rw [HZ.out]; go_num, by go_num, BR.out⟩, by simp [intOf]; omega⟩
    · obtain rfl : q = m := by omega
      have c2 : wr.cell? ⟨g, 3, none⟩ = some (.int .i64 (h : Int)) := by rw [K4.out.cell]; rfl
      have c3 : wr.cell? ⟨g, 4, none⟩ = some (.int .i64 (mi : Int)) := by rw [K4.out.cell]; rfl
      have c4 : wr.cell? ⟨g, 5, none⟩ = some (.int .i64 (s : Int)) := by rw [K4.out.cell]; rfl
      have HF : Hid ((N : Int) * 86400 + (h : Int) * 3600 + (mi : Int) * 60 + (s : Int) = (R : Int)) := Lib.hid (by rw [← HR.out, ← hN, ← HZ0.out, ← HD.out]; unfold ssT; omega)
      have q1 : IntKind.i64.wrap ((N : Int) * 86400) = (N : Int) * 86400 := by rw [IntKind.wrap_i64]; omega
      have q2 : IntKind.i64.wrap ((h : Int) * 3600) = (h : Int) * 3600 := by rw [IntKind.wrap_i64]; omega
      have q3 : IntKind.i64.wrap ((N : Int) * 86400 + (h : Int) * 3600) = (N : Int) * 86400 + (h : Int) * 3600 := by rw [IntKind.wrap_i64]; omega
      have q4 : IntKind.i64.wrap ((mi : Int) * 60) = (mi : Int) * 60 := by rw [IntKind.wrap_i64]; omega
      have q5 : IntKind.i64.wrap ((N : Int) * 86400 + (h : Int) * 3600 + (mi : Int) * 60) = (N : Int) * 86400 + (h : Int) * 3600 + (mi : Int) * 60 := by rw [IntKind.wrap_i64]; omega
      have q6 : IntKind.i64.wrap ((N : Int) * 86400 + (h : Int) * 3600 + (mi : Int) * 60 + (s : Int)) = (N : Int) * 86400 + (h : Int) * 3600 + (mi : Int) * 60 + (s : Int) := by rw [IntKind.wrap_i64]; omega
      clear hN hml hlt
      go_wp2_with fail
      go_ret
      exact ⟨by rw [← HF.out]; rfl, B4.out⟩
end Go.Proofs.YtecmgkmonehmfaaDoor.Tim
