/-
  Layer 12: the law's T.Of: codes made into a SEQUENCE.
  Conditions: none beyond that the codes are bytes.
-/
import Derived.Test.YtfbdeefeagednaaFlZ
namespace Go.Proofs.Ytfbdeefeagednaa.Fl
open Go.RowKit

/-- The Subs that codes tell. -/
def tofS (code : List Nat) : List El := (bldL code 41 0 2).1
def tofE (code : List Nat) : El := .mk 0 16 true [] (tofS code)
theorem tofS_len (code : List Nat) : (tofS code).length ≤ 40 := by
  have h1 := len_bld code 41 0 2
  have h2 := (bldL_le code 41 0 2).2 (by omega)
  unfold tofS; omega
set_option maxHeartbeats 1000000 in
set_option maxRecDepth 100000 in
theorem tof_any (code : List Nat) (A : Option Addr) (n c : Nat) (hn : code.length = n) (hnm : n ≤ maxLen) (w : World) (hA : Rb w A code) :
    Calls Try.prog 48 #[.agg #[.slice A n c]] w fun e w' => ∃ B m cb, e = .returned (elV 0 16 true (.slice none 0 0) (.slice B m cb)) ∧ (tofS code).length = m ∧ m ≤ cb ∧ cb ≤ maxLen ∧ RdS false (fun j => w.heap.size ≤ j ∧ j < w'.heap.size) w' B (tofS code) ∧ Below w.heap.size w w' := by
  obtain ⟨p, hp⟩ : ∃ p, bldL code 41 0 2 = p := ⟨_, rfl⟩
  obtain ⟨es, a'⟩ := p
  have htS : tofS code = es := by unfold tofS; rw [hp]
  rw [htS]
  obtain ⟨w1, hw1⟩ : ∃ v, w.alloc (.cells #[.slice A n c] 66) = v := ⟨_, rfl⟩
  obtain ⟨w2, hw2⟩ : ∃ v, w1.alloc (.cells #[.int .u8 0, .bool false, .int .u32 0, .slice none 0 0, .slice none 0 0] 29) = v := ⟨_, rfl⟩
  obtain ⟨g, hg⟩ : ∃ g, w.heap.size = g := ⟨_, rfl⟩
  have b1 : Below w.heap.size w w1 := by rw [← hw1]; exact bel1 _ _
  have b2 : Below w1.heap.size w1 w2 := by rw [← hw2]; exact bel1 _ _
  have z1 : w1.heap.size = g + 1 := by rw [← hw1, World.size_alloc, hg]
  have k1 : Bk w1 g 66 [.slice A n c] := by rw [← hw1, ← hg]; exact Bk.new w _ [_]
  have k2 : Bk w2 (g + 1) 29 [.int .u8 0, .bool false, .int .u32 0, .slice none 0 0, .slice none 0 0] := by rw [← hw2, ← z1]; exact Bk.new w1 _ [_, _, _, _, _]
  have K1 := kt (Lib.hid k1) (Lib.hid b2)
  have K2 := Lib.hid k2
  have B2 := bt (Lib.hid b1) (Lib.hid b2)
  have c0 : w2.cell? ⟨g, 0, none⟩ = some (.slice A n c) := K1.out.cell 0
  have HC := Lib.hid (build_any code A n c hn hnm 41 0 2 w2 (by omega) (by omega) (by omega) (by omega) (hA.below B2.out) es a' hp)
  rw [← hw1] at hw2
  have HW := Lib.hid hw2
  have HG := Lib.hid hg
  have HGW : Hid (g + 1 < w2.heap.size) := Lib.hid k2.lt
  clear hw1 hw2 hg b1 b2 z1 k1 k2 hn hnm hA hp htS
  go_enter Try.func48, Try.ntmps48
  go_upto_region 1 with fail
  rw [HW.out, HG.out]
  go_wp2_with fail
  refine HC.out.mono ?_
  rintro e w3 ⟨v, cs, S, rfl, hP, hb3⟩
  obtain ⟨B, cb, rfl, hl, hc, hrs⟩ := Pl.subs hP
  have K3 := kt K2 (Lib.hid hb3)
  have B3 := bt B2 (Lib.hid hb3)
  have HRS := Lib.hid hrs
  have HL := Lib.hid (And.intro hl hc)
  clear hb3 hP hrs hl hc c0 HC
  obtain ⟨m, hm⟩ : ∃ m, es.length = m := ⟨_, rfl⟩
  have HM := Lib.hid hm
  rw [hm] at HL ⊢
  clear hm
  go_wp2_with fail
  refine (tag_any 0 0 16 true _ (by decide) rfl).mono ?_
  rintro e w4 ⟨rfl, hb4⟩
  have K4 := kt K3 (Lib.hid hb4)
  have B4 := bt B3 (Lib.hid hb4)
  have HRS4 := Lib.hid (HRS.out.stay hb4)
  have HZ4 : Hid (w3.heap.size ≤ w4.heap.size) := Lib.hid hb4.size
  clear hb4
  go_wp2_with (refine storeE rfl _ _ rfl rfl rfl K4.out rfl rfl rfl rfl rfl ?_; intro w5 h5 h6)
  refine retE rfl rfl h5.out rfl ⟨B, m, cb, rfl, HM.out, HL.out.1, HL.out.2, ?_, B4.out.trans (only_below h6.out (by have := HG.out; omega) B4.out.size)⟩
  have h6' := h6.out
  exact RdS.keep h6'.size (fun k hS hk => h6'.block k hk (fun e => by injection e with e; have := HGW.out; omega)) (fun k hS _ => by have := HG.out; have := HGW.out; have := h6'.size; have := HZ4.out; omega) _ _ HRS4.out
/-- A tree's value, of its parts. -/
theorem rdE_parts {x : Bool} {S : Nat → Prop} {w : World} {c n : Nat} {k : Bool} {B : Option Addr} {ss : List El} {m cb : Nat} (hc : c < 256) (hn : n < 4294967296) (hl : ss.length = m) (hm : m ≤ cb) (hcb : cb ≤ maxLen) (hx : x = true → cb = m) (h : RdS x S w B ss) : RdE x S w (.mk c n k [] ss) (elV c n k (.slice none 0 0) (.slice B m cb)) := by
  subst hl
  exact ⟨hc, hn, fun y hy => by simp at hy, none, 0, B, cb, rfl, RdX.nil, Nat.le_refl _, Nat.zero_le _, hm, hcb, fun e => ⟨rfl, hx e⟩, h⟩
end Go.Proofs.Ytfbdeefeagednaa.Fl
