/-
  Package bitstrings: contracts of Element, Of, Octets, OfOctets.
  Conditions: slices read as bytes, and are not longer than a million.
-/
import Derived.Test.YtnebjdgolbnkfaaBitE
namespace Go.Proofs.Ytnebjdgolbnkfaa.Bit
open Go.RowKit

@[reducible] def elZ : List Value := [.int .u8 0, .bool false, .int .u32 0, .slice none 0 0, .slice none 0 0]
/-- An element with octets is returned, and no error. -/
def GiveE (w : World) (num : Nat) (l : List Nat) (e : Ending) (w' : World) : Prop :=
  ∃ A N, l.length = N ∧ e = .returned (.tuple #[elV 0 num false (.slice A N N) (.slice none 0 0), .int .i64 0]) ∧ Rb w' A l ∧ Below w.heap.size w w'
/-- No element is returned, and an error. -/
def GiveEE (w : World) (f : Nat) (e : Ending) (w' : World) : Prop :=
  e = .returned (.tuple #[elV 0 0 false (.slice none 0 0) (.slice none 0 0), .int .i64 (f : Int)]) ∧ Below w.heap.size w w'

set_option maxRecDepth 100000 in
set_option maxHeartbeats 2000000 in
theorem element_bad (A : Option Addr) (l : List Nat) (N c : Nat) (n : Int) (w : World) (h : Rb w A l) (hN : l.length = N) (hm : N ≤ 1000000) (hc : N ≤ c) (hn1 : -9223372036854775808 ≤ n) (hn2 : n < 9223372036854775808) (hf : chkB l n ≠ 0) :
    Calls Try.prog 15 #[.slice A N c, .int .i64 n] w (GiveEE w (chkB l n)) := by
  have hk := Bk.new w 40 elZ
  have HB0 := Lib.hid (bel1 w (.cells elZ.toArray 40))
  have HP := Lib.hid (put_any A l N c n (w.alloc (.cells elZ.toArray 40)) (h.below HB0.out) hN hm hc hn1 hn2)
  have e1 : ptB l n = [] := by unfold ptB; rw [if_neg hf]
  rw [e1] at HP
  obtain ⟨f, hfe⟩ : ∃ f, chkB l n = f := ⟨_, rfl⟩
  rw [hfe] at hf HP ⊢
  have hb : ((f : Int) != 0) = true := by simp; omega
  clear h hN hf e1 hfe
  go_enter Try.func15, Try.ntmps15
  go_wp2_with fail
  refine HP.out.mono ?_
  rintro e w1 ⟨A1, N1, hl, rfl, hr, hb1, hq⟩
  obtain rfl : 0 = N1 := hl
  have hk1 := hk.below hb1 hk.lt
  have HB1 := bt HB0 (Lib.hid hb1)
  obtain ⟨c0, c1, c2, c3, c4, hsz⟩ := Bk.five hk1
  obtain ⟨f0, f1, f2, f3, f4⟩ := Bk.free5 hk1
  have HK := Lib.hid (((((hk1.store 0 (.int .u8 0)).store 1 (.bool false)).store 2 (.int .u32 0)).store 3 (.slice none 0 0)).store 4 (.slice none 0 0))
  clear hk hk1 hb1 hr hq HP
  go_wp2_with fail
  obtain ⟨s0, s1, s2, s3, s4, _⟩ := Bk.five HK.out
  have hl := Nat.le_refl w.heap.size
  exact bodyPost_ret (v := .tuple #[elV 0 0 false (.slice none 0 0) (.slice none 0 0), .int .i64 (f : Int)]) (by simp [results, Try.results15, go_sem, s0, s1, s2, s3, s4]) rfl
    ⟨rfl, ((((HB1.out.setCell (p := ⟨w.heap.size, 0, none⟩) hl _).setCell (p := ⟨w.heap.size, 1, none⟩) hl _).setCell (p := ⟨w.heap.size, 2, none⟩) hl _).setCell (p := ⟨w.heap.size, 3, none⟩) hl _).setCell (p := ⟨w.heap.size, 4, none⟩) hl _⟩

set_option maxRecDepth 100000 in
set_option maxHeartbeats 2000000 in
theorem element_ok (A : Option Addr) (l : List Nat) (N c : Nat) (n : Int) (w : World) (h : Rb w A l) (hN : l.length = N) (hm : N ≤ 1000000) (hc : N ≤ c) (hn1 : -9223372036854775808 ≤ n) (hn2 : n < 9223372036854775808) (hf : chkB l n = 0) :
    Calls Try.prog 15 #[.slice A N c, .int .i64 n] w (GiveE w 3 (ptB l n)) := by
  have hk := Bk.new w 40 elZ
  have HB0 := Lib.hid (bel1 w (.cells elZ.toArray 40))
  have HP := Lib.hid (put_any A l N c n (w.alloc (.cells elZ.toArray 40)) (h.below HB0.out) hN hm hc hn1 hn2)
  generalize ptB l n = P at *
  rw [hf] at HP
  clear h hN hf
  go_enter Try.func15, Try.ntmps15
  go_wp2_with fail
  refine HP.out.mono ?_
  rintro e w1 ⟨A1, N1, hl, rfl, hr, hb1, hq⟩
  have hk1 := hk.below hb1 hk.lt
  have HB1 := bt HB0 (Lib.hid hb1)
  have HR := Lib.hid hr
  have HL := Lib.hid hl
  have HQ := Lib.hid (fun q (e : A1 = some q) => (by have h1 := hq q e; have h2 : w.heap.size + 1 ≤ q.block := by simpa using h1
                                                     omega : q.block ≠ w.heap.size))
  clear hb1 hr hk hq hl HP
  go_wp2_with fail
  refine (tag_any 3 w1).mono ?_
  rintro e w2 ⟨rfl, hb⟩
  have hk2 := hk1.below hb hk1.lt
  obtain ⟨c0, c1, c2, c3, c4, hsz⟩ := Bk.five hk2
  obtain ⟨f0, f1, f2, f3, f4⟩ := Bk.free5 hk2
  have HB2 := bt HB1 (Lib.hid hb)
  have HR2 := Lib.hid (HR.out.below hb)
  have HK := Lib.hid (((((hk2.store 0 (.int .u8 0)).store 1 (.bool false)).store 2 (.int .u32 3)).store 3 (.slice A1 N1 N1)).store 4 (.slice none 0 0))
  clear hb hk1 hk2
  go_wp2_with fail
  obtain ⟨s0, s1, s2, s3, s4, _⟩ := Bk.five HK.out
  have hl := Nat.le_refl w.heap.size
  exact bodyPost_ret (v := .tuple #[elV 0 3 false (.slice A1 N1 N1) (.slice none 0 0), .int .i64 0]) (by simp [results, Try.results15, go_sem, s0, s1, s2, s3, s4]) rfl
    ⟨A1, N1, HL.out, rfl, ((((HR2.out.far HQ.out _).far HQ.out _).far HQ.out _).far HQ.out _).far HQ.out _, ((((HB2.out.setCell (p := ⟨w.heap.size, 0, none⟩) hl _).setCell (p := ⟨w.heap.size, 1, none⟩) hl _).setCell (p := ⟨w.heap.size, 2, none⟩) hl _).setCell (p := ⟨w.heap.size, 3, none⟩) hl _).setCell (p := ⟨w.heap.size, 4, none⟩) hl _⟩

set_option maxRecDepth 100000 in
set_option maxHeartbeats 2000000 in
theorem octets_bad (A : Option Addr) (N c : Nat) (w : World) (hN : N ≤ 1000000) (h : 65536 < N) :
    Calls Try.prog 27 #[.slice A N c] w (GiveEE w 3) := by
  have hk := Bk.new w 40 elZ
  have HB0 := Lib.hid (bel1 w (.cells elZ.toArray 40))
  have hd : (65536 : Int) < (N : Int) := by omega
  obtain ⟨c0, c1, c2, c3, c4, hsz⟩ := Bk.five hk
  obtain ⟨f0, f1, f2, f3, f4⟩ := Bk.free5 hk
  clear hk h
  go_enter Try.func27, Try.ntmps27
  go_wp2_with fail
  exact bodyPost_ret (v := .tuple #[elV 0 0 false (.slice none 0 0) (.slice none 0 0), .int .i64 3]) (by simp [results, Try.results27, go_sem]) rfl ⟨rfl, HB0.out⟩

set_option maxRecDepth 100000 in
set_option maxHeartbeats 2000000 in
theorem octets_ok (A : Option Addr) (l : List Nat) (N c : Nat) (w : World) (h : Rb w A l) (hN : l.length = N) (hm : N ≤ 65536) :
    Calls Try.prog 27 #[.slice A N c] w (GiveE w 4 l) := by
  have hk := Bk.new w 40 elZ
  have HB0 := Lib.hid (bel1 w (.cells elZ.toArray 40))
  have HC := Lib.hid (fun w1 (hb : Below (w.alloc (.cells elZ.toArray 40)).heap.size (w.alloc (.cells elZ.toArray 40)) w1) => copied_any A l N c w1 ((h.below HB0.out).below hb) hN (by omega))
  have hd : ¬ (65536 : Int) < (N : Int) := by omega
  clear h hN hm
  go_enter Try.func27, Try.ntmps27
  go_wp2_with fail
  refine (tag_any 4 _).mono ?_
  rintro e w1 ⟨rfl, hb⟩
  have hk1 := hk.below hb hk.lt
  have HCC := Lib.hid (HC.out w1 hb)
  have HB1 := bt HB0 (Lib.hid hb)
  clear hb hk HC
  go_wp2_with fail
  refine HCC.out.mono ?_
  rintro e w2 ⟨g, rfl, hr, hl, hb, hg⟩
  have hk2 := hk1.below hb hk1.lt
  have HR := Lib.hid hr
  have HL := Lib.hid hl
  have HG := Lib.hid (show ∀ q, some (⟨g, 0, none⟩ : Addr) = some q → q.block ≠ w.heap.size from fun q e => by injection e with e; subst e; have := hk1.lt; show g ≠ w.heap.size; omega)
  have HB2 := bt HB1 (Lib.hid hb)
  obtain ⟨c0, c1, c2, c3, c4, hsz⟩ := Bk.five hk2
  obtain ⟨f0, f1, f2, f3, f4⟩ := Bk.free5 hk2
  have HK := Lib.hid (((((hk2.store 0 (.int .u8 0)).store 1 (.bool false)).store 2 (.int .u32 4)).store 3 (.slice (some ⟨g, 0, none⟩) N N)).store 4 (.slice none 0 0))
  clear hb hk1 hk2 hr hl hg HCC
  go_wp2_with fail
  obtain ⟨s0, s1, s2, s3, s4, _⟩ := Bk.five HK.out
  have hl := Nat.le_refl w.heap.size
  exact bodyPost_ret (v := .tuple #[elV 0 4 false (.slice (some ⟨g, 0, none⟩) N N) (.slice none 0 0), .int .i64 0]) (by simp [results, Try.results27, go_sem, s0, s1, s2, s3, s4]) rfl
    ⟨_, N, HL.out, rfl, ((((HR.out.far HG.out _).far HG.out _).far HG.out _).far HG.out _).far HG.out _, ((((HB2.out.setCell (p := ⟨w.heap.size, 0, none⟩) hl _).setCell (p := ⟨w.heap.size, 1, none⟩) hl _).setCell (p := ⟨w.heap.size, 2, none⟩) hl _).setCell (p := ⟨w.heap.size, 3, none⟩) hl _).setCell (p := ⟨w.heap.size, 4, none⟩) hl _⟩

/-! What Of gives. -/
def ofB (c n : Nat) (k : Bool) (S : Nat) (l : List Nat) : List Nat := if wrg c n k S 3 = 0 then gtB l else []
def ofK (c n : Nat) (k : Bool) (S : Nat) (l : List Nat) : Nat := if wrg c n k S 3 = 0 then gtK l else 0
def ofE (c n : Nat) (k : Bool) (S : Nat) (l : List Nat) : Nat := if wrg c n k S 3 = 0 then gtE l else wrg c n k S 3
def ooB (c n : Nat) (k : Bool) (S : Nat) (l : List Nat) : List Nat := if wrg c n k S 4 = 0 then (if 65536 < l.length then [] else l) else []
def ooE (c n : Nat) (k : Bool) (S : Nat) (l : List Nat) : Nat := if wrg c n k S 4 = 0 then (if 65536 < l.length then 3 else 0) else wrg c n k S 4
theorem box5 (w : World) (c n : Nat) (k : Bool) (u v : Value) : Bk (w.alloc (.cells #[.int .u8 (c : Int), .bool k, .int .u32 (n : Int), u, v] 40)) w.heap.size 40 [.int .u8 (c : Int), .bool k, .int .u32 (n : Int), u, v] := Bk.new w _ _

set_option maxRecDepth 100000 in
set_option maxHeartbeats 2000000 in
theorem of_any (c n : Nat) (k : Bool) (A B : Option Addr) (l : List Nat) (L ca S cb : Nat) (w : World) (h : Rb w A l) (hL : l.length = L) (hm : L ≤ 1000000) (hca : L ≤ ca) :
    Calls Try.prog 16 #[elV c n k (.slice A L ca) (.slice B S cb)] w (GiveG w (ofB c n k S l) (ofK c n k S l) (ofE c n k S l)) := by
  have hbk := box5 w c n k (.slice A L ca) (.slice B S cb)
  have HB0 := Lib.hid (bel1 w (.cells #[.int .u8 (c : Int), .bool k, .int .u32 (n : Int), .slice A L ca, .slice B S cb] 40))
  have HP := Lib.hid (prim_any c n k A B L ca S cb 3 (w.alloc (.cells #[.int .u8 (c : Int), .bool k, .int .u32 (n : Int), .slice A L ca, .slice B S cb] 40)))
  have HG := Lib.hid (fun w1 (hb : Below (w.alloc (.cells #[.int .u8 (c : Int), .bool k, .int .u32 (n : Int), .slice A L ca, .slice B S cb] 40)).heap.size (w.alloc (.cells #[.int .u8 (c : Int), .bool k, .int .u32 (n : Int), .slice A L ca, .slice B S cb] 40)) w1) => get_any A l L ca w1 ((h.below HB0.out).below hb) hL hm hca)
  obtain ⟨c0, c1, c2, c3, c4, hsz⟩ := Bk.five hbk
  have HBK := Lib.hid hbk
  clear hbk h hL
  by_cases hf : wrg c n k S 3 = 0
  · have e1 : ofB c n k S l = gtB l := if_pos hf
    have e2 : ofK c n k S l = gtK l := if_pos hf
    have e3 : ofE c n k S l = gtE l := if_pos hf
    rw [e1, e2, e3]
    rw [hf] at HP
    clear hf e1 e2 e3
    generalize gtB l = G at *
    generalize gtK l = K at *
    generalize gtE l = E at *
    go_enter Try.func16, Try.ntmps16
    go_wp2_with fail
    refine HP.out.mono ?_
    rintro e w1 ⟨rfl, hb⟩
    have HGG := Lib.hid (HG.out w1 hb)
    obtain ⟨d0, d1, d2, d3, d4, hsz1⟩ := Bk.five (HBK.out.below hb HBK.out.lt)
    have HB1 := bt HB0 (Lib.hid hb)
    clear hb HG c0 c1 c2 c3 c4
    go_wp2_with fail
    refine HGG.out.mono ?_
    rintro e w2 ⟨A1, N1, hl, rfl, hr, hb, hq⟩
    have HL := Lib.hid hl
    have HR := Lib.hid hr
    have HQ := Lib.hid (fun q (e : A1 = some q) => Nat.le_trans HB1.out.size (hq q e))
    have HB2 := bt HB1 (Lib.hid hb)
    clear hl hr hq hb HGG
    go_wp2_with fail
    go_ret3
    exact ⟨_, _, HL.out, rfl, HR.out, HB2.out, HQ.out⟩
  · have e1 : ofB c n k S l = [] := if_neg hf
    have e2 : ofK c n k S l = 0 := if_neg hf
    have e3 : ofE c n k S l = wrg c n k S 3 := if_neg hf
    rw [e1, e2, e3]
    clear e1 e2 e3 HG
    generalize wrg c n k S 3 = f at *
    have hb : ((f : Int) != 0) = true := by simp; omega
    clear hf
    go_enter Try.func16, Try.ntmps16
    go_wp2_with fail
    refine HP.out.mono ?_
    rintro e w1 ⟨rfl, hb⟩
    have HB1 := bt HB0 (Lib.hid hb)
    clear hb
    go_wp2_with fail
    go_ret3
    exact ⟨none, 0, rfl, rfl, Rb.nil, HB1.out, fun q e => by cases e⟩

set_option maxRecDepth 100000 in
set_option maxHeartbeats 2000000 in
theorem ofoct_any (c n : Nat) (k : Bool) (A B : Option Addr) (l : List Nat) (L ca S cb : Nat) (w : World) (h : Rb w A l) (hL : l.length = L) (hm : L ≤ 1000000) (_hca : L ≤ ca) :
    Calls Try.prog 26 #[elV c n k (.slice A L ca) (.slice B S cb)] w (GiveF w (ooB c n k S l) (ooE c n k S l)) := by
  have hbk := box5 w c n k (.slice A L ca) (.slice B S cb)
  have HB0 := Lib.hid (bel1 w (.cells #[.int .u8 (c : Int), .bool k, .int .u32 (n : Int), .slice A L ca, .slice B S cb] 40))
  have HP := Lib.hid (prim_any c n k A B L ca S cb 4 (w.alloc (.cells #[.int .u8 (c : Int), .bool k, .int .u32 (n : Int), .slice A L ca, .slice B S cb] 40)))
  have HG := Lib.hid (fun w1 (hb : Below (w.alloc (.cells #[.int .u8 (c : Int), .bool k, .int .u32 (n : Int), .slice A L ca, .slice B S cb] 40)).heap.size (w.alloc (.cells #[.int .u8 (c : Int), .bool k, .int .u32 (n : Int), .slice A L ca, .slice B S cb] 40)) w1) => copied_any A l L ca w1 ((h.below HB0.out).below hb) hL hm)
  obtain ⟨c0, c1, c2, c3, c4, hsz⟩ := Bk.five hbk
  have HBK := Lib.hid hbk
  have e1 : ooB c n k S l = if wrg c n k S 4 = 0 then (if 65536 < L then [] else l) else [] := by unfold ooB; rw [hL]
  have e2 : ooE c n k S l = if wrg c n k S 4 = 0 then (if 65536 < L then 3 else 0) else wrg c n k S 4 := by unfold ooE; rw [hL]
  rw [e1, e2]
  clear hbk h hL e1 e2
  by_cases hf : wrg c n k S 4 = 0
  · rw [hf]
    rw [hf] at HP
    rw [if_pos rfl, if_pos rfl]
    clear hf
    by_cases hb : 65536 < L
    · rw [if_pos hb, if_pos hb]
      have hb' : (65536 : Int) < (L : Int) := by omega
      clear hb HG
      go_enter Try.func26, Try.ntmps26
      go_wp2_with fail
      refine HP.out.mono ?_
      rintro e w1 ⟨rfl, hb⟩
      obtain ⟨d0, d1, d2, d3, d4, hsz1⟩ := Bk.five (HBK.out.below hb HBK.out.lt)
      have HB1 := bt HB0 (Lib.hid hb)
      clear hb c0 c1 c2 c3 c4
      go_wp2_with fail
      go_ret2
      exact ⟨none, 0, rfl, rfl, Rb.nil, HB1.out, fun q e => by cases e⟩
    · rw [if_neg hb, if_neg hb]
      have hb' : ¬ (65536 : Int) < (L : Int) := by omega
      clear hb
      go_enter Try.func26, Try.ntmps26
      go_wp2_with fail
      refine HP.out.mono ?_
      rintro e w1 ⟨rfl, hb⟩
      have HGG := Lib.hid (HG.out w1 hb)
      obtain ⟨d0, d1, d2, d3, d4, hsz1⟩ := Bk.five (HBK.out.below hb HBK.out.lt)
      have HB1 := bt HB0 (Lib.hid hb)
      clear hb HG c0 c1 c2 c3 c4
      go_wp2_with fail
      refine HGG.out.mono ?_
      rintro e w2 ⟨g, rfl, hr, hl, hb, hg⟩
      have HL := Lib.hid hl
      have HR := Lib.hid hr
      have HQ := Lib.hid (Nat.le_trans HB1.out.size hg)
      have HB2 := bt HB1 (Lib.hid hb)
      clear hl hr hg hb HGG
      go_wp2_with fail
      go_ret2
      exact ⟨_, _, HL.out, rfl, HR.out, HB2.out, fun q e => by injection e with e; subst e; exact HQ.out⟩
  · rw [if_neg hf, if_neg hf]
    clear HG
    generalize wrg c n k S 4 = f at *
    have hb : ((f : Int) != 0) = true := by simp; omega
    clear hf
    go_enter Try.func26, Try.ntmps26
    go_wp2_with fail
    refine HP.out.mono ?_
    rintro e w1 ⟨rfl, hb⟩
    have HB1 := bt HB0 (Lib.hid hb)
    clear hb
    go_wp2_with fail
    go_ret2
    exact ⟨none, 0, rfl, rfl, Rb.nil, HB1.out, fun q e => by cases e⟩
end Go.Proofs.Ytnebjdgolbnkfaa.Bit
