/-
  Layer 4: the contract of the decoder's method element.
  Conditions: none.
-/
import Derived.Test.YtgdjgahmnnjeeaaElT
import Derived.Test.YtgdjgahmnnjeeaaElS
namespace Go.Proofs.Ytgdjgahmnnjeeaa
open Go.RowKit

theorem nxB_size {sub : List Nat → Nat → Nxs} {c n : Nat} {k : Bool} {l : List Nat} {h m b : Nat} {e : El} {z b' : Nat} (hh : h ≤ l.length) (hr : nxB sub c n k l h m b = .ok e z b') : z = h + m ∧ h + m ≤ l.length := by
  unfold nxB at hr
  split at hr
  · cases hr
  · rename_i h1
    rw [List.length_drop] at h1
    split at hr
    · injection hr with _ h2 _
      exact ⟨h2.symm, by omega⟩
    · revert hr
      split
      · intro hr; cases hr
      · intro hr; injection hr with _ h2 _
        exact ⟨h2.symm, by omega⟩
theorem nxE_size {f : Nat} {l : List Nat} {d b : Nat} {e : El} {z b' : Nat} (h8 : All8 l) (hr : nxE f l d b = .ok e z b') : 2 ≤ z ∧ z ≤ l.length := by
  cases f with
  | zero => cases hr
  | succ f =>
    rw [nxE] at hr
    unfold nxH at hr
    split at hr
    · cases hr
    · split at hr
      · cases hr
      · split at hr
        · cases hr
        · rename_i h1 _ h2
          obtain ⟨g1, g2, _⟩ := rdL_size l h8 (by omega)
          rcases hq : Len.getL (l.drop (rdL l).2.2.2.1) with ⟨m, s2, e2⟩
          rw [hq] at h2
          have h20 : e2 = 0 := by simpa using h2
          subst h20
          have g3 := Len.getL_ok (h8.drop _) hq
          have g4 := (Len.putL_len m).1
          rw [List.length_drop] at g3
          rw [hq] at hr
          obtain ⟨rfl, g5⟩ := nxB_size (by dsimp only; omega) hr
          dsimp only at g5 ⊢
          omega

/-- What the method gives. -/
def GiveX (D : Nat) (B : Value) (p : Nat) (w : World) : Nx → Ending → World → Prop
  | .err f a, e, w' => f ≠ 0 ∧ e = .panicked [fltP f (p + a)] ∧ Kp (· = D) w w'
  | .ok x z b', e, w' => ∃ u, e = .returned (.tuple #[u, .int .i64 ((p + z : Nat) : Int)]) ∧ RdE true (fun i => w.heap.size ≤ i) w' x u ∧ Bk w' D 86 [B, .int .i64 (b' : Int)] ∧ Kp (· = D) w w'

theorem nxE_nil (f d b : Nat) : nxE (f + 1) [] d b = .err 7 0 := rfl
theorem nxE_tag {f d b c n s e : Nat} {k : Bool} {l : List Nat} (h : rdL l = (c, n, k, s, e)) (he : e ≠ 0) : nxE (f + 1) l d b = .err e (if e = 7 then l.length else 0) := by
  rw [nxE, h, nxH, if_pos he]
theorem nxE_plc {f d b c n s : Nat} {k : Bool} {l : List Nat} (h : rdL l = (c, n, k, s, 0)) (hp : plcE d b ≠ 0) : nxE (f + 1) l d b = .err (plcE d b) 0 := by
  rw [nxE, h, nxH, if_neg (by simp), if_pos hp]
theorem nxE_len {f d b c n s m s2 e : Nat} {k : Bool} {l : List Nat} (h : rdL l = (c, n, k, s, 0)) (hp : plcE d b = 0) (hq : Len.getL (l.drop s) = (m, s2, e)) (he : e ≠ 0) : nxE (f + 1) l d b = .err e (if e = 7 then l.length else s) := by
  rw [nxE, h, nxH, if_neg (by simp), if_neg (by simp [hp]), hq, if_pos he]
theorem nxE_body {f d b c n s m s2 : Nat} {k : Bool} {l : List Nat} (h : rdL l = (c, n, k, s, 0)) (hp : plcE d b = 0) (hq : Len.getL (l.drop s) = (m, s2, 0)) :
    nxE (f + 1) l d b = nxB (fun l b => nxS (fun l b => nxE f l (d + 1) b) l.length l b) c n k l (s + s2) m (b + 1) := by
  rw [nxE, h, nxH, if_neg (by simp), if_neg (by simp [hp]), hq, if_neg (by simp)]

set_option maxHeartbeats 1000000 in
set_option maxRecDepth 100000 in
theorem elem_nil {ba off L cap D : Nat} (hLc : L ≤ cap) (hcm : cap ≤ maxLen) (f d b p : Nat) (w : World) (hpL : p ≤ L) (hBk : Bk w D 86 [.slice (some ⟨ba, off, none⟩) L cap, .int .i64 (b : Int)]) :
    Calls Try.prog 50 #[.pointer (some ⟨D, 0, none⟩), .int .i64 (p : Int), .int .i64 (p : Int), .int .i64 (d : Int)] w (GiveX D (.slice (some ⟨ba, off, none⟩) L cap) p w (nxE (f + 1) [] d b)) := by
  rw [nxE_nil]
  obtain ⟨w1, hw1⟩ : ∃ w1, w.alloc (.cells #[.int .u8 0, .bool false, .int .u32 0, .slice none 0 0, .slice none 0 0] 29) = w1 := ⟨_, rfl⟩
  have hb1 : Below w.heap.size w w1 := by rw [← hw1]; exact bel1 _ _
  have hD1 := hBk.below hb1 hBk.lt
  obtain ⟨d0, d1⟩ : w1.cell? ⟨D, 0, none⟩ = some (.slice (some ⟨ba, off, none⟩) L cap) ∧ w1.cell? ⟨D, 1, none⟩ = some (.int .i64 (b : Int)) := ⟨hD1.cell 0, hD1.cell 1⟩
  have HB1 := Lib.hid hb1
  have HG := Lib.hid fun A c w (h : c ≤ maxLen) => get_any A [] c w (Nat.zero_le _) h Rb.nil
  have hs2 : (p : Int) ≤ (cap : Int) := by omega
  have hpc : p ≤ cap := by omega
  clear hb1 hD1 hBk
  rcases Nat.lt_or_ge p cap with hlt | hge
  · have hc0 : cap - p ≤ maxLen := by omega
    go_enter Try.func50, Try.ntmps50
    go_wp2_with fail
    refine (HG.out _ _ _ hc0).mono ?_
    rintro e w2 ⟨rfl, hb⟩
    have HB2 := Lib.hid (HB1.out.trans (hb.mono HB1.out.size))
    clear hb d0 d1
    go_wp2_with fail
    refine (rread_yes 7 p p _ (by decide)).mono ?_
    rintro e w3 ⟨rfl, rfl⟩
    exact ⟨rfl, by decide, rfl, kp_below (HB2.out.alloc HB2.out.size _) _⟩
  · obtain rfl : p = cap := by omega
    go_enter Try.func50, Try.ntmps50
    go_wp2_with fail
    refine (HG.out _ _ _ (Nat.zero_le _)).mono ?_
    rintro e w2 ⟨rfl, hb⟩
    have HB2 := Lib.hid (HB1.out.trans (hb.mono HB1.out.size))
    clear hb d0 d1
    go_wp2_with fail
    refine (rread_yes 7 p p _ (by decide)).mono ?_
    rintro e w3 ⟨rfl, rfl⟩
    exact ⟨rfl, by decide, rfl, kp_below (HB2.out.alloc HB2.out.size _) _⟩

/-- What was found ahead, put before. -/
def cmb (acc : List El) (z : Nat) : Nxs → Nxs
  | .err f a => .err f (z + a)
  | .ok ss b => .ok (acc ++ ss) b
theorem nxS_nil (step : List Nat → Nat → Nx) (g b : Nat) : nxS step g [] b = .ok [] b := by cases g <;> rfl
theorem nxS_err {step : List Nat → Nat → Nx} {g b f a : Nat} {l : List Nat} (hl : l ≠ []) (h : step l b = .err f a) : nxS step (g + 1) l b = .err f a := by rw [nxS, if_neg hl, h]
theorem cmb_ok {step : List Nat → Nat → Nx} {g b b' z z2 : Nat} {x : El} {acc : List El} {con : List Nat} (hl : con.drop z ≠ []) (h : step (con.drop z) b = .ok x z2 b') :
    cmb acc z (nxS step (g + 1) (con.drop z) b) = cmb (acc ++ [x]) (z + z2) (nxS step g (con.drop (z + z2)) b') := by
  rw [nxS, if_neg hl, h]
  dsimp only
  rw [List.drop_drop]
  cases nxS step g (con.drop (z + z2)) b' with
  | err f a => simp [cmb, Nat.add_assoc]
  | ok ss b => simp [cmb]
/-- How far the decoder has come with the elements of a content. -/
def LpR (D T0 R b0 : Nat) (B : Value) (c n : Nat) (acc : List El) (b2 : Nat) (v : Value) (cs : List Value) (w : World) : Prop :=
  Bk w D 86 [B, .int .i64 (b2 : Int)] ∧ Bk w T0 25 [.int .u8 (c : Int), .bool true, .int .u32 (n : Int)] ∧ Bk w R 29 [.int .u8 0, .bool false, .int .u32 0, .slice none 0 0, .slice none 0 0] ∧
    w.ownsRow b0 29 5 v acc.length cs ∧ RowE true (fun i => b0 ≤ i ∧ v.ownBlock ≠ some i) w acc cs ∧ (D < b0 ∧ T0 < b0 ∧ R < b0 ∧ b0 ≤ w.heap.size ∧ T0 ≠ D ∧ R ≠ D)
section
variable {D T0 R b0 : Nat} {B : Value} {c n : Nat} {acc : List El} {b2 b3 : Nat} {v : Value} {cs : List Value} {w w' : World}
theorem LpR.keep (h : LpR D T0 R b0 B c n acc b2 v cs w) (hk : Kp (· = D) w w') (hD : Bk w' D 86 [B, .int .i64 (b3 : Int)]) : LpR D T0 R b0 B c n acc b3 v cs w' := by
  obtain ⟨h1, h2, h3, h4, h5, h6⟩ := h
  have hne : ∀ i, b0 ≤ i → i ≠ D := fun i hi e => by have := h6.1; omega
  exact ⟨hD, h2.kp hk h6.2.2.2.2.1, h3.kp hk h6.2.2.2.2.2, own_kept h4 fun g hg => hk.block g (h4.lt g hg).2 (hne g (h4.lt g hg).1), RowE.keep hk.size (fun i hi hl => hk.block i hl (hne i hi.1)) (fun _ hs _ => hs) h5, h6.1, h6.2.1, h6.2.2.1, Nat.le_trans h6.2.2.2.1 hk.size, h6.2.2.2.2⟩
theorem lp_step (h : LpR D T0 R b0 B c n acc b2 v cs w) (hn : acc.length + 1 ≤ 1000000) {e : El} {u : Value} (hu : RdE true (fun i => b0 ≤ i ∧ v.ownBlock ≠ some i) w e u) :
    ∃ g cap w2, (Builtin.append_ #[27, 27] 27 #[v, .slice (some ⟨w.heap.size, 0, none⟩) 1 1]).run Try.prog (w.alloc (.cells u.cells 29)) = .ok (.slice (some ⟨g, 0, none⟩) (acc.length + 1) cap) w2 ∧
      LpR D T0 R b0 B c n (acc ++ [e]) b2 (.slice (some ⟨g, 0, none⟩) (acc.length + 1) cap) (cs ++ u.cells.toList) w2 ∧ Below b0 w w2 := by
  obtain ⟨h1, h2, h3, h4, h5, h6⟩ := h
  obtain ⟨g, cap, w2, hrun, ho, hr, hg, hBg, hglt, hor, hc1, hc2⟩ := row_app h4 h5 (fun i hs => hs.2) hu hn h6.2.2.2.1 _ rfl
  have hob : ∀ i, i < b0 → some i ≠ v.ownBlock := fun i hi e => by have := (h4.lt i e.symm).1; omega
  have hbl : Below b0 w w2 := ⟨hg.os, hg.tape, hg.output, hg.size, fun i hi => hg.block i (by have := h6.2.2.2.1; omega) (hob i hi)⟩
  exact ⟨g, cap, w2, hrun, ⟨h1.below hbl h6.1, h2.below hbl h6.2.1, h3.below hbl h6.2.2.1, ho, RowE.keep (Nat.le_refl _) (fun _ _ _ => rfl) (fun i hi _ => ⟨hi.1.1, fun e => by injection e with e; exact hi.2 e.symm⟩) hr, h6.1, h6.2.1, h6.2.2.1, Nat.le_trans h6.2.2.2.1 hg.size, h6.2.2.2.2⟩, hbl⟩
theorem kp_then {T : Nat → Prop} {w0 : World} (h : Kp T w0 w) (hb : Below w0.heap.size w w') : Kp T w0 w' :=
  ⟨hb.os.trans h.os, hb.tape.trans h.tape, hb.output.trans h.output, Nat.le_trans h.size hb.size, fun i hi hT => (hb.block i hi).trans (h.block i hi hT)⟩
end
theorem clipE_s (b n c : Nat) (w : World) (h : n ≤ c) (hc : c ≤ maxLen) : Calls Try.prog 68 #[.slice (some ⟨b, 0, none⟩) n c] w fun e w' => e = .returned (.slice (some ⟨b, 0, none⟩) n n) ∧ w' = w := (clipE b n c w h hc).mono fun _ _ h => ⟨h.1, h.2.symm⟩
theorem clipE_nil_s (w : World) : Calls Try.prog 68 #[.slice none 0 0] w fun e w' => e = .returned (.slice none 0 0) ∧ w' = w := (clipE_nil w).mono fun _ _ h => ⟨h.1, h.2.symm⟩
theorem lp_done {D T0 R b0 : Nat} {B : Value} {c n : Nat} {acc : List El} {b2 : Nat} {v : Value} {cs : List Value} {w : World} (h : LpR D T0 R b0 B c n acc b2 v cs w) (hc : c < 256) (hn : n < 4294967296) (hl : acc.length ≤ maxLen) {A : Option Addr} {cap : Nat} (hv : v = .slice A acc.length cap) :
    ∀ w' : World, (∀ i, i ≠ R → w'.heap[i]? = w.heap[i]?) → w.heap.size ≤ w'.heap.size → RdE true (fun i => b0 ≤ i) w' (.mk c n true [] acc) (elV c n true (.slice none 0 0) (.slice A acc.length acc.length)) := by
  intro w' hw hz
  obtain ⟨h1, h2, h3, h4, h5, h6⟩ := h
  refine ⟨hc, hn, All8.nil, none, 0, A, _, rfl, RdX.nil, Nat.le_refl _, Nat.zero_le _, Nat.le_refl _, hl, fun _ => ⟨rfl, rfl⟩, ?_⟩
  rcases h4.2 with ⟨hv0, hn0⟩ | ⟨g, cap', cur, hv2, hg, hh, r⟩
  · have : acc = [] := List.eq_nil_of_length_eq_zero hn0
    subst this
    trivial
  · rw [hv2] at hv
    injection hv with e1 e2 e3
    subst e1
    have hlt := h4.lt g (by rw [hv2]; rfl)
    refine RowE.rds (S := fun i => b0 ≤ i ∧ v.ownBlock ≠ some i) (Nat.lt_of_lt_of_le hlt.2 hz) hlt.1 (fun i hi => hi.1) (RowE.keep hz (fun i hi _ => hw i (by rintro rfl; have := hi.1; omega)) (fun i hi _ => hi) h5) fun j u hu => ?_
    have hcell := h4.cells (g := g) (by rw [hv2]; rfl) j u hu
    rw [addr_add] at hcell
    rw [← hcell]
    exact World.cell?_of_block (hw g (by rintro rfl; omega))
theorem res_elem {tmps : Array Value} {W : World} {R : Nat} {a b d e f : Value} (h2 : tmps.getD 8 undef = .pointer (some ⟨R, 0, none⟩)) (hb : Bk W R 29 [a, b, d, e, f]) :
    (results Try.f50 tmps).run Try.prog W = .ok (.tuple #[.agg #[a, b, d, e, f], tmps.getD 9 undef]) W := by
  obtain ⟨e0, e1, e2, e3, e4, hz⟩ := hb.five
  have h2' : tmps[8]?.getD undef = .pointer (some ⟨R, 0, none⟩) := by simpa using h2
  simp only [results, Try.f50]
  simp [h2', go_sem, e0, e1, e2, e3, e4]
set_option maxHeartbeats 4000000 in
set_option maxRecDepth 100000 in
theorem elem_any {ba off L cap D : Nat} {lst : List Nat} (hL : lst.length = L) (hLc : L ≤ cap) (hcm : cap ≤ maxLen) (hL1 : L ≤ 1048576) (hbD : ba ≠ D) (f : Nat) : ∀ (d b p q : Nat) (w : World), d + f = 18 → p < q → q ≤ L → f ≠ 0 →
    Bk w D 86 [.slice (some ⟨ba, off, none⟩) L cap, .int .i64 (b : Int)] → Rb w (some ⟨ba, off, none⟩) lst →
    Calls Try.prog 50 #[.pointer (some ⟨D, 0, none⟩), .int .i64 (p : Int), .int .i64 (q : Int), .int .i64 (d : Int)] w (GiveX D (.slice (some ⟨ba, off, none⟩) L cap) p w (nxE f ((lst.take q).drop p) d b)) := by
  induction f with
  | zero => intro d b p q w _ _ _ h; exact absurd rfl h
  | succ f ih =>
    intro d b p q w hd hpq hqL _ hBk hRb
    obtain ⟨w1, hw1⟩ : ∃ w1, w.alloc (.cells #[.int .u8 0, .bool false, .int .u32 0, .slice none 0 0, .slice none 0 0] 29) = w1 := ⟨_, rfl⟩
    have hb1 : Below w.heap.size w w1 := by rw [← hw1]; exact bel1 _ _
    have hD1 := hBk.below hb1 hBk.lt
    have hR1 := hRb.below hb1
    have hRR : Bk w1 w.heap.size 29 [.int .u8 0, .bool false, .int .u32 0, .slice none 0 0, .slice none 0 0] := by rw [← hw1]; exact Bk.new w 29 [_, _, _, _, _]
    obtain ⟨l, hl⟩ : ∃ l, (lst.take q).drop p = l := ⟨_, rfl⟩
    have hll : l.length = q - p := by rw [← hl, List.length_drop, List.length_take]; omega
    have hRl : Rb w1 (some ⟨ba, off + p, none⟩) l := by rw [← hl]; exact (hR1.take_ q).drop_ p
    have hT := get_any (some ⟨ba, off + p, none⟩) l (cap - p) w1 (by omega) (by omega) hRl
    rw [hll] at hT
    rw [hl]
    have HT := Lib.hid hT
    have HRl := Lib.hid hRl
    obtain ⟨d0, d1⟩ : w1.cell? ⟨D, 0, none⟩ = some (.slice (some ⟨ba, off, none⟩) L cap) ∧ w1.cell? ⟨D, 1, none⟩ = some (.int .i64 (b : Int)) := ⟨hD1.cell 0, hD1.cell 1⟩
    have HD1 := Lib.hid hD1
    have HRR := Lib.hid hRR
    have HB1 := Lib.hid hb1
    have hqc : q ≤ cap := by omega
    have hpc : p ≤ cap := by omega
    have hs1 : (p : Int) ≤ (q : Int) := by omega
    have hpc1 : p < cap := by omega
    have hpq1 : p ≤ q := by omega
    have hs2 : (q : Int) ≤ (cap : Int) := by omega
    have hsq : ((q : Int) - (p : Int)).toNat = q - p := by omega
    have hsc : ((cap : Int) - (p : Int)).toNat = cap - p := by omega
    have HQ := Lib.hid (And.intro hqL hd)
    have HWD := Lib.hid (show D < w.heap.size from hBk.lt)
    have HLL := Lib.hid hll
    have HL2 := Lib.hid hl
    clear hT hRl hD1 hRR hb1 hBk hR1 hll hl
    have HRb := Lib.hid hRb
    clear hRb
    go_enter Try.func50, Try.ntmps50
    rcases hrd : rdL l with ⟨c, n, k, s, e1⟩
    have HRD := Lib.hid hrd
    rw [hrd] at HT
    clear hrd
    go_wp2_with fail
    refine HT.out.mono ?_
    rintro e w2 ⟨rfl, hb⟩
    have HB2 := Lib.hid (HB1.out.trans (hb.mono HB1.out.size))
    have hd2 := HD1.out.below hb HD1.out.lt
    have HRR2 := Lib.hid (HRR.out.below hb HRR.out.lt)
    have HRl2 := Lib.hid (HRl.out.below hb)
    clear hb d0 d1 HT HRR HRl HB1
    obtain ⟨d0, d1⟩ : w2.cell? ⟨D, 0, none⟩ = some (.slice (some ⟨ba, off, none⟩) L cap) ∧ w2.cell? ⟨D, 1, none⟩ = some (.int .i64 (b : Int)) := ⟨hd2.cell 0, hd2.cell 1⟩
    have hd3 := hd2.lt
    have HD2 := Lib.hid hd2
    clear hd2 HD1
    go_wp2_with fail
    obtain ⟨w3, hw3⟩ : ∃ w3, w2.alloc (.cells #[.int .u8 (c : Int), .bool k, .int .u32 (n : Int)] 25) = w3 := ⟨_, rfl⟩
    have hb3 : Below w2.heap.size w2 w3 := by rw [← hw3]; exact bel1 _ _
    have hT3 : Bk w3 w2.heap.size 25 [.int .u8 (c : Int), .bool k, .int .u32 (n : Int)] := by rw [← hw3]; exact Bk.new w2 25 [_, _, _]
    rw [hw3]
    have HB3 := Lib.hid (HB2.out.trans (hb3.mono HB2.out.size))
    have hd3' := HD2.out.below hb3 HD2.out.lt
    have HRR3 := Lib.hid (HRR2.out.below hb3 HRR2.out.lt)
    have HRl3 := Lib.hid (HRl2.out.below hb3)
    have HT3 := Lib.hid hT3
    have HN := Lib.hid (show D ≠ w2.heap.size ∧ w.heap.size < w2.heap.size ∧ D < w.heap.size from by
      have h1 := HRR2.out.lt
      have h2 := HWD.out
      omega)
    clear d0 d1 hb3 hT3 hw3 HD2 HB2 HRR2 HRl2 hd3
    obtain ⟨d0, d1⟩ : w3.cell? ⟨D, 0, none⟩ = some (.slice (some ⟨ba, off, none⟩) L cap) ∧ w3.cell? ⟨D, 1, none⟩ = some (.int .i64 (b : Int)) := ⟨hd3'.cell 0, hd3'.cell 1⟩
    have dfr := hd3'.free 1
    have HD3 := Lib.hid hd3'
    clear hd3'
    by_cases he1 : e1 = 0
    rotate_left
    · refine (rread_yes e1 p q _ he1).mono ?_
      rintro e w4 ⟨rfl, rfl⟩
      rw [nxE_tag HRD.out he1]
      refine ⟨rfl, he1, ?_, kp_below HB3.out _⟩
      rw [HLL.out]
      split
      · rw [show p + (q - p) = q by omega]
      · rw [Nat.add_zero]
    subst he1
    refine (rread_no (p : Int) (q : Int) _).mono ?_
    rintro e w4 ⟨rfl, rfl⟩
    go_wp2_with fail
    refine (place_any d b _).mono ?_
    rintro e w4 ⟨rfl, rfl⟩
    go_wp2_with fail
    by_cases hp0 : plcE d b = 0
    rotate_left
    · refine (raise_yes _ _ _ hp0).mono ?_
      rintro e w4 ⟨rfl, rfl⟩
      rw [nxE_plc HRD.out hp0]
      exact ⟨rfl, hp0, rfl, kp_below HB3.out _⟩
    have hdb : d ≤ 16 ∧ b < 8192 := by
      unfold plcE at hp0
      split at hp0
      · omega
      · split at hp0
        · omega
        · omega
    have HP0 := Lib.hid hp0
    rw [hp0]
    clear hp0
    refine (raise_no (p : Int) _).mono ?_
    rintro e w4 ⟨rfl, rfl⟩
    obtain ⟨hd16, hb82⟩ := hdb
    obtain ⟨g1, g2, g3, g4, g5⟩ := rdL_size l HRl3.out.2 (by rw [HRD.out])
    rw [HRD.out] at g1 g2 g3 g4 g5
    dsimp only at g1 g2 g3 g4 g5
    rw [HLL.out] at g2
    obtain ⟨p1, hp1⟩ : ∃ p1, p + s = p1 := ⟨_, rfl⟩
    obtain ⟨b1, hb1⟩ : ∃ b1, b + 1 = b1 := ⟨_, rfl⟩
    have hps : p1 ≤ q := by omega
    have hpsL : p1 ≤ 1048576 := by have := HQ.out.1; omega
    have hpsc : p1 ≤ cap := by omega
    have hpi : (p : Int) + (s : Int) = (p1 : Int) := by omega
    have hbi : (b : Int) + 1 = (b1 : Int) := by omega
    have HP1 := Lib.hid hp1
    have HBE := Lib.hid hb1
    have HG := Lib.hid (And.intro g1 (And.intro g3 (And.intro g4 g5)))
    clear g1 g2 g3 g4 g5
    obtain ⟨w4, hw4⟩ : ∃ w4, w3.setCell ⟨D, 1, none⟩ (.int .i64 (b1 : Int)) = w4 := ⟨_, rfl⟩
    have HD4 : Hid (Bk w4 D 86 [.slice (some ⟨ba, off, none⟩) L cap, .int .i64 (b1 : Int)]) := Lib.hid (by rw [← hw4]; exact HD3.out.store 1 _)
    have HT4 : Hid (Bk w4 w2.heap.size 25 [.int .u8 (c : Int), .bool k, .int .u32 (n : Int)]) := Lib.hid (by rw [← hw4]; exact HT3.out.far (p := ⟨D, 1, none⟩) (fun e => HN.out.1 e.symm) _)
    have HRR4 : Hid (Bk w4 w.heap.size 29 [.int .u8 0, .bool false, .int .u32 0, .slice none 0 0, .slice none 0 0]) := Lib.hid (by rw [← hw4]; exact HRR3.out.far (p := ⟨D, 1, none⟩) (by have := HN.out; dsimp only; omega) _)
    have HK4 : Hid (Kp (· = D) w w4) := Lib.hid (by rw [← hw4]; exact (kp_below HB3.out (· = D)).setCell (p := ⟨D, 1, none⟩) (.inl rfl) _)
    have HRl4 : Hid (Rb w4 (some ⟨ba, off + p, none⟩) l) := Lib.hid (by rw [← hw4]; exact HRl3.out.far (B := D) (fun q hq => by injection hq with hq; rw [← hq]; exact hbD) _)
    have HRb4 : Hid (Rb w4 (some ⟨ba, off, none⟩) lst) := Lib.hid (by rw [← hw4]; exact (HRb.out.below HB3.out).far (B := D) (fun q hq => by injection hq with hq; rw [← hq]; exact hbD) _)
    have HSZ := Lib.hid (show w2.heap.size < w4.heap.size from HT4.out.lt)
    obtain ⟨z0, z1⟩ : w4.cell? ⟨D, 0, none⟩ = some (.slice (some ⟨ba, off, none⟩) L cap) ∧ w4.cell? ⟨D, 1, none⟩ = some (.int .i64 (b1 : Int)) := ⟨HD4.out.cell 0, HD4.out.cell 1⟩
    clear HD3 HT3 HRR3 HRl3 HB3 hp1 hb1
    rcases Nat.lt_or_ge p1 cap with hlt | hge
    rotate_left
    · have HZ := Lib.hid (show q = cap ∧ l.drop s = [] ∧ L = cap from by
        have h1 := HQ.out.1
        have h2 := HLL.out
        have h3 := HP1.out
        exact ⟨by omega, List.drop_eq_nil_of_le (by omega), by omega⟩)
      obtain ⟨hz1, hn, hz2⟩ := HZ.out
      have hz3 : q = p1 := by omega
      clear HZ
      subst hz3
      subst hz1
      subst hz2
      have HG0 := Lib.hid (nxE_len (f := f) (e := 7) HRD.out HP0.out (by rw [hn]; rfl) (by decide))
      have HK := Lib.hid fun w => Len.get_any (some ⟨ba, off, none⟩) [] 0 w (Nat.le_refl _) Rb.nil
      clear hn
      go_wp2_with fail
      refine (HK.out _).mono ?_
      rintro e w5 ⟨rfl, hb⟩
      have HK5 := Lib.hid (HK4.out.trans (kp_below hb _))
      clear hb
      go_wp2_with fail
      refine (rread_yes 7 _ _ _ (by decide)).mono ?_
      rintro e w6 ⟨rfl, rfl⟩
      rw [HG0.out, if_pos rfl]
      refine ⟨rfl, by decide, ?_, HK5.out⟩
      rw [HLL.out, if_pos trivial, Nat.add_sub_cancel' (by omega)]
    have hsq1 : ((q : Int) - (p1 : Int)).toNat = q - p1 := by omega
    have hsc1 : ((cap : Int) - (p1 : Int)).toNat = cap - p1 := by omega
    have hs1' : (p1 : Int) ≤ (q : Int) := by omega
    have hle : (l.drop s).length = q - p1 := by rw [List.length_drop, HLL.out]; have := HP1.out; omega
    have hRd : Rb w4 (some ⟨ba, off + p1, none⟩) (l.drop s) := by
      have := HRl4.out.drop_ s
      rwa [Nat.add_assoc, HP1.out] at this
    have hK := Len.get_any (some ⟨ba, off + p1, none⟩) (l.drop s) (cap - p1) w4 (by rw [hle]; omega) hRd
    rw [hle] at hK
    rcases hgq : Len.getL (l.drop s) with ⟨m, s2, e2⟩
    rw [hgq] at hK
    have HK := Lib.hid hK
    have HGQ := Lib.hid hgq
    have HLE := Lib.hid hle
    clear hK hgq hle hRd
    go_wp2_with fail
    refine HK.out.mono ?_
    rintro e w5 ⟨rfl, hb⟩
    have HK5 := Lib.hid (HK4.out.trans (kp_below hb _))
    have HD5 := Lib.hid (HD4.out.below hb HD4.out.lt)
    have HT5 := Lib.hid (HT4.out.below hb HT4.out.lt)
    have HRR5 := Lib.hid (HRR4.out.below hb HRR4.out.lt)
    have HRb5 := Lib.hid (HRb4.out.below hb)
    have HRl5 := Lib.hid (HRl4.out.below hb)
    have HSZ5 := Lib.hid (Nat.lt_of_lt_of_le HSZ.out hb.size)
    clear hb HK HD4 HT4 HRR4 HRb4 HRl4 z0 z1 hw4 d0 d1 dfr
    obtain ⟨d0, d1⟩ : w5.cell? ⟨D, 0, none⟩ = some (.slice (some ⟨ba, off, none⟩) L cap) ∧ w5.cell? ⟨D, 1, none⟩ = some (.int .i64 (b1 : Int)) := ⟨HD5.out.cell 0, HD5.out.cell 1⟩
    obtain ⟨t0, t1, t2⟩ : w5.cell? ⟨w2.heap.size, 0, none⟩ = some (.int .u8 (c : Int)) ∧ w5.cell? ⟨w2.heap.size, 1, none⟩ = some (.bool k) ∧ w5.cell? ⟨w2.heap.size, 2, none⟩ = some (.int .u32 (n : Int)) := ⟨HT5.out.cell 0, HT5.out.cell 1, HT5.out.cell 2⟩
    go_wp2_with fail
    by_cases he2 : e2 = 0
    rotate_left
    · refine (rread_yes e2 p1 q _ he2).mono ?_
      rintro e w6 ⟨rfl, rfl⟩
      rw [nxE_len HRD.out HP0.out HGQ.out he2]
      refine ⟨rfl, he2, ?_, HK5.out⟩
      rw [HLL.out]
      split
      · rw [show p + (q - p) = q by omega]
      · rw [HP1.out]
    subst he2
    refine (rread_no (p1 : Int) (q : Int) _).mono ?_
    rintro e w6 ⟨rfl, rfl⟩
    obtain ⟨hm1, _, hs2, hs3⟩ := Len.getL_ok (HRl5.out.2.drop s) HGQ.out
    have hs4 := (Len.putL_len m).1
    rw [HLE.out] at hs2
    obtain ⟨p2, hp2⟩ : ∃ p2, p1 + s2 = p2 := ⟨_, rfl⟩
    have hp2q : p2 ≤ q := by omega
    have hp2L : p2 ≤ 1048576 := by have := HQ.out.1; omega
    have hp2i : (p1 : Int) + (s2 : Int) = (p2 : Int) := by omega
    have HP2 := Lib.hid hp2
    have HM := Lib.hid (And.intro hm1 (And.intro hs3 hs4))
    clear hm1 hs3 hs4 hp2
    by_cases hmq : q - p2 < m
    · have hmi : (q : Int) - (p2 : Int) < (m : Int) := by omega
      go_wp2_with fail
      refine (raise_yes 7 q _ (by decide)).mono ?_
      rintro e w6 ⟨rfl, rfl⟩
      rw [nxE_body HRD.out HP0.out HGQ.out, nxB, if_pos (by rw [List.length_drop, HLL.out]; have := HP1.out; have := HP2.out; omega)]
      refine ⟨rfl, by decide, ?_, HK5.out⟩
      rw [HLL.out, show p + (q - p) = q by omega]
    have hmi : ¬ ((q : Int) - (p2 : Int) < (m : Int)) := by omega
    obtain ⟨p3, hp3⟩ : ∃ p3, p2 + m = p3 := ⟨_, rfl⟩
    have hp3q : p3 ≤ q := by omega
    have hp3L : p3 ≤ 1048576 := by have := HQ.out.1; omega
    have hp3i : (p2 : Int) + (m : Int) = (p3 : Int) := by omega
    have HP3 := Lib.hid hp3
    clear hp3
    have HBO := Lib.hid (nxE_body (f := f) HRD.out HP0.out HGQ.out)
    cases k with
    | false =>
      have hcl : (l.drop (s + s2)).take m = ((lst.take q).drop p2).take m := by rw [← HL2.out, List.drop_drop, ← Nat.add_assoc, HP1.out, HP2.out]
      have hcm' : ((l.drop (s + s2)).take m).length = m := by rw [List.length_take, List.length_drop, HLL.out]; have := HP1.out; have := HP2.out; omega
      have hz : nxE (f + 1) l d b = .ok (.mk c n false ((l.drop (s + s2)).take m) []) (s + s2 + m) b1 := by
        rw [HBO.out, nxB, if_neg (by rw [List.length_drop, HLL.out]; have := HP1.out; have := HP2.out; omega), if_pos rfl, HBE.out]
      have hend : p + (s + s2 + m) = p3 := by have := HP1.out; have := HP2.out; have := HP3.out; omega
      have HZ := Lib.hid hz
      have hr3 : Rb w5 (if cap = p2 then some ⟨ba, off, none⟩ else some ⟨ba, off + p2, none⟩) ((l.drop (s + s2)).take m) := by
        split
        · have h0 : (l.drop (s + s2)).take m = [] := List.eq_nil_of_length_eq_zero (by rw [hcm']; have := HP3.out; have := HQ.out.1; omega)
          rw [h0]; exact Rb.nil
        · rw [hcl]; exact ((HRb5.out.take_ q).drop_ p2).take_ m
      have HCB := Lib.hid fun (W : World) (hb : Below w5.heap.size w5 W) => clone8_any _ _ (cap - p2) W (hr3.below hb) (by rw [hcm']; omega)
      rw [hcm'] at HCB
      have HCell : Hid (∀ W : World, Below w5.heap.size w5 W → W.cell? ⟨w2.heap.size, 0, none⟩ = some (.int .u8 (c : Int)) ∧ W.cell? ⟨w2.heap.size, 1, none⟩ = some (.bool false) ∧ W.cell? ⟨w2.heap.size, 2, none⟩ = some (.int .u32 (n : Int)) ∧ W.cell? ⟨D, 0, none⟩ = some (.slice (some ⟨ba, off, none⟩) L cap)) := Lib.hid fun W hb =>
        have h1 := HT5.out.below hb HT5.out.lt
        have h2 := HD5.out.below hb HD5.out.lt
        ⟨h1.cell 0, h1.cell 1, h1.cell 2, h2.cell 0⟩
      have hTRn : w2.heap.size ≠ w.heap.size := by have := HN.out; omega
      have hDRn : D ≠ w.heap.size := by have := HN.out; omega
      have HCellS : Hid (∀ (W : World) (a0 a1 a2 a3 a4 : Value), Below w5.heap.size w5 W → (((((W.setCell ⟨w.heap.size, 0, none⟩ a0).setCell ⟨w.heap.size, 1, none⟩ a1).setCell ⟨w.heap.size, 2, none⟩ a2).setCell ⟨w.heap.size, 3, none⟩ a3).setCell ⟨w.heap.size, 4, none⟩ a4).cell? ⟨w2.heap.size, 0, none⟩ = some (.int .u8 (c : Int)) ∧ (((((W.setCell ⟨w.heap.size, 0, none⟩ a0).setCell ⟨w.heap.size, 1, none⟩ a1).setCell ⟨w.heap.size, 2, none⟩ a2).setCell ⟨w.heap.size, 3, none⟩ a3).setCell ⟨w.heap.size, 4, none⟩ a4).cell? ⟨w2.heap.size, 1, none⟩ = some (.bool false) ∧ (((((W.setCell ⟨w.heap.size, 0, none⟩ a0).setCell ⟨w.heap.size, 1, none⟩ a1).setCell ⟨w.heap.size, 2, none⟩ a2).setCell ⟨w.heap.size, 3, none⟩ a3).setCell ⟨w.heap.size, 4, none⟩ a4).cell? ⟨w2.heap.size, 2, none⟩ = some (.int .u32 (n : Int)) ∧ (((((W.setCell ⟨w.heap.size, 0, none⟩ a0).setCell ⟨w.heap.size, 1, none⟩ a1).setCell ⟨w.heap.size, 2, none⟩ a2).setCell ⟨w.heap.size, 3, none⟩ a3).setCell ⟨w.heap.size, 4, none⟩ a4).cell? ⟨D, 0, none⟩ = some (.slice (some ⟨ba, off, none⟩) L cap)) := Lib.hid fun W a0 a1 a2 a3 a4 hb =>
        have h1 := ((((((HT5.out.below hb HT5.out.lt).far (p := ⟨w.heap.size, 0, none⟩) hTRn a0).far (p := ⟨w.heap.size, 1, none⟩) hTRn a1).far (p := ⟨w.heap.size, 2, none⟩) hTRn a2).far (p := ⟨w.heap.size, 3, none⟩) hTRn a3).far (p := ⟨w.heap.size, 4, none⟩) hTRn a4)
        have h2 := ((((((HD5.out.below hb HD5.out.lt).far (p := ⟨w.heap.size, 0, none⟩) hDRn a0).far (p := ⟨w.heap.size, 1, none⟩) hDRn a1).far (p := ⟨w.heap.size, 2, none⟩) hDRn a2).far (p := ⟨w.heap.size, 3, none⟩) hDRn a3).far (p := ⟨w.heap.size, 4, none⟩) hDRn a4)
        ⟨h1.cell 0, h1.cell 1, h1.cell 2, h2.cell 0⟩
      have hb0 := Below.refl w5.heap.size w5
      have HC8 := Lib.hid (All8.take (HRl5.out.2.drop (s + s2)) m)
      generalize (l.drop (s + s2)).take m = con at *
      have HCM := Lib.hid hcm'
      have HEN := Lib.hid hend
      have hsq3 : ((p3 : Int) - (p2 : Int)).toNat = m := by have := HP3.out; omega
      have hsn3 : p3 - p2 = m := by have := HP3.out; omega
      have hsc3 : ((cap : Int) - (p2 : Int)).toNat = cap - p2 := by omega
      have hp2c : p2 ≤ cap := by omega
      have hp3c : p3 ≤ cap := by have := HQ.out.1; omega
      have hp23 : p2 ≤ p3 := by have := HP3.out; omega
      have hp2c' : (p2 : Int) ≤ (cap : Int) := by omega
      have hp3c' : (p3 : Int) ≤ (cap : Int) := by omega
      have hp23' : (p2 : Int) ≤ (p3 : Int) := by omega
      clear hcl hcm' hz hend hr3 ih
      by_cases hcp : cap = p2
      rotate_left
      · rw [if_neg hcp] at HCB
        go_upto_region 13 with fail
        go_region_held3 (fun w' => w'.cell? ⟨w2.heap.size, 0, none⟩ = some (.int .u8 (c : Int)) ∧ w'.cell? ⟨w2.heap.size, 1, none⟩ = some (.bool false) ∧ w'.cell? ⟨w2.heap.size, 2, none⟩ = some (.int .u32 (n : Int)) ∧ w'.cell? ⟨D, 0, none⟩ = some (.slice (some ⟨ba, off, none⟩) L cap))
          (first | exact HCell.out _ hb0.drew | exact HCell.out _ d6 | exact HCellS.out _ _ _ _ _ _ d6)
          (first | (go_at_call 67; refine (HCB.out _ hb0.drew).mono ?_; rintro r w6 ⟨A6, rfl, hr6, hb6⟩; have d6 := hb0.drew.trans (hb6.mono hb0.drew.size); obtain ⟨r0, r1, r2, r3, r4, rz⟩ := (HRR5.out.below d6 HRR5.out.lt).five; obtain ⟨f0, f1, f2, f3, f4⟩ := (HRR5.out.below d6 HRR5.out.lt).free5))
        have hbkF := fun (a0 a1 a2 a3 a4 : Value) => ((((((HRR5.out.below d6 HRR5.out.lt).store 0 a0).store 1 a1).store 2 a2).store 3 a3).store 4 a4)
        go_wp2_with fail
        (try simp only [Exit.inBlock, Exit.then])
        refine bodyPost_ret (res_elem rfl (hbkF _ _ _ _ _)) rfl ?_
        rw [HZ.out]
        refine ⟨_, by rw [HEN.out]; rfl, ⟨HG.out.2.1, HG.out.2.2.1, HC8.out, A6, m, none, 0, by rw [HCM.out]; rfl, ?_, by rw [HCM.out]; exact Nat.le_refl _, by unfold maxLen; omega, Nat.le_refl _, Nat.zero_le _, fun _ => ⟨HCM.out.symm, rfl⟩, trivial⟩, ?_, ?_⟩
        · exact hr6.keep (by simp [World.setCell]) (fun i h1 _ => by
            have hne : i ≠ w.heap.size := by
              have h2 : w5.drew.heap.size ≤ i := h1
              have h3 := HRR5.out.lt
              have h4 : w5.drew.heap.size = w5.heap.size := rfl
              omega
            rw [Below.heap_setCell _ _ _ _ hne, Below.heap_setCell _ _ _ _ hne, Below.heap_setCell _ _ _ _ hne, Below.heap_setCell _ _ _ _ hne, Below.heap_setCell _ _ _ _ hne]) (fun i h1 _ => by
              have h2 : w5.drew.heap.size ≤ i := h1
              have h3 := HRR5.out.lt
              have h4 : w5.drew.heap.size = w5.heap.size := rfl
              show w.heap.size ≤ i
              omega)
        · have hne : D ≠ w.heap.size := by have := HN.out; omega
          exact (((((HD5.out.below d6 HD5.out.lt).far (p := ⟨w.heap.size, 0, none⟩) hne _).far (p := ⟨w.heap.size, 1, none⟩) hne _).far (p := ⟨w.heap.size, 2, none⟩) hne _).far (p := ⟨w.heap.size, 3, none⟩) hne _).far (p := ⟨w.heap.size, 4, none⟩) hne _
        · have h0 : (w.heap.size = D) ∨ w.heap.size ≤ w.heap.size := .inr (Nat.le_refl _)
          exact (((((HK5.out.trans (kp_below d6 _)).setCell (p := ⟨w.heap.size, 0, none⟩) h0 _).setCell (p := ⟨w.heap.size, 1, none⟩) h0 _).setCell (p := ⟨w.heap.size, 2, none⟩) h0 _).setCell (p := ⟨w.heap.size, 3, none⟩) h0 _).setCell (p := ⟨w.heap.size, 4, none⟩) h0 _
      · subst hcp
        rw [if_pos rfl, Nat.sub_self] at HCB
        go_upto_region 13 with fail
        go_region_held3 (fun w' => w'.cell? ⟨w2.heap.size, 0, none⟩ = some (.int .u8 (c : Int)) ∧ w'.cell? ⟨w2.heap.size, 1, none⟩ = some (.bool false) ∧ w'.cell? ⟨w2.heap.size, 2, none⟩ = some (.int .u32 (n : Int)) ∧ w'.cell? ⟨D, 0, none⟩ = some (.slice (some ⟨ba, off, none⟩) L cap))
          (first | exact HCell.out _ hb0.drew | exact HCell.out _ d6 | exact HCellS.out _ _ _ _ _ _ d6)
          (first | (go_at_call 67; refine (HCB.out _ hb0.drew).mono ?_; rintro r w6 ⟨A6, rfl, hr6, hb6⟩; have d6 := hb0.drew.trans (hb6.mono hb0.drew.size); obtain ⟨r0, r1, r2, r3, r4, rz⟩ := (HRR5.out.below d6 HRR5.out.lt).five; obtain ⟨f0, f1, f2, f3, f4⟩ := (HRR5.out.below d6 HRR5.out.lt).free5))
        have hbkF := fun (a0 a1 a2 a3 a4 : Value) => ((((((HRR5.out.below d6 HRR5.out.lt).store 0 a0).store 1 a1).store 2 a2).store 3 a3).store 4 a4)
        go_wp2_with fail
        (try simp only [Exit.inBlock, Exit.then])
        refine bodyPost_ret (res_elem rfl (hbkF _ _ _ _ _)) rfl ?_
        rw [HZ.out]
        refine ⟨_, by rw [HEN.out]; rfl, ⟨HG.out.2.1, HG.out.2.2.1, HC8.out, A6, m, none, 0, by rw [HCM.out]; rfl, ?_, by rw [HCM.out]; exact Nat.le_refl _, by unfold maxLen; omega, Nat.le_refl _, Nat.zero_le _, fun _ => ⟨HCM.out.symm, rfl⟩, trivial⟩, ?_, ?_⟩
        · exact hr6.keep (by simp [World.setCell]) (fun i h1 _ => by
            have hne : i ≠ w.heap.size := by
              have h2 : w5.drew.heap.size ≤ i := h1
              have h3 := HRR5.out.lt
              have h4 : w5.drew.heap.size = w5.heap.size := rfl
              omega
            rw [Below.heap_setCell _ _ _ _ hne, Below.heap_setCell _ _ _ _ hne, Below.heap_setCell _ _ _ _ hne, Below.heap_setCell _ _ _ _ hne, Below.heap_setCell _ _ _ _ hne]) (fun i h1 _ => by
              have h2 : w5.drew.heap.size ≤ i := h1
              have h3 := HRR5.out.lt
              have h4 : w5.drew.heap.size = w5.heap.size := rfl
              show w.heap.size ≤ i
              omega)
        · have hne : D ≠ w.heap.size := by have := HN.out; omega
          exact (((((HD5.out.below d6 HD5.out.lt).far (p := ⟨w.heap.size, 0, none⟩) hne _).far (p := ⟨w.heap.size, 1, none⟩) hne _).far (p := ⟨w.heap.size, 2, none⟩) hne _).far (p := ⟨w.heap.size, 3, none⟩) hne _).far (p := ⟨w.heap.size, 4, none⟩) hne _
        · have h0 : (w.heap.size = D) ∨ w.heap.size ≤ w.heap.size := .inr (Nat.le_refl _)
          exact (((((HK5.out.trans (kp_below d6 _)).setCell (p := ⟨w.heap.size, 0, none⟩) h0 _).setCell (p := ⟨w.heap.size, 1, none⟩) h0 _).setCell (p := ⟨w.heap.size, 2, none⟩) h0 _).setCell (p := ⟨w.heap.size, 3, none⟩) h0 _).setCell (p := ⟨w.heap.size, 4, none⟩) h0 _
    | true =>
      have hcl : (l.drop (s + s2)).take m = (lst.take p3).drop p2 := by
        rw [← HL2.out, List.drop_drop, ← Nat.add_assoc, HP1.out, HP2.out, List.drop_take, List.drop_take, List.take_take]
        congr 1
        have := HP3.out
        omega
      have hcm' : ((l.drop (s + s2)).take m).length = m := by rw [List.length_take, List.length_drop, HLL.out]; have := HP1.out; have := HP2.out; omega
      have hz : nxE (f + 1) l d b = match nxS (fun l b => nxE f l (d + 1) b) ((l.drop (s + s2)).take m).length ((l.drop (s + s2)).take m) b1 with
          | .err f a => .err f (s + s2 + a)
          | .ok ss b' => .ok (.mk c n true [] ss) (s + s2 + m) b' := by
        rw [HBO.out, nxB, if_neg (by rw [List.length_drop, HLL.out]; have := HP1.out; have := HP2.out; omega), if_neg (by decide), HBE.out]
        generalize nxS _ _ _ _ = r
        cases r <;> rfl
      have hc8 := All8.take (HRl5.out.2.drop (s + s2)) m
      generalize (l.drop (s + s2)).take m = con at *
      have hst : p + (s + s2) = p2 := by have := HP1.out; have := HP2.out; omega
      have HST := Lib.hid hst
      have HZ := Lib.hid hz
      have HCL := Lib.hid hcl
      have HCM := Lib.hid hcm'
      have HC8 := Lib.hid hc8
      have hf0 : f ≠ 0 := by have := HQ.out.2; omega
      have HIH := Lib.hid fun b p w h1 => ih (d + 1) b p p3 w (by have := HQ.out.2; omega) h1 (by have := HQ.out.1; omega) hf0
      have HL0 : Hid (LpR D w2.heap.size w.heap.size w5.heap.size (.slice (some ⟨ba, off, none⟩) L cap) c n [] b1 (.slice none 0 0) [] w5) := Lib.hid
        ⟨HD5.out, HT5.out, HRR5.out, World.ownsRow_nil w5 _ _ _, rfl, HD5.out.lt, HT5.out.lt, HRR5.out.lt, Nat.le_refl _, fun e => HN.out.1 e.symm, by have := HN.out; omega⟩
      clear hst hz hcl hcm' hc8 ih hf0
      go_wp2_with fail
      go_loopw [1, 14, 15] (fun a v _ wr => ∃ (p4 z : Nat) (acc : List El) (g b2 : Nat) (cs : List Value), z ≤ m ∧ a = .int .i64 (p4 : Int) ∧ p2 + z = p4 ∧ m - z ≤ g ∧ 2 * acc.length ≤ z ∧
          nxS (fun l b => nxE f l (d + 1) b) con.length con b1 = cmb acc z (nxS (fun l b => nxE f l (d + 1) b) g (con.drop z) b2) ∧ LpR D w2.heap.size w.heap.size w5.heap.size (.slice (some ⟨ba, off, none⟩) L cap) c n acc b2 v cs wr ∧ Kp (· = D) w5 wr) (fun a _ _ _ => p3 - (intOf a).toNat)
      case atStart =>
        exact ⟨p2, 0, [], con.length, b1, [], Nat.zero_le _, rfl, rfl, by rw [HCM.out]; omega, Nat.le_refl _, by rw [List.drop_zero]; cases nxS (fun l b => nxE f l (d + 1) b) con.length con b1 <;> simp [cmb], HL0.out, Kp.refl _ _⟩
      case round =>
        obtain ⟨p4, z, acc, g, b2, cs, hzm, rfl, hp4, hg, hacc, hV, hLp, hkp⟩ := hrel
        have HP4 := Lib.hid hp4
        have HV := Lib.hid hV
        have HLp := Lib.hid hLp
        have HKP := Lib.hid hkp
        have HGA := Lib.hid (And.intro hg hacc)
        clear hV hLp hkp hg hacc d0 d1 t0 t1 t2
        have hpz : p4 ≤ 1048576 := by have := HP3.out; omega
        clear hp4
        by_cases hlt : z < m
        · have hlt' : (p4 : Int) < (p3 : Int) := by have := HP3.out; have := HP4.out; omega
          have hbG := bel1 wr (.cells #[.int .u8 0, .bool false, .int .u32 0, .slice none 0 0, .slice none 0 0] 29)
          have hkG := Bk.new wr 29 [.int .u8 0, .bool false, .int .u32 0, .slice none 0 0, .slice none 0 0]
          obtain ⟨w6, hw6⟩ : ∃ w6, wr.alloc (.cells #[.int .u8 0, .bool false, .int .u32 0, .slice none 0 0, .slice none 0 0] 29) = w6 := ⟨_, rfl⟩
          rw [hw6] at hbG
          have hkG : Bk w6 wr.heap.size 29 [.int .u8 0, .bool false, .int .u32 0, .slice none 0 0, .slice none 0 0] := by rw [← hw6]; exact hkG
          have hD6 := HLp.out.1.below hbG HLp.out.1.lt
          have hRb6 : Rb w6 (some ⟨ba, off, none⟩) lst := by
            have hk := HKP.out.trans (kp_below hbG (· = D))
            exact ⟨rd_kp HRb5.out.1 hk (by intro q hq _; injection hq with hq; rw [← hq]; exact hbD), HRb5.out.2⟩
          have hc := HIH.out b2 p4 w6 (by omega) hD6 hRb6
          rw [← HP4.out, ← List.drop_drop, ← HCL.out, HP4.out] at hc
          rw [show ((d + 1 : Nat) : Int) = (d : Int) + 1 from rfl] at hc
          have hne : con.drop z ≠ [] := by intro e; have h1 : (con.drop z).length = 0 := by rw [e]; rfl
                                           rw [List.length_drop, HCM.out] at h1; omega
          have hdI : (d : Int) + 1 ≤ 9223372036854775807 := by omega
          have HKG := Lib.hid hkG
          have HBG := Lib.hid hbG
          have HNE := Lib.hid hne
          clear hkG hbG hD6 hRb6 hne
          rcases hnx : nxE f (con.drop z) (d + 1) b2 with ⟨fe, a⟩ | ⟨x, z2, b3⟩
          · rw [hnx] at hc
            have HC := Lib.hid hc
            have HNX := Lib.hid hnx
            clear hc hnx
            go_wp2_with fail
            refine HC.out.mono ?_
            rintro e w7 ⟨hfe, rfl, hk⟩
            obtain ⟨g0, rfl⟩ : ∃ g0, g = g0 + 1 := ⟨g - 1, by have := HGA.out.1; omega⟩
            have hfin : nxE (f + 1) l d b = .err fe (s + s2 + (z + a)) := by
              rw [HZ.out, HV.out, nxS_err HNE.out HNX.out]
              rfl
            refine ⟨rfl, ?_⟩
            show GiveX _ _ _ _ _ _ _
            rw [hfin]
            exact ⟨hfe, by rw [show p4 + a = p + (s + s2 + (z + a)) by have := HST.out; have := HP4.out; omega], ((HK5.out.trans HKP.out).trans (kp_below HBG.out _)).trans hk⟩
          · rw [hnx] at hc
            have HC := Lib.hid hc
            have HNX := Lib.hid hnx
            clear hc hnx
            go_wp2_with fail
            refine HC.out.mono ?_
            rintro e w7 ⟨u, rfl, hu, hbk, hk⟩
            obtain ⟨c5, n5, k5, A5, l5, q5, A6, l6, q6, rfl⟩ := hu.form
            obtain ⟨g0, rfl⟩ : ∃ g0, g = g0 + 1 := ⟨g - 1, by have := HGA.out.1; omega⟩
            obtain ⟨hz2, hz2l⟩ := nxE_size (HC8.out.drop z) HNX.out
            rw [List.length_drop, HCM.out] at hz2l
            have hV2 := HV.out.trans (cmb_ok HNE.out HNX.out)
            have hDlt := HLp.out.1.lt
            have hGD : wr.heap.size ≠ D := by omega
            have hkG := HKG.out.kp hk hGD
            obtain ⟨w8, hw8⟩ : ∃ w8, ((((w7.setCell ⟨wr.heap.size, 0, none⟩ (.int .u8 (c5 : Int))).setCell ⟨wr.heap.size, 1, none⟩ (.bool k5)).setCell ⟨wr.heap.size, 2, none⟩ (.int .u32 (n5 : Int))).setCell ⟨wr.heap.size, 3, none⟩ (.slice A5 l5 q5)).setCell ⟨wr.heap.size, 4, none⟩ (.slice A6 l6 q6) = w8 := ⟨_, rfl⟩
            have hk8 : Kp (· = D) wr w8 := by
              have h0 : (wr.heap.size = D) ∨ wr.heap.size ≤ wr.heap.size := .inr (Nat.le_refl _)
              rw [← hw8]
              exact ((((((kp_below HBG.out _).trans hk).setCell (p := ⟨wr.heap.size, 0, none⟩) h0 _).setCell (p := ⟨wr.heap.size, 1, none⟩) h0 _).setCell (p := ⟨wr.heap.size, 2, none⟩) h0 _).setCell (p := ⟨wr.heap.size, 3, none⟩) h0 _).setCell (p := ⟨wr.heap.size, 4, none⟩) h0 _
            have hD8 : Bk w8 D 86 [.slice (some ⟨ba, off, none⟩) L cap, .int .i64 (b3 : Int)] := by
              have hne : D ≠ wr.heap.size := fun e => hGD e.symm
              rw [← hw8]
              exact ((((hbk.far (p := ⟨wr.heap.size, 0, none⟩) hne _).far (p := ⟨wr.heap.size, 1, none⟩) hne _).far (p := ⟨wr.heap.size, 2, none⟩) hne _).far (p := ⟨wr.heap.size, 3, none⟩) hne _).far (p := ⟨wr.heap.size, 4, none⟩) hne _
            have hG8 : Bk w8 wr.heap.size 29 [.int .u8 (c5 : Int), .bool k5, .int .u32 (n5 : Int), .slice A5 l5 q5, .slice A6 l6 q6] := by
              rw [← hw8]
              exact ((((hkG.store 0 _).store 1 _).store 2 _).store 3 _).store 4 _
            have hlp8 := HLp.out.keep hk8 hD8
            have hsz6 : w6.heap.size = wr.heap.size + 1 := by rw [← hw6]; simp
            have hu8 : RdE true (fun i => w5.heap.size ≤ i ∧ u14.ownBlock ≠ some i) w8 x (elV c5 n5 k5 (.slice A5 l5 q5) (.slice A6 l6 q6)) := by
              refine RdE.keep (w := w7) ?_ (fun i hi _ => ?_) (fun i hi _ => ?_) _ _ hu
              · rw [← hw8]; simp [World.setCell]
              · have h1 : w6.heap.size ≤ i := hi
                have hne : i ≠ wr.heap.size := by omega
                rw [← hw8, Below.heap_setCell _ _ _ _ hne, Below.heap_setCell _ _ _ _ hne, Below.heap_setCell _ _ _ _ hne, Below.heap_setCell _ _ _ _ hne, Below.heap_setCell _ _ _ _ hne]
              · have h1 : w6.heap.size ≤ i := hi
                refine ⟨by have := HKP.out.size; omega, fun e => ?_⟩
                have := (HLp.out.2.2.2.1.lt i e).2
                omega
            obtain ⟨gb, gc, w9, hrun, hlp9, hb9⟩ := lp_step hlp8 (by have := HGA.out.2; have := HM.out.1; omega) hu8
            have hrun : (Builtin.append_ #[27, 27] 27 #[u14, .slice (some ⟨w8.heap.size, 0, none⟩) 1 1]).run Try.prog (w8.alloc (.cells #[.int .u8 (c5 : Int), .bool k5, .int .u32 (n5 : Int), .slice A5 l5 q5, .slice A6 l6 q6] 29)) = .ok (.slice (some ⟨gb, 0, none⟩) (acc.length + 1) gc) w9 := hrun
            have HRUN := Lib.hid hrun
            have HLP9 := Lib.hid hlp9
            have HK9 := Lib.hid (kp_then (HKP.out.trans hk8) hb9)
            have HV2 := Lib.hid hV2
            have HZ2 := Lib.hid (And.intro hz2 hz2l)
            obtain ⟨p5, hp5⟩ : ∃ p5, p4 + z2 = p5 := ⟨_, rfl⟩
            rw [hp5]
            have HP5 := Lib.hid hp5
            obtain ⟨m0, m1, m2, m3, m4, mz⟩ := hkG.five
            obtain ⟨f0, f1, f2, f3, f4⟩ := hkG.free5
            obtain ⟨y0, y1, y2, y3, y4, yz⟩ := hG8.five
            have hacl : (acc ++ [x]).length = acc.length + 1 := by simp
            have HAL := Lib.hid hacl
            clear hacl hp5 hV2 hz2 hz2l hrun hlp9 hb9 hu8 hlp8 hG8 hD8 hk8 hkG hGD hDlt hu hbk hk hw6 hsz6
            go_wp2_with (at_builtin; refine Len.wpList_app (o := ⟨some 108, _, _, _, _, _⟩) rfl _ _ _ _ rfl _ _ rfl rfl HRUN.out ?_)
            refine ⟨⟨p5, z + z2, acc ++ [x], g0, b3, _, ?_, rfl, ?_, ?_, ?_, HV2.out, HLP9.out, HK9.out⟩, ?_⟩
            · have := HZ2.out; omega
            · have := HP4.out; have := HP5.out; omega
            · have := HGA.out.1; have := HZ2.out; omega
            · rw [HAL.out]; have := HGA.out.2; have := HZ2.out; omega
            · have := HZ2.out; have := HP5.out; simp [intOf]; omega
        · have hzm2 : z = m := by omega
          have hfin : nxE (f + 1) l d b = .ok (.mk c n true [] acc) (s + s2 + m) b2 := by
            rw [HZ.out, HV.out, List.drop_eq_nil_of_le (by rw [HCM.out]; omega), nxS_nil, cmb, List.append_nil]
          have hp43 : ¬ (p4 : Int) < (p3 : Int) := by have := HP3.out; have := HP4.out; omega
          have hend : p + (s + s2 + m) = p3 := by have := HP3.out; have := HST.out; omega
          have HF := Lib.hid hfin
          have HEN := Lib.hid hend
          obtain ⟨t0, t1, t2⟩ : wr.cell? ⟨w2.heap.size, 0, none⟩ = some (.int .u8 (c : Int)) ∧ wr.cell? ⟨w2.heap.size, 1, none⟩ = some (.bool true) ∧ wr.cell? ⟨w2.heap.size, 2, none⟩ = some (.int .u32 (n : Int)) := ⟨HLp.out.2.1.cell 0, HLp.out.2.1.cell 1, HLp.out.2.1.cell 2⟩
          obtain ⟨r0, r1, r2, r3, r4, rz⟩ := HLp.out.2.2.1.five
          obtain ⟨f0, f1, f2, f3, f4⟩ := HLp.out.2.2.1.free5
          have hv : (∃ gb gc, u14 = .slice (some ⟨gb, 0, none⟩) acc.length gc ∧ acc.length ≤ gc ∧ gc ≤ maxLen) ∨ (u14 = .slice none 0 0 ∧ acc.length = 0) := by
            rcases HLp.out.2.2.2.1.2 with h | ⟨g', cap', cur, h, _, _, hle, hm, _⟩
            · exact .inr h
            · exact .inl ⟨g', cap', h, hle, hm⟩
          rcases hv with ⟨gb, gc, rfl, hc1, hc2⟩ | ⟨rfl, h0⟩
          · have HC := Lib.hid fun w => clipE_s gb acc.length gc w hc1 hc2
            have HLEN := Lib.hid (Nat.le_trans hc1 hc2)
            clear hc1 hc2
            clear hfin hend rz hzm2
            go_upto_region 19 with fail
            clear hp43
            refine wp_region_held_drew (S := fun w' => w'.cell? ⟨w2.heap.size, 0, none⟩ = some (.int .u8 (c : Int)) ∧ w'.cell? ⟨w2.heap.size, 1, none⟩ = some (.bool true) ∧ w'.cell? ⟨w2.heap.size, 2, none⟩ = some (.int .u32 (n : Int))) (by kernel_rfl) ⟨t0, t1, t2⟩ (fun hS => ?_)
            obtain ⟨wd, hwd⟩ : ∃ wd, wr.drew = wd := ⟨_, rfl⟩
            have HLd : Hid (LpR D w2.heap.size w.heap.size w5.heap.size (.slice (some ⟨ba, off, none⟩) L cap) c n acc b2 (.slice (some ⟨gb, 0, none⟩) acc.length gc) cs wd) := Lib.hid (by rw [← hwd]; exact HLp.out.keep (Kp.refl _ _).drew HLp.out.1)
            have HKd : Hid (Kp (· = D) w wd) := Lib.hid (by rw [← hwd]; exact (HK5.out.trans HKP.out).drew)
            rw [hwd] at hS ⊢
            have hRd := HLd.out.2.2.1
            obtain ⟨q0, q1, q2, q3, q4, qz⟩ := hRd.five
            obtain ⟨g0, g1, g2, g3, g4⟩ := hRd.free5
            have HRF := Lib.hid ((((((hRd.store 0 (.int .u8 (c : Int))).store 1 (.bool true)).store 2 (.int .u32 (n : Int))).store 3 (.slice none 0 0)).store 4 (.slice (some ⟨gb, 0, none⟩) acc.length acc.length)))
            have HFin := Lib.hid (lp_done HLd.out HG.out.2.1 HG.out.2.2.1 HLEN.out rfl)
            have HSZ9 := Lib.hid (Nat.le_trans (Nat.le_of_lt HLd.out.2.2.2.2.2.2.2.1) (Nat.le_refl w5.heap.size))
            have hDR : w.heap.size ≠ D := by have := HN.out; omega
            have HDF := Lib.hid (((((HLd.out.1.far (p := ⟨w.heap.size, 0, none⟩) hDR.symm (.int .u8 (c : Int))).far (p := ⟨w.heap.size, 1, none⟩) hDR.symm (.bool true)).far (p := ⟨w.heap.size, 2, none⟩) hDR.symm (.int .u32 (n : Int))).far (p := ⟨w.heap.size, 3, none⟩) hDR.symm (.slice none 0 0)).far (p := ⟨w.heap.size, 4, none⟩) hDR.symm (.slice (some ⟨gb, 0, none⟩) acc.length acc.length))
            have h0 : (w.heap.size = D) ∨ w.heap.size ≤ w.heap.size := .inr (Nat.le_refl _)
            have HKF := Lib.hid (((((HKd.out.setCell (p := ⟨w.heap.size, 0, none⟩) h0 (.int .u8 (c : Int))).setCell (p := ⟨w.heap.size, 1, none⟩) h0 (.bool true)).setCell (p := ⟨w.heap.size, 2, none⟩) h0 (.int .u32 (n : Int))).setCell (p := ⟨w.heap.size, 3, none⟩) h0 (.slice none 0 0)).setCell (p := ⟨w.heap.size, 4, none⟩) h0 (.slice (some ⟨gb, 0, none⟩) acc.length acc.length))
            have HHp := Lib.hid (show ∀ i, i ≠ w.heap.size → (((((wd.setCell ⟨w.heap.size, 0, none⟩ (.int .u8 (c : Int))).setCell ⟨w.heap.size, 1, none⟩ (.bool true)).setCell ⟨w.heap.size, 2, none⟩ (.int .u32 (n : Int))).setCell ⟨w.heap.size, 3, none⟩ (.slice none 0 0)).setCell ⟨w.heap.size, 4, none⟩ (.slice (some ⟨gb, 0, none⟩) acc.length acc.length)).heap[i]? = wd.heap[i]? from fun i hi => by
              rw [Below.heap_setCell _ _ _ _ hi, Below.heap_setCell _ _ _ _ hi, Below.heap_setCell _ _ _ _ hi, Below.heap_setCell _ _ _ _ hi, Below.heap_setCell _ _ _ _ hi])
            have hTR : w2.heap.size ≠ w.heap.size := by have := HN.out; omega
            have hTd := HLd.out.2.1
            obtain ⟨v0, v1, v2⟩ : wd.cell? ⟨w2.heap.size, 0, none⟩ = some (.int .u8 (c : Int)) ∧ wd.cell? ⟨w2.heap.size, 1, none⟩ = some (.bool true) ∧ wd.cell? ⟨w2.heap.size, 2, none⟩ = some (.int .u32 (n : Int)) := ⟨hTd.cell 0, hTd.cell 1, hTd.cell 2⟩
            have hTF := ((((hTd.far (p := ⟨w.heap.size, 0, none⟩) hTR (.int .u8 (c : Int))).far (p := ⟨w.heap.size, 1, none⟩) hTR (.bool true)).far (p := ⟨w.heap.size, 2, none⟩) hTR (.int .u32 (n : Int))).far (p := ⟨w.heap.size, 3, none⟩) hTR (.slice none 0 0)).far (p := ⟨w.heap.size, 4, none⟩) hTR (.slice (some ⟨gb, 0, none⟩) acc.length acc.length)
            have HTF := Lib.hid (And.intro (hTF.cell 0) (And.intro (hTF.cell 1) (hTF.cell 2)))
            clear hTd hTF hTR
            clear hRd hwd h0 t0 t1 t2 r0 r1 r2 r3 r4 f0 f1 f2 f3 f4 hDR
            clear HLp HKP HK5 HLd HKd
            refine wpAnyH_take (i := 0) (oi := ⟨some 109, _, _, _, _, _⟩) (v := tagV c n true) rfl (by kernel_rfl) (by kernel_rfl) (by kernel_rfl) (fun _ _ _ h => h) (Or.inl ⟨by rfl, fun w hSw => by (try dsimp only at hSw); go_simp⟩) hS ?_
            simp only [Act.put, List.setIfInBounds_toArray, List.set_cons_zero, List.set_cons_succ]
            refine wpAnyH_take (i := 1) (oi := ⟨some 110, _, _, _, _, _⟩) (v := .slice (some ⟨gb, 0, none⟩) acc.length gc) rfl (by kernel_rfl) (by kernel_rfl) (by kernel_rfl) (fun _ _ _ h => h) (Or.inl ⟨by rfl, fun w hSw => by (try dsimp only at hSw); go_simp⟩) hS ?_
            simp only [Act.put, List.setIfInBounds_toArray, List.set_cons_zero, List.set_cons_succ]
            refine wpAnyH_take (i := 4) (oi := ⟨some 113, _, _, _, _, _⟩) (v := .int .i64 (p3 : Int)) rfl (by kernel_rfl) (by kernel_rfl) (by kernel_rfl) (fun _ _ _ h => h) (Or.inl ⟨by rfl, fun w hSw => by (try dsimp only at hSw); go_simp⟩) hS ?_
            simp only [Act.put, List.setIfInBounds_toArray, List.set_cons_zero, List.set_cons_succ]
            refine wpAnyH_ready (rs := [2]) (by kernel_rfl) (by simp) ?_
            refine AllReadyH.cons (o := _) rfl (fun K hK => ?_) (AllReadyH.nil)
            go_simp
            refine (HC.out _).mono ?_
            rintro r w6 ⟨rfl, rfl⟩
            refine hK.out _ _ (⟨v0, v1, v2⟩) (fun hS => ?_)
            clear hK K
            (try simp only [Act.put, List.setIfInBounds_toArray, List.set_cons_zero, List.set_cons_succ])
            refine wpAnyH_take (i := 3) (oi := ⟨some 112, _, _, _, _, _⟩) (v := .agg #[.int .u8 (c : Int), .bool true, .int .u32 (n : Int), .slice none 0 0, (.slice (some ⟨gb, 0, none⟩) acc.length acc.length)]) rfl (by kernel_rfl) (by kernel_rfl) (by kernel_rfl) (fun _ _ _ h => h) (Or.inl ⟨by rfl, fun w hSw => by (try dsimp only at hSw); go_simp⟩) hS ?_
            simp only [Act.put, List.setIfInBounds_toArray, List.set_cons_zero, List.set_cons_succ]
            refine wpAnyH_ready (rs := [5]) (by kernel_rfl) (by simp) ?_
            refine AllReadyH.cons (o := _) rfl (fun K hK => ?_) (AllReadyH.nil)
            go_simp
            refine hK.out _ _ (HTF.out) (fun hS => ?_)
            clear hK K
            (try simp only [Act.put, List.setIfInBounds_toArray, List.set_cons_zero, List.set_cons_succ])
            refine wpAnyH_ready (rs := [6]) (by kernel_rfl) (by simp) ?_
            refine AllReadyH.cons (o := _) rfl (fun K hK => ?_) (AllReadyH.nil)
            go_simp
            refine hK.out _ _ (HTF.out) (fun hS => ?_)
            clear hK K
            (try simp only [Act.put, List.setIfInBounds_toArray, List.set_cons_zero, List.set_cons_succ])
            refine wpAnyH_done (by kernel_rfl) ?_ _
            go_wp2_with fail
            (try simp only [Exit.inBlock, Exit.then])
            refine bodyPost_ret (res_elem rfl HRF.out) rfl ?_
            rw [HF.out]
            refine ⟨_, by rw [HEN.out]; rfl, ?_, HDF.out, HKF.out⟩
            exact RdE.keep (Nat.le_refl _) (fun _ _ _ => rfl) (fun i hi _ => Nat.le_trans HSZ9.out hi) _ _ (HFin.out _ HHp.out (by simp [World.setCell]))
          · have hac : acc = [] := List.eq_nil_of_length_eq_zero h0
            subst hac
            have HC := Lib.hid fun w => clipE_nil_s w
            clear h0
            clear hfin hend rz hzm2
            go_upto_region 19 with fail
            clear hp43
            refine wp_region_held_drew (S := fun w' => w'.cell? ⟨w2.heap.size, 0, none⟩ = some (.int .u8 (c : Int)) ∧ w'.cell? ⟨w2.heap.size, 1, none⟩ = some (.bool true) ∧ w'.cell? ⟨w2.heap.size, 2, none⟩ = some (.int .u32 (n : Int))) (by kernel_rfl) ⟨t0, t1, t2⟩ (fun hS => ?_)
            obtain ⟨wd, hwd⟩ : ∃ wd, wr.drew = wd := ⟨_, rfl⟩
            have HLd : Hid (LpR D w2.heap.size w.heap.size w5.heap.size (.slice (some ⟨ba, off, none⟩) L cap) c n [] b2 (.slice none 0 0) cs wd) := Lib.hid (by rw [← hwd]; exact HLp.out.keep (Kp.refl _ _).drew HLp.out.1)
            have HKd : Hid (Kp (· = D) w wd) := Lib.hid (by rw [← hwd]; exact (HK5.out.trans HKP.out).drew)
            rw [hwd] at hS ⊢
            have hRd := HLd.out.2.2.1
            obtain ⟨q0, q1, q2, q3, q4, qz⟩ := hRd.five
            obtain ⟨g0, g1, g2, g3, g4⟩ := hRd.free5
            have HRF := Lib.hid ((((((hRd.store 0 (.int .u8 (c : Int))).store 1 (.bool true)).store 2 (.int .u32 (n : Int))).store 3 (.slice none 0 0)).store 4 (.slice none 0 0)))
            have HFin := Lib.hid (lp_done HLd.out HG.out.2.1 HG.out.2.2.1 (by unfold maxLen; simp) rfl)
            have HSZ9 := Lib.hid (Nat.le_trans (Nat.le_of_lt HLd.out.2.2.2.2.2.2.2.1) (Nat.le_refl w5.heap.size))
            have hDR : w.heap.size ≠ D := by have := HN.out; omega
            have HDF := Lib.hid (((((HLd.out.1.far (p := ⟨w.heap.size, 0, none⟩) hDR.symm (.int .u8 (c : Int))).far (p := ⟨w.heap.size, 1, none⟩) hDR.symm (.bool true)).far (p := ⟨w.heap.size, 2, none⟩) hDR.symm (.int .u32 (n : Int))).far (p := ⟨w.heap.size, 3, none⟩) hDR.symm (.slice none 0 0)).far (p := ⟨w.heap.size, 4, none⟩) hDR.symm (.slice none 0 0))
            have h0 : (w.heap.size = D) ∨ w.heap.size ≤ w.heap.size := .inr (Nat.le_refl _)
            have HKF := Lib.hid (((((HKd.out.setCell (p := ⟨w.heap.size, 0, none⟩) h0 (.int .u8 (c : Int))).setCell (p := ⟨w.heap.size, 1, none⟩) h0 (.bool true)).setCell (p := ⟨w.heap.size, 2, none⟩) h0 (.int .u32 (n : Int))).setCell (p := ⟨w.heap.size, 3, none⟩) h0 (.slice none 0 0)).setCell (p := ⟨w.heap.size, 4, none⟩) h0 (.slice none 0 0))
            have HHp := Lib.hid (show ∀ i, i ≠ w.heap.size → (((((wd.setCell ⟨w.heap.size, 0, none⟩ (.int .u8 (c : Int))).setCell ⟨w.heap.size, 1, none⟩ (.bool true)).setCell ⟨w.heap.size, 2, none⟩ (.int .u32 (n : Int))).setCell ⟨w.heap.size, 3, none⟩ (.slice none 0 0)).setCell ⟨w.heap.size, 4, none⟩ (.slice none 0 0)).heap[i]? = wd.heap[i]? from fun i hi => by
              rw [Below.heap_setCell _ _ _ _ hi, Below.heap_setCell _ _ _ _ hi, Below.heap_setCell _ _ _ _ hi, Below.heap_setCell _ _ _ _ hi, Below.heap_setCell _ _ _ _ hi])
            have hTR : w2.heap.size ≠ w.heap.size := by have := HN.out; omega
            have hTd := HLd.out.2.1
            obtain ⟨v0, v1, v2⟩ : wd.cell? ⟨w2.heap.size, 0, none⟩ = some (.int .u8 (c : Int)) ∧ wd.cell? ⟨w2.heap.size, 1, none⟩ = some (.bool true) ∧ wd.cell? ⟨w2.heap.size, 2, none⟩ = some (.int .u32 (n : Int)) := ⟨hTd.cell 0, hTd.cell 1, hTd.cell 2⟩
            have hTF := ((((hTd.far (p := ⟨w.heap.size, 0, none⟩) hTR (.int .u8 (c : Int))).far (p := ⟨w.heap.size, 1, none⟩) hTR (.bool true)).far (p := ⟨w.heap.size, 2, none⟩) hTR (.int .u32 (n : Int))).far (p := ⟨w.heap.size, 3, none⟩) hTR (.slice none 0 0)).far (p := ⟨w.heap.size, 4, none⟩) hTR (.slice none 0 0)
            have HTF := Lib.hid (And.intro (hTF.cell 0) (And.intro (hTF.cell 1) (hTF.cell 2)))
            clear hTd hTF hTR
            clear hRd hwd h0 t0 t1 t2 r0 r1 r2 r3 r4 f0 f1 f2 f3 f4 hDR
            clear HLp HKP HK5 HLd HKd
            refine wpAnyH_take (i := 0) (oi := ⟨some 109, _, _, _, _, _⟩) (v := tagV c n true) rfl (by kernel_rfl) (by kernel_rfl) (by kernel_rfl) (fun _ _ _ h => h) (Or.inl ⟨by rfl, fun w hSw => by (try dsimp only at hSw); go_simp⟩) hS ?_
            simp only [Act.put, List.setIfInBounds_toArray, List.set_cons_zero, List.set_cons_succ]
            refine wpAnyH_take (i := 1) (oi := ⟨some 110, _, _, _, _, _⟩) (v := .slice none 0 0) rfl (by kernel_rfl) (by kernel_rfl) (by kernel_rfl) (fun _ _ _ h => h) (Or.inl ⟨by rfl, fun w hSw => by (try dsimp only at hSw); go_simp⟩) hS ?_
            simp only [Act.put, List.setIfInBounds_toArray, List.set_cons_zero, List.set_cons_succ]
            refine wpAnyH_take (i := 4) (oi := ⟨some 113, _, _, _, _, _⟩) (v := .int .i64 (p3 : Int)) rfl (by kernel_rfl) (by kernel_rfl) (by kernel_rfl) (fun _ _ _ h => h) (Or.inl ⟨by rfl, fun w hSw => by (try dsimp only at hSw); go_simp⟩) hS ?_
            simp only [Act.put, List.setIfInBounds_toArray, List.set_cons_zero, List.set_cons_succ]
            refine wpAnyH_ready (rs := [2]) (by kernel_rfl) (by simp) ?_
            refine AllReadyH.cons (o := _) rfl (fun K hK => ?_) (AllReadyH.nil)
            go_simp
            refine (HC.out _).mono ?_
            rintro r w6 ⟨rfl, rfl⟩
            refine hK.out _ _ (⟨v0, v1, v2⟩) (fun hS => ?_)
            clear hK K
            (try simp only [Act.put, List.setIfInBounds_toArray, List.set_cons_zero, List.set_cons_succ])
            refine wpAnyH_take (i := 3) (oi := ⟨some 112, _, _, _, _, _⟩) (v := .agg #[.int .u8 (c : Int), .bool true, .int .u32 (n : Int), .slice none 0 0, (.slice none 0 0)]) rfl (by kernel_rfl) (by kernel_rfl) (by kernel_rfl) (fun _ _ _ h => h) (Or.inl ⟨by rfl, fun w hSw => by (try dsimp only at hSw); go_simp⟩) hS ?_
            simp only [Act.put, List.setIfInBounds_toArray, List.set_cons_zero, List.set_cons_succ]
            refine wpAnyH_ready (rs := [5]) (by kernel_rfl) (by simp) ?_
            refine AllReadyH.cons (o := _) rfl (fun K hK => ?_) (AllReadyH.nil)
            go_simp
            refine hK.out _ _ (HTF.out) (fun hS => ?_)
            clear hK K
            (try simp only [Act.put, List.setIfInBounds_toArray, List.set_cons_zero, List.set_cons_succ])
            refine wpAnyH_ready (rs := [6]) (by kernel_rfl) (by simp) ?_
            refine AllReadyH.cons (o := _) rfl (fun K hK => ?_) (AllReadyH.nil)
            go_simp
            refine hK.out _ _ (HTF.out) (fun hS => ?_)
            clear hK K
            (try simp only [Act.put, List.setIfInBounds_toArray, List.set_cons_zero, List.set_cons_succ])
            refine wpAnyH_done (by kernel_rfl) ?_ _
            go_wp2_with fail
            (try simp only [Exit.inBlock, Exit.then])
            refine bodyPost_ret (res_elem rfl HRF.out) rfl ?_
            rw [HF.out]
            refine ⟨_, by rw [HEN.out]; rfl, ?_, HDF.out, HKF.out⟩
            exact RdE.keep (Nat.le_refl _) (fun _ _ _ => rfl) (fun i hi _ => Nat.le_trans HSZ9.out hi) _ _ (HFin.out _ HHp.out (by simp [World.setCell]))
end Go.Proofs.Ytgdjgahmnnjeeaa
