/-
  Layer 4: clone.
  Conditions: none beyond that values read as elements that are not too great for a machine.
-/
import Derived.Test.YtgdjgahmnnjeeaaElR
import Derived.Test.YtgdjgahmnnjeeaaHold
import Derived.Deep.DeepCutAuto
import Derived.Deep.RegionHeld3
namespace Go.Proofs.Ytgdjgahmnnjeeaa
open Go.RowKit

mutual
/-- Not too great. -/
def smlE : El → Prop
  | .mk _ _ _ bs ss => bs.length ≤ 1048576 ∧ ss.length ≤ 100000 ∧ smlS ss
def smlS : List El → Prop
  | [] => True
  | e :: ss => smlE e ∧ smlS ss
end
theorem smlS_mem {ss : List El} (h : smlS ss) {e : El} (he : e ∈ ss) : smlE e := by
  induction ss with
  | nil => simp at he
  | cons x ss ih =>
    rcases List.mem_cons.1 he with rfl | he
    · exact h.1
    · exact ih h.2 he
theorem Bk.drew {w : World} {g : Nat} {t : TypeId} {cs : List Value} (h : Bk w g t cs) : Bk w.drew g t cs := h
theorem Bk.free5 {w : World} {g : Nat} {t : TypeId} {cs : List Value} (h : Bk w g t cs) : w.frozen? ⟨g, 0, none⟩ = false ∧ w.frozen? ⟨g, 1, none⟩ = false ∧ w.frozen? ⟨g, 2, none⟩ = false ∧ w.frozen? ⟨g, 3, none⟩ = false ∧ w.frozen? ⟨g, 4, none⟩ = false :=
  ⟨h.free 0, h.free 1, h.free 2, h.free 3, h.free 4⟩
/-- What a row owns, as long as its block is as it was. -/
theorem own_kept {w w' : World} {base : Nat} {e : TypeId} {size : Nat} {v : Value} {n : Nat} {xs : List Value} (h : w.ownsRow base e size v n xs) (hk : ∀ g, v.ownBlock = some g → w'.heap[g]? = w.heap[g]?) : w'.ownsRow base e size v n xs := by
  refine ⟨h.1, ?_⟩
  rcases h.2 with h1 | ⟨g, cap, cur, rfl, hg, hh, r⟩
  · exact .inl h1
  · exact .inr ⟨g, cap, cur, rfl, hg, (hk g rfl).trans hh, r⟩
/-- Where the cells of a copy lie. -/
@[reducible] def ClS (b0 D : Nat) (v : Value) (i : Nat) : Prop := b0 ≤ i ∧ i ≠ D ∧ v.ownBlock ≠ some i
/-- How far the copy of an element has come: p sub-elements of ss are in the copy, whose cells lie in block D. -/
def ClR (b0 D : Nat) (c n : Nat) (k : Bool) (bs : List Nat) (A3 : Option Addr) (N : Nat) (ss : List El) (p : Nat) (v : Value) (cs : List Value) (w : World) : Prop :=
  Bk w D 29 [.int .u8 (c : Int), .bool k, .int .u32 (n : Int), .slice A3 N N, v] ∧ w.ownsRow b0 29 5 v p cs ∧ RowE true (ClS b0 D v) w (ss.take p) cs ∧
    RdX (ClS b0 D v) w A3 (cs8 bs) ∧ b0 ≤ D ∧ v.ownBlock ≠ some D
section
variable {b0 D c n : Nat} {k : Bool} {bs : List Nat} {A3 : Option Addr} {N : Nat} {ss : List El} {p : Nat} {v : Value} {cs : List Value} {w w' : World}
theorem ClR.stay (h : ClR b0 D c n k bs A3 N ss p v cs w) (hb : Below w.heap.size w w') : ClR b0 D c n k bs A3 N ss p v cs w' := by
  obtain ⟨h1, h2, h3, h4, h5, h6⟩ := h
  refine ⟨h1.below hb h1.lt, own_kept h2 fun g hg => hb.block g ?_, RowE.keep hb.size (fun i _ hi => hb.block i hi) (fun _ hs _ => hs) h3, h4.keep hb.size (fun i _ hi => hb.block i hi) (fun _ hs _ => hs), h5, h6⟩
  exact (h2.lt g hg).2
theorem cl_step (h : ClR b0 D c n k bs A3 N ss p v cs w) (hb0 : b0 ≤ w.heap.size) (hp : p < ss.length) (hn : ss.length ≤ 100000) {u : Value} (hu : RdE true (ClS b0 D v) w ss[p] u) :
    ∃ g cap w2, (Builtin.append_ #[27, 27] 27 #[v, .slice (some ⟨w.heap.size, 0, none⟩) 1 1]).run Try.prog (w.alloc (.cells u.cells 29)) = .ok (.slice (some ⟨g, 0, none⟩) (p + 1) cap) w2 ∧
      Bk w2 D 29 [.int .u8 (c : Int), .bool k, .int .u32 (n : Int), .slice A3 N N, v] ∧
      ClR b0 D c n k bs A3 N ss (p + 1) (.slice (some ⟨g, 0, none⟩) (p + 1) cap) (cs ++ u.cells.toList) (w2.setCell ⟨D, 4, none⟩ (.slice (some ⟨g, 0, none⟩) (p + 1) cap)) ∧
      Below b0 w (w2.setCell ⟨D, 4, none⟩ (.slice (some ⟨g, 0, none⟩) (p + 1) cap)) := by
  obtain ⟨h1, h2, h3, h4, h5, h6⟩ := h
  have hl : (ss.take p).length = p := List.length_take_of_le (by omega)
  have h2' := h2
  rw [← hl] at h2'
  obtain ⟨g, cap, w2, hrun, ho, hr, hg, hBg, hglt, hor, hc1, hc2⟩ := row_app h2' h3 (fun i hs => hs.2.2) hu (by rw [hl]; omega) hb0 p hl
  have hgD : g ≠ D := by
    have := h1.lt
    rintro rfl
    rcases hor with hor | hor
    · exact h6 hor
    · omega
  have hDk : Bk w2 D 29 [.int .u8 (c : Int), .bool k, .int .u32 (n : Int), .slice A3 N N, v] := h1.only hg (fun e => h6 e.symm)
  have htk : ss.take p ++ [ss[p]] = ss.take (p + 1) := by rw [List.take_append_getElem hp]
  rw [htk] at ho hr
  have hl1 : (ss.take (p + 1)).length = p + 1 := List.length_take_of_le (by omega)
  rw [hl1] at ho
  have hset : ∀ i, i ≠ D → (w2.setCell ⟨D, 4, none⟩ (.slice (some ⟨g, 0, none⟩) (p + 1) cap)).heap[i]? = w2.heap[i]? := fun i hi => Below.heap_setCell _ _ _ _ hi
  have hsz : (w2.setCell ⟨D, 4, none⟩ (.slice (some ⟨g, 0, none⟩) (p + 1) cap)).heap.size = w2.heap.size := by simp [World.setCell]
  have hown : (Value.slice (some ⟨g, 0, none⟩) (p + 1) cap).ownBlock = some g := rfl
  have hk1 := own_kept (w' := w2.setCell ⟨D, 4, none⟩ (.slice (some ⟨g, 0, none⟩) (p + 1) cap)) ho (fun i hi => hset i (by rw [hown] at hi; injection hi with hi; omega))
  have hk2 := RowE.keep (T := ClS b0 D (.slice (some ⟨g, 0, none⟩) (p + 1) cap)) (w' := w2.setCell ⟨D, 4, none⟩ (.slice (some ⟨g, 0, none⟩) (p + 1) cap)) (by rw [hsz]; omega) (fun i hi _ => hset i hi.1.2.1) (fun i hi _ => ⟨hi.1.1, hi.1.2.1, by rw [hown]; intro e; injection e with e; exact hi.2 e.symm⟩) hr
  have hk3 := h4.keep (T := ClS b0 D (.slice (some ⟨g, 0, none⟩) (p + 1) cap)) (w' := w2.setCell ⟨D, 4, none⟩ (.slice (some ⟨g, 0, none⟩) (p + 1) cap)) (by rw [hsz]; exact hg.size) (fun i hi hlt => (hset i hi.2.1).trans (hg.block i hlt (fun e => hi.2.2 e.symm))) (fun i hi hlt => ⟨hi.1, hi.2.1, by
    rw [hown]; intro e; injection e with e
    subst e
    rcases hor with hor | hor
    · exact hi.2.2 hor
    · omega⟩)
  refine ⟨g, cap, w2, hrun, hDk, ⟨hDk.store 4 _, hk1, hk2, hk3, h5, by rw [hown]; intro e; injection e with e; exact hgD e⟩, ⟨hg.os, hg.tape, hg.output, by rw [hsz]; exact hg.size, fun i hi => (hset i (by omega)).trans (hg.block i (by omega) ?_)⟩⟩
  intro e
  have := (h2.lt i e.symm).1
  omega
theorem cl_done (h : ClR b0 D c n k bs A3 bs.length ss ss.length v cs w) {R : Nat} (hR : R < b0) (hw : ∀ i, i ≠ D → i ≠ R → w'.heap[i]? = w.heap[i]?) (hz : w.heap.size ≤ w'.heap.size) (hc : c < 256) (hn : n < 4294967296) (h8 : All8 bs)
    (hb : bs.length ≤ maxLen) (hs : ss.length ≤ maxLen) {B : Option Addr} {cap : Nat} (hv : v = .slice B ss.length cap) :
    RdE true (fun i => b0 ≤ i) w' (.mk c n k bs ss) (elV c n k (.slice A3 bs.length bs.length) (.slice B ss.length ss.length)) := by
  obtain ⟨h1, h2, h3, h4, h5, h6⟩ := h
  have hk : ∀ i, ClS b0 D v i → i < w.heap.size → w'.heap[i]? = w.heap[i]? := fun i hi _ => hw i hi.2.1 (by have := hi.1; omega)
  refine ⟨hc, hn, h8, A3, _, B, _, rfl, h4.keep hz hk (fun i hi _ => hi.1), Nat.le_refl _, hb, Nat.le_refl _, hs, fun _ => ⟨rfl, rfl⟩, ?_⟩
  rw [List.take_of_length_le (Nat.le_refl _)] at h3
  rcases h2.2 with ⟨hv0, hn0⟩ | ⟨g, cap', cur, hv2, hg, hh, r⟩
  · have : ss = [] := List.eq_nil_of_length_eq_zero hn0
    subst this
    trivial
  · rw [hv2] at hv
    injection hv with e1 e2 e3
    subst e1
    have hlt := h2.lt g (by rw [hv2]; rfl)
    have hgD : g ≠ D := by
      rintro rfl
      exact h6 (by rw [hv2]; rfl)
    refine RowE.rds (S := ClS b0 D v) (by omega) hlt.1 (fun i hi => hi.1) (RowE.keep hz hk (fun i hi _ => hi) h3) fun j u hu => ?_
    have hcell := h2.cells (g := g) (by rw [hv2]; rfl) j u hu
    rw [addr_add] at hcell
    rw [← hcell]
    exact World.cell?_of_block (hw g hgD (by omega))
theorem res_clone {tmps : Array Value} {W : World} {R : Nat} {a b d e f : Value} (h2 : tmps.getD 2 undef = .pointer (some ⟨R, 0, none⟩)) (hb : Bk W R 29 [a, b, d, e, f]) :
    (results Try.f45 tmps).run Try.prog W = .ok (.agg #[a, b, d, e, f]) W := by
  obtain ⟨e0, e1, e2, e3, e4, hz⟩ := hb.five
  have h2' : tmps[2]?.getD undef = .pointer (some ⟨R, 0, none⟩) := by simpa using h2
  simp only [results, Try.f45]
  simp [h2', go_sem, e0, e1, e2, e3, e4]
theorem only_any {Q : Exit → Act → World → Prop} {id : Nat} {ops : Array Oper} {a : Act} (hm : Try.prog.follows .mixedOrders = true) (h : wpAny Try.prog .any ops Q ops.size (Array.replicate ops.size false) a w.drew) : (Code.region id ops true).wp Try.prog Q a w := wp_region_any hm h
/-- A region's step at the builtin append, by what it runs to. -/
theorem step_app {P : Program} {w : World} {ops : Array Oper} {o : Oper} {a : Act} {K : Act → World → Prop} {Q : Exit → Act → World → Prop} {E : Prop} (hgd : o.guard = none) (s x : Operand) (t1 t2 : TypeId)
    (ho : o.op = .call { callee := .builtin .append, args := #[s, x], argTypes := #[t1, t2] }) (u v : Value) (hs : a.eval s = u) (hx : a.eval x = v) {r : Value} {w1 : World}
    (hrun : (Builtin.append_ #[t1, t2] o.type #[u, v]).run P w = .ok r w1) (h : K (a.put o.dst r) w1) : if Region.wanted o (yielded ops a.tmps) = true then Oper.wp P o a w K Q else E := by
  have hw : Region.wanted o (yielded ops a.tmps) = true := by simp [Region.wanted, hgd]
  rw [if_pos hw]
  unfold Oper.wp execOp
  simp only [ho, resolve, invoke, builtin, Sem.run_bind, Sem.run_pure, Result.andThen_ok, List.map_toArray, List.map_cons, List.map_nil, hs, hx, hrun]
  exact h
end
set_option linter.unusedSimpArgs false in
set_option maxHeartbeats 4000000 in
set_option maxRecDepth 100000 in
theorem clone_any {x : Bool} {S : Nat → Prop} (e : El) : ∀ (v : Value) (w : World), RdE x S w e v → smlE e →
    Calls Try.prog 45 #[v] w fun r w' => ∃ u, r = .returned u ∧ RdE true (fun i => w.heap.size ≤ i) w' e u ∧ Below w.heap.size w w' := by
  refine El.ind (P := fun e => ∀ (v : Value) (w : World), RdE x S w e v → smlE e →
    Calls Try.prog 45 #[v] w fun r w' => ∃ u, r = .returned u ∧ RdE true (fun i => w.heap.size ≤ i) w' e u ∧ Below w.heap.size w w') ?_ e
  clear e
  intro c n k bs ss ih v w h hsm
  obtain ⟨h1, h2, h3, A, ca, B, cb, rfl, h5, h6, h7, h8, h9, h10, h11⟩ := h
  have hlen : ss.length ≤ 9223372036854775807 := by unfold maxLen at h9; omega
  rw [smlE] at hsm
  obtain ⟨w2, hw2⟩ : ∃ w2, (w.alloc (.cells #[.int .u8 (c : Int), .bool k, .int .u32 (n : Int), .slice A bs.length ca, .slice B ss.length cb] 29)).alloc (.cells #[.int .u8 0, .bool false, .int .u32 0, .slice none 0 0, .slice none 0 0] 29) = w2 := ⟨_, rfl⟩
  have hb2 : Below w.heap.size w w2 := by rw [← hw2]; exact bel2 w _ _
  have z2 : w2.heap.size = w.heap.size + 2 := by rw [← hw2]; simp
  have k0 : Bk w2 w.heap.size 29 [.int .u8 (c : Int), .bool k, .int .u32 (n : Int), .slice A bs.length ca, .slice B ss.length cb] := by
    rw [← hw2]; exact (Bk.new w _ [_, _, _, _, _]).alloc _
  have k1 : Bk w2 (w.heap.size + 1) 29 [.int .u8 0, .bool false, .int .u32 0, .slice none 0 0, .slice none 0 0] := by
    have := Bk.new (w.alloc (.cells #[.int .u8 (c : Int), .bool k, .int .u32 (n : Int), .slice A bs.length ca, .slice B ss.length cb] 29)) 29 [.int .u8 0, .bool false, .int .u32 0, .slice none 0 0, .slice none 0 0]
    rw [World.size_alloc] at this
    rw [← hw2]; exact this
  have HCell : Hid (∀ W : World, Below w2.heap.size w2 W → W.cell? ⟨w.heap.size, 0, none⟩ = some (.int .u8 (c : Int)) ∧ W.cell? ⟨w.heap.size, 1, none⟩ = some (.bool k) ∧ W.cell? ⟨w.heap.size, 2, none⟩ = some (.int .u32 (n : Int)) ∧ W.cell? ⟨w.heap.size, 3, none⟩ = some (.slice A bs.length ca) ∧ Below w2.heap.size w2 W) := Lib.hid fun W hb =>
    let ⟨e0, e1, e2, e3, _, _⟩ := (k0.below hb k0.lt).five
    ⟨e0, e1, e2, e3, hb⟩
  have HCB := Lib.hid fun (W : World) (hb : Below w2.heap.size w2 W) => clone8_any A bs ca W ⟨(h5.rd.below hb2).below hb, h3⟩ (by omega)
  have HB2 := Lib.hid hb2
  have HZ2 := Lib.hid z2
  have HK0 := Lib.hid k0
  have HK1 := Lib.hid k1
  have HSM := Lib.hid hsm
  have H123 := Lib.hid (And.intro h1 (And.intro h2 h3))
  have H11 := Lib.hid h11
  have HIH := Lib.hid ih
  have b1 := Below.refl w2.heap.size w2
  have hwz : w.heap.size < w2.heap.size := by omega
  clear h1 h2 h3 h5 h6 h7 h8 h9 h10 h11 hb2 z2 k0 k1 hsm ih
  go_enter Try.func45, Try.ntmps45
  go_upto_region 1 with fail
  go_cut [3] (fun s3 wx => ∃ A3 D, s3 = .pointer (some ⟨D, 0, none⟩) ∧ w2.heap.size ≤ D ∧ Bk wx D 29 [.int .u8 (c : Int), .bool k, .int .u32 (n : Int), .slice A3 bs.length bs.length, .slice none 0 0] ∧ RdX (fun i => w2.heap.size ≤ i ∧ i ≠ D) wx A3 (cs8 bs) ∧ Below w2.heap.size w2 wx)
  case first =>
    go_region_held3 (fun w' => w'.cell? ⟨w.heap.size, 0, none⟩ = some (.int .u8 (c : Int)) ∧ w'.cell? ⟨w.heap.size, 1, none⟩ = some (.bool k) ∧ w'.cell? ⟨w.heap.size, 2, none⟩ = some (.int .u32 (n : Int)) ∧ w'.cell? ⟨w.heap.size, 3, none⟩ = some (.slice A bs.length ca) ∧ Below w2.heap.size w2 w')
      (first | exact HCell.out _ b1.drew | exact HCell.out _ d3 | exact HCell.out _ ((b1.alloc (Nat.le_refl _) _).drew) | exact HCell.out _ (d3.alloc d3.size _) | exact HCell.out _ (d3.setCell (by show w2.heap.size ≤ w2.heap.size; omega) _) | exact HCell.out _ (((((d3.setCell (by show w2.heap.size ≤ w2.heap.size; omega) _).setCell (by show w2.heap.size ≤ w2.heap.size; omega) _).setCell (by show w2.heap.size ≤ w2.heap.size; omega) _).setCell (by show w2.heap.size ≤ w2.heap.size; omega) _).setCell (by show w2.heap.size ≤ w2.heap.size; omega) _))
      (first | (go_at_call 67; refine (HCB.out _ b1.drew).mono ?_; rintro r w3 ⟨A3, rfl, hr3, hb3⟩; have d3 := b1.drew.trans (hb3.mono b1.drew.size)) | (go_at_call 67; refine (HCB.out _ ((b1.alloc (Nat.le_refl _) _).drew)).mono ?_; rintro r w3 ⟨A3, rfl, hr3, hb3⟩; have d3 := ((b1.alloc (Nat.le_refl _) _).drew).trans (hb3.mono ((b1.alloc (Nat.le_refl _) _).drew).size); obtain ⟨m0, m1, m2, m3, m4, mz⟩ := ((Bk.new w2 29 [.int .u8 0, .bool false, .int .u32 0, .slice none 0 0, .slice none 0 0]).drew.below hb3 (by simp)).five; obtain ⟨q0, q1, q2, q3, q4⟩ := ((Bk.new w2 29 [.int .u8 0, .bool false, .int .u32 0, .slice none 0 0, .slice none 0 0]).drew.below hb3 (by simp)).free5))
    all_goals go_wp2_with fail
    all_goals go_meet
    · exact ⟨A3, w3.heap.size, rfl, d3.size, Bk.new w3 29 [_, _, _, _, _], hr3.keep (bel1 w3 _).size (fun i _ hi => (bel1 w3 _).block i hi) (fun i h1 h2 => ⟨h1, Nat.ne_of_lt h2⟩), d3.alloc d3.size _⟩
    · have hlo : ∀ i, (w2.alloc (.cells #[.int .u8 0, .bool false, .int .u32 0, .slice none 0 0, .slice none 0 0] 29)).drew.heap.size ≤ i → w2.heap.size + 1 ≤ i := fun i h => by simpa using h
      have hne : ∀ i, (w2.alloc (.cells #[.int .u8 0, .bool false, .int .u32 0, .slice none 0 0, .slice none 0 0] 29)).drew.heap.size ≤ i → i ≠ w2.heap.size := fun i h => by have := hlo i h; omega
      have h0 : w2.heap.size ≤ w2.heap.size := Nat.le_refl _
      exact ⟨A3, w2.heap.size, rfl, Nat.le_refl _, (((((((Bk.new w2 29 [.int .u8 0, .bool false, .int .u32 0, .slice none 0 0, .slice none 0 0]).drew.below hb3 (by simp)).store 0 _).store 1 _).store 2 _).store 3 _).store 4 _),
        hr3.keep (by simp [World.setCell]) (fun i h1 _ => by rw [Below.heap_setCell _ _ _ _ (hne i h1), Below.heap_setCell _ _ _ _ (hne i h1), Below.heap_setCell _ _ _ _ (hne i h1), Below.heap_setCell _ _ _ _ (hne i h1), Below.heap_setCell _ _ _ _ (hne i h1)]) (fun i h1 _ => ⟨by have := hlo i h1; omega, hne i h1⟩),
        ((((d3.setCell h0 _).setCell h0 _).setCell h0 _).setCell h0 _).setCell h0 _⟩
  case rest =>
    obtain ⟨A3, D, rfl, hD, hBk, hRd, hbel⟩ := hcut
    have hRl : ClR w2.heap.size D c n k bs A3 bs.length ss 0 (.slice none 0 0) [] wc := ⟨hBk, World.ownsRow_nil wc _ _ _, rfl, hRd.keep (Nat.le_refl _) (fun _ _ _ => rfl) (fun i hi _ => ⟨hi.1, hi.2, by intro e; cases e⟩), hD, by intro e; cases e⟩
    have HR0 := Lib.hid hRl
    have HBC := Lib.hid hbel
    obtain ⟨e0, e1, e2, e3, e4, hsz⟩ := (HK0.out.below hbel HK0.out.lt).five
    clear hRl hBk hRd hbel hw2
    go_wp2_with fail
    go_loopw [15, 5] (fun i _ wr => ∃ (p : Nat) (v : Value) (cs : List Value), p ≤ ss.length ∧ i = .int .i64 (p : Int) ∧ ClR w2.heap.size D c n k bs A3 bs.length ss p v cs wr ∧ Below w2.heap.size w2 wr) (fun i _ _ => ss.length - (intOf i).toNat)
    case atStart =>
      exact ⟨0, _, _, Nat.zero_le _, rfl, HR0.out, HBC.out⟩
    case round =>
      clear e0 e1 e2 e3 e4 hsz
      obtain ⟨p, v, cs, hp, rfl, hR, hbel⟩ := hrel
      have HB := Lib.hid hbel
      have HR := Lib.hid hR
      have hb1 := HB2.out.trans (hbel.mono HB2.out.size)
      have HS := Lib.hid (H11.out.stay hb1)
      clear hR hbel hb1
      by_cases hlt : p < ss.length
      · obtain ⟨b, off, c', n', k', A1, l1, q1, A2, l2, q2, rfl, hb, hS, f0, f1, f2, f3, f4, hE⟩ := HS.out.fives hlt
        have hsm1 := smlS_mem HSM.out.2.2 (List.getElem_mem hlt)
        have HE := Lib.hid (And.intro hE hsm1)
        clear hS hE hsm1
        go_upto_region 5 with fail
        obtain ⟨W, hW⟩ : ∃ W, wr.alloc (.cells #[.int .u8 (c' : Int), .bool k', .int .u32 (n' : Int), .slice A1 l1 q1, .slice A2 l2 q2] 29) = W := ⟨_, rfl⟩
        have hbW : Below wr.heap.size wr W := by rw [← hW]; exact bel1 _ _
        have hkW : Bk W wr.heap.size 29 [.int .u8 (c' : Int), .bool k', .int .u32 (n' : Int), .slice A1 l1 q1, .slice A2 l2 q2] := by rw [← hW]; exact Bk.new wr 29 [_, _, _, _, _]
        rw [hW]
        have HRW := Lib.hid (HR.out.stay hbW)
        have hcW := (HR.out.stay hbW).1.cell 4
        have HC := Lib.hid (HIH.out _ (List.getElem_mem hlt) _ W.drew ((HE.out.1.stay hbW.drew)) HE.out.2)
        have HBW := Lib.hid (HB.out.trans (hbW.mono HB.out.size))
        obtain ⟨m0, m1, m2, m3, m4, mz⟩ := hkW.five
        simp only [List.getElem?_cons_succ, List.getElem?_cons_zero] at hcW
        have hcW2 : W.drew.cell? ⟨D, 4, none⟩ = some v := hcW
        clear hbW hkW hW f0 f1 f2 f3 f4 HR HE HB hb hcW
        refine only_any (by kernel_rfl) ?_
        refine wpAny_take (i := 0) (v := ?_) rfl (by kernel_rfl) (by kernel_rfl) (by kernel_rfl) (fun _ _ _ h => h) (Or.inl ⟨by rfl, ?_⟩) ?_
        rotate_left
        · intro w
          go_simp
          try with_reducible rfl
        try simp only [Act.put, List.setIfInBounds_toArray, List.set_cons_zero, List.set_cons_succ]
        refine wpAny_of_K (S := fun w' => w'.cell? ⟨D, 4, none⟩ = some v) (k := 5) _ _ _ _ ?_
        refine wpAnyK_take (i := 1) (v := ?_) rfl rfl (by kernel_rfl) (by kernel_rfl) (by kernel_rfl) (by kernel_rfl) (by kernel_rfl) (fun _ _ _ h => h) (Or.inl ⟨by rfl, ?_⟩) hcW2 ?_
        rotate_left
        · intro w hSw
          (try dsimp only at hSw)
          go_simp
          try with_reducible rfl
        try simp only [Act.put, List.setIfInBounds_toArray, List.set_cons_zero, List.set_cons_succ]
        refine wpAnyK_step (i := 2) (by kernel_rfl) rfl (fun K hK => ?_)
        go_simp
        refine hK.out _ _ (fun _ => hcW2) ?_
        clear hK K m0 m1 m2 m3 m4 hcW2
        try simp only [Act.put, List.setIfInBounds_toArray, List.set_cons_zero, List.set_cons_succ]
        refine wpAnyK_step (i := 3) (by kernel_rfl) rfl (fun K hK => ?_)
        go_simp
        refine HC.out.mono ?_
        rintro r w4 ⟨u, rfl, hu, hb4⟩
        have hbW4 : Below W.heap.size W w4 := (Below.refl W.heap.size W).drew.trans hb4
        have hR4 := HRW.out.stay hbW4
        have hc4 := hR4.1.cell 4
        have hD4 := hR4.1.lt
        obtain ⟨c5, n5, k5, A5, l5, q5, A6, l6, q6, rfl⟩ := hu.form
        obtain ⟨g, cap, w5, hrun, hD5, hR5, hb5⟩ := cl_step hR4 (Nat.le_trans HBW.out.size hbW4.size) hlt HSM.out.2.1 (RdE.keep (T := ClS w2.heap.size D v) (Nat.le_refl _) (fun _ _ _ => rfl) (fun i hi _ => ⟨Nat.le_trans HBW.out.size hi, by
          rintro rfl
          have h1 := HRW.out.1.lt
          have h2 : W.heap.size ≤ i := hi
          omega, by
          intro e
          have h1 := (HRW.out.2.1.lt i e).2
          have h2 : W.heap.size ≤ i := hi
          omega⟩) _ _ hu)
        simp only [List.getElem?_cons_succ, List.getElem?_cons_zero] at hc4
        have hca : ∀ o, (w4.alloc o).cell? ⟨D, 4, none⟩ = some v := fun o => ((bel1 w4 o).cell (p := ⟨D, 4, none⟩) hD4).trans hc4
        refine hK.out _ _ (fun _ => hc4) ?_
        clear hK K
        try simp only [Act.put, List.setIfInBounds_toArray, List.set_cons_zero, List.set_cons_succ]
        refine wpAnyK_step (i := 4) (by kernel_rfl) rfl (fun K hK => ?_)
        go_simp
        refine hK.out _ _ (fun _ => hca _) ?_
        clear hK K hc4
        try simp only [Act.put, List.setIfInBounds_toArray, List.set_cons_zero, List.set_cons_succ]
        refine wpAnyK_step (i := 5) (by kernel_rfl) rfl (fun K hK => ?_)
        refine step_app rfl (.tmp 20) (.tmp 23) _ _ rfl _ _ rfl rfl hrun ?_
        refine hK.out _ _ (fun h => by cases h) ?_
        clear hK K
        have n4 := hD5.cell 4
        have n5 := hD5.free 4
        simp only [List.getElem?_cons_succ, List.getElem?_cons_zero] at n4
        try simp only [Act.put, List.setIfInBounds_toArray, List.set_cons_zero, List.set_cons_succ]
        refine wpAnyK_step (i := 6) (by kernel_rfl) rfl (fun K hK => ?_)
        go_simp
        refine hK.out _ _ (fun h => by cases h) ?_
        clear hK K
        try simp only [Act.put, List.setIfInBounds_toArray, List.set_cons_zero, List.set_cons_succ]
        refine wpAnyK_step (i := 7) (by kernel_rfl) rfl (fun K hK => ?_)
        go_simp
        refine hK.out _ _ (fun h => by cases h) ?_
        clear hK K n4 n5
        refine ⟨by kernel_rfl, ?_⟩
        have HR5 := Lib.hid hR5
        have HB5 := Lib.hid ((HBW.out.trans (hbW4.mono HBW.out.size)).trans hb5)
        clear hrun hD5 hR5 hb5 hb4 hbW4 hR4 hu hca
        go_wp2_with fail
        exact ⟨⟨p + 1, _, _, by omega, by go_num, HR5.out, HB5.out⟩, by simp [intOf]; omega⟩
      · obtain rfl : p = ss.length := by omega
        have hbl := HB.out
        have ka := (HK1.out.below hbl (by have := HZ2.out; omega)).free5
        obtain ⟨r0, r1, r2, r3, r4, rz⟩ := (HK1.out.below hbl (by have := HZ2.out; omega)).five
        obtain ⟨d0, d1, d2, d3, d4, dz⟩ := HR.out.1.five
        obtain ⟨i0, i1, i2, i3, i4⟩ := HR.out.1.free5
        obtain ⟨j0, j1, j2, j3, j4⟩ := ka
        have hRD : w.heap.size + 1 ≠ D := by have := HZ2.out; omega
        have hRD' : D ≠ w.heap.size + 1 := fun e => hRD e.symm
        have hv : (∃ g cap, v = .slice (some ⟨g, 0, none⟩) ss.length cap ∧ ss.length ≤ cap ∧ cap ≤ maxLen) ∨ (v = .slice none 0 0 ∧ ss.length = 0) := by
          rcases HR.out.2.1.2 with h | ⟨g', cap', cur, h, _, _, hle, hm, _⟩
          · exact .inr h
          · exact .inl ⟨g', cap', h, hle, hm⟩
        have HFin := Lib.hid fun (w' : World) (hw : ∀ i, i ≠ D → i ≠ w.heap.size + 1 → w'.heap[i]? = wr.heap[i]?) (hz : wr.heap.size ≤ w'.heap.size) (B : Option Addr) (cap : Nat) (hv : v = .slice B ss.length cap) =>
          cl_done HR.out (R := w.heap.size + 1) (by have := HZ2.out; omega) hw hz H123.out.1 H123.out.2.1 H123.out.2.2 (by have := HSM.out.1; unfold maxLen; omega) (by have := HSM.out.2.1; unfold maxLen; omega) hv
        have HE := Lib.hid fun (s1 : Value) (a0 a1 a2 a3 a4 : Value) =>
          (((((((HK1.out.below hbl (by have := HZ2.out; omega)).far (p := ⟨D, 4, none⟩) hRD s1).store 0 a0).store 1 a1).store 2 a2).store 3 a3).store 4 a4)
        have HWs := Lib.hid fun (s1 : Value) (a0 a1 a2 a3 a4 : Value) (i : Nat) (h1 : i ≠ D) (h2 : i ≠ w.heap.size + 1) =>
          show ((((((wr.setCell ⟨D, 4, none⟩ s1).setCell ⟨w.heap.size + 1, 0, none⟩ a0).setCell ⟨w.heap.size + 1, 1, none⟩ a1).setCell ⟨w.heap.size + 1, 2, none⟩ a2).setCell ⟨w.heap.size + 1, 3, none⟩ a3).setCell ⟨w.heap.size + 1, 4, none⟩ a4).heap[i]? = wr.heap[i]? by
            rw [Below.heap_setCell _ _ _ _ h2, Below.heap_setCell _ _ _ _ h2, Below.heap_setCell _ _ _ _ h2, Below.heap_setCell _ _ _ _ h2, Below.heap_setCell _ _ _ _ h2, Below.heap_setCell _ _ _ _ h1]
        have HBo := Lib.hid fun (s1 : Value) (a0 a1 a2 a3 a4 : Value) =>
          show Below w.heap.size w ((((((wr.setCell ⟨D, 4, none⟩ s1).setCell ⟨w.heap.size + 1, 0, none⟩ a0).setCell ⟨w.heap.size + 1, 1, none⟩ a1).setCell ⟨w.heap.size + 1, 2, none⟩ a2).setCell ⟨w.heap.size + 1, 3, none⟩ a3).setCell ⟨w.heap.size + 1, 4, none⟩ a4) from
            have h0 : w.heap.size ≤ D := by omega
            have h1 : w.heap.size ≤ w.heap.size + 1 := by omega
            (((((((HB2.out.trans (hbl.mono HB2.out.size))).setCell h0 _).setCell h1 _).setCell h1 _).setCell h1 _).setCell h1 _).setCell h1 _
        clear hbl hD hwz
        rcases hv with ⟨g, cap, rfl, hc1, hc2⟩ | ⟨rfl, h0⟩
        · have HC := Lib.hid fun w => clipE g ss.length cap w hc1 hc2
          clear hc1 hc2
          go_wp2_with fail
          refine (HC.out _).mono ?_
          rintro e w5 ⟨rfl, rfl⟩
          go_wp2_with fail
          (try simp only [Exit.inBlock, Exit.then])
          refine bodyPost_ret (res_clone rfl (HE.out _ _ _ _ _ _)) rfl ?_
          exact ⟨_, rfl, RdE.keep (Nat.le_refl _) (fun _ _ _ => rfl) (fun i hi _ => by have h1 : w2.heap.size ≤ i := hi; have := HZ2.out; show w.heap.size ≤ i; omega) _ _ (HFin.out _ (HWs.out _ _ _ _ _ _) (by simp [World.setCell]) _ _ rfl), HBo.out _ _ _ _ _ _⟩
        · have HNil := Lib.hid h0
          rw [h0] at *
          clear h0
          go_wp2_with fail
          refine (clipE_nil _).mono ?_
          rintro e w5 ⟨rfl, rfl⟩
          go_wp2_with fail
          (try simp only [Exit.inBlock, Exit.then])
          refine bodyPost_ret (res_clone rfl (HE.out _ _ _ _ _ _)) rfl ?_
          exact ⟨_, rfl, RdE.keep (Nat.le_refl _) (fun _ _ _ => rfl) (fun i hi _ => by have h1 : w2.heap.size ≤ i := hi; have := HZ2.out; show w.heap.size ≤ i; omega) _ _ (HFin.out _ (HWs.out _ _ _ _ _ _) (by simp [World.setCell]) _ _ rfl), HBo.out _ _ _ _ _ _⟩
end Go.Proofs.Ytgdjgahmnnjeeaa
