/-
  A whole OID stored and returned; the reference of layer 6: contract of Any; package oids: Any, IsAny, Of; the statements' helper made.
  Conditions: the OID's cells are in their kinds.
-/
import Derived.Test.YtndamidmgglneaaDoorOidB
import Derived.Deep.DeepCutAuto
import Derived.Laws.CopyOwn
namespace Go.Proofs.YtndamidmgglneaaDoor
open Go.RowKit

theorem oc_one (n : Nat) (l : List Nat) : (oc n l).toArray.all (·.oneCell') = true := by
  rw [Array.all_eq_true_iff_forall_mem]
  intro v hv
  simp only [List.mem_toArray, oc, List.mem_cons, cs32, List.mem_map] at hv
  rcases hv with rfl | ⟨x, _, rfl⟩ <;> rfl
/-- A whole OID is stored. -/
theorem store25 {W : World} {g n : Nat} {l : List Nat} {cs : List Value} (h : Bk W g 26 cs) (hc : cs.length = 17) (hl : l.length = 16) :
    ∃ W', (storeVar 26 ⟨g, 0, none⟩ (.agg (oc n l).toArray)).run Tryd.prog W = .ok () W' ∧ Bk W' g 26 (oc n l) ∧ W.grownBy W' (some g) ∧ W'.heap.size = W.heap.size :=
  ⟨W.setRow g (oc n l).toArray, run_storeVar_row (P := Tryd.prog) W g 26 26 cs.toArray (oc n l).toArray h (by rw [List.size_toArray, oc_length, hl]; exact info25) (by simp [oc_length, hc, hl]) (oc_one n l),
    setRow_heap W g _ _ _ _ h, ⟨rfl, rfl, rfl, by simp [World.setRow], fun k hk hne => setRow_other W g k _ (fun e => hne (by rw [e]))⟩, by simp [World.setRow]⟩
theorem range25 {w : World} {g n : Nat} {l : List Nat} (h : Bk w g 26 (oc n l)) : w.rangeAt g 0 (oc n l) := fun j v hj => by rw [Nat.zero_add, h.cell]; exact hj
/-- The walk's step at the load of a whole OID. -/
theorem wpList_load25 {ops : Array Oper} {rest : List Oper} {o : Oper} {a : Act} {w : World} {Q : Exit → Act → World → Prop} (hgd : o.guard = none) (x : Operand) (ho : o.op = .load 26 x)
    {g n : Nat} {l : List Nat} (hx : a.eval x = .pointer (some ⟨g, 0, none⟩)) (hg : Bk w g 26 (oc n l)) (hl : l.length = 16) (h : wpList Tryd.prog ops Q rest (a.put o.dst (oV n l)) w) : wpList Tryd.prog ops Q (o :: rest) a w :=
  wpList_load_mid hgd _ x ho g 0 hx (oc n l) _ (range25 hg) Tryd.underlying26 rfl (by rw [oc_length, hl]; exact info25) h
/-- .. at its store. -/
theorem wpList_store25 {ops : Array Oper} {rest : List Oper} {o : Oper} {a : Act} {w : World} {Q : Exit → Act → World → Prop} (hgd : o.guard = none) (x v : Operand) (ho : o.op = .store 26 x v)
    {g n : Nat} {l : List Nat} {cs : List Value} (hx : a.eval x = .pointer (some ⟨g, 0, none⟩)) (hv : a.eval v = oV n l) (hg : Bk w g 26 cs) (hc : cs.length = 17) (hl : l.length = 16)
    (h : ∀ w', Bk w' g 26 (oc n l) → w.grownBy w' (some g) → w'.heap.size = w.heap.size → wpList Tryd.prog ops Q rest (a.put o.dst undef) w') : wpList Tryd.prog ops Q (o :: rest) a w :=
  wpList_plain hgd fun K hK => by
    obtain ⟨W', h1, h2, h3, h4⟩ := store25 hg hc hl (n := n)
    have hK' := hK _ _ (h W' h2 h3 h4)
    unfold Oper.wp execOp
    simp only [ho, hx, hv, Instr.storeAt, Instr.sureAddr, Sem.run_bind, Sem.run_pure, Result.andThen_ok, h1]
    exact hK'
/-- A whole OID is returned. -/
theorem ret25 {fn : Func} {p : Tmp} (h : fn.results = #[.cell p 26]) {a : Act} {w : World} {g n : Nat} {l : List Nat} (hp : a.tmps.getD p undef = .pointer (some ⟨g, 0, none⟩)) (hg : Bk w g 26 (oc n l)) (hl : l.length = 16) (hd : a.defers = [])
    {R : Ending → World → Prop} (hR : R (.returned (oV n l)) w) : bodyPost Tryd.prog fn R .ret a w :=
  bodyPost_ret (results_cell_row h a.tmps w g _ _ _ _ hp hg Tryd.underlying26 rfl (by rw [List.size_toArray, oc_length, hl]; exact info25)) hd hR

/-- The arcs of a slice, and zeros behind them. -/
def pad (l : List Nat) : List Nat := l ++ List.replicate (16 - l.length) 0
theorem pad_length {l : List Nat} (h : l.length ≤ 16) : (pad l).length = 16 := by simp [pad]; omega
theorem okO_pad {l : List Nat} (h : l.length ≤ 16) (ha : ∀ x ∈ l, x < 4294967296) : OkO l.length (pad l) :=
  ⟨by omega, pad_length h, fun x hx => by
    rcases List.mem_append.1 hx with hx | hx
    · exact ha x hx
    · rw [(List.mem_replicate.1 hx).2]; omega⟩
theorem pad_set (l : List Nat) (j : Nat) (hj : j < l.length) (h : l.length ≤ 16) : (pad (l.take j)).set j l[j] = pad (l.take (j + 1)) := by
  unfold pad
  rw [List.take_succ_eq_append_getElem hj, List.length_append, List.length_take, List.length_singleton, Nat.min_eq_left (by omega), show 16 - j = (16 - (j + 1)) + 1 by omega, List.replicate_succ,
    List.set_append_right _ _ (by rw [List.length_take]; omega)]
  rw [List.length_take, Nat.min_eq_left (by omega), Nat.sub_self, List.set_cons_zero, List.append_assoc]
  rfl
/-- A slice of words of 32 bits. -/
def R32 (w : World) (A : Option Addr) (l : List Nat) : Prop := Rd w A (cs32 l)
theorem R32.at_ {w : World} {A : Option Addr} {l : List Nat} (h : R32 w A l) {k : Nat} (hk : k < l.length) : ∃ b off, A = some ⟨b, off, none⟩ ∧ b < w.heap.size ∧ w.cell? ⟨b, off + k, none⟩ = some (.int .u32 (l[k] : Int)) := by
  obtain ⟨b, off, e, hb, hc⟩ := Rd.at_ h (k := k) (by rw [cs32_length]; exact hk)
  exact ⟨b, off, e, hb, by simpa [cs32, by32] using hc⟩
theorem oc_set (n : Nat) (l : List Nat) (j x : Nat) : (oc n l).set (j + 1) (.int .u32 (x : Int)) = oc n (l.set j x) := by
  unfold oc cs32; rw [List.set_cons_succ, List.map_set]; rfl
theorem oc_set0 (n m : Nat) (l : List Nat) : (oc n l).set 0 (.int .u8 (m : Int)) = oc m l := rfl

set_option maxHeartbeats 1000000 in
set_option maxRecDepth 100000 in
theorem made_any (A : Option Addr) (l : List Nat) (c : Nat) (w : World) (hl : l.length ≤ 16) (hA : R32 w A l) :
    Calls Tryd.prog 23 #[.slice A l.length c] w (GiveO w l.length (pad l)) := by
  have hz := zero25
  have hzp : zeroL = pad (l.take 0) := by rw [List.take_zero]; rfl
  obtain ⟨zl, hzl⟩ : ∃ zl, zeroL = zl := ⟨_, rfl⟩
  rw [hzl] at hz hzp
  have HZ := Lib.hid hzp
  have hzlen : zl.length = 16 := by rw [← hzl]; rfl
  have HZL := Lib.hid hzlen
  clear hzl hzp hzlen
  have h0 := Bk.new w 26 (oc 0 zl)
  have h1 := Bk.new (w.alloc (.cells (oc 0 zl).toArray 26)) 26 (oc 0 zl)
  have h0' := h0.alloc (.cells (oc 0 zl).toArray 26)
  rw [World.size_alloc] at h1
  have B0 := Lib.hid ((bel1 w (.cells (oc 0 zl).toArray 26)).alloc (by simp) (.cells (oc 0 zl).toArray 26))
  have hsz : w.heap.size + 1 < ((w.alloc (.cells (oc 0 zl).toArray 26)).alloc (.cells (oc 0 zl).toArray 26)).heap.size := by simp
  have c0 := oid_n h1
  have f0 := h1.free 0
  go_enter Tryd.func23, Tryd.ntmps23
  go_upto_region 2 with fail
  generalize (w.alloc (.cells (oc 0 zl).toArray 26)).alloc (.cells (oc 0 zl).toArray 26) = wx at *
  go_upto_region 3 with fail
  have k1 := h1.store 0 (.int .u8 (l.length : Int))
  rw [oc_set0] at k1
  have k0 := h0'.far (p := ⟨w.heap.size + 1, 0, none⟩) (by simp) (.int .u8 (l.length : Int))
  have B1 := Lib.hid (B0.out.setCell (p := ⟨w.heap.size + 1, 0, none⟩) (by simp) (.int .u8 (l.length : Int)))
  clear h1 h0' c0 f0 hsz B0
  have hs1 : w.heap.size + 1 < (wx.setCell ⟨w.heap.size + 1, 0, none⟩ (.int .u8 (l.length : Int))).heap.size := k1.lt
  generalize wx.setCell ⟨w.heap.size + 1, 0, none⟩ (.int .u8 (l.length : Int)) = w1 at *
  go_wp2
  go_loopw [4] (fun i wr => ∃ j : Nat, j ≤ l.length ∧ i = .int .i64 (j : Int) ∧ Bk wr (w.heap.size + 1) 26 (oc l.length (pad (l.take j))) ∧ Bk wr w.heap.size 26 (oc 0 zl) ∧ Below w.heap.size w wr) (fun i _ => l.length - (intOf i).toNat)
  case atStart => exact ⟨0, Nat.zero_le _, rfl, HZ.out ▸ k1, k0, B1.out⟩
  case round =>
    obtain ⟨j, hj, rfl, r1, r0, rb⟩ := hrel
    have RB := Lib.hid rb
    have HR0 := Lib.hid r0
    clear rb r0
    rcases Nat.lt_or_ge j l.length with hj2 | hj2
    · obtain ⟨b, off, rfl, hb, hc⟩ := hA.at_ hj2
      have hc := (RB.out.cell (p := ⟨b, off + j, none⟩) hb).trans hc
      have hp := oid_a' r1 (i := j) (by rw [pad_length (by rw [List.length_take]; omega)]; omega)
      have hf := r1.free (1 + j)
      have HS := Lib.hid (r1.store (1 + j) (.int .u32 (l[j] : Int)))
      have HS2 : Hid (((oc l.length (pad (l.take j))).set (1 + j) (.int .u32 (l[j] : Int))) = oc l.length (pad (l.take (j + 1)))) := Lib.hid (by rw [Nat.add_comm 1 j, oc_set, pad_set l j hj2 hl])
      have HF := Lib.hid (HR0.out.far (p := ⟨w.heap.size + 1, 1 + j, none⟩) (by simp) (.int .u32 (l[j] : Int)))
      have HB := Lib.hid (RB.out.setCell (p := ⟨w.heap.size + 1, 1 + j, none⟩) (by simp) (.int .u32 (l[j] : Int)))
      generalize l[j] = x at *
      go_wp2
      exact ⟨⟨j + 1, by omega, by go_num, HS2.out ▸ HS.out, HF.out, HB.out⟩, by simp [intOf]; omega⟩
    · obtain rfl : j = l.length := by omega
      rw [List.take_length] at r1
      have hpl := pad_length hl
      have HR1 := Lib.hid r1
      clear r1
      generalize pad l = pl at *
      go_wp2_with (first | (refine wpList_load25 rfl (.tmp 3) rfl rfl HR1.out hpl ?_) | (refine wpList_store25 rfl (.tmp 2) (.tmp 22) rfl rfl rfl HR0.out (by rw [oc_length, HZL.out]) hpl ?_; intro w5 S5 hg5 hz5; have HS5 := Lib.hid S5; have HB5 := Lib.hid (RB.out.grown hg5 RB.out.size (fun k e => by injection e with e; omega)); clear S5 hg5 hz5))
      exact ret25 rfl rfl HS5.out hpl rfl ⟨rfl, HB5.out⟩
end Go.Proofs.YtndamidmgglneaaDoor
