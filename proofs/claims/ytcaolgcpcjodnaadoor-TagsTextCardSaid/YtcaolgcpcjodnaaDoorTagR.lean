/-
  What every row of this program wants: the listed variables out of the row's condition; an argument opened by its shape (a byte slice, a tag, plain data T, a string, a byte); the row's last step where of the world behind the call only 'below the old heap nothing has turned' is known.
  Conditions: none.
-/
import Derived.Test.YtcaolgcpcjodnaaDoorTagO
import Derived.Test.YtcaolgcpcjodnaaDoorCards
import Derived.Test.YtcaolgcpcjodnaaDoorTie
import Derived.ProofKit
import Derived.LaidMore
import Derived.OpenShut
import Derived.Stop.Joined
import Derived.SevenTiedAt
import Derived.Lib.LaidTab
import Derived.Stop.LaidErr
import Derived.Lib.SmallJoins
namespace Go.Proofs.YtcaolgcpcjodnaaDoor
open Go.ChangeShapes Go.WideShapes Go.ChangeAt Go.WideMaps Go.WideElems Go.RowKit

/-- The walk's step at a guarded builtin append whose guard says yes. -/
theorem wpList_app2 {P : Program} {w : World} {ops : Array Oper} {rest : List Oper} {o : Oper} {a : Act} {Q : Exit → Act → World → Prop} (hw : Region.wanted o (yielded ops a.tmps) = true) (s x : Operand) (t1 t2 : TypeId)
    (ho : o.op = .call { callee := .builtin .append, args := #[s, x], argTypes := #[t1, t2] }) (u v : Value) (hs : a.eval s = u) (hx : a.eval x = v) {r : Value} {w1 : World}
    (hrun : (Builtin.append_ #[t1, t2] o.type #[u, v]).run P w = .ok r w1) (h : wpList P ops Q rest (a.put o.dst r) w1) : wpList P ops Q (o :: rest) a w := by
  refine BigFrame.wpList_want hw fun K hK => ?_
  have hK' := hK _ _ h
  unfold Oper.wp execOp
  simp only [ho, resolve, invoke, builtin, Sem.run_bind, Sem.run_pure, Result.andThen_ok, List.map_toArray, List.map_cons, List.map_nil, hs, hx, hrun]
  exact hK'
theorem x_own : ownKnob Tryd.prog.godebug = none := by kernel_rfl
theorem x_laid : laidOutB Tryd.prog = true := by kernel_rfl
/-- The listed variables. -/
def laidL : List (String × DataW Unit) := [("math/bits.deBruijn32tab", Rows.laid_math_bits_deBruijn32tab), ("math/bits.deBruijn64tab", Rows.laid_math_bits_deBruijn64tab), ("internal/strconv.uint64pow10", Rows.laid_internal_strconv_uint64pow10), ("strconv.ErrRange", Rows.laid_strconv_ErrRange), ("strconv.ErrSyntax", Rows.laid_strconv_ErrSyntax), ("vidimus/tags.classNames", Rows.laid_vidimus_tags_classNames)]
/-- The door's own heap meets the condition. -/
theorem door_met (os : Os) (args : Array Value) : laidMetH Tryd.prog laidL ((World.doorLaid Tryd.prog 67 os).forCall (fun _ _ => 0) ⟨#[], args, []⟩).memory :=
  laidMetH_of_parts3 (fuel := 8) (laidMet_of_run' 8 (by kernel_rfl) (by kernel_rfl)) (by kernel_rfl) (by kernel_rfl)
theorem gPow : Tryd.prog.globalNamed "internal/strconv.uint64pow10" = some 1 := by kernel_rfl
theorem gES : Tryd.prog.globalNamed "strconv.ErrSyntax" = some 3 := by kernel_rfl
theorem gER : Tryd.prog.globalNamed "strconv.ErrRange" = some 4 := by kernel_rfl
theorem tES : (Tryd.prog.globals[3]?).map (·.type) = some 84 := by kernel_rfl
theorem tER : (Tryd.prog.globals[4]?).map (·.type) = some 84 := by kernel_rfl
theorem tCls : (Tryd.prog.globals[0]?).map (·.type) = some 59 := by kernel_rfl
theorem xStar : "*" ++ "errors.errorString" = "*errors.errorString" := by decide
/-- The one row of that name. -/
theorem rowErr (u : TypeId) (h : Tryd.prog.typeName? 3 u = some "*errors.errorString") : u = 117 :=
  typeName_ptr_named (nm := "errors.errorString") (by rw [xStar]; kernel_rfl) (by kernel_rfl) (by decide) u (by rw [xStar]; exact h)
theorem cells_err : Tryd.prog.cellsOf 119 = 1 := by kernel_rfl
theorem cells_str : Tryd.prog.cellsOf 9 = 1 := by kernel_rfl
theorem cells_cls : Tryd.prog.cellsOf 59 = 4 := by kernel_rfl
/-- A string that reads as letters. -/
theorem str_of {s : ByteArray} {l : List Nat} (h : s.data.toList = l.map UInt8.ofNat) : s = bstr l := by
  apply ByteArray.ext
  apply Array.toList_inj.1
  rw [h, bstr_list]
set_option maxRecDepth 100000 in
theorem of_laid {W : World} (h : laidMetH Tryd.prog laidL W) : Env W := by
  rw [MakeChecks.laidMetH_plain _ _ _ (by kernel_rfl)] at h
  have h3 := h.tail.tail
  have h4 := h3.tail
  have h5 := h4.tail
  have h6 := h5.tail
  refine ⟨?_, ?_, ?_, ?_⟩
  · exact Lib.tabIs_of_head (t := 97) gPow (by kernel_rfl) Tryd.underlying97 Tryd.underlying61 (by kernel_rfl) (by kernel_rfl) h3
  · obtain ⟨a0, s0, hv0, -, -, -⟩ := laid_sentinel h5 gES tES Tryd.underlying84 rowErr Tryd.underlying117 Tryd.underlying119 rfl rfl Tryd.underlying9 cells_err cells_str
    exact ⟨_, _, hv0⟩
  · obtain ⟨a0, s0, hv0, -, -, -⟩ := laid_sentinel h4 gER tER Tryd.underlying84 rowErr Tryd.underlying117 Tryd.underlying119 rfl rfl Tryd.underlying9 cells_err cells_str
    exact ⟨_, _, hv0⟩
  · obtain ⟨ps, ⟨g0, t0, cs0, f0, p0, q0, hg0, ht0, hv0, hd0, _, _⟩, _⟩ := h6
    obtain rfl := Option.some.inj (gCls.symm.trans hg0)
    obtain rfl := Option.some.inj (tCls.symm.trans ht0)
    obtain ⟨xs, m1, rfl, hx1, hlen, hn3, hel⟩ := DataW.trod_array Tryd.underlying59 hd0
    rw [cells_cls] at hlen
    obtain ⟨l0⟩ := cs0
    match l0, hlen, xs, hn3, hx1, hel with
    | [v0, v1, v2, v3], _, [x0, x1, x2, x3], _, hx1, hel =>
      simp only [Prod.mk.injEq, DataW.agg.injEq, List.map_cons, List.map_nil, List.cons.injEq, and_true, Rows.laid_vidimus_tags_classNames] at hx1
      obtain ⟨⟨k0, k1, k2, k3⟩, _⟩ := hx1
      have e0 := hel 0 (by decide)
      have e1 := hel 1 (by decide)
      have e2 := hel 2 (by decide)
      have e3 := hel 3 (by decide)
      rw [cells_str] at e0 e1 e2 e3
      obtain ⟨s0, a0, b0, -⟩ := DataW.trod_string Tryd.underlying9 (show DataW.trod _ Tryd.prog W 0 _ _ m1 9 [v0] = some x0 from e0)
      obtain ⟨s1, a1, b1, -⟩ := DataW.trod_string Tryd.underlying9 (show DataW.trod _ Tryd.prog W 0 _ _ m1 9 [v1] = some x1 from e1)
      obtain ⟨s2, a2, b2, -⟩ := DataW.trod_string Tryd.underlying9 (show DataW.trod _ Tryd.prog W 0 _ _ m1 9 [v2] = some x2 from e2)
      obtain ⟨s3, a3, b3, -⟩ := DataW.trod_string Tryd.underlying9 (show DataW.trod _ Tryd.prog W 0 _ _ m1 9 [v3] = some x3 from e3)
      rw [b0] at k0
      rw [b1] at k1
      rw [b2] at k2
      rw [b3] at k3
      simp only [DataW.lit.injEq, Lit.string.injEq] at k0 k1 k2 k3
      simp only [List.cons.injEq, and_true] at a0 a1 a2 a3
      rw [hv0, a0, a1, a2, a3, str_of (l := cname 0) k0.symm, str_of (l := cname 1) k1.symm, str_of (l := cname 2) k2.symm, str_of (l := cname 3) k3.symm]

section
variable {H : Type} {enc : TypeId × Value → H} {P : Program}
/-- All arguments read behind the call as before it. -/
theorem all_stay {W W' : World} {sp : Nat → Bool} (hl : laidOutB P = true) : ∀ {ts : List TypeId} {vs : List Value} {ds : List (DataW H)} {ps : List MemPlace},
    (∀ t ∈ ts, P.readableRec t = true ∧ t < P.types.size) → DataW.TrodAll enc P W 0 (fun _ => true) true ts vs ds ps → (∀ p ∈ ps, W.sameAt W' p) → (∀ p ∈ ps, sp p.block = true) → DataW.TrodAll enc P W' 0 sp true ts vs ds ps
  | [], [], [], _, _, h, _, _ => h
  | t :: ts, v :: vs, d :: ds, _, ht, ⟨p, q, h1, h2, e⟩, hs, hsp =>
    ⟨p, q, WideElems.Trod_stays hl (ht t (List.mem_cons_self ..)).1 (ht t (List.mem_cons_self ..)).2 h1 (fun x hx => hs x (by rw [e]; exact List.mem_append_left _ hx)) (fun x hx => hsp x (by rw [e]; exact List.mem_append_left _ hx)),
      all_stay hl (fun u hu => ht u (List.mem_cons_of_mem _ hu)) h2 (fun x hx => hs x (by rw [e]; exact List.mem_append_right _ hx)) (fun x hx => hsp x (by rw [e]; exact List.mem_append_right _ hx)), e⟩

/-- A law answered true and left what was there as it was. -/
theorem law_post {f : Func} {s : ChangeSpec} {W W' : World} {args : Array Value} {ds : List (DataW H)} {before : List MemPlace} {tb : TypeId} (hl : laidOutB P = true) (hts : ∀ t ∈ f.params.toList, P.readableRec t = true ∧ t < P.types.size)
    (hv : s.vars = []) (hfn : s.fn H ds = { results := [.lit (.bool true)], args := ds }) (hr : f.resultTypes = #[tb]) (hB : P.underlying tb = some .bool)
    (hW : DataW.Whole enc P f.params.toList s.vars false W args.toList ds [] before) (hb : Below W.heap.size W W') : s.post enc P f false true false false W args (.bool true) W' := by
  have hlt := hW.lt
  obtain ⟨p, q, h1, h2, rfl, h4, h5⟩ := hW
  have h2' := h2
  rw [hv] at h2'
  obtain ⟨_, rfl⟩ := trodVars_none h2'
  have e0 : s.fn H (ds ++ []) = { results := [.lit (.bool true)], args := ds } := by rw [List.append_nil]; exact hfn
  have hdec : ∀ x ∈ p, decide (x.block < W.heap.size) = true := fun x hx => by simpa using hlt x (List.mem_append_left _ hx)
  refine ⟨ds, [], p ++ [], [], p, [], ⟨p, [], h1, h2, rfl, h4, h5⟩, ?_, ?_, ?_, ?_, fun h => by cases h⟩
  · rw [e0, hr]
    exact trodAll_mk1 (shut_bool hB true)
  · rw [e0]
    exact all_stay hl hts h1 (fun x hx => hb.same (hlt x (List.mem_append_left _ hx))) hdec
  · rw [e0, hv]
    exact rfl
  · exact World.keptBut_mono (fun x hx => ⟨hx, Or.inr (Or.inl (by simpa using hx))⟩) (hb.frame (· ∈ p ++ []))
end

section
variable {H : Type} {enc : TypeId × Value → H} {W : World} {base : Nat} {d : DataW H} {v : Value} {ps : List MemPlace}
theorem open_cells {fuel : Nat} {cs : List Value} {x : DataW H × List MemPlace} (hd : DataW.trod enc Tryd.prog W 0 (fun _ => true) true fuel 30 cs = some x) :
    ∃ (A : Option Addr) (l : List Nat) (c : Nat), cs = [.slice A l.length c] ∧ Rb W A l ∧ l.length ≤ c ∧ c ≤ maxLen := by
  rcases open_ints Tryd.underlying30 Tryd.underlying5 (by kernel_rfl) hd with ⟨rfl, _⟩ | ⟨a, len, cap, zs, rfl, _, hl, hm, hz, _, hc, hw⟩
  · exact ⟨none, [], 0, rfl, Rb.nil, Nat.le_refl _, Nat.zero_le _⟩
  · rw [if_pos rfl] at hz
    have hzr : ∀ i, i < zs.length → 0 ≤ zs.getD i 0 ∧ zs.getD i 0 < 256 := by
      intro i hi
      have := hw (zs.getD i 0) (by rw [show zs.getD i 0 = zs[i] from by simp [List.getD, hi]]; exact List.getElem_mem hi)
      revert this
      generalize zs.getD i 0 = z
      intro this
      simp [Lit.wf, IntKind.min, IntKind.max, IntKind.signed, IntKind.bits] at this
      omega
    have hlen : ((zs.take len).map Int.toNat).length = len := by simp; omega
    refine ⟨some a, (zs.take len).map Int.toNat, cap, by rw [hlen], ⟨fun hn => ?_, ?_⟩, by rw [hlen]; exact hl, hm⟩
    · have h0 : 0 < zs.length := by
        rcases Nat.eq_zero_or_pos zs.length with h0 | h0
        · exact absurd (by rw [List.eq_nil_of_length_eq_zero h0]; simp [cs8]) hn
        · exact h0
      obtain ⟨b, off, rfl, hc'⟩ := ints_at hc h0
      refine ⟨b, off, rfl, ?_, ?_⟩
      · have h1 := hc' 0 h0
        rcases Nat.lt_or_ge b W.heap.size with hlt | hge
        · exact hlt
        · unfold World.cell? at h1
          simp [Array.getElem?_eq_none hge] at h1
      · intro j u hu
        unfold cs8 at hu
        rw [List.map_map, List.getElem?_map] at hu
        obtain ⟨z, hz1, rfl⟩ := Option.map_eq_some_iff.1 hu
        obtain ⟨hj, hz2⟩ := List.getElem?_eq_some_iff.1 hz1
        have hj2 : j < zs.length := by simp at hj; omega
        rw [hc' j hj2]
        have h3 := hzr j hj2
        have h4 : zs.getD j 0 = z := by rw [← hz2]; simp [List.getD, hj2]
        rw [h4] at h3 ⊢
        show _ = some (Value.int .u8 ((z.toNat : Nat) : Int))
        rw [Int.toNat_of_nonneg h3.1]
    · intro x hx
      obtain ⟨z, hz1, rfl⟩ := List.mem_map.1 hx
      obtain ⟨i, hi, rfl⟩ := List.getElem_of_mem (List.mem_of_mem_take hz1)
      have := hzr i hi
      rw [show zs.getD i 0 = zs[i] from by simp [List.getD, hi]] at this
      omega
set_option maxRecDepth 100000 in
/-- An argument that is a byte slice. -/
theorem open_bytes {r : Reach} (hval : Value.okWide Tryd.prog W r base 30 v) (hd : DataW.Trod enc Tryd.prog W 0 (fun _ => true) true 30 v d ps) :
    ∃ (A : Option Addr) (l : List Nat) (c : Nat), v = .slice A l.length c ∧ Rb W A l ∧ l.length ≤ c ∧ c ≤ maxLen := by
  obtain ⟨A, len, cap, rfl⟩ := okWide_slice Tryd.underlying30 hval
  obtain ⟨fuel, hf⟩ := hd
  obtain ⟨B, l, c, h1, h2, h3, h4⟩ := open_cells hf
  simp only [Value.cells, List.cons.injEq, and_true] at h1
  exact ⟨B, l, c, h1, h2, h3, h4⟩
/-- A number's reading is in its kind. -/
theorem u8_of {fuel : Nat} {sp : Nat → Bool} {t : TypeId} {x : DataW H × List MemPlace} {v : Value} (ht : Tryd.prog.underlying t = some (.int .u8)) (h : DataW.trod enc Tryd.prog W 0 sp true fuel t [v] = some x) : ∃ n : Nat, v = .int .u8 (n : Int) ∧ n < 256 := by
  obtain ⟨z, h1, _, hw⟩ := DataW.trod_int ht h
  simp only [List.cons.injEq, and_true] at h1
  have hr : 0 ≤ z ∧ z < 256 := by
    revert hw
    simp [Lit.wf, IntKind.min, IntKind.max, IntKind.signed, IntKind.bits]
    omega
  exact ⟨z.toNat, by rw [h1, Int.toNat_of_nonneg hr.1], by omega⟩
theorem u32_of {fuel : Nat} {sp : Nat → Bool} {t : TypeId} {x : DataW H × List MemPlace} {v : Value} (ht : Tryd.prog.underlying t = some (.int .u32)) (h : DataW.trod enc Tryd.prog W 0 sp true fuel t [v] = some x) : ∃ n : Nat, v = .int .u32 (n : Int) ∧ n < 4294967296 := by
  obtain ⟨z, h1, _, hw⟩ := DataW.trod_int ht h
  simp only [List.cons.injEq, and_true] at h1
  have hr : 0 ≤ z ∧ z < 4294967296 := by
    revert hw
    simp [Lit.wf, IntKind.min, IntKind.max, IntKind.signed, IntKind.bits]
    omega
  exact ⟨z.toNat, by rw [h1, Int.toNat_of_nonneg hr.1], by omega⟩
theorem bool_of {fuel : Nat} {sp : Nat → Bool} {t : TypeId} {x : DataW H × List MemPlace} {v : Value} (ht : Tryd.prog.underlying t = some .bool) (h : DataW.trod enc Tryd.prog W 0 sp true fuel t [v] = some x) : ∃ b : Bool, v = .bool b := by
  obtain ⟨b, h1, _⟩ := DataW.trod_bool ht h
  simp only [List.cons.injEq, and_true] at h1
  exact ⟨b, h1⟩
set_option maxRecDepth 100000 in
/-- An argument that is a tag. -/
theorem open_tag {r : Reach} (hval : Value.okWide Tryd.prog W r base 25 v) (hd : DataW.Trod enc Tryd.prog W 0 (fun _ => true) true 25 v d ps) :
    ∃ (c n : Nat) (k : Bool), v = tagV c n k ∧ c < 256 ∧ n < 4294967296 := by
  obtain ⟨v0, v1, v2, y0, y1, y2, m, rfl, _, _, e0, e1, e2⟩ := Joins.open_agg3 Tryd.underlying25 (by kernel_rfl) (by kernel_rfl) hval hd
  obtain ⟨c, rfl, hc⟩ := u8_of Tryd.underlying22 e0
  obtain ⟨k, rfl⟩ := bool_of Tryd.underlying4 e1
  obtain ⟨n, rfl, hn⟩ := u32_of Tryd.underlying23 e2
  exact ⟨c, n, k, rfl, hc, hn⟩
set_option maxRecDepth 100000 in
/-- An argument of type T. -/
theorem open_T {r : Reach} (hval : Value.okWide Tryd.prog W r base 37 v) (hd : DataW.Trod enc Tryd.prog W 0 (fun _ => true) true 37 v d ps) :
    ∃ (a f n : Nat), v = .agg #[.int .u8 (a : Int), .int .u8 (f : Int), .int .u32 (n : Int)] ∧ a < 256 ∧ f < 256 ∧ n < 4294967296 := by
  obtain ⟨v0, v1, v2, y0, y1, y2, m, rfl, _, _, e0, e1, e2⟩ := Joins.open_agg3 Tryd.underlying37 (by kernel_rfl) (by kernel_rfl) hval hd
  obtain ⟨a, rfl, ha⟩ := u8_of Tryd.underlying5 e0
  obtain ⟨f, rfl, hf⟩ := u8_of Tryd.underlying5 e1
  obtain ⟨n, rfl, hn⟩ := u32_of Tryd.underlying23 e2
  exact ⟨a, f, n, rfl, ha, hf, hn⟩
set_option maxRecDepth 100000 in
/-- An argument that is a byte. -/
theorem open_u8 {r : Reach} (hval : Value.okWide Tryd.prog W r base 5 v) (hd : DataW.Trod enc Tryd.prog W 0 (fun _ => true) true 5 v d ps) : ∃ n : Nat, v = .int .u8 (n : Int) ∧ n < 256 := by
  obtain ⟨z, rfl, _, _, hw⟩ := open_int Tryd.underlying5 hval hd
  have hr : 0 ≤ z ∧ z < 256 := by
    revert hw
    simp [Lit.wf, IntKind.min, IntKind.max, IntKind.signed, IntKind.bits]
    omega
  exact ⟨z.toNat, by rw [Int.toNat_of_nonneg hr.1], by omega⟩
end
end Go.Proofs.YtcaolgcpcjodnaaDoor
