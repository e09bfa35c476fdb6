/-
  What every row of layer 4 wants: an argument opened by its shape (a byte slice, a number, a tree of elements); the row's last step where of the world behind the call only 'below the old heap nothing has turned' is known.
  Conditions: none.
-/
import Derived.Test.YtgdjgahmnnjeeaaElZa
import Derived.Lib.SmallJoins
import Derived.ProofKit
namespace Go.Proofs.Ytgdjgahmnnjeeaa
open Go.ChangeShapes Go.WideShapes Go.ChangeAt Go.WideMaps Go.WideElems Go.RowKit

theorem x_own : ownKnob Try.prog.godebug = none := by kernel_rfl
theorem x_laid : laidOutB Try.prog = true := by kernel_rfl
section
variable {H : Type} {enc : TypeId × Value → H} {P : Program}
/-- All arguments read behind the call as before it. -/
theorem all_stay {W W' : World} {sp : Nat → Bool} (hl : laidOutB P = true) : ∀ {ts : List TypeId} {vs : List Value} {ds : List (DataW H)} {ps : List MemPlace},
    (∀ t ∈ ts, P.readableRec t = true ∧ t < P.types.size) → DataW.TrodAll enc P W 0 (fun _ => true) true ts vs ds ps → (∀ p ∈ ps, W.sameAt W' p) → (∀ p ∈ ps, sp p.block = true) → DataW.TrodAll enc P W' 0 sp true ts vs ds ps
  | [], [], [], _, _, h, _, _ => h
  | t :: ts, v :: vs, d :: ds, _, ht, ⟨p, q, h1, h2, e⟩, hs, hsp =>
    ⟨p, q, WideElems.Trod_stays hl (ht t (List.mem_cons_self ..)).1 (ht t (List.mem_cons_self ..)).2 h1 (fun x hx => hs x (by rw [e]; exact List.mem_append_left _ hx)) (fun x hx => hsp x (by rw [e]; exact List.mem_append_left _ hx)),
      all_stay hl (fun u hu => ht u (List.mem_cons_of_mem _ hu)) h2 (fun x hx => hs x (by rw [e]; exact List.mem_append_right _ hx)) (fun x hx => hsp x (by rw [e]; exact List.mem_append_right _ hx)), e⟩

/-- A law answered true and left what was there as it was. -/
theorem law_post {f : Func} {s : ChangeSpec} {W W' : World} {args : Array Value} {ds : List (DataW H)} {before : List MemPlace} {tb : TypeId} (hl : laidOutB P = true) (hts : ∀ t ∈ f.params.toList, P.readableRec t = true ∧ t < P.types.size)
    (hv : s.vars = []) (hfn : s.fn H ds = { results := [.lit (.bool true)], args := ds }) (hr : f.resultTypes = #[tb]) (hB : P.underlying tb = some .bool)
    (hW : DataW.Whole enc P f.params.toList s.vars false W args.toList ds [] before) (hb : Below W.heap.size W W') : s.post enc P f false true false false W args (.bool true) W' := by
  have hlt := hW.lt
  obtain ⟨p, q, h1, h2, rfl, h4, h5⟩ := hW
  have h2' := h2
  rw [hv] at h2'
  obtain ⟨_, rfl⟩ := trodVars_none h2'
  have e0 : s.fn H (ds ++ []) = { results := [.lit (.bool true)], args := ds } := by rw [List.append_nil]; exact hfn
  have hdec : ∀ x ∈ p, decide (x.block < W.heap.size) = true := fun x hx => by simpa using hlt x (List.mem_append_left _ hx)
  refine ⟨ds, [], p ++ [], [], p, [], ⟨p, [], h1, h2, rfl, h4, h5⟩, ?_, ?_, ?_, ?_, fun h => by cases h⟩
  · rw [e0, hr]
    exact trodAll_mk1 (shut_bool hB true)
  · rw [e0]
    exact all_stay hl hts h1 (fun x hx => hb.same (hlt x (List.mem_append_left _ hx))) hdec
  · rw [e0, hv]
    exact rfl
  · exact World.keptBut_mono (fun x hx => ⟨hx, Or.inr (Or.inl (by simpa using hx))⟩) (hb.frame (· ∈ p ++ []))
end

section
variable {H : Type} {enc : TypeId × Value → H} {W : World} {base : Nat} {d : DataW H} {v : Value} {ps : List MemPlace}
theorem open_cells {fuel : Nat} {cs : List Value} {x : DataW H × List MemPlace} (hd : DataW.trod enc Try.prog W 0 (fun _ => true) true fuel 26 cs = some x) :
    ∃ (A : Option Addr) (l : List Nat) (c : Nat), cs = [.slice A l.length c] ∧ Rb W A l ∧ l.length ≤ c ∧ c ≤ maxLen := by
  rcases open_ints Try.underlying26 Try.underlying5 (by kernel_rfl) hd with ⟨rfl, _⟩ | ⟨a, len, cap, zs, rfl, _, hl, hm, hz, _, hc, hw⟩
  · exact ⟨none, [], 0, rfl, Rb.nil, Nat.le_refl _, Nat.zero_le _⟩
  · rw [if_pos rfl] at hz
    have hzr : ∀ i, i < zs.length → 0 ≤ zs.getD i 0 ∧ zs.getD i 0 < 256 := by
      intro i hi
      have := hw (zs.getD i 0) (by rw [show zs.getD i 0 = zs[i] from by simp [List.getD, hi]]; exact List.getElem_mem hi)
      revert this
      generalize zs.getD i 0 = z
      intro this
      simp [Lit.wf, IntKind.min, IntKind.max, IntKind.signed, IntKind.bits] at this
      omega
    have hlen : ((zs.take len).map Int.toNat).length = len := by simp; omega
    refine ⟨some a, (zs.take len).map Int.toNat, cap, by rw [hlen], ⟨fun hn => ?_, ?_⟩, by rw [hlen]; exact hl, hm⟩
    · have h0 : 0 < zs.length := by
        rcases Nat.eq_zero_or_pos zs.length with h0 | h0
        · exact absurd (by rw [List.eq_nil_of_length_eq_zero h0]; simp [cs8]) hn
        · exact h0
      obtain ⟨b, off, rfl, hc'⟩ := ints_at hc h0
      refine ⟨b, off, rfl, ?_, ?_⟩
      · have h1 := hc' 0 h0
        rcases Nat.lt_or_ge b W.heap.size with hlt | hge
        · exact hlt
        · unfold World.cell? at h1
          simp [Array.getElem?_eq_none hge] at h1
      · intro j u hu
        unfold cs8 at hu
        rw [List.map_map, List.getElem?_map] at hu
        obtain ⟨z, hz1, rfl⟩ := Option.map_eq_some_iff.1 hu
        obtain ⟨hj, hz2⟩ := List.getElem?_eq_some_iff.1 hz1
        have hj2 : j < zs.length := by simp at hj; omega
        rw [hc' j hj2]
        have h3 := hzr j hj2
        have h4 : zs.getD j 0 = z := by rw [← hz2]; simp [List.getD, hj2]
        rw [h4] at h3 ⊢
        show _ = some (Value.int .u8 ((z.toNat : Nat) : Int))
        rw [Int.toNat_of_nonneg h3.1]
    · intro x hx
      obtain ⟨z, hz1, rfl⟩ := List.mem_map.1 hx
      obtain ⟨i, hi, rfl⟩ := List.getElem_of_mem (List.mem_of_mem_take hz1)
      have := hzr i hi
      rw [show zs.getD i 0 = zs[i] from by simp [List.getD, hi]] at this
      omega
set_option maxRecDepth 100000 in
/-- An argument that is a byte slice. -/
theorem open_bytes {r : Reach} (hval : Value.okWide Try.prog W r base 26 v) (hd : DataW.Trod enc Try.prog W 0 (fun _ => true) true 26 v d ps) :
    ∃ (A : Option Addr) (l : List Nat) (c : Nat), v = .slice A l.length c ∧ Rb W A l ∧ l.length ≤ c ∧ c ≤ maxLen := by
  obtain ⟨A, len, cap, rfl⟩ := okWide_slice Try.underlying26 hval
  obtain ⟨fuel, hf⟩ := hd
  obtain ⟨B, l, c, h1, h2, h3, h4⟩ := open_cells hf
  simp only [Value.cells, List.cons.injEq, and_true] at h1
  exact ⟨B, l, c, h1, h2, h3, h4⟩
/-- A number's reading is in its kind. -/
theorem u8_of {fuel : Nat} {sp : Nat → Bool} {t : TypeId} {x : DataW H × List MemPlace} {v : Value} (ht : Try.prog.underlying t = some (.int .u8)) (h : DataW.trod enc Try.prog W 0 sp true fuel t [v] = some x) : ∃ n : Nat, v = .int .u8 (n : Int) ∧ n < 256 := by
  obtain ⟨z, h1, _, hw⟩ := DataW.trod_int ht h
  simp only [List.cons.injEq, and_true] at h1
  have hr : 0 ≤ z ∧ z < 256 := by
    revert hw
    simp [Lit.wf, IntKind.min, IntKind.max, IntKind.signed, IntKind.bits]
    omega
  exact ⟨z.toNat, by rw [h1, Int.toNat_of_nonneg hr.1], by omega⟩
theorem u32_of {fuel : Nat} {sp : Nat → Bool} {t : TypeId} {x : DataW H × List MemPlace} {v : Value} (ht : Try.prog.underlying t = some (.int .u32)) (h : DataW.trod enc Try.prog W 0 sp true fuel t [v] = some x) : ∃ n : Nat, v = .int .u32 (n : Int) ∧ n < 4294967296 := by
  obtain ⟨z, h1, _, hw⟩ := DataW.trod_int ht h
  simp only [List.cons.injEq, and_true] at h1
  have hr : 0 ≤ z ∧ z < 4294967296 := by
    revert hw
    simp [Lit.wf, IntKind.min, IntKind.max, IntKind.signed, IntKind.bits]
    omega
  exact ⟨z.toNat, by rw [h1, Int.toNat_of_nonneg hr.1], by omega⟩
set_option maxRecDepth 100000 in
/-- An argument that is a byte. -/
theorem open_u8 {r : Reach} (hval : Value.okWide Try.prog W r base 5 v) (hd : DataW.Trod enc Try.prog W 0 (fun _ => true) true 5 v d ps) : ∃ n : Nat, v = .int .u8 (n : Int) ∧ n < 256 := by
  obtain ⟨z, rfl, _, _, hw⟩ := open_int Try.underlying5 hval hd
  have hr : 0 ≤ z ∧ z < 256 := by
    revert hw
    simp [Lit.wf, IntKind.min, IntKind.max, IntKind.signed, IntKind.bits]
    omega
  exact ⟨z.toNat, by rw [Int.toNat_of_nonneg hr.1], by omega⟩
set_option maxRecDepth 100000 in
/-- An argument that is a number of 32 bits. -/
theorem open_u32 {r : Reach} (hval : Value.okWide Try.prog W r base 23 v) (hd : DataW.Trod enc Try.prog W 0 (fun _ => true) true 23 v d ps) : ∃ n : Nat, v = .int .u32 (n : Int) ∧ n < 4294967296 := by
  obtain ⟨z, rfl, _, _, hw⟩ := open_int Try.underlying23 hval hd
  have hr : 0 ≤ z ∧ z < 4294967296 := by
    revert hw
    simp [Lit.wf, IntKind.min, IntKind.max, IntKind.signed, IntKind.bits]
    omega
  exact ⟨z.toNat, by rw [Int.toNat_of_nonneg hr.1], by omega⟩
set_option maxRecDepth 100000 in
/-- An argument that is an int. -/
theorem open_i64 {r : Reach} (hval : Value.okWide Try.prog W r base 3 v) (hd : DataW.Trod enc Try.prog W 0 (fun _ => true) true 3 v d ps) : ∃ z : Int, v = .int .i64 z ∧ -9223372036854775808 ≤ z ∧ z < 9223372036854775808 := by
  obtain ⟨z, rfl, _, _, hw⟩ := open_int Try.underlying3 hval hd
  have hr : -9223372036854775808 ≤ z ∧ z < 9223372036854775808 := by
    revert hw
    simp [Lit.wf, IntKind.min, IntKind.max, IntKind.signed, IntKind.bits]
    omega
  exact ⟨z, rfl, hr⟩
theorem bool_of {fuel : Nat} {sp : Nat → Bool} {t : TypeId} {x : DataW H × List MemPlace} {v : Value} (ht : Try.prog.underlying t = some .bool) (h : DataW.trod enc Try.prog W 0 sp true fuel t [v] = some x) : ∃ b : Bool, v = .bool b := by
  obtain ⟨b, h1, _⟩ := DataW.trod_bool ht h
  simp only [List.cons.injEq, and_true] at h1
  exact ⟨b, h1⟩
theorem array5 {α : Type} {cs : Array α} (h : cs.size = 5) : ∃ c0 c1 c2 c3 c4, cs = #[c0, c1, c2, c3, c4] := by
  obtain ⟨l⟩ := cs
  match l, h with
  | [c0, c1, c2, c3, c4], _ => exact ⟨c0, c1, c2, c3, c4, rfl⟩
theorem list5 {α : Type} {l : List α} (h : l.length = 5) : ∃ c0 c1 c2 c3 c4, l = [c0, c1, c2, c3, c4] := by
  match l, h with
  | [c0, c1, c2, c3, c4], _ => exact ⟨c0, c1, c2, c3, c4, rfl⟩
/-- What lies one behind the other, each piece a tree: they are a row of trees. -/
theorem rows_at {W : World} {b off : Nat} {len : Nat} (h : ∀ i, i < len → ∃ (e : El) (v : Value), W.cells? 0 ((⟨b, off, none⟩ : Addr).add (i * 5)) 5 = some v.cells.toList ∧ RdE false (fun _ => True) W e v) :
    ∀ m, m ≤ len → ∃ ss : List El, ss.length = m ∧ RdS false (fun _ => True) W (some ⟨b, off + (len - m) * 5, none⟩) ss := by
  intro m
  induction m with
  | zero => exact fun _ => ⟨[], rfl, trivial⟩
  | succ m ih =>
    intro hm
    obtain ⟨ss, hl, hs⟩ := ih (by omega)
    obtain ⟨e, v, hc, hE⟩ := h (len - (m + 1)) (by omega)
    rw [addr_add] at hc
    have hblk := World.cells?_block hc (by decide)
    obtain ⟨_, hlen, hcell⟩ := World.cells?_some hc
    refine ⟨e :: ss, by rw [List.length_cons, hl], b, off + (len - (m + 1)) * 5, v, rfl, hblk, trivial, fun j u hu => ?_, hE, ?_⟩
    · have hj : j < 5 := by rw [← hlen]; exact (List.getElem?_eq_some_iff.1 hu).1
      have := hcell j hj
      rw [addr_add, hu] at this
      exact this
    · have e1 : off + (len - (m + 1)) * 5 + 5 = off + (len - m) * 5 := by omega
      rw [e1]
      exact hs
theorem rows_of {W : World} {a : Addr} {len : Nat} (h : ∀ i, i < len → ∃ (e : El) (v : Value), W.cells? 0 (a.add (i * 5)) 5 = some v.cells.toList ∧ RdE false (fun _ => True) W e v) :
    ∃ ss : List El, ss.length = len ∧ RdS false (fun _ => True) W (some a) ss := by
  rcases Nat.eq_zero_or_pos len with rfl | hp
  · exact ⟨[], rfl, trivial⟩
  obtain ⟨e, v, hc, hE⟩ := h 0 hp
  have ha : a.add (0 * 5) = a := by obtain ⟨b, off, s⟩ := a; simp [Addr.add]
  rw [ha] at hc
  obtain ⟨_, hlen, hcell⟩ := World.cells?_some hc
  have h0 := hcell 0 (by decide)
  rw [List.getElem?_eq_getElem (by rw [hlen]; decide)] at h0
  obtain ⟨b, off, spot⟩ := a
  have hspot : spot = none := by simpa [Addr.add] using World.cell?_spot h0
  subst hspot
  obtain ⟨ss, h1, h2⟩ := rows_at h len (Nat.le_refl _)
  rw [Nat.sub_self, Nat.zero_mul, Nat.add_zero] at h2
  exact ⟨ss, h1, h2⟩
set_option maxRecDepth 100000 in
set_option maxHeartbeats 1000000 in
/-- A reading of an element is one of a tree. -/
theorem open_tree : ∀ (fuel : Nat) (cs : List Value) (y : DataW H × List MemPlace), DataW.trod enc Try.prog W 0 (fun _ => true) true fuel 29 cs = some y → ∃ (e : El) (v : Value), cs = v.cells.toList ∧ RdE false (fun _ => True) W e v := by
  have e0 : Try.prog.cellsOf 29 = 5 := by kernel_rfl
  have e1 : Try.prog.cellsOf 25 = 3 := by kernel_rfl
  have e2 : Try.prog.cellsOf 26 = 1 := by kernel_rfl
  have e3 : Try.prog.cellsOf 27 = 1 := by kernel_rfl
  have e4 : Try.prog.cellsOf 22 = 1 := by kernel_rfl
  have e5 : Try.prog.cellsOf 4 = 1 := by kernel_rfl
  have e6 : Try.prog.cellsOf 23 = 1 := by kernel_rfl
  intro fuel
  induction fuel using Nat.strongRecOn with
  | _ fuel ih =>
  intro cs y hf
  obtain ⟨xs, n, hfu, _, hl, hxl, hget⟩ := DataW.trod_struct Try.underlying29 hf
  rw [e0] at hl
  obtain ⟨c0, c1, c2, c3, c4, rfl⟩ := list5 hl
  match xs, hxl with
  | [y0, y1, y2], _ =>
  have f0 := hget 0 _ rfl
  have f1 := hget 1 _ rfl
  have f2 := hget 2 _ rfl
  clear hf hget
  simp [e1, e2, e3] at f0 f1 f2
  obtain ⟨z0, z1, z2, m, _, _, g0, g1, g2⟩ := Deep.trod_struct3 Try.underlying25 f0
  simp [e4, e5, e6] at g0 g1 g2
  obtain ⟨c, rfl, hc⟩ := u8_of Try.underlying22 g0
  obtain ⟨k, rfl⟩ := bool_of Try.underlying4 g1
  obtain ⟨num, rfl, hn⟩ := u32_of Try.underlying23 g2
  obtain ⟨A, l, ca, h1, h2, h3, h4⟩ := open_cells f1
  simp only [List.cons.injEq, and_true] at h1
  subst h1
  have hX : RdX (fun _ => True) W A (cs8 l) := fun hn => by
    obtain ⟨b, off, e, hb, hc⟩ := h2.1 hn
    exact ⟨b, off, e, hb, trivial, hc⟩
  rcases DataW.trod_slice Try.underlying27 f2 with ⟨h5, _⟩ | ⟨a, len, cap, elems, rest, n', hn', h5, _, _, hlc, hcm, hel, hev, _⟩
  · simp only [List.cons.injEq, and_true] at h5
    subst h5
    exact ⟨.mk c num k l [], elV c num k (.slice A l.length ca) (.slice none 0 0), rfl, hc, hn, h2.2, A, ca, none, 0, rfl, hX, h3, h4, Nat.le_refl _, Nat.zero_le _, fun h => (by cases h), trivial⟩
  · simp only [List.cons.injEq, and_true] at h5
    subst h5
    rw [e0] at hev
    obtain ⟨ss, hsl, hss⟩ := rows_of (W := W) (a := a) (len := len) (fun i hi => by
      have h6 := hev i hi
      rw [List.getElem?_eq_getElem (by omega)] at h6
      obtain ⟨cs', h7, h8⟩ := Option.bind_eq_some_iff.1 h6
      obtain ⟨e, v, rfl, hE⟩ := ih n' (by omega) cs' _ h8
      exact ⟨e, v, h7, hE⟩)
    refine ⟨.mk c num k l ss, elV c num k (.slice A l.length ca) (.slice (some a) len cap), rfl, hc, hn, h2.2, A, ca, some a, cap, by rw [hsl], hX, h3, h4, by omega, hcm, fun h => (by cases h), hss⟩
set_option maxRecDepth 100000 in
/-- An argument that is an element. -/
theorem open_elem {r : Reach} (hval : Value.okWide Try.prog W r base 29 v) (hd : DataW.Trod enc Try.prog W 0 (fun _ => true) true 29 v d ps) :
    ∃ e : El, RdE false (fun _ => True) W e v := by
  have e0 : Try.prog.cellsOf 29 = 5 := by kernel_rfl
  obtain ⟨cs, rfl, hs⟩ := okWide_struct Try.underlying29 hval
  rw [e0] at hs
  obtain ⟨c0, c1, c2, c3, c4, rfl⟩ := array5 hs
  obtain ⟨fuel, hf⟩ := hd
  obtain ⟨e, v, h1, h2⟩ := open_tree fuel _ _ hf
  have h3 := h2.form
  obtain ⟨c, n, k, A, l, q, A2, l2, q2, rfl⟩ := h3
  simp [Value.cells] at h1
  obtain ⟨rfl, rfl, rfl, rfl, rfl⟩ := h1
  exact ⟨e, h2⟩
end
end Go.Proofs.Ytgdjgahmnnjeeaa
