/-
  Contracts and facts of layers 1 to 10 that later statements rest on: part E2 (ElRow ElOg ElPu).
  Conditions: as each says.
-/
import Derived.Test.YtfbdeefeagednaaPkE
import Derived.Lib.SmallJoins
import Derived.ProofKit
set_option maxRecDepth 100000
namespace Go.Proofs.Ytfbdeefeagednaa
open Go.ChangeShapes Go.WideShapes Go.ChangeAt Go.WideMaps Go.WideElems Go.RowKit
theorem x_own : ownKnob Try.prog.godebug = none := by kernel_rfl
theorem x_laid : laidOutB Try.prog = true := by kernel_rfl
section
variable {H : Type} {enc : TypeId × Value → H} {P : Program}
/-- All arguments read behind the call as before it. -/
theorem all_stay {W W' : World} {sp : Nat → Bool} (hl : laidOutB P = true) : ∀ {ts : List TypeId} {vs : List Value} {ds : List (DataW H)} {ps : List MemPlace},
    (∀ t ∈ ts, P.readableRec t = true ∧ t < P.types.size) → DataW.TrodAll enc P W 0 (fun _ => true) true ts vs ds ps → (∀ p ∈ ps, W.sameAt W' p) → (∀ p ∈ ps, sp p.block = true) → DataW.TrodAll enc P W' 0 sp true ts vs ds ps
  | [], [], [], _, _, h, _, _ => h
  | t :: ts, v :: vs, d :: ds, _, ht, ⟨p, q, h1, h2, e⟩, hs, hsp =>
    ⟨p, q, WideElems.Trod_stays hl (ht t (List.mem_cons_self ..)).1 (ht t (List.mem_cons_self ..)).2 h1 (fun x hx => hs x (by rw [e]; exact List.mem_append_left _ hx)) (fun x hx => hsp x (by rw [e]; exact List.mem_append_left _ hx)),
      all_stay hl (fun u hu => ht u (List.mem_cons_of_mem _ hu)) h2 (fun x hx => hs x (by rw [e]; exact List.mem_append_right _ hx)) (fun x hx => hsp x (by rw [e]; exact List.mem_append_right _ hx)), e⟩
/-- A law answered true and left what was there as it was. -/
theorem law_post {f : Func} {s : ChangeSpec} {W W' : World} {args : Array Value} {ds : List (DataW H)} {before : List MemPlace} {tb : TypeId} (hl : laidOutB P = true) (hts : ∀ t ∈ f.params.toList, P.readableRec t = true ∧ t < P.types.size)
    (hv : s.vars = []) (hfn : s.fn H ds = { results := [.lit (.bool true)], args := ds }) (hr : f.resultTypes = #[tb]) (hB : P.underlying tb = some .bool)
    (hW : DataW.Whole enc P f.params.toList s.vars false W args.toList ds [] before) (hb : Below W.heap.size W W') : s.post enc P f false true false false W args (.bool true) W' := by
  have hlt := hW.lt
  obtain ⟨p, q, h1, h2, rfl, h4, h5⟩ := hW
  have h2' := h2
  rw [hv] at h2'
  obtain ⟨_, rfl⟩ := trodVars_none h2'
  have e0 : s.fn H (ds ++ []) = { results := [.lit (.bool true)], args := ds } := by rw [List.append_nil]; exact hfn
  have hdec : ∀ x ∈ p, decide (x.block < W.heap.size) = true := fun x hx => by simpa using hlt x (List.mem_append_left _ hx)
  refine ⟨ds, [], p ++ [], [], p, [], ⟨p, [], h1, h2, rfl, h4, h5⟩, ?_, ?_, ?_, ?_, fun h => by cases h⟩
  · rw [e0, hr]
    exact trodAll_mk1 (shut_bool hB true)
  · rw [e0]
    exact all_stay hl hts h1 (fun x hx => hb.same (hlt x (List.mem_append_left _ hx))) hdec
  · rw [e0, hv]
    exact rfl
  · exact World.keptBut_mono (fun x hx => ⟨hx, Or.inr (Or.inl (by simpa using hx))⟩) (hb.frame (· ∈ p ++ []))
end
section
variable {H : Type} {enc : TypeId × Value → H} {W : World} {base : Nat} {d : DataW H} {v : Value} {ps : List MemPlace}
theorem open_cells {fuel : Nat} {cs : List Value} {x : DataW H × List MemPlace} (hd : DataW.trod enc Try.prog W 0 (fun _ => true) true fuel 26 cs = some x) :
    ∃ (A : Option Addr) (l : List Nat) (c : Nat), cs = [.slice A l.length c] ∧ Rb W A l ∧ l.length ≤ c ∧ c ≤ maxLen := by
  rcases open_ints Try.underlying26 Try.underlying5 (by kernel_rfl) hd with ⟨rfl, _⟩ | ⟨a, len, cap, zs, rfl, _, hl, hm, hz, _, hc, hw⟩
  · exact ⟨none, [], 0, rfl, Rb.nil, Nat.le_refl _, Nat.zero_le _⟩
  · rw [if_pos rfl] at hz
    have hzr : ∀ i, i < zs.length → 0 ≤ zs.getD i 0 ∧ zs.getD i 0 < 256 := by
      intro i hi
      have := hw (zs.getD i 0) (by rw [show zs.getD i 0 = zs[i] from by simp [List.getD, hi]]; exact List.getElem_mem hi)
      revert this
      generalize zs.getD i 0 = z
      intro this
      simp [Lit.wf, IntKind.min, IntKind.max, IntKind.signed, IntKind.bits] at this
      omega
    have hlen : ((zs.take len).map Int.toNat).length = len := by simp; omega
    refine ⟨some a, (zs.take len).map Int.toNat, cap, by rw [hlen], ⟨fun hn => ?_, ?_⟩, by rw [hlen]; exact hl, hm⟩
    · have h0 : 0 < zs.length := by
        rcases Nat.eq_zero_or_pos zs.length with h0 | h0
        · exact absurd (by rw [List.eq_nil_of_length_eq_zero h0]; simp [cs8]) hn
        · exact h0
      obtain ⟨b, off, rfl, hc'⟩ := ints_at hc h0
      refine ⟨b, off, rfl, ?_, ?_⟩
      · have h1 := hc' 0 h0
        rcases Nat.lt_or_ge b W.heap.size with hlt | hge
        · exact hlt
        · unfold World.cell? at h1
          simp [Array.getElem?_eq_none hge] at h1
      · intro j u hu
        unfold cs8 at hu
        rw [List.map_map, List.getElem?_map] at hu
        obtain ⟨z, hz1, rfl⟩ := Option.map_eq_some_iff.1 hu
        obtain ⟨hj, hz2⟩ := List.getElem?_eq_some_iff.1 hz1
        have hj2 : j < zs.length := by simp at hj; omega
        rw [hc' j hj2]
        have h3 := hzr j hj2
        have h4 : zs.getD j 0 = z := by rw [← hz2]; simp [List.getD, hj2]
        rw [h4] at h3 ⊢
        show _ = some (Value.int .u8 ((z.toNat : Nat) : Int))
        rw [Int.toNat_of_nonneg h3.1]
    · intro x hx
      obtain ⟨z, hz1, rfl⟩ := List.mem_map.1 hx
      obtain ⟨i, hi, rfl⟩ := List.getElem_of_mem (List.mem_of_mem_take hz1)
      have := hzr i hi
      rw [show zs.getD i 0 = zs[i] from by simp [List.getD, hi]] at this
      omega
set_option maxRecDepth 100000 in
/-- An argument that is a byte slice. -/
theorem open_bytes {r : Reach} (hval : Value.okWide Try.prog W r base 26 v) (hd : DataW.Trod enc Try.prog W 0 (fun _ => true) true 26 v d ps) :
    ∃ (A : Option Addr) (l : List Nat) (c : Nat), v = .slice A l.length c ∧ Rb W A l ∧ l.length ≤ c ∧ c ≤ maxLen := by
  obtain ⟨A, len, cap, rfl⟩ := okWide_slice Try.underlying26 hval
  obtain ⟨fuel, hf⟩ := hd
  obtain ⟨B, l, c, h1, h2, h3, h4⟩ := open_cells hf
  simp only [Value.cells, List.cons.injEq, and_true] at h1
  exact ⟨B, l, c, h1, h2, h3, h4⟩
/-- A number's reading is in its kind. -/
theorem u8_of {fuel : Nat} {sp : Nat → Bool} {t : TypeId} {x : DataW H × List MemPlace} {v : Value} (ht : Try.prog.underlying t = some (.int .u8)) (h : DataW.trod enc Try.prog W 0 sp true fuel t [v] = some x) : ∃ n : Nat, v = .int .u8 (n : Int) ∧ n < 256 := by
  obtain ⟨z, h1, _, hw⟩ := DataW.trod_int ht h
  simp only [List.cons.injEq, and_true] at h1
  have hr : 0 ≤ z ∧ z < 256 := by
    revert hw
    simp [Lit.wf, IntKind.min, IntKind.max, IntKind.signed, IntKind.bits]
    omega
  exact ⟨z.toNat, by rw [h1, Int.toNat_of_nonneg hr.1], by omega⟩
theorem u32_of {fuel : Nat} {sp : Nat → Bool} {t : TypeId} {x : DataW H × List MemPlace} {v : Value} (ht : Try.prog.underlying t = some (.int .u32)) (h : DataW.trod enc Try.prog W 0 sp true fuel t [v] = some x) : ∃ n : Nat, v = .int .u32 (n : Int) ∧ n < 4294967296 := by
  obtain ⟨z, h1, _, hw⟩ := DataW.trod_int ht h
  simp only [List.cons.injEq, and_true] at h1
  have hr : 0 ≤ z ∧ z < 4294967296 := by
    revert hw
    simp [Lit.wf, IntKind.min, IntKind.max, IntKind.signed, IntKind.bits]
    omega
  exact ⟨z.toNat, by rw [h1, Int.toNat_of_nonneg hr.1], by omega⟩
set_option maxRecDepth 100000 in
/-- An argument that is a byte. -/
theorem open_u8 {r : Reach} (hval : Value.okWide Try.prog W r base 5 v) (hd : DataW.Trod enc Try.prog W 0 (fun _ => true) true 5 v d ps) : ∃ n : Nat, v = .int .u8 (n : Int) ∧ n < 256 := by
  obtain ⟨z, rfl, _, _, hw⟩ := open_int Try.underlying5 hval hd
  have hr : 0 ≤ z ∧ z < 256 := by
    revert hw
    simp [Lit.wf, IntKind.min, IntKind.max, IntKind.signed, IntKind.bits]
    omega
  exact ⟨z.toNat, by rw [Int.toNat_of_nonneg hr.1], by omega⟩
set_option maxRecDepth 100000 in
/-- An argument that is a number of 32 bits. -/
theorem open_u32 {r : Reach} (hval : Value.okWide Try.prog W r base 23 v) (hd : DataW.Trod enc Try.prog W 0 (fun _ => true) true 23 v d ps) : ∃ n : Nat, v = .int .u32 (n : Int) ∧ n < 4294967296 := by
  obtain ⟨z, rfl, _, _, hw⟩ := open_int Try.underlying23 hval hd
  have hr : 0 ≤ z ∧ z < 4294967296 := by
    revert hw
    simp [Lit.wf, IntKind.min, IntKind.max, IntKind.signed, IntKind.bits]
    omega
  exact ⟨z.toNat, by rw [Int.toNat_of_nonneg hr.1], by omega⟩
set_option maxRecDepth 100000 in
/-- An argument that is an int. -/
theorem open_i64 {r : Reach} (hval : Value.okWide Try.prog W r base 3 v) (hd : DataW.Trod enc Try.prog W 0 (fun _ => true) true 3 v d ps) : ∃ z : Int, v = .int .i64 z ∧ -9223372036854775808 ≤ z ∧ z < 9223372036854775808 := by
  obtain ⟨z, rfl, _, _, hw⟩ := open_int Try.underlying3 hval hd
  have hr : -9223372036854775808 ≤ z ∧ z < 9223372036854775808 := by
    revert hw
    simp [Lit.wf, IntKind.min, IntKind.max, IntKind.signed, IntKind.bits]
    omega
  exact ⟨z, rfl, hr⟩
theorem bool_of {fuel : Nat} {sp : Nat → Bool} {t : TypeId} {x : DataW H × List MemPlace} {v : Value} (ht : Try.prog.underlying t = some .bool) (h : DataW.trod enc Try.prog W 0 sp true fuel t [v] = some x) : ∃ b : Bool, v = .bool b := by
  obtain ⟨b, h1, _⟩ := DataW.trod_bool ht h
  simp only [List.cons.injEq, and_true] at h1
  exact ⟨b, h1⟩
theorem array5 {α : Type} {cs : Array α} (h : cs.size = 5) : ∃ c0 c1 c2 c3 c4, cs = #[c0, c1, c2, c3, c4] := by
  obtain ⟨l⟩ := cs
  match l, h with
  | [c0, c1, c2, c3, c4], _ => exact ⟨c0, c1, c2, c3, c4, rfl⟩
theorem list5 {α : Type} {l : List α} (h : l.length = 5) : ∃ c0 c1 c2 c3 c4, l = [c0, c1, c2, c3, c4] := by
  match l, h with
  | [c0, c1, c2, c3, c4], _ => exact ⟨c0, c1, c2, c3, c4, rfl⟩
/-- What lies one behind the other, each piece a tree: they are a row of trees. -/
theorem rows_at {W : World} {b off : Nat} {len : Nat} (h : ∀ i, i < len → ∃ (e : El) (v : Value), W.cells? 0 ((⟨b, off, none⟩ : Addr).add (i * 5)) 5 = some v.cells.toList ∧ RdE false (fun _ => True) W e v) :
    ∀ m, m ≤ len → ∃ ss : List El, ss.length = m ∧ RdS false (fun _ => True) W (some ⟨b, off + (len - m) * 5, none⟩) ss := by
  intro m
  induction m with
  | zero => exact fun _ => ⟨[], rfl, trivial⟩
  | succ m ih =>
    intro hm
    obtain ⟨ss, hl, hs⟩ := ih (by omega)
    obtain ⟨e, v, hc, hE⟩ := h (len - (m + 1)) (by omega)
    rw [addr_add] at hc
    have hblk := World.cells?_block hc (by decide)
    obtain ⟨_, hlen, hcell⟩ := World.cells?_some hc
    refine ⟨e :: ss, by rw [List.length_cons, hl], b, off + (len - (m + 1)) * 5, v, rfl, hblk, trivial, fun j u hu => ?_, hE, ?_⟩
    · have hj : j < 5 := by rw [← hlen]; exact (List.getElem?_eq_some_iff.1 hu).1
      have := hcell j hj
      rw [addr_add, hu] at this
      exact this
    · have e1 : off + (len - (m + 1)) * 5 + 5 = off + (len - m) * 5 := by omega
      rw [e1]
      exact hs
theorem rows_of {W : World} {a : Addr} {len : Nat} (h : ∀ i, i < len → ∃ (e : El) (v : Value), W.cells? 0 (a.add (i * 5)) 5 = some v.cells.toList ∧ RdE false (fun _ => True) W e v) :
    ∃ ss : List El, ss.length = len ∧ RdS false (fun _ => True) W (some a) ss := by
  rcases Nat.eq_zero_or_pos len with rfl | hp
  · exact ⟨[], rfl, trivial⟩
  obtain ⟨e, v, hc, hE⟩ := h 0 hp
  have ha : a.add (0 * 5) = a := by obtain ⟨b, off, s⟩ := a; simp [Addr.add]
  rw [ha] at hc
  obtain ⟨_, hlen, hcell⟩ := World.cells?_some hc
  have h0 := hcell 0 (by decide)
  rw [List.getElem?_eq_getElem (by rw [hlen]; decide)] at h0
  obtain ⟨b, off, spot⟩ := a
  have hspot : spot = none := by simpa [Addr.add] using World.cell?_spot h0
  subst hspot
  obtain ⟨ss, h1, h2⟩ := rows_at h len (Nat.le_refl _)
  rw [Nat.sub_self, Nat.zero_mul, Nat.add_zero] at h2
  exact ⟨ss, h1, h2⟩
set_option maxRecDepth 100000 in
set_option maxHeartbeats 1000000 in
/-- A reading of an element is one of a tree. -/
theorem open_tree : ∀ (fuel : Nat) (cs : List Value) (y : DataW H × List MemPlace), DataW.trod enc Try.prog W 0 (fun _ => true) true fuel 29 cs = some y → ∃ (e : El) (v : Value), cs = v.cells.toList ∧ RdE false (fun _ => True) W e v := by
  have e0 : Try.prog.cellsOf 29 = 5 := by kernel_rfl
  have e1 : Try.prog.cellsOf 25 = 3 := by kernel_rfl
  have e2 : Try.prog.cellsOf 26 = 1 := by kernel_rfl
  have e3 : Try.prog.cellsOf 27 = 1 := by kernel_rfl
  have e4 : Try.prog.cellsOf 22 = 1 := by kernel_rfl
  have e5 : Try.prog.cellsOf 4 = 1 := by kernel_rfl
  have e6 : Try.prog.cellsOf 23 = 1 := by kernel_rfl
  intro fuel
  induction fuel using Nat.strongRecOn with
  | _ fuel ih =>
  intro cs y hf
  obtain ⟨xs, n, hfu, _, hl, hxl, hget⟩ := DataW.trod_struct Try.underlying29 hf
  rw [e0] at hl
  obtain ⟨c0, c1, c2, c3, c4, rfl⟩ := list5 hl
  match xs, hxl with
  | [y0, y1, y2], _ =>
  have f0 := hget 0 _ rfl
  have f1 := hget 1 _ rfl
  have f2 := hget 2 _ rfl
  clear hf hget
  simp [e1, e2, e3] at f0 f1 f2
  obtain ⟨z0, z1, z2, m, _, _, g0, g1, g2⟩ := Deep.trod_struct3 Try.underlying25 f0
  simp [e4, e5, e6] at g0 g1 g2
  obtain ⟨c, rfl, hc⟩ := u8_of Try.underlying22 g0
  obtain ⟨k, rfl⟩ := bool_of Try.underlying4 g1
  obtain ⟨num, rfl, hn⟩ := u32_of Try.underlying23 g2
  obtain ⟨A, l, ca, h1, h2, h3, h4⟩ := open_cells f1
  simp only [List.cons.injEq, and_true] at h1
  subst h1
  have hX : RdX (fun _ => True) W A (cs8 l) := fun hn => by
    obtain ⟨b, off, e, hb, hc⟩ := h2.1 hn
    exact ⟨b, off, e, hb, trivial, hc⟩
  rcases DataW.trod_slice Try.underlying27 f2 with ⟨h5, _⟩ | ⟨a, len, cap, elems, rest, n', hn', h5, _, _, hlc, hcm, hel, hev, _⟩
  · simp only [List.cons.injEq, and_true] at h5
    subst h5
    exact ⟨.mk c num k l [], elV c num k (.slice A l.length ca) (.slice none 0 0), rfl, hc, hn, h2.2, A, ca, none, 0, rfl, hX, h3, h4, Nat.le_refl _, Nat.zero_le _, fun h => (by cases h), trivial⟩
  · simp only [List.cons.injEq, and_true] at h5
    subst h5
    rw [e0] at hev
    obtain ⟨ss, hsl, hss⟩ := rows_of (W := W) (a := a) (len := len) (fun i hi => by
      have h6 := hev i hi
      rw [List.getElem?_eq_getElem (by omega)] at h6
      obtain ⟨cs', h7, h8⟩ := Option.bind_eq_some_iff.1 h6
      obtain ⟨e, v, rfl, hE⟩ := ih n' (by omega) cs' _ h8
      exact ⟨e, v, h7, hE⟩)
    refine ⟨.mk c num k l ss, elV c num k (.slice A l.length ca) (.slice (some a) len cap), rfl, hc, hn, h2.2, A, ca, some a, cap, by rw [hsl], hX, h3, h4, by omega, hcm, fun h => (by cases h), hss⟩
set_option maxRecDepth 100000 in
/-- An argument that is an element. -/
theorem open_elem {r : Reach} (hval : Value.okWide Try.prog W r base 29 v) (hd : DataW.Trod enc Try.prog W 0 (fun _ => true) true 29 v d ps) :
    ∃ e : El, RdE false (fun _ => True) W e v := by
  have e0 : Try.prog.cellsOf 29 = 5 := by kernel_rfl
  obtain ⟨cs, rfl, hs⟩ := okWide_struct Try.underlying29 hval
  rw [e0] at hs
  obtain ⟨c0, c1, c2, c3, c4, rfl⟩ := array5 hs
  obtain ⟨fuel, hf⟩ := hd
  obtain ⟨e, v, h1, h2⟩ := open_tree fuel _ _ hf
  have h3 := h2.form
  obtain ⟨c, n, k, A, l, q, A2, l2, q2, rfl⟩ := h3
  simp [Value.cells] at h1
  obtain ⟨rfl, rfl, rfl, rfl, rfl⟩ := h1
  exact ⟨e, h2⟩
end
end Go.Proofs.Ytfbdeefeagednaa
namespace Go.Proofs.Ytfbdeefeagednaa
open Go.RowKit
section
variable {x : Bool} {S : Nat → Prop} {w : World}
theorem RowE.cat : ∀ {es es2 : List El} {cs cs2 : List Value}, RowE x S w es cs → RowE x S w es2 cs2 → RowE x S w (es ++ es2) (cs ++ cs2)
  | [], _, cs, _, h, h2 => by
    obtain rfl : cs = [] := h
    exact h2
  | _ :: _, _, _, cs2, ⟨v, rest, h1, h2, h3⟩, h4 => ⟨v, rest ++ cs2, by rw [h1, List.append_assoc], h2, RowE.cat h3 h4⟩
theorem RowE.one : ∀ {es : List El} {cs : List Value}, RowE x S w es cs → ∀ u ∈ cs, u.oneCell' = true
  | [], cs, h, u, hu => by
    obtain rfl : cs = [] := h
    simp at hu
  | _ :: _, _, ⟨v, rest, h1, h2, h3⟩, u, hu => by
    subst h1
    rcases List.mem_append.1 hu with hu | hu
    · exact h2.ones u hu
    · exact RowE.one h3 u hu
theorem RowE.drop : ∀ {es : List El} {cs : List Value} (i : Nat), RowE x S w es cs → RowE x S w (es.drop i) (cs.drop (i * 5))
  | _, _, 0, h => by simpa using h
  | [], cs, i + 1, h => by
    obtain rfl : cs = [] := h
    simp [RowE]
  | _ :: es, _, i + 1, ⟨v, rest, h1, h2, h3⟩ => by
    subst h1
    rw [List.drop_succ_cons, show (i + 1) * 5 = v.cells.toList.length + i * 5 by rw [h2.five_]; omega, ← List.drop_drop, List.drop_left]
    exact RowE.drop i h3
theorem RowE.take : ∀ {es : List El} {cs : List Value} (i : Nat), RowE x S w es cs → RowE x S w (es.take i) (cs.take (i * 5))
  | _, _, 0, _ => by simp [RowE]
  | [], cs, i + 1, h => by
    obtain rfl : cs = [] := h
    simp [RowE]
  | _ :: es, _, i + 1, ⟨v, rest, h1, h2, h3⟩ => by
    subst h1
    rw [List.take_succ_cons, show (i + 1) * 5 = v.cells.toList.length + i * 5 by rw [h2.five_]; omega, List.take_length_add_append]
    exact ⟨v, _, rfl, h2, RowE.take i h3⟩
end
/-- 'append(v, s...)' of several elements, to what the call has built. -/
theorem rows_app {x : Bool} {S : Nat → Prop} {w : World} {B : Nat} {v : Value} {es es2 : List El} {cs cs2 : List Value} (hown : w.ownsRow B 29 5 v es.length cs) (hrow : RowE x S w es cs) (hS : ∀ i, S i → v.ownBlock ≠ some i) (hSl : ∀ i, S i → i < w.heap.size)
    (hrow2 : RowE x S w es2 cs2) (a : Addr) (c : Nat) (hsrc : ∀ j y, cs2[j]? = some y → w.cell? (a.add j) = some y) (hn : es.length + es2.length ≤ 1000000) (hB : B ≤ w.heap.size) :
    ∃ v2 w2, (Builtin.append_ #[27, 27] 27 #[v, .slice (some a) es2.length c]).run Try.prog w = .ok v2 w2 ∧
      w2.ownsRow B 29 5 v2 (es ++ es2).length (cs ++ cs2) ∧ RowE x S w2 (es ++ es2) (cs ++ cs2) ∧ (∀ i, S i → v2.ownBlock ≠ some i) ∧ w.grownBy w2 v.ownBlock := by
  obtain ⟨i, hi, hz0, hz1, hz2⟩ := info_parts infoE
  obtain ⟨v2, w2, hrun, h2, h3, _, h5⟩ := run_append_own_at (P := Try.prog) w B 27 27 29 i _ 5 56 Try.underlying27 hi hz0 hz1 hz2 rfl (by decide) v es.length cs hown a es2.length c cs2 (by rw [hrow2.len]) hsrc hrow2.one (by unfold maxLen; omega) (by omega) hB
  refine ⟨v2, w2, hrun, by rw [List.length_append]; exact h2, RowE.keep h3.size (fun k hs hl => h3.block k hl (fun e => hS k hs e.symm)) (fun _ hs _ => hs) (hrow.cat hrow2), fun i hs e => ?_, h3⟩
  rcases h5 with h5 | h5
  · exact hS i hs (by rw [← h5, e])
  · rw [h5] at e
    have := hSl i hs
    simp only [Option.some.injEq] at e
    omega
theorem bndS_of {ss : List El} (h : ∀ e, e ∈ ss → bndE e = true) : bndS ss = true := by
  induction ss with
  | nil => rw [bndS]
  | cons x ss ih => rw [bndS, h x (by simp), ih fun e he => h e (by simp [he])]; rfl
theorem depS_of {ss : List El} {m : Nat} (h : ∀ e, e ∈ ss → depE e ≤ m) : depS ss ≤ m := by
  induction ss with
  | nil => rw [depS]; omega
  | cons x ss ih =>
    rw [depS]
    have := h x (by simp)
    have := ih fun e he => h e (by simp [he])
    omega
end Go.Proofs.Ytfbdeefeagednaa
namespace Go.Proofs.Ytfbdeefeagednaa
open Go.RowKit
/-- append of nothing. -/
theorem app0 {w : World} {B : Nat} {v : Value} {n : Nat} {cs : List Value} (hown : w.ownsRow B 29 5 v n cs) (A : Option Addr) (c : Nat) :
    (Builtin.append_ #[27, 27] 27 #[v, .slice A 0 c]).run Try.prog w = .ok v w := by
  obtain ⟨i, hi, hz0, hz1, hz2⟩ := info_parts infoE
  rcases hown.2 with ⟨rfl, h0⟩ | ⟨g, cap, cur, rfl, _, _, hnc, _⟩
  · cases A <;> simp [Builtin.append_, run_underlying Try.underlying27, sizeOf, typeInfo, hi, Builtin.lenOf, Builtin.firstCells, loadCells, loadCellsFrom]
  · cases A <;> simp [Builtin.append_, run_underlying Try.underlying27, sizeOf, typeInfo, hi, Builtin.lenOf, Builtin.firstCells, hnc, storeCells, loadCells, loadCellsFrom]
/-- The pile. -/
structure Pl (B : Nat) (S : Nat → Prop) (es : List El) (cs : List Value) (v : Value) (w : World) : Prop where
  sb : ∀ j, S j → B ≤ j
  sl : ∀ j, S j → j < w.heap.size
  so : ∀ j, S j → v.ownBlock ≠ some j
  own : w.ownsRow B 29 5 v es.length cs
  row : RowE false S w es cs
  bz : B ≤ w.heap.size
section
variable {B : Nat} {S T : Nat → Prop} {es : List El} {cs : List Value} {v : Value} {w w' : World}
theorem Pl.below (h : Pl B S es cs v w) (hb : Below w.heap.size w w') : Pl B S es cs v w' :=
  ⟨h.sb, fun j hj => Nat.lt_of_lt_of_le (h.sl j hj) hb.size, h.so, own_kept h.own fun g hg => hb.block g (h.own.lt g hg).2, RowE.keep hb.size (fun k _ hl => hb.block k hl) (fun _ hs _ => hs) h.row, Nat.le_trans h.bz hb.size⟩
theorem Pl.form (h : Pl B S es cs v w) : ∃ A c, v = .slice A es.length c ∧ es.length ≤ c ∧ c ≤ maxLen ∧ ((A = none ∧ c = 0 ∧ es = []) ∨ ∃ g, A = some ⟨g, 0, none⟩ ∧ v.ownBlock = some g ∧ B ≤ g ∧ g < w.heap.size ∧ ∀ j u, cs[j]? = some u → w.cell? ⟨g, j, none⟩ = some u) := by
  have ho := h.own
  rcases ho.2 with ⟨hv, h0⟩ | ⟨g, cap, cur, hv, hg, hh, hn, hm, _⟩
  · exact ⟨none, 0, by rw [hv, h0], by omega, by unfold maxLen; omega, .inl ⟨rfl, rfl, List.eq_nil_of_length_eq_zero h0⟩⟩
  · have hob : v.ownBlock = some g := by rw [hv]; rfl
    exact ⟨_, cap, hv, hn, hm, .inr ⟨g, rfl, hob, hg, (ho.lt g hob).2, fun j u hu => by
      have := ho.cells hob j u hu
      rw [addr_add] at this
      rw [← this]; congr 2; omega⟩⟩
/-- An element is laid behind the others. -/
theorem Pl.push (h : Pl B S es cs v w) (hl : es.length ≤ 1000) {w1 : World} (hb : Below w.heap.size w w1) {e : El} {u : Value} (hu : RdE false (fun j => w.heap.size ≤ j ∧ j < w1.heap.size) w1 e u) :
    ∃ g cap S' cs' w2, (Builtin.append_ #[27, 27] 27 #[v, .slice (some ⟨w1.heap.size, 0, none⟩) 1 1]).run Try.prog (w1.alloc (.cells u.cells 29)) = .ok (.slice (some ⟨g, 0, none⟩) (es.length + 1) cap) w2 ∧
      Pl B S' (es ++ [e]) cs' (.slice (some ⟨g, 0, none⟩) (es.length + 1) cap) w2 ∧ Below B w1 w2 := by
  have h1 := h.below hb
  have hS1 : ∀ i, (S i ∨ (w.heap.size ≤ i ∧ i < w1.heap.size)) → v.ownBlock ≠ some i := by
    rintro i (hi | hi) e
    · exact h.so i hi e
    · have := (h.own.lt i e).2; omega
  obtain ⟨g, cap, w2, hrun, ho, hr, hg, hBg, hglt, _, _, _⟩ := row_app h1.own (RowE.keep (T := fun i => S i ∨ (w.heap.size ≤ i ∧ i < w1.heap.size)) (Nat.le_refl _) (fun _ _ _ => rfl) (fun i hi _ => .inl hi) h1.row) hS1
    (RdE.keep (Nat.le_refl _) (fun _ _ _ => rfl) (fun i hi _ => .inr hi) _ _ hu) (by omega) h1.bz es.length rfl
  refine ⟨g, cap, fun i => (S i ∨ (w.heap.size ≤ i ∧ i < w1.heap.size)) ∧ i ≠ g, _, w2, hrun, ⟨?_, ?_, ?_, ho, hr, Nat.le_trans h1.bz hg.size⟩, (Below.refl B w1).grown hg h1.bz (fun k hk => (h1.own.lt k hk).1)⟩
  · rintro j ⟨hj | hj, _⟩
    · exact h.sb j hj
    · have := h.bz; omega
  · rintro j ⟨hj | hj, _⟩
    · exact Nat.lt_of_lt_of_le (h1.sl j hj) hg.size
    · exact Nat.lt_of_lt_of_le hj.2 hg.size
  · rintro j ⟨_, hj⟩ e
    simp only [Value.ownBlock, Option.some.injEq] at e
    exact hj e.symm
/-- The first of the pile, in a row begun anew. -/
theorem Pl.first (h : Pl B S es cs v w) (hl : es.length ≤ 1000) {k : Nat} (hk : k ≤ es.length) {A : Option Addr} {c : Nat} (hv : v = .slice A es.length c) {b : Nat} (hb : Bk w b 29 []) (hBb : B ≤ b) (hSb : ¬ S b) :
    ∃ v2 w2, (Builtin.append_ #[27, 27] 27 #[.slice (some ⟨b, 0, none⟩) 0 0, .slice A k c]).run Try.prog w = .ok v2 w2 ∧ Pl B S (es.take k) (cs.take (k * 5)) v2 w2 ∧ w.grownBy w2 (some b) ∧ ∀ q, v2.ownBlock = some q → b ≤ q := by
  have ho0 : w.ownsRow B 29 5 (.slice (some ⟨b, 0, none⟩) 0 0) 0 [] := ⟨rfl, .inr ⟨b, 0, #[], rfl, hBb, hb, Nat.le_refl _, Nat.zero_le _, rfl, rfl⟩⟩
  have hso0 : ∀ i, S i → (Value.slice (some ⟨b, 0, none⟩) 0 0).ownBlock ≠ some i := fun i hi e => by
    simp only [Value.ownBlock, Option.some.injEq] at e
    exact hSb (e ▸ hi)
  by_cases hk0 : k = 0
  · subst hk0
    refine ⟨_, w, app0 ho0 _ _, ⟨h.sb, h.sl, hso0, by simpa using ho0, by simp [RowE], h.bz⟩, World.grownBy.refl w _, fun q hq => by simp only [Value.ownBlock, Option.some.injEq] at hq; omega⟩
  · obtain ⟨A', c', e, hc1, hc2, hcase⟩ := h.form
    rw [hv] at e
    injection e with e1 e2 e3
    subst e1 e3
    rcases hcase with ⟨_, _, h0⟩ | ⟨g, rfl, hob, hBg, hgl, hcell⟩
    · rw [h0] at hk; simp at hk; omega
    · have hlen : (es.take k).length = k := by rw [List.length_take]; omega
      obtain ⟨v2, w2, hrun, ho, hr, hso, hg⟩ := rows_app (show w.ownsRow b 29 5 (.slice (some ⟨b, 0, none⟩) 0 0) 0 [] from ⟨rfl, .inr ⟨b, 0, #[], rfl, Nat.le_refl _, hb, Nat.le_refl _, Nat.zero_le _, rfl, rfl⟩⟩) (es := []) (x := false) (S := S) (by rfl) hso0 h.sl (h.row.take k) ⟨g, 0, none⟩ c
        (fun j y hy => by
          rw [addr_add, Nat.zero_add]
          exact hcell _ _ (by
            rcases Nat.lt_or_ge j (k * 5) with hj | hj
            · rwa [List.getElem?_take, if_pos hj] at hy
            · rw [List.getElem?_take, if_neg (by omega)] at hy; cases hy)) (by rw [hlen]; simp; omega) (Nat.le_of_lt hb.lt)
      rw [List.nil_append, List.nil_append] at hr ho
      rw [hlen] at hrun
      have hbq : ∀ q, v2.ownBlock = some q → b ≤ q := fun q hq => (ho.lt q hq).1
      have ho' : w2.ownsRow B 29 5 v2 (es.take k).length (cs.take (k * 5)) := ⟨ho.1, ho.2.imp id fun ⟨g, cap, cur, h1, h2, r⟩ => ⟨g, cap, cur, h1, Nat.le_trans hBb h2, r⟩⟩
      exact ⟨v2, w2, hrun, ⟨h.sb, fun j hj => Nat.lt_of_lt_of_le (h.sl j hj) hg.size, hso, ho', hr, Nat.le_trans h.bz hg.size⟩, hg, hbq⟩
/-- One more, from a block of its own. -/
theorem Pl.one (h : Pl B S es cs v w) (hl : es.length ≤ 1000) {b : Nat} {e : El} {u : Value} (hk : Bk w b 29 u.cells.toList) (hu : RdE false S w e u) :
    ∃ v2 cs2 w2, (Builtin.append_ #[27, 27] 27 #[v, .slice (some ⟨b, 0, none⟩) 1 1]).run Try.prog w = .ok v2 w2 ∧ Pl B S (es ++ [e]) cs2 v2 w2 ∧ w.grownBy w2 v.ownBlock := by
  obtain ⟨v2, w2, hrun, ho, hr, hso, hg⟩ := rows_app h.own h.row h.so h.sl (es2 := [e]) (cs2 := u.cells.toList) ⟨u, [], by simp, hu, rfl⟩ ⟨b, 0, none⟩ 1
    (fun j y hy => by rw [addr_add, Nat.zero_add, hk.cell]; exact hy) (by simp; omega) h.bz
  exact ⟨v2, _, w2, hrun, ⟨h.sb, fun j hj => Nat.lt_of_lt_of_le (h.sl j hj) hg.size, hso, ho, hr, Nat.le_trans h.bz hg.size⟩, hg⟩
end
end Go.Proofs.Ytfbdeefeagednaa
namespace Go.Proofs.Ytfbdeefeagednaa
open Go.RowKit
theorem nxS_nil0 (step : List Nat → Nat → Nx) (g b : Nat) : nxS step g [] b = .ok [] b := by
  cases g with
  | zero => rfl
  | succ g => rw [nxS, if_pos rfl]
theorem encE_pos (e : El) : 0 < (encE e).length := by
  obtain ⟨c, n, k, bs, ss⟩ := e
  rw [encE_len]
  have := tput_pos c n k
  omega
theorem nxB_back (sub : List Nat → Nat → Nxs) (c n : Nat) (k : Bool) (bs : List Nat) (ss : List El) (l rest : List Nat) (h b b' : Nat) (hd : l.drop h = (bs ++ encS ss) ++ rest) (v2 : k = true → bs = []) (v3 : k = false → ss = [])
    (hk : k = false → b' = b) (hs : k = true → sub (encS ss) b = .ok ss b') : nxB sub c n k l h (bs.length + (encS ss).length) b = .ok (.mk c n k bs ss) (h + (bs.length + (encS ss).length)) b' := by
  have hm : bs.length + (encS ss).length = (bs ++ encS ss).length := by rw [List.length_append]
  unfold nxB
  rw [hd, hm, if_neg (by simp only [List.length_append]; omega), List.take_left]
  cases k with
  | false =>
    rw [if_pos rfl]
    obtain rfl := v3 rfl
    rw [hk rfl]
    simp [encS]
  | true =>
    rw [if_neg (by simp)]
    obtain rfl := v2 rfl
    rw [List.nil_append, hs rfl]
mutual
/-- What is put is read again, whatever follows. -/
theorem nx_back : ∀ (e : El) (f d b : Nat) (rest : List Nat), valE e → depE e ≤ f → d + depE e ≤ 17 → b + cntE e ≤ 8192 → (encE e).length ≤ 16000000 → nxE f (encE e ++ rest) d b = .ok e (encE e).length (b + cntE e)
  | .mk c n k bs ss, f, d, b, rest, hv, hf, hd, hc, hl => by
    rw [valE] at hv
    obtain ⟨v1, v2, v3, v4⟩ := hv
    rw [depE] at hf hd
    rw [cntE] at hc ⊢
    obtain ⟨f, rfl⟩ : ∃ g, f = g + 1 := ⟨f - 1, by omega⟩
    have hlen := encE_len (c := c) (n := n) (k := k) (bs := bs) (ss := ss)
    have hM : conL (.mk c n k bs ss) = bs.length + (encS ss).length := rfl
    rw [hM] at hlen
    have henc : encE (.mk c n k bs ss) ++ rest = putL c n k ++ (Len.putL (bs.length + (encS ss).length) ++ ((bs ++ encS ss) ++ rest)) := by
      rw [encE]; simp only [List.append_assoc]
    have hT : rdL (encE (.mk c n k bs ss) ++ rest) = (c, n, k, (putL c n k).length, 0) := by rw [henc]; exact rd_back c n k _ v1
    have hdT : (encE (.mk c n k bs ss) ++ rest).drop (putL c n k).length = Len.putL (bs.length + (encS ss).length) ++ ((bs ++ encS ss) ++ rest) := by rw [henc, List.drop_left]
    have hL := Len.getL_back (n := bs.length + (encS ss).length) (by omega) ((bs ++ encS ss) ++ rest)
    have hdP : (encE (.mk c n k bs ss) ++ rest).drop ((putL c n k).length + (Len.putL (bs.length + (encS ss).length)).length) = (bs ++ encS ss) ++ rest := by rw [← List.drop_drop, hdT, List.drop_left]
    have hp : plcE d b = 0 := by unfold plcE; rw [if_neg (by omega), if_neg (by omega)]
    rw [nxE, hT]
    dsimp only
    rw [hdT, hL]
    unfold nxH
    dsimp only
    rw [if_neg (by simp), if_neg (by rw [hp]; simp), if_neg (by simp)]
    rw [nxB_back (fun l b => nxS (fun l b => nxE f l (d + 1) b) l.length l b) c n k bs ss _ rest _ _ (b + 1 + cntS ss) hdP v2 v3 (fun hk => by rw [v3 hk]; rfl) (fun _ => nxS_back ss f (d + 1) (b + 1) _ v4 (by omega) (by omega) (by omega) (by omega) (Nat.le_refl _)), hlen, Nat.add_assoc b, Nat.add_assoc]
theorem nxS_back : ∀ (ss : List El) (f d b g : Nat), valS ss → depS ss ≤ f → d + depS ss ≤ 17 → b + cntS ss ≤ 8192 → (encS ss).length ≤ 16000000 → (encS ss).length ≤ g → nxS (fun l b => nxE f l d b) g (encS ss) b = .ok ss (b + cntS ss)
  | [], _, _, _, _, _, _, _, _, _, _ => by rw [encS, nxS_nil0]; rfl
  | e :: ss, f, d, b, g, hv, hf, hd, hc, hl, hg => by
    rw [valS] at hv
    rw [depS] at hf hd
    rw [cntS] at hc ⊢
    rw [encS, List.length_append] at hl hg
    rw [encS]
    have hp := encE_pos e
    obtain ⟨g, rfl⟩ : ∃ j, g = j + 1 := ⟨g - 1, by omega⟩
    rw [nxS, if_neg (fun h => by have := congrArg List.length h; rw [List.length_append, List.length_nil] at this; omega), nx_back e f d b (encS ss) hv.1 (by omega) (by omega) (by omega) (by omega)]
    dsimp only
    rw [List.drop_left, nxS_back ss f d (b + cntE e) g hv.2 (by omega) (by omega) (by omega) (by omega) (by omega), Nat.add_assoc]
end
/-- Encodings of valid elements are apart. -/
theorem enc_inj {a b : El} (ha : (chkE a 1 0).1 = 0) (hb : (chkE b 1 0).1 = 0) (hla : (encE a).length ≤ 16000000) (hlb : (encE b).length ≤ 16000000) (h : encE a = encE b) : a = b := by
  obtain ⟨va, da, ca⟩ := (chkE_zero a 1 0).1 ha
  obtain ⟨vb, db, cb⟩ := (chkE_zero b 1 0).1 hb
  have h1 := nx_back a 17 1 0 [] va (by omega) (by omega) (by omega) hla
  have h2 := nx_back b 17 1 0 [] vb (by omega) (by omega) (by omega) hlb
  rw [h, h2] at h1
  injection h1 with h1 _ _
  exact h1.symm
mutual
theorem enc_bnd : ∀ (e : El), bndE e = true → valE e → (encE e).length ≤ 209 * cntE e
  | .mk c n k bs ss, h, hv => by
    rw [bndE, Bool.and_eq_true, Bool.and_eq_true, decide_eq_true_iff, decide_eq_true_iff] at h
    obtain ⟨h1, h2, h3⟩ := h
    rw [valE] at hv
    obtain ⟨v1, _, _, v4⟩ := hv
    have h4 := encS_bnd ss h3 v4
    have h5 := tput_le (c := c) (k := k) (chk_zero v1).2
    have h6 : conL (.mk c n k bs ss) = bs.length + (encS ss).length := rfl
    have h7 := (lput_le (m := conL (.mk c n k bs ss)) (by omega)).2
    rw [encE_len, cntE]
    omega
theorem encS_bnd : ∀ (ss : List El), bndS ss = true → valS ss → (encS ss).length ≤ 209 * cntS ss
  | [], _, _ => by simp [encS]
  | e :: ss, h, hv => by
    rw [bndS, Bool.and_eq_true] at h
    rw [valS] at hv
    have h1 := enc_bnd e h.1 hv.1
    have h2 := encS_bnd ss h.2 hv.2
    rw [encS, cntS, List.length_append]
    omega
end
theorem bnd_cnt {e : El} (h : bndE e = true) : cntE e ≤ 60 := by
  obtain ⟨c, n, k, bs, ss⟩ := e
  rw [bndE, Bool.and_eq_true, decide_eq_true_iff] at h
  rw [cntE]; exact h.1
theorem bnd_con {e : El} (h : bndE e = true) : conOk e := fun hz => by
  have h1 := enc_bnd e h ((chkE_zero e 1 0).1 hz).1
  have h2 := bnd_cnt h
  have h3 := conL_le (e := e)
  omega
theorem bnd_siz {e : El} (h : bndE e = true) : sizR e = if (chkE e 1 0).1 ≠ 0 then (0, (chkE e 1 0).1) else ((encE e).length, 0) := by
  unfold sizR
  split
  · rfl
  · rename_i hz
    have h1 := enc_bnd e h ((chkE_zero e 1 0).1 (by omega)).1
    have h2 := bnd_cnt h
    rw [if_pos (by omega)]
mutual
theorem bnd_sml : ∀ (e : El), bndE e = true → smlE e
  | .mk c n k bs ss, h => by
    rw [bndE, Bool.and_eq_true, Bool.and_eq_true, decide_eq_true_iff, decide_eq_true_iff] at h
    have := cntS_len ss
    exact ⟨by omega, by omega, bndS_sml ss h.2.2⟩
theorem bndS_sml : ∀ (ss : List El), bndS ss = true → smlS ss
  | [], _ => trivial
  | e :: ss, h => by
    rw [bndS, Bool.and_eq_true] at h
    exact ⟨bnd_sml e h.1, bndS_sml ss h.2⟩
end
/-- What E.Of gives: Put encodes it. -/
theorem val_enc {e : El} (hv : valE e) (hd : depE e ≤ 16) (hb : bndE e = true) : encR e = (encE e, 0) ∧ (chkE e 1 0).1 = 0 ∧ 0 < (encE e).length ∧ (encE e).length ≤ 12540 := by
  have h1 := bnd_cnt hb
  have h2 := enc_bnd e hb hv
  have h3 : (chkE e 1 0).1 = 0 := (chkE_zero e 1 0).2 ⟨hv, by omega, by omega⟩
  have h4 : sizR e = ((encE e).length, 0) := by rw [bnd_siz hb, if_neg (by rw [h3]; simp)]
  refine ⟨by unfold encR; rw [h4]; rfl, h3, encE_pos e, by omega⟩
end Go.Proofs.Ytfbdeefeagednaa
