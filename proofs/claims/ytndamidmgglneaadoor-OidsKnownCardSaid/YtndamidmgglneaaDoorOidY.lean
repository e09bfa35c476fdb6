/-
  What every row of this program wants: the listed variables out of the row's condition; an argument opened by its shape (a byte slice, a tag, plain data T, a string, a byte); the row's last step where of the world behind the call only 'below the old heap nothing has turned' is known.
  Conditions: none.
-/
import Derived.Test.YtndamidmgglneaaDoorOidX
import Derived.Test.YtndamidmgglneaaDoorCards
import Derived.Test.YtndamidmgglneaaDoorTie
import Derived.ProofKit
import Derived.LaidMore
import Derived.Lay
import Derived.OpenShut
import Derived.Stop.Joined
import Derived.SevenTiedAt
import Derived.Lib.LaidTab
import Derived.Stop.LaidErr
import Derived.Lib.SmallJoins
namespace Go.Proofs.YtndamidmgglneaaDoor
open Go.ChangeShapes Go.WideShapes Go.ChangeAt Go.WideMaps Go.WideElems Go.RowKit

theorem x_own : ownKnob Tryd.prog.godebug = none := by kernel_rfl
theorem x_laid : laidOutB Tryd.prog = true := by kernel_rfl
/-- The listed variables. -/
def laidL : List (String × DataW Unit) := [("math/bits.deBruijn32tab", Rows.laid_math_bits_deBruijn32tab), ("math/bits.deBruijn64tab", Rows.laid_math_bits_deBruijn64tab), ("internal/strconv.uint64pow10", Rows.laid_internal_strconv_uint64pow10), ("unicode/utf8.acceptRanges", Rows.laid_unicode_utf8_acceptRanges), ("strconv.ErrRange", Rows.laid_strconv_ErrRange), ("strconv.ErrSyntax", Rows.laid_strconv_ErrSyntax), ("unicode/utf8.first", Rows.laid_unicode_utf8_first)]
/-- The heap that the list lays meets the condition. -/
theorem door_met (os : Os) (args : Array Value) : laidMetH Tryd.prog laidL ((World.laidAll Tryd.prog os laidL).forCall (fun _ _ => 0) ⟨#[], args, []⟩).memory := by
  rw [MakeChecks.laidMetH_plain _ _ _ (by kernel_rfl)]
  exact laidMet_laidAll _ (by kernel_rfl) (by kernel_rfl)
theorem gPow : Tryd.prog.globalNamed "internal/strconv.uint64pow10" = some 0 := by kernel_rfl
theorem tER : (Tryd.prog.globals[2]?).map (·.type) = some 65 := by kernel_rfl
theorem xStar : "*" ++ "errors.errorString" = "*errors.errorString" := by decide
/-- The one row of that name. -/
theorem rowErr (u : TypeId) (h : Tryd.prog.typeName? 3 u = some "*errors.errorString") : u = 108 :=
  typeName_ptr_named (nm := "errors.errorString") (by rw [xStar]; kernel_rfl) (by kernel_rfl) (by decide) u (by rw [xStar]; exact h)
theorem cells_err : Tryd.prog.cellsOf 110 = 1 := by kernel_rfl
theorem cells_str : Tryd.prog.cellsOf 9 = 1 := by kernel_rfl
set_option maxRecDepth 100000 in
theorem of_laid {W : World} (h : laidMetH Tryd.prog laidL W) : Env W := by
  rw [MakeChecks.laidMetH_plain _ _ _ (by kernel_rfl)] at h
  have h3 := h.tail.tail
  have h5 := h3.tail.tail
  refine ⟨?_, ?_⟩
  · exact Lib.tabIs_of_head (t := 94) gPow (by kernel_rfl) Tryd.underlying94 Tryd.underlying52 (by kernel_rfl) (by kernel_rfl) h3
  · obtain ⟨a0, s0, hv0, -, -, -⟩ := laid_sentinel h5 gER tER Tryd.underlying65 rowErr Tryd.underlying108 Tryd.underlying110 rfl rfl Tryd.underlying9 cells_err cells_str
    exact ⟨_, _, hv0⟩

section
variable {H : Type} {enc : TypeId × Value → H} {P : Program}
/-- All arguments read behind the call as before it. -/
theorem all_stay {W W' : World} {sp : Nat → Bool} (hl : laidOutB P = true) : ∀ {ts : List TypeId} {vs : List Value} {ds : List (DataW H)} {ps : List MemPlace},
    (∀ t ∈ ts, P.readableRec t = true ∧ t < P.types.size) → DataW.TrodAll enc P W 0 (fun _ => true) true ts vs ds ps → (∀ p ∈ ps, W.sameAt W' p) → (∀ p ∈ ps, sp p.block = true) → DataW.TrodAll enc P W' 0 sp true ts vs ds ps
  | [], [], [], _, _, h, _, _ => h
  | t :: ts, v :: vs, d :: ds, _, ht, ⟨p, q, h1, h2, e⟩, hs, hsp =>
    ⟨p, q, WideElems.Trod_stays hl (ht t (List.mem_cons_self ..)).1 (ht t (List.mem_cons_self ..)).2 h1 (fun x hx => hs x (by rw [e]; exact List.mem_append_left _ hx)) (fun x hx => hsp x (by rw [e]; exact List.mem_append_left _ hx)),
      all_stay hl (fun u hu => ht u (List.mem_cons_of_mem _ hu)) h2 (fun x hx => hs x (by rw [e]; exact List.mem_append_right _ hx)) (fun x hx => hsp x (by rw [e]; exact List.mem_append_right _ hx)), e⟩

/-- A law answered true and left what was there as it was. -/
theorem law_post {f : Func} {s : ChangeSpec} {W W' : World} {args : Array Value} {ds : List (DataW H)} {before : List MemPlace} {tb : TypeId} (hl : laidOutB P = true) (hts : ∀ t ∈ f.params.toList, P.readableRec t = true ∧ t < P.types.size)
    (hv : s.vars = []) (hfn : s.fn H ds = { results := [.lit (.bool true)], args := ds }) (hr : f.resultTypes = #[tb]) (hB : P.underlying tb = some .bool)
    (hW : DataW.Whole enc P f.params.toList s.vars false W args.toList ds [] before) (hb : Below W.heap.size W W') : s.post enc P f false true false false W args (.bool true) W' := by
  have hlt := hW.lt
  obtain ⟨p, q, h1, h2, rfl, h4, h5⟩ := hW
  have h2' := h2
  rw [hv] at h2'
  obtain ⟨_, rfl⟩ := trodVars_none h2'
  have e0 : s.fn H (ds ++ []) = { results := [.lit (.bool true)], args := ds } := by rw [List.append_nil]; exact hfn
  have hdec : ∀ x ∈ p, decide (x.block < W.heap.size) = true := fun x hx => by simpa using hlt x (List.mem_append_left _ hx)
  refine ⟨ds, [], p ++ [], [], p, [], ⟨p, [], h1, h2, rfl, h4, h5⟩, ?_, ?_, ?_, ?_, fun h => by cases h⟩
  · rw [e0, hr]
    exact trodAll_mk1 (shut_bool hB true)
  · rw [e0]
    exact all_stay hl hts h1 (fun x hx => hb.same (hlt x (List.mem_append_left _ hx))) hdec
  · rw [e0, hv]
    exact rfl
  · exact World.keptBut_mono (fun x hx => ⟨hx, Or.inr (Or.inl (by simpa using hx))⟩) (hb.frame (· ∈ p ++ []))
end

section
variable {H : Type} {enc : TypeId × Value → H} {W : World} {base : Nat} {d : DataW H} {v : Value} {ps : List MemPlace}
theorem open_cells {fuel : Nat} {cs : List Value} {x : DataW H × List MemPlace} (hd : DataW.trod enc Tryd.prog W 0 (fun _ => true) true fuel 40 cs = some x) :
    ∃ (A : Option Addr) (l : List Nat) (c : Nat), cs = [.slice A l.length c] ∧ Rb W A l ∧ l.length ≤ c ∧ c ≤ maxLen := by
  rcases open_ints Tryd.underlying40 Tryd.underlying5 (by kernel_rfl) hd with ⟨rfl, _⟩ | ⟨a, len, cap, zs, rfl, _, hl, hm, hz, _, hc, hw⟩
  · exact ⟨none, [], 0, rfl, Rb.nil, Nat.le_refl _, Nat.zero_le _⟩
  · rw [if_pos rfl] at hz
    have hzr : ∀ i, i < zs.length → 0 ≤ zs.getD i 0 ∧ zs.getD i 0 < 256 := by
      intro i hi
      have := hw (zs.getD i 0) (by rw [show zs.getD i 0 = zs[i] from by simp [List.getD, hi]]; exact List.getElem_mem hi)
      revert this
      generalize zs.getD i 0 = z
      intro this
      simp [Lit.wf, IntKind.min, IntKind.max, IntKind.signed, IntKind.bits] at this
      omega
    have hlen : ((zs.take len).map Int.toNat).length = len := by simp; omega
    refine ⟨some a, (zs.take len).map Int.toNat, cap, by rw [hlen], ⟨fun hn => ?_, ?_⟩, by rw [hlen]; exact hl, hm⟩
    · have h0 : 0 < zs.length := by
        rcases Nat.eq_zero_or_pos zs.length with h0 | h0
        · exact absurd (by rw [List.eq_nil_of_length_eq_zero h0]; simp [cs8]) hn
        · exact h0
      obtain ⟨b, off, rfl, hc'⟩ := ints_at hc h0
      refine ⟨b, off, rfl, ?_, ?_⟩
      · have h1 := hc' 0 h0
        rcases Nat.lt_or_ge b W.heap.size with hlt | hge
        · exact hlt
        · unfold World.cell? at h1
          simp [Array.getElem?_eq_none hge] at h1
      · intro j u hu
        unfold cs8 at hu
        rw [List.map_map, List.getElem?_map] at hu
        obtain ⟨z, hz1, rfl⟩ := Option.map_eq_some_iff.1 hu
        obtain ⟨hj, hz2⟩ := List.getElem?_eq_some_iff.1 hz1
        have hj2 : j < zs.length := by simp at hj; omega
        rw [hc' j hj2]
        have h3 := hzr j hj2
        have h4 : zs.getD j 0 = z := by rw [← hz2]; simp [List.getD, hj2]
        rw [h4] at h3 ⊢
        show _ = some (Value.int .u8 ((z.toNat : Nat) : Int))
        rw [Int.toNat_of_nonneg h3.1]
    · intro x hx
      obtain ⟨z, hz1, rfl⟩ := List.mem_map.1 hx
      obtain ⟨i, hi, rfl⟩ := List.getElem_of_mem (List.mem_of_mem_take hz1)
      have := hzr i hi
      rw [show zs.getD i 0 = zs[i] from by simp [List.getD, hi]] at this
      omega
set_option maxRecDepth 100000 in
/-- An argument that is a byte slice. -/
theorem open_bytes {r : Reach} (hval : Value.okWide Tryd.prog W r base 40 v) (hd : DataW.Trod enc Tryd.prog W 0 (fun _ => true) true 40 v d ps) :
    ∃ (A : Option Addr) (l : List Nat) (c : Nat), v = .slice A l.length c ∧ Rb W A l ∧ l.length ≤ c ∧ c ≤ maxLen := by
  obtain ⟨A, len, cap, rfl⟩ := okWide_slice Tryd.underlying40 hval
  obtain ⟨fuel, hf⟩ := hd
  obtain ⟨B, l, c, h1, h2, h3, h4⟩ := open_cells hf
  simp only [Value.cells, List.cons.injEq, and_true] at h1
  exact ⟨B, l, c, h1, h2, h3, h4⟩
/-- A number's reading is in its kind. -/
theorem u8_of {fuel : Nat} {sp : Nat → Bool} {t : TypeId} {x : DataW H × List MemPlace} {v : Value} (ht : Tryd.prog.underlying t = some (.int .u8)) (h : DataW.trod enc Tryd.prog W 0 sp true fuel t [v] = some x) : ∃ n : Nat, v = .int .u8 (n : Int) ∧ n < 256 := by
  obtain ⟨z, h1, _, hw⟩ := DataW.trod_int ht h
  simp only [List.cons.injEq, and_true] at h1
  have hr : 0 ≤ z ∧ z < 256 := by
    revert hw
    simp [Lit.wf, IntKind.min, IntKind.max, IntKind.signed, IntKind.bits]
    omega
  exact ⟨z.toNat, by rw [h1, Int.toNat_of_nonneg hr.1], by omega⟩
theorem u32_of {fuel : Nat} {sp : Nat → Bool} {t : TypeId} {x : DataW H × List MemPlace} {v : Value} (ht : Tryd.prog.underlying t = some (.int .u32)) (h : DataW.trod enc Tryd.prog W 0 sp true fuel t [v] = some x) : ∃ n : Nat, v = .int .u32 (n : Int) ∧ n < 4294967296 := by
  obtain ⟨z, h1, _, hw⟩ := DataW.trod_int ht h
  simp only [List.cons.injEq, and_true] at h1
  have hr : 0 ≤ z ∧ z < 4294967296 := by
    revert hw
    simp [Lit.wf, IntKind.min, IntKind.max, IntKind.signed, IntKind.bits]
    omega
  exact ⟨z.toNat, by rw [h1, Int.toNat_of_nonneg hr.1], by omega⟩
set_option maxRecDepth 100000 in
/-- An argument that is a slice of words of 32 bits. -/
theorem open_cells32 {fuel : Nat} {cs : List Value} {x : DataW H × List MemPlace} (hd : DataW.trod enc Tryd.prog W 0 (fun _ => true) true fuel 32 cs = some x) :
    ∃ (A : Option Addr) (l : List Nat) (c : Nat), cs = [.slice A l.length c] ∧ R32 W A l ∧ (∀ y ∈ l, y < 4294967296) ∧ l.length ≤ c ∧ c ≤ maxLen := by
  rcases open_ints Tryd.underlying32 Tryd.underlying23 (by kernel_rfl) hd with ⟨rfl, _⟩ | ⟨a, len, cap, zs, rfl, _, hl, hm, hz, _, hc, hw⟩
  · exact ⟨none, [], 0, rfl, Rd.nil, by simp, Nat.le_refl _, Nat.zero_le _⟩
  · rw [if_pos rfl] at hz
    have hzr : ∀ i, i < zs.length → 0 ≤ zs.getD i 0 ∧ zs.getD i 0 < 4294967296 := by
      intro i hi
      have := hw (zs.getD i 0) (by rw [show zs.getD i 0 = zs[i] from by simp [List.getD, hi]]; exact List.getElem_mem hi)
      revert this
      generalize zs.getD i 0 = z
      intro this
      simp [Lit.wf, IntKind.min, IntKind.max, IntKind.signed, IntKind.bits] at this
      omega
    have hlen : ((zs.take len).map Int.toNat).length = len := by simp; omega
    refine ⟨some a, (zs.take len).map Int.toNat, cap, by rw [hlen], fun hn => ?_, ?_, by rw [hlen]; exact hl, hm⟩
    · have h0 : 0 < zs.length := by
        rcases Nat.eq_zero_or_pos zs.length with h0 | h0
        · exact absurd (by rw [List.eq_nil_of_length_eq_zero h0]; simp [cs32]) hn
        · exact h0
      obtain ⟨b, off, rfl, hc'⟩ := ints_at hc h0
      refine ⟨b, off, rfl, ?_, ?_⟩
      · have h1 := hc' 0 h0
        rcases Nat.lt_or_ge b W.heap.size with hlt | hge
        · exact hlt
        · unfold World.cell? at h1
          simp [Array.getElem?_eq_none hge] at h1
      · intro j u hu
        unfold cs32 at hu
        rw [List.map_map, List.getElem?_map] at hu
        obtain ⟨z, hz1, rfl⟩ := Option.map_eq_some_iff.1 hu
        obtain ⟨hj, hz2⟩ := List.getElem?_eq_some_iff.1 hz1
        have hj2 : j < zs.length := by simp at hj; omega
        rw [hc' j hj2]
        have h3 := hzr j hj2
        have h4 : zs.getD j 0 = z := by rw [← hz2]; simp [List.getD, hj2]
        rw [h4] at h3 ⊢
        show _ = some (Value.int .u32 ((z.toNat : Nat) : Int))
        rw [Int.toNat_of_nonneg h3.1]
    · intro x hx
      obtain ⟨z, hz1, rfl⟩ := List.mem_map.1 hx
      obtain ⟨i, hi, rfl⟩ := List.getElem_of_mem (List.mem_of_mem_take hz1)
      have := hzr i hi
      rw [show zs.getD i 0 = zs[i] from by simp [List.getD, hi]] at this
      omega
set_option maxRecDepth 100000 in
theorem open_words {r : Reach} (hval : Value.okWide Tryd.prog W r base 32 v) (hd : DataW.Trod enc Tryd.prog W 0 (fun _ => true) true 32 v d ps) :
    ∃ (A : Option Addr) (l : List Nat) (c : Nat), v = .slice A l.length c ∧ R32 W A l ∧ (∀ y ∈ l, y < 4294967296) ∧ l.length ≤ c ∧ c ≤ maxLen := by
  obtain ⟨A, len, cap, rfl⟩ := okWide_slice Tryd.underlying32 hval
  obtain ⟨fuel, hf⟩ := hd
  obtain ⟨B, l, c, h1, h2, h3, h4⟩ := open_cells32 hf
  simp only [Value.cells, List.cons.injEq, and_true] at h1
  exact ⟨B, l, c, h1, h2, h3, h4⟩
/-- Cells that are words of 32 bits each. -/
theorem words_of : ∀ {tl : List Value}, (∀ i (h : i < tl.length), ∃ n : Nat, tl[i] = .int .u32 (n : Int) ∧ n < 4294967296) → ∃ l : List Nat, tl = cs32 l ∧ ∀ y ∈ l, y < 4294967296
  | [], _ => ⟨[], rfl, by simp⟩
  | v :: tl, h => by
    obtain ⟨n, h1, h2⟩ := h 0 (by simp)
    obtain ⟨l, h3, h4⟩ := words_of (tl := tl) fun i hi => h (i + 1) (by simp; omega)
    refine ⟨n :: l, ?_, ?_⟩
    · rw [h3]; simp only [List.getElem_cons_zero] at h1; rw [h1]; rfl
    · intro y hy
      rcases List.mem_cons.1 hy with rfl | hy
      · exact h2
      · exact h4 y hy
theorem cells25 : Tryd.prog.cellsOf 26 = 17 := by kernel_rfl
theorem cells23 : Tryd.prog.cellsOf 24 = 16 := by kernel_rfl
theorem cells5 : Tryd.prog.cellsOf 5 = 1 := by kernel_rfl
set_option maxRecDepth 100000 in
/-- An argument that is an OID. -/
theorem open_oid {r : Reach} (hval : Value.okWide Tryd.prog W r base 26 v) (hd : DataW.Trod enc Tryd.prog W 0 (fun _ => true) true 26 v d ps) : ∃ (n : Nat) (l : List Nat), v = oV n l ∧ OkO n l := by
  obtain ⟨cs, rfl, hsz⟩ := okWide_struct Tryd.underlying26 hval
  obtain ⟨fuel, hf⟩ := hd
  obtain ⟨y0, y1, m, -, hlen, h0, h1⟩ := trod_struct2 Tryd.underlying26 hf
  obtain ⟨cl⟩ := cs
  change DataW.trod enc Tryd.prog W 0 _ true m 5 ((cl.drop 0).take (Tryd.prog.cellsOf 5)) = some y0 at h0
  change DataW.trod enc Tryd.prog W 0 _ true m 24 ((cl.drop 1).take (Tryd.prog.cellsOf 24)) = some y1 at h1
  change cl.length = Tryd.prog.cellsOf 26 at hsz
  rw [cells5] at h0
  rw [cells23] at h1
  rw [cells25] at hsz
  obtain ⟨c0, tl, rfl⟩ : ∃ c0 tl, cl = c0 :: tl := by cases cl with
    | nil => simp at hsz
    | cons a b => exact ⟨a, b, rfl⟩
  have htl : tl.length = 16 := by simpa using hsz
  rw [show ((c0 :: tl).drop 0).take 1 = [c0] from rfl] at h0
  rw [show ((c0 :: tl).drop 1).take 16 = tl from by rw [List.drop_succ_cons, List.drop_zero, List.take_of_length_le (by omega)]] at h1
  obtain ⟨n, rfl, hn⟩ := u8_of Tryd.underlying5 h0
  obtain ⟨xs, m1, -, -, -, hn3, hel⟩ := DataW.trod_array Tryd.underlying24 h1
  rw [cells22] at hel
  obtain ⟨l, rfl, hl⟩ := words_of (tl := tl) fun i hi => by
    have := hel i (by omega)
    rw [Nat.mul_one, List.getElem?_eq_getElem (show i < xs.length by omega), List.drop_eq_getElem_cons hi] at this
    exact u32_of Tryd.underlying23 (show DataW.trod enc Tryd.prog W 0 _ true m1 23 [tl[i]] = some _ from this)
  exact ⟨n, l, rfl, ⟨hn, by rw [cs32_length] at htl; exact htl, hl⟩⟩
set_option maxRecDepth 100000 in
/-- An argument of type A. -/
theorem open_A {r : Reach} (hval : Value.okWide Tryd.prog W r base 34 v) (hd : DataW.Trod enc Tryd.prog W 0 (fun _ => true) true 34 v d ps) :
    ∃ (f s : Nat) (A : Option Addr) (l : List Nat) (c : Nat), v = .agg #[.int .u8 (f : Int), .int .u32 (s : Int), .slice A l.length c] ∧ f < 256 ∧ s < 4294967296 ∧ R32 W A l ∧ (∀ y ∈ l, y < 4294967296) ∧ l.length ≤ c ∧ c ≤ maxLen := by
  obtain ⟨v0, v1, v2, y0, y1, y2, m, rfl, _, _, e0, e1, e2⟩ := Joins.open_agg3 Tryd.underlying34 (by kernel_rfl) (by kernel_rfl) hval hd
  obtain ⟨f, rfl, hf⟩ := u8_of Tryd.underlying5 e0
  obtain ⟨s, rfl, hs⟩ := u32_of Tryd.underlying23 e1
  obtain ⟨A, l, c, h1, h2⟩ := open_cells32 e2
  simp only [List.cons.injEq, and_true] at h1
  subst h1
  exact ⟨f, s, A, l, c, rfl, hf, hs, h2⟩
/-- Every string is that of some bytes. -/
theorem bstr_of (s : ByteArray) : ∃ l : List Nat, s = bstr l ∧ All8 l := by
  refine ⟨s.data.toList.map UInt8.toNat, ?_, fun x hx => ?_⟩
  · apply ByteArray.ext
    apply Array.toList_inj.1
    rw [bstr_list, List.map_map]
    symm
    calc s.data.toList.map (UInt8.ofNat ∘ UInt8.toNat) = s.data.toList.map id := List.map_congr_left fun b _ => by simp
      _ = s.data.toList := List.map_id _
  · obtain ⟨b, _, rfl⟩ := List.mem_map.1 hx
    exact b.toNat_lt
end
end Go.Proofs.YtndamidmgglneaaDoor
