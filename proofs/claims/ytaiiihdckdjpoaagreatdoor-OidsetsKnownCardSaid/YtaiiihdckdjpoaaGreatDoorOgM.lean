/-
  What every row of this program wants: the listed variables out of the row's condition; an argument opened by its shape (a byte slice, a tag, plain data T, a string, a byte); the row's last step where of the world behind the call only 'below the old heap nothing has turned' is known.
  Conditions: none.
-/
import Derived.Test.YtaiiihdckdjpoaaGreatDoorOgD
import Derived.Test.YtaiiihdckdjpoaaGreatDoorCards
import Derived.Test.YtaiiihdckdjpoaaGreatDoorTie
import Derived.ProofKit
import Derived.LaidMore
import Derived.Lay
import Derived.OpenShut
import Derived.Stop.Joined
import Derived.SevenTiedAt
import Derived.Lib.LaidTab
import Derived.Stop.LaidErr
import Derived.Lib.SmallJoins
import Derived.Test.YtaiiihdckdjpoaaGreatDoorOgL
import Derived.Test.YtaiiihdckdjpoaaGreatDoorOsY
import Derived.Test.YtaiiihdckdjpoaaGreatDoorOgH
namespace Go.Proofs.YtaiiihdckdjpoaaGreatDoor
open Go.ChangeShapes Go.WideShapes Go.ChangeAt Go.WideMaps Go.WideElems Go.RowKit

theorem x_own : ownKnob Tryz.prog.godebug = none := by kernel_rfl
theorem x_laid : laidOutB Tryz.prog = true := by kernel_rfl
/-- The listed variables. -/
def laidL : List (String × DataW Unit) := [("math/bits.deBruijn32tab", Rows.laid_math_bits_deBruijn32tab), ("math/bits.deBruijn64tab", Rows.laid_math_bits_deBruijn64tab), ("internal/strconv.uint64pow10", Rows.laid_internal_strconv_uint64pow10), ("unicode/utf8.acceptRanges", Rows.laid_unicode_utf8_acceptRanges), ("strconv.ErrRange", Rows.laid_strconv_ErrRange), ("strconv.ErrSyntax", Rows.laid_strconv_ErrSyntax), ("unicode/utf8.first", Rows.laid_unicode_utf8_first)]
/-- The heap that the list lays meets the condition. -/
theorem door_met (os : Os) (args : Array Value) : laidMetH Tryz.prog laidL ((World.laidAll Tryz.prog os laidL).forCall (fun _ _ => 0) ⟨#[], args, []⟩).memory := by
  rw [MakeChecks.laidMetH_plain _ _ _ (by kernel_rfl)]
  exact laidMet_laidAll _ (by kernel_rfl) (by kernel_rfl)
theorem gPow : Tryz.prog.globalNamed "internal/strconv.uint64pow10" = some 0 := by kernel_rfl
theorem tER : (Tryz.prog.globals[5]?).map (·.type) = some 88 := by kernel_rfl
theorem xStar : "*" ++ "errors.errorString" = "*errors.errorString" := by decide
/-- The one row of that name. -/
theorem rowErr (u : TypeId) (h : Tryz.prog.typeName? 3 u = some "*errors.errorString") : u = 177 :=
  typeName_ptr_named (nm := "errors.errorString") (by rw [xStar]; kernel_rfl) (by kernel_rfl) (by decide) u (by rw [xStar]; exact h)
theorem cells_err : Tryz.prog.cellsOf 179 = 1 := by kernel_rfl
theorem cells_str : Tryz.prog.cellsOf 9 = 1 := by kernel_rfl
set_option maxRecDepth 100000 in
theorem of_laid {W : World} (h : laidMetH Tryz.prog laidL W) : Env W := by
  rw [MakeChecks.laidMetH_plain _ _ _ (by kernel_rfl)] at h
  have h3 := h.tail.tail
  have h5 := h3.tail.tail
  refine ⟨?_, ?_⟩
  · exact Lib.tabIs_of_head (t := 146) gPow (by kernel_rfl) Tryz.underlying146 Tryz.underlying82 (by kernel_rfl) (by kernel_rfl) h3
  · obtain ⟨a0, s0, hv0, -, -, -⟩ := laid_sentinel h5 gER tER Tryz.underlying88 rowErr Tryz.underlying177 Tryz.underlying179 rfl rfl Tryz.underlying9 cells_err cells_str
    exact ⟨_, _, hv0⟩

section
variable {H : Type} {enc : TypeId × Value → H} {P : Program}
/-- All arguments read behind the call as before it. -/
theorem all_stay {W W' : World} {sp : Nat → Bool} (hl : laidOutB P = true) : ∀ {ts : List TypeId} {vs : List Value} {ds : List (DataW H)} {ps : List MemPlace},
    (∀ t ∈ ts, P.readableRec t = true ∧ t < P.types.size) → DataW.TrodAll enc P W 0 (fun _ => true) true ts vs ds ps → (∀ p ∈ ps, W.sameAt W' p) → (∀ p ∈ ps, sp p.block = true) → DataW.TrodAll enc P W' 0 sp true ts vs ds ps
  | [], [], [], _, _, h, _, _ => h
  | t :: ts, v :: vs, d :: ds, _, ht, ⟨p, q, h1, h2, e⟩, hs, hsp =>
    ⟨p, q, WideElems.Trod_stays hl (ht t (List.mem_cons_self ..)).1 (ht t (List.mem_cons_self ..)).2 h1 (fun x hx => hs x (by rw [e]; exact List.mem_append_left _ hx)) (fun x hx => hsp x (by rw [e]; exact List.mem_append_left _ hx)),
      all_stay hl (fun u hu => ht u (List.mem_cons_of_mem _ hu)) h2 (fun x hx => hs x (by rw [e]; exact List.mem_append_right _ hx)) (fun x hx => hsp x (by rw [e]; exact List.mem_append_right _ hx)), e⟩

/-- A law answered true and left what was there as it was. -/
theorem law_post {f : Func} {s : ChangeSpec} {W W' : World} {args : Array Value} {ds : List (DataW H)} {before : List MemPlace} {tb : TypeId} (hl : laidOutB P = true) (hts : ∀ t ∈ f.params.toList, P.readableRec t = true ∧ t < P.types.size)
    (hv : s.vars = []) (hfn : s.fn H ds = { results := [.lit (.bool true)], args := ds }) (hr : f.resultTypes = #[tb]) (hB : P.underlying tb = some .bool)
    (hW : DataW.Whole enc P f.params.toList s.vars false W args.toList ds [] before) (hb : Below W.heap.size W W') : s.post enc P f false true false false W args (.bool true) W' := by
  have hlt := hW.lt
  obtain ⟨p, q, h1, h2, rfl, h4, h5⟩ := hW
  have h2' := h2
  rw [hv] at h2'
  obtain ⟨_, rfl⟩ := trodVars_none h2'
  have e0 : s.fn H (ds ++ []) = { results := [.lit (.bool true)], args := ds } := by rw [List.append_nil]; exact hfn
  have hdec : ∀ x ∈ p, decide (x.block < W.heap.size) = true := fun x hx => by simpa using hlt x (List.mem_append_left _ hx)
  refine ⟨ds, [], p ++ [], [], p, [], ⟨p, [], h1, h2, rfl, h4, h5⟩, ?_, ?_, ?_, ?_, fun h => by cases h⟩
  · rw [e0, hr]
    exact trodAll_mk1 (shut_bool hB true)
  · rw [e0]
    exact all_stay hl hts h1 (fun x hx => hb.same (hlt x (List.mem_append_left _ hx))) hdec
  · rw [e0, hv]
    exact rfl
  · exact World.keptBut_mono (fun x hx => ⟨hx, Or.inr (Or.inl (by simpa using hx))⟩) (hb.frame (· ∈ p ++ []))
end

section
variable {H : Type} {enc : TypeId × Value → H} {W : World} {base : Nat} {d : DataW H} {v : Value} {ps : List MemPlace}
theorem open_cells {fuel : Nat} {cs : List Value} {x : DataW H × List MemPlace} (hd : DataW.trod enc Tryz.prog W 0 (fun _ => true) true fuel 80 cs = some x) :
    ∃ (A : Option Addr) (l : List Nat) (c : Nat), cs = [.slice A l.length c] ∧ Rb W A l ∧ l.length ≤ c ∧ c ≤ maxLen := by
  rcases open_ints Tryz.underlying80 Tryz.underlying5 (by kernel_rfl) hd with ⟨rfl, _⟩ | ⟨a, len, cap, zs, rfl, _, hl, hm, hz, _, hc, hw⟩
  · exact ⟨none, [], 0, rfl, Rb.nil, Nat.le_refl _, Nat.zero_le _⟩
  · rw [if_pos rfl] at hz
    have hzr : ∀ i, i < zs.length → 0 ≤ zs.getD i 0 ∧ zs.getD i 0 < 256 := by
      intro i hi
      have := hw (zs.getD i 0) (by rw [show zs.getD i 0 = zs[i] from by simp [List.getD, hi]]; exact List.getElem_mem hi)
      revert this
      generalize zs.getD i 0 = z
      intro this
      simp [Lit.wf, IntKind.min, IntKind.max, IntKind.signed, IntKind.bits] at this
      omega
    have hlen : ((zs.take len).map Int.toNat).length = len := by simp; omega
    refine ⟨some a, (zs.take len).map Int.toNat, cap, by rw [hlen], ⟨fun hn => ?_, ?_⟩, by rw [hlen]; exact hl, hm⟩
    · have h0 : 0 < zs.length := by
        rcases Nat.eq_zero_or_pos zs.length with h0 | h0
        · exact absurd (by rw [List.eq_nil_of_length_eq_zero h0]; simp [cs8]) hn
        · exact h0
      obtain ⟨b, off, rfl, hc'⟩ := ints_at hc h0
      refine ⟨b, off, rfl, ?_, ?_⟩
      · have h1 := hc' 0 h0
        rcases Nat.lt_or_ge b W.heap.size with hlt | hge
        · exact hlt
        · unfold World.cell? at h1
          simp [Array.getElem?_eq_none hge] at h1
      · intro j u hu
        unfold cs8 at hu
        rw [List.map_map, List.getElem?_map] at hu
        obtain ⟨z, hz1, rfl⟩ := Option.map_eq_some_iff.1 hu
        obtain ⟨hj, hz2⟩ := List.getElem?_eq_some_iff.1 hz1
        have hj2 : j < zs.length := by simp at hj; omega
        rw [hc' j hj2]
        have h3 := hzr j hj2
        have h4 : zs.getD j 0 = z := by rw [← hz2]; simp [List.getD, hj2]
        rw [h4] at h3 ⊢
        show _ = some (Value.int .u8 ((z.toNat : Nat) : Int))
        rw [Int.toNat_of_nonneg h3.1]
    · intro x hx
      obtain ⟨z, hz1, rfl⟩ := List.mem_map.1 hx
      obtain ⟨i, hi, rfl⟩ := List.getElem_of_mem (List.mem_of_mem_take hz1)
      have := hzr i hi
      rw [show zs.getD i 0 = zs[i] from by simp [List.getD, hi]] at this
      omega
set_option maxRecDepth 100000 in
/-- An argument that is a byte slice. -/
theorem open_bytes {r : Reach} (hval : Value.okWide Tryz.prog W r base 80 v) (hd : DataW.Trod enc Tryz.prog W 0 (fun _ => true) true 80 v d ps) :
    ∃ (A : Option Addr) (l : List Nat) (c : Nat), v = .slice A l.length c ∧ Rb W A l ∧ l.length ≤ c ∧ c ≤ maxLen := by
  obtain ⟨A, len, cap, rfl⟩ := okWide_slice Tryz.underlying80 hval
  obtain ⟨fuel, hf⟩ := hd
  obtain ⟨B, l, c, h1, h2, h3, h4⟩ := open_cells hf
  simp only [Value.cells, List.cons.injEq, and_true] at h1
  exact ⟨B, l, c, h1, h2, h3, h4⟩
/-- A number's reading is in its kind. -/
theorem u8_of {fuel : Nat} {sp : Nat → Bool} {t : TypeId} {x : DataW H × List MemPlace} {v : Value} (ht : Tryz.prog.underlying t = some (.int .u8)) (h : DataW.trod enc Tryz.prog W 0 sp true fuel t [v] = some x) : ∃ n : Nat, v = .int .u8 (n : Int) ∧ n < 256 := by
  obtain ⟨z, h1, _, hw⟩ := DataW.trod_int ht h
  simp only [List.cons.injEq, and_true] at h1
  have hr : 0 ≤ z ∧ z < 256 := by
    revert hw
    simp [Lit.wf, IntKind.min, IntKind.max, IntKind.signed, IntKind.bits]
    omega
  exact ⟨z.toNat, by rw [h1, Int.toNat_of_nonneg hr.1], by omega⟩
theorem u32_of {fuel : Nat} {sp : Nat → Bool} {t : TypeId} {x : DataW H × List MemPlace} {v : Value} (ht : Tryz.prog.underlying t = some (.int .u32)) (h : DataW.trod enc Tryz.prog W 0 sp true fuel t [v] = some x) : ∃ n : Nat, v = .int .u32 (n : Int) ∧ n < 4294967296 := by
  obtain ⟨z, h1, _, hw⟩ := DataW.trod_int ht h
  simp only [List.cons.injEq, and_true] at h1
  have hr : 0 ≤ z ∧ z < 4294967296 := by
    revert hw
    simp [Lit.wf, IntKind.min, IntKind.max, IntKind.signed, IntKind.bits]
    omega
  exact ⟨z.toNat, by rw [h1, Int.toNat_of_nonneg hr.1], by omega⟩
set_option maxRecDepth 100000 in
/-- An argument that is a slice of words of 32 bits. -/
theorem open_cells32 {fuel : Nat} {cs : List Value} {x : DataW H × List MemPlace} (hd : DataW.trod enc Tryz.prog W 0 (fun _ => true) true fuel 70 cs = some x) :
    ∃ (A : Option Addr) (l : List Nat) (c : Nat), cs = [.slice A l.length c] ∧ R32 W A l ∧ (∀ y ∈ l, y < 4294967296) ∧ l.length ≤ c ∧ c ≤ maxLen := by
  rcases open_ints Tryz.underlying70 Tryz.underlying23 (by kernel_rfl) hd with ⟨rfl, _⟩ | ⟨a, len, cap, zs, rfl, _, hl, hm, hz, _, hc, hw⟩
  · exact ⟨none, [], 0, rfl, Rd.nil, by simp, Nat.le_refl _, Nat.zero_le _⟩
  · rw [if_pos rfl] at hz
    have hzr : ∀ i, i < zs.length → 0 ≤ zs.getD i 0 ∧ zs.getD i 0 < 4294967296 := by
      intro i hi
      have := hw (zs.getD i 0) (by rw [show zs.getD i 0 = zs[i] from by simp [List.getD, hi]]; exact List.getElem_mem hi)
      revert this
      generalize zs.getD i 0 = z
      intro this
      simp [Lit.wf, IntKind.min, IntKind.max, IntKind.signed, IntKind.bits] at this
      omega
    have hlen : ((zs.take len).map Int.toNat).length = len := by simp; omega
    refine ⟨some a, (zs.take len).map Int.toNat, cap, by rw [hlen], fun hn => ?_, ?_, by rw [hlen]; exact hl, hm⟩
    · have h0 : 0 < zs.length := by
        rcases Nat.eq_zero_or_pos zs.length with h0 | h0
        · exact absurd (by rw [List.eq_nil_of_length_eq_zero h0]; simp [cs32]) hn
        · exact h0
      obtain ⟨b, off, rfl, hc'⟩ := ints_at hc h0
      refine ⟨b, off, rfl, ?_, ?_⟩
      · have h1 := hc' 0 h0
        rcases Nat.lt_or_ge b W.heap.size with hlt | hge
        · exact hlt
        · unfold World.cell? at h1
          simp [Array.getElem?_eq_none hge] at h1
      · intro j u hu
        unfold cs32 at hu
        rw [List.map_map, List.getElem?_map] at hu
        obtain ⟨z, hz1, rfl⟩ := Option.map_eq_some_iff.1 hu
        obtain ⟨hj, hz2⟩ := List.getElem?_eq_some_iff.1 hz1
        have hj2 : j < zs.length := by simp at hj; omega
        rw [hc' j hj2]
        have h3 := hzr j hj2
        have h4 : zs.getD j 0 = z := by rw [← hz2]; simp [List.getD, hj2]
        rw [h4] at h3 ⊢
        show _ = some (Value.int .u32 ((z.toNat : Nat) : Int))
        rw [Int.toNat_of_nonneg h3.1]
    · intro x hx
      obtain ⟨z, hz1, rfl⟩ := List.mem_map.1 hx
      obtain ⟨i, hi, rfl⟩ := List.getElem_of_mem (List.mem_of_mem_take hz1)
      have := hzr i hi
      rw [show zs.getD i 0 = zs[i] from by simp [List.getD, hi]] at this
      omega
set_option maxRecDepth 100000 in
theorem open_words {r : Reach} (hval : Value.okWide Tryz.prog W r base 70 v) (hd : DataW.Trod enc Tryz.prog W 0 (fun _ => true) true 70 v d ps) :
    ∃ (A : Option Addr) (l : List Nat) (c : Nat), v = .slice A l.length c ∧ R32 W A l ∧ (∀ y ∈ l, y < 4294967296) ∧ l.length ≤ c ∧ c ≤ maxLen := by
  obtain ⟨A, len, cap, rfl⟩ := okWide_slice Tryz.underlying70 hval
  obtain ⟨fuel, hf⟩ := hd
  obtain ⟨B, l, c, h1, h2, h3, h4⟩ := open_cells32 hf
  simp only [Value.cells, List.cons.injEq, and_true] at h1
  exact ⟨B, l, c, h1, h2, h3, h4⟩
/-- Cells that are words of 32 bits each. -/
theorem words_of : ∀ {tl : List Value}, (∀ i (h : i < tl.length), ∃ n : Nat, tl[i] = .int .u32 (n : Int) ∧ n < 4294967296) → ∃ l : List Nat, tl = cs32 l ∧ ∀ y ∈ l, y < 4294967296
  | [], _ => ⟨[], rfl, by simp⟩
  | v :: tl, h => by
    obtain ⟨n, h1, h2⟩ := h 0 (by simp)
    obtain ⟨l, h3, h4⟩ := words_of (tl := tl) fun i hi => h (i + 1) (by simp; omega)
    refine ⟨n :: l, ?_, ?_⟩
    · rw [h3]; simp only [List.getElem_cons_zero] at h1; rw [h1]; rfl
    · intro y hy
      rcases List.mem_cons.1 hy with rfl | hy
      · exact h2
      · exact h4 y hy
theorem cells25 : Tryz.prog.cellsOf 26 = 17 := by kernel_rfl
theorem cells23 : Tryz.prog.cellsOf 24 = 16 := by kernel_rfl
theorem cells5 : Tryz.prog.cellsOf 5 = 1 := by kernel_rfl
set_option maxRecDepth 100000 in
/-- An argument that is an OID. -/
theorem open_oid {r : Reach} (hval : Value.okWide Tryz.prog W r base 26 v) (hd : DataW.Trod enc Tryz.prog W 0 (fun _ => true) true 26 v d ps) : ∃ (n : Nat) (l : List Nat), v = oV n l ∧ OkO n l := by
  obtain ⟨cs, rfl, hsz⟩ := okWide_struct Tryz.underlying26 hval
  obtain ⟨fuel, hf⟩ := hd
  obtain ⟨y0, y1, m, -, hlen, h0, h1⟩ := trod_struct2 Tryz.underlying26 hf
  obtain ⟨cl⟩ := cs
  change DataW.trod enc Tryz.prog W 0 _ true m 5 ((cl.drop 0).take (Tryz.prog.cellsOf 5)) = some y0 at h0
  change DataW.trod enc Tryz.prog W 0 _ true m 24 ((cl.drop 1).take (Tryz.prog.cellsOf 24)) = some y1 at h1
  change cl.length = Tryz.prog.cellsOf 26 at hsz
  rw [cells5] at h0
  rw [cells23] at h1
  rw [cells25] at hsz
  obtain ⟨c0, tl, rfl⟩ : ∃ c0 tl, cl = c0 :: tl := by cases cl with
    | nil => simp at hsz
    | cons a b => exact ⟨a, b, rfl⟩
  have htl : tl.length = 16 := by simpa using hsz
  rw [show ((c0 :: tl).drop 0).take 1 = [c0] from rfl] at h0
  rw [show ((c0 :: tl).drop 1).take 16 = tl from by rw [List.drop_succ_cons, List.drop_zero, List.take_of_length_le (by omega)]] at h1
  obtain ⟨n, rfl, hn⟩ := u8_of Tryz.underlying5 h0
  obtain ⟨xs, m1, -, -, -, hn3, hel⟩ := DataW.trod_array Tryz.underlying24 h1
  rw [cells22] at hel
  obtain ⟨l, rfl, hl⟩ := words_of (tl := tl) fun i hi => by
    have := hel i (by omega)
    rw [Nat.mul_one, List.getElem?_eq_getElem (show i < xs.length by omega), List.drop_eq_getElem_cons hi] at this
    exact u32_of Tryz.underlying23 (show DataW.trod enc Tryz.prog W 0 _ true m1 23 [tl[i]] = some _ from this)
  exact ⟨n, l, rfl, ⟨hn, by rw [cs32_length] at htl; exact htl, hl⟩⟩
set_option maxRecDepth 100000 in
/-- An argument of type A. -/
theorem open_A {r : Reach} (hval : Value.okWide Tryz.prog W r base 72 v) (hd : DataW.Trod enc Tryz.prog W 0 (fun _ => true) true 72 v d ps) :
    ∃ (f s : Nat) (A : Option Addr) (l : List Nat) (c : Nat), v = .agg #[.int .u8 (f : Int), .int .u32 (s : Int), .slice A l.length c] ∧ f < 256 ∧ s < 4294967296 ∧ R32 W A l ∧ (∀ y ∈ l, y < 4294967296) ∧ l.length ≤ c ∧ c ≤ maxLen := by
  obtain ⟨v0, v1, v2, y0, y1, y2, m, rfl, _, _, e0, e1, e2⟩ := Joins.open_agg3 Tryz.underlying72 (by kernel_rfl) (by kernel_rfl) hval hd
  obtain ⟨f, rfl, hf⟩ := u8_of Tryz.underlying5 e0
  obtain ⟨s, rfl, hs⟩ := u32_of Tryz.underlying23 e1
  obtain ⟨A, l, c, h1, h2⟩ := open_cells32 e2
  simp only [List.cons.injEq, and_true] at h1
  subst h1
  exact ⟨f, s, A, l, c, rfl, hf, hs, h2⟩
/-- Every string is that of some bytes. -/
theorem bstr_of (s : ByteArray) : ∃ l : List Nat, s = bstr l ∧ All8 l := by
  refine ⟨s.data.toList.map UInt8.toNat, ?_, fun x hx => ?_⟩
  · apply ByteArray.ext
    apply Array.toList_inj.1
    rw [bstr_list, List.map_map]
    symm
    calc s.data.toList.map (UInt8.ofNat ∘ UInt8.toNat) = s.data.toList.map id := List.map_congr_left fun b _ => by simp
      _ = s.data.toList := List.map_id _
  · obtain ⟨b, _, rfl⟩ := List.mem_map.1 hx
    exact b.toNat_lt
end
end Go.Proofs.YtaiiihdckdjpoaaGreatDoor

/-!
  Layer 7: arguments opened: a list of OIDs, a list of numbers of OIDs (W), a set of the seven (S).
  Conditions: none.
-/
namespace Go.Proofs.YtaiiihdckdjpoaaGreatDoor
open Go.ChangeShapes Go.WideShapes Go.ChangeAt Go.WideMaps Go.WideElems Go.RowKit

section
variable {H : Type} {enc : TypeId × Value → H} {W : World} {base : Nat} {d : DataW H} {v : Value} {ps : List MemPlace}
theorem list3 {α : Type} {l : List α} (h : l.length = 3) : ∃ c0 c1 c2, l = [c0, c1, c2] := by
  match l, h with
  | [c0, c1, c2], _ => exact ⟨c0, c1, c2, rfl⟩
set_option maxRecDepth 100000 in
theorem open_part {fuel : Nat} {cs : List Value} {y : DataW H × List MemPlace} (hf : DataW.trod enc Tryz.prog W 0 (fun _ => true) true fuel 72 cs = some y) :
    ∃ (g : Ad) (B : Option Addr) (cb : Nat), cs = g.cells B cb ∧ g.fits ∧ R32 W B g.l ∧ g.l.length ≤ cb ∧ cb ≤ maxLen := by
  have e0 : Tryz.prog.cellsOf 72 = 3 := by kernel_rfl
  have e1 : Tryz.prog.cellsOf 5 = 1 := by kernel_rfl
  have e3 : Tryz.prog.cellsOf 70 = 1 := by kernel_rfl
  have e4 : Tryz.prog.cellsOf 23 = 1 := by kernel_rfl
  obtain ⟨y0, y1, y2, n, _, hl, f0, f1, f2⟩ := Deep.trod_struct3 Tryz.underlying72 hf
  rw [e0] at hl
  obtain ⟨c0, c1, c2, rfl⟩ := list3 hl
  clear hf hl
  simp [e1, e3, e4] at f0 f1 f2
  obtain ⟨f, rfl, h0⟩ := u8_of Tryz.underlying5 f0
  obtain ⟨s, rfl, h1⟩ := u32_of Tryz.underlying23 f1
  obtain ⟨B, l, cb, h5, h6, h7, h8, h9⟩ := open_cells32 f2
  simp only [List.cons.injEq, and_true] at h5
  subst h5
  exact ⟨⟨f, s, l⟩, B, cb, rfl, ⟨h0, h1, h7⟩, h6, h8, h9⟩
theorem partsA_at {b off len : Nat} (h : ∀ i, i < len → ∃ (g : Ad) (B : Option Addr) (cb : Nat), W.cells? 0 ((⟨b, off, none⟩ : Addr).add (i * 3)) 3 = some (g.cells B cb) ∧ g.fits ∧ R32 W B g.l ∧ g.l.length ≤ cb ∧ cb ≤ maxLen) :
    ∀ m, m ≤ len → ∃ gs : List Ad, gs.length = m ∧ RdA W (some ⟨b, off + (len - m) * 3, none⟩) gs := by
  intro m
  induction m with
  | zero => exact fun _ => ⟨[], rfl, trivial⟩
  | succ m ih =>
    intro hm
    obtain ⟨gs, hl, hs⟩ := ih (by omega)
    obtain ⟨g, B, cb, hc, h4, h5, h6, h7⟩ := h (len - (m + 1)) (by omega)
    rw [addr_add] at hc
    have hblk := World.cells?_block hc (by decide)
    obtain ⟨_, hlen, hcell⟩ := World.cells?_some hc
    refine ⟨g :: gs, by rw [List.length_cons, hl], b, off + (len - (m + 1)) * 3, B, cb, rfl, hblk, fun j u hu => ?_, h4, h5, h6, h7, ?_⟩
    · have hj : j < 3 := by rw [← hlen]; exact (List.getElem?_eq_some_iff.1 hu).1
      have := hcell j hj
      rw [addr_add, hu] at this
      exact this
    · have e1 : off + (len - (m + 1)) * 3 + 3 = off + (len - m) * 3 := by omega
      rw [e1]
      exact hs
theorem partsA_of {a : Addr} {len : Nat} (h : ∀ i, i < len → ∃ (g : Ad) (B : Option Addr) (cb : Nat), W.cells? 0 (a.add (i * 3)) 3 = some (g.cells B cb) ∧ g.fits ∧ R32 W B g.l ∧ g.l.length ≤ cb ∧ cb ≤ maxLen) :
    ∃ gs : List Ad, gs.length = len ∧ RdA W (some a) gs := by
  rcases Nat.eq_zero_or_pos len with rfl | hp
  · exact ⟨[], rfl, trivial⟩
  obtain ⟨g, B, cb, hc, _⟩ := h 0 hp
  have ha : a.add (0 * 3) = a := by obtain ⟨b, off, s⟩ := a; simp [Addr.add]
  rw [ha] at hc
  obtain ⟨_, hlen, hcell⟩ := World.cells?_some hc
  have h0 := hcell 0 (by decide)
  rw [List.getElem?_eq_getElem (by rw [hlen]; decide)] at h0
  obtain ⟨b, off, spot⟩ := a
  have hspot : spot = none := by simpa [Addr.add] using World.cell?_spot h0
  subst hspot
  obtain ⟨gs, h1, h2⟩ := partsA_at h len (Nat.le_refl _)
  rw [Nat.sub_self, Nat.zero_mul, Nat.add_zero] at h2
  exact ⟨gs, h1, h2⟩
set_option maxRecDepth 100000 in
/-- An argument of type W. -/
theorem open_W {r : Reach} (hval : Value.okWide Tryz.prog W r base 45 v) (hd : DataW.Trod enc Tryz.prog W 0 (fun _ => true) true 45 v d ps) :
    ∃ (A : Option Addr) (gs : List Ad) (c : Nat), v = .agg #[.slice A gs.length c] ∧ RdA W A gs ∧ gs.length ≤ c ∧ c ≤ maxLen := by
  have e0 : Tryz.prog.cellsOf 72 = 3 := by kernel_rfl
  have e1 : Tryz.prog.cellsOf 43 = 1 := by kernel_rfl
  have e2 : Tryz.prog.cellsOf 45 = 1 := by kernel_rfl
  obtain ⟨cs, rfl, hs⟩ := okWide_struct Tryz.underlying45 hval
  rw [e2] at hs
  obtain ⟨l⟩ := cs
  obtain ⟨u, rfl⟩ : ∃ u, l = [u] := List.length_eq_one_iff.1 hs
  obtain ⟨fuel, hf⟩ := hd
  obtain ⟨y, n, _, hl, hf2⟩ := trod_struct1 Tryz.underlying45 hf
  clear hf hl
  simp only [e1, List.drop_zero] at hf2
  simp [Value.cells] at hf2
  rcases DataW.trod_slice Tryz.underlying43 hf2 with ⟨h5, _⟩ | ⟨a, len, cap, elems, rest, n', _, h5, _, _, hlc, hcm, hel, hev, _⟩
  · simp only [List.cons.injEq, and_true] at h5
    subst h5
    exact ⟨none, [], 0, rfl, trivial, Nat.le_refl _, Nat.zero_le _⟩
  · simp only [List.cons.injEq, and_true] at h5
    subst h5
    rw [e0] at hev
    obtain ⟨gs, hgl, hgs⟩ := partsA_of (W := W) (a := a) (len := len) (fun i hi => by
      have h6 := hev i hi
      rw [List.getElem?_eq_getElem (by omega)] at h6
      obtain ⟨cs', h7, h8⟩ := Option.bind_eq_some_iff.1 h6
      obtain ⟨g, B, cb, rfl, k1, k2, k3, k4⟩ := open_part h8
      exact ⟨g, B, cb, h7, k1, k2, k3, k4⟩)
    exact ⟨some a, gs, cap, by rw [hgl], hgs, by omega, hcm⟩
set_option maxRecDepth 100000 in
/-- An argument of type S. -/
theorem open_S {r : Reach} (hval : Value.okWide Tryz.prog W r base 50 v) (hd : DataW.Trod enc Tryz.prog W 0 (fun _ => true) true 50 v d ps) :
    ∃ k : Nat, v = .agg #[.int .u8 (k : Int)] ∧ k < 256 := by
  have e1 : Tryz.prog.cellsOf 5 = 1 := by kernel_rfl
  have e2 : Tryz.prog.cellsOf 50 = 1 := by kernel_rfl
  obtain ⟨cs, rfl, hs⟩ := okWide_struct Tryz.underlying50 hval
  rw [e2] at hs
  obtain ⟨l⟩ := cs
  obtain ⟨u, rfl⟩ : ∃ u, l = [u] := List.length_eq_one_iff.1 hs
  obtain ⟨fuel, hf⟩ := hd
  obtain ⟨y, n, _, hl, hf2⟩ := trod_struct1 Tryz.underlying50 hf
  clear hf hl
  simp only [e1, List.drop_zero] at hf2
  simp [Value.cells] at hf2
  obtain ⟨k, rfl, h⟩ := u8_of Tryz.underlying5 hf2
  exact ⟨k, rfl, h⟩
set_option maxRecDepth 100000 in
theorem open_oidc {fuel : Nat} {cl : List Value} {y : DataW H × List MemPlace} (hf : DataW.trod enc Tryz.prog W 0 (fun _ => true) true fuel 26 cl = some y) : ∃ (n : Nat) (l : List Nat), cl = oc n l ∧ OkO n l := by
  obtain ⟨y0, y1, m, -, hlen, h0, h1⟩ := trod_struct2 Tryz.underlying26 hf
  change DataW.trod enc Tryz.prog W 0 _ true m 5 ((cl.drop 0).take (Tryz.prog.cellsOf 5)) = some y0 at h0
  change DataW.trod enc Tryz.prog W 0 _ true m 24 ((cl.drop 1).take (Tryz.prog.cellsOf 24)) = some y1 at h1
  have hsz : cl.length = Tryz.prog.cellsOf 26 := hlen
  rw [cells5] at h0
  rw [cells23] at h1
  rw [cells25] at hsz
  obtain ⟨c0, tl, rfl⟩ : ∃ c0 tl, cl = c0 :: tl := by cases cl with
    | nil => simp at hsz
    | cons a b => exact ⟨a, b, rfl⟩
  have htl : tl.length = 16 := by simpa using hsz
  rw [show ((c0 :: tl).drop 0).take 1 = [c0] from rfl] at h0
  rw [show ((c0 :: tl).drop 1).take 16 = tl from by rw [List.drop_succ_cons, List.drop_zero, List.take_of_length_le (by omega)]] at h1
  obtain ⟨n, rfl, hn⟩ := u8_of Tryz.underlying5 h0
  obtain ⟨xs, m1, -, -, -, hn3, hel⟩ := DataW.trod_array Tryz.underlying24 h1
  rw [cells22] at hel
  obtain ⟨l, rfl, hl⟩ := words_of (tl := tl) fun i hi => by
    have := hel i (by omega)
    rw [Nat.mul_one, List.getElem?_eq_getElem (show i < xs.length by omega), List.drop_eq_getElem_cons hi] at this
    exact u32_of Tryz.underlying23 (show DataW.trod enc Tryz.prog W 0 _ true m1 23 [tl[i]] = some _ from this)
  exact ⟨n, l, rfl, ⟨hn, by rw [cs32_length] at htl; exact htl, hl⟩⟩
theorem oidsO_at {b off len : Nat} (h : ∀ i, i < len → ∃ o : Od, W.cells? 0 ((⟨b, off, none⟩ : Addr).add (i * 17)) 17 = some (oc o.1 o.2) ∧ OkO o.1 o.2) :
    ∀ m, m ≤ len → ∃ L : List Od, L.length = m ∧ RdO W (some ⟨b, off + (len - m) * 17, none⟩) L := by
  intro m
  induction m with
  | zero => exact fun _ => ⟨[], rfl, RdO.nil⟩
  | succ m ih =>
    intro hm
    obtain ⟨L, hl, hs⟩ := ih (by omega)
    obtain ⟨o, hc, ho⟩ := h (len - (m + 1)) (by omega)
    rw [addr_add] at hc
    have hblk := World.cells?_block hc (by decide)
    obtain ⟨_, hlen, hcell⟩ := World.cells?_some hc
    refine ⟨o :: L, by rw [List.length_cons, hl], ⟨fun _ => ⟨b, off + (len - (m + 1)) * 17, rfl, hblk, fun j u hu => ?_⟩, OkL.cons ho hs.2⟩⟩
    have e1 : off + (len - (m + 1)) * 17 + 17 = off + (len - m) * 17 := by omega
    by_cases hj : j < 17
    · have := hcell j hj
      rw [addr_add] at this
      rw [this]
      rw [ocs, List.getElem?_append_left (by rw [hlen]; exact hj)] at hu
      exact hu
    · rw [ocs, List.getElem?_append_right (by rw [hlen]; omega), hlen] at hu
      have hne : ocs L ≠ [] := fun e => by rw [e] at hu; cases hu
      obtain ⟨b', off', e, _, hc'⟩ := hs.1 hne
      simp only [Option.some.injEq, Addr.mk.injEq, and_true] at e
      obtain ⟨rfl, rfl⟩ := e
      have := hc' (j - 17) u hu
      rw [← this]
      congr 2
      omega
theorem oidsO_of {a : Addr} {len : Nat} (h : ∀ i, i < len → ∃ o : Od, W.cells? 0 (a.add (i * 17)) 17 = some (oc o.1 o.2) ∧ OkO o.1 o.2) : ∃ L : List Od, L.length = len ∧ RdO W (some a) L := by
  rcases Nat.eq_zero_or_pos len with rfl | hp
  · exact ⟨[], rfl, RdO.nil⟩
  obtain ⟨o, hc, ho⟩ := h 0 hp
  have ha : a.add (0 * 17) = a := by obtain ⟨b, off, s⟩ := a; simp [Addr.add]
  rw [ha] at hc
  obtain ⟨_, hlen, hcell⟩ := World.cells?_some hc
  have h0 := hcell 0 (by decide)
  rw [List.getElem?_eq_getElem (by rw [hlen]; decide)] at h0
  obtain ⟨b, off, spot⟩ := a
  have hspot : spot = none := by simpa [Addr.add] using World.cell?_spot h0
  subst hspot
  obtain ⟨L, h1, h2⟩ := oidsO_at h len (Nat.le_refl _)
  rw [Nat.sub_self, Nat.zero_mul, Nat.add_zero] at h2
  exact ⟨L, h1, h2⟩
set_option maxRecDepth 100000 in
/-- An argument that is a list of OIDs. -/
theorem open_oids {r : Reach} (hval : Value.okWide Tryz.prog W r base 22 v) (hd : DataW.Trod enc Tryz.prog W 0 (fun _ => true) true 22 v d ps) :
    ∃ (A : Option Addr) (L : List Od) (c : Nat), v = .slice A L.length c ∧ Ino W A L L.length c := by
  obtain ⟨A, len, cap, rfl⟩ := okWide_slice Tryz.underlying22 hval
  obtain ⟨fuel, hf⟩ := hd
  rcases DataW.trod_slice Tryz.underlying22 hf with ⟨h5, _⟩ | ⟨a, len', cap', elems, rest, n', _, h5, _, _, hlc, hcm, hel, hev, _⟩
  · simp [Value.cells] at h5
    obtain ⟨rfl, rfl, rfl⟩ := h5
    exact ⟨none, [], 0, rfl, ⟨RdO.nil, rfl, Nat.le_refl _, Nat.zero_le _⟩⟩
  · simp [Value.cells] at h5
    obtain ⟨rfl, rfl, rfl⟩ := h5
    rw [cells25] at hev
    obtain ⟨L, hgl, hgs⟩ := oidsO_of (W := W) (a := a) (len := len) (fun i hi => by
      have h6 := hev i hi
      rw [List.getElem?_eq_getElem (by omega)] at h6
      obtain ⟨cs', h7, h8⟩ := Option.bind_eq_some_iff.1 h6
      obtain ⟨n, l, rfl, ho⟩ := open_oidc h8
      exact ⟨(n, l), h7, ho⟩)
    exact ⟨some a, L, cap, by rw [hgl], ⟨hgs, rfl, by omega, hcm⟩⟩
end
end Go.Proofs.YtaiiihdckdjpoaaGreatDoor

/-!
  Layer 7: what a law keeps from call to call, and the contracts in the form that its walk takes.
  Conditions: none.
-/
namespace Go.Proofs.YtaiiihdckdjpoaaGreatDoor
open Go.RowKit Go.Shelf

/-- A slice of OIDs: its address, what it reads as, length, capacity. -/
abbrev Row := Option Addr × List Od × Nat × Nat
/-- What a law keeps. -/
structure St7 (w0 : World) (rows : List Row) (W : World) : Prop where
  b : Below w0.heap.size w0 W
  e : Env W
  r : ∀ r ∈ rows, Ino W r.1 r.2.1 r.2.2.1 r.2.2.2
section
variable {w0 W W' : World} {rows : List Row}
theorem St7.start (hE : Env W) : St7 W [] W := ⟨Below.refl _ _, hE, fun _ h => absurd h (by simp)⟩
theorem St7.below (h : St7 w0 rows W) (hb : Below W.heap.size W W') : St7 w0 rows W' := ⟨h.b.trans (hb.mono h.b.size), h.e.below hb, fun r hr => (h.r r hr).below hb⟩
theorem St7.add (h : St7 w0 rows W) {A : Option Addr} {L : List Od} {n c : Nat} (hi : Ino W A L n c) : St7 w0 ((A, L, n, c) :: rows) W := ⟨h.b, h.e, fun r hr => by
  rcases List.mem_cons.1 hr with rfl | hr
  · exact hi
  · exact h.r r hr⟩
end
theorem kp7 {w0 W W' : World} {rows : List Row} (h : Hid (St7 w0 rows W)) (hb : Hid (Below W.heap.size W W')) : Hid (St7 w0 rows W') := Lib.hid (h.out.below hb.out)
theorem ka7 {w0 W : World} {rows : List Row} (h : Hid (St7 w0 rows W)) {A : Option Addr} {L : List Od} {n c : Nat} (hi : Hid (Ino W A L n c)) : Hid (St7 w0 ((A, L, n, c) :: rows) W) := Lib.hid (h.out.add hi.out)
/-- A set of a call: the list that it reads as has a name and a length. -/
theorem giveL_at {f : FuncId} {args : Array Value} {W : World} {r : List Od × Nat} {R : List Od} {g k : Nat} (h : Calls Tryz.prog f args W (GiveL W r)) (hr : r = (R, g)) (hk : R.length = k) (hm : k ≤ 100000) :
    Calls Tryz.prog f args W fun e w' => ∃ A, e = .returned (.tuple #[.slice A k k, .int .i64 (g : Int)]) ∧ Hid (Ino w' A R k k) ∧ Hid (Below W.heap.size W w') := by
  subst hr hk
  exact h.mono fun e w' ⟨A, h1, h2, _, h3⟩ => ⟨A, h1, Lib.hid ⟨h2, rfl, Nat.le_refl _, Nat.le_trans hm (by decide)⟩, Lib.hid h3⟩
theorem giveK_at {f : FuncId} {args : Array Value} {W : World} {R : List Od} {k : Nat} (h : Calls Tryz.prog f args W (GiveK W R)) (hk : R.length = k) :
    Calls Tryz.prog f args W fun e w' => ∃ A c, e = .returned (.slice A k c) ∧ Hid (Ino w' A R k c) ∧ Hid (Below W.heap.size W w') := by
  subst hk
  exact h.mono fun e w' ⟨A, c, h1, h2, h3⟩ => ⟨A, c, h1, Lib.hid h2, Lib.hid h3⟩
theorem giveF_at {f : FuncId} {args : Array Value} {W : World} {g k : Nat} (h : Calls Tryz.prog f args W (GiveF W g)) (hk : g = k) :
    Calls Tryz.prog f args W fun e w' => e = .returned (.int .i64 (k : Int)) ∧ Hid (Below W.heap.size W w') := by
  subst hk
  exact h.mono fun e w' ⟨h1, h2⟩ => ⟨h1, Lib.hid h2⟩
theorem giveB_at {f : FuncId} {args : Array Value} {W : World} {b v : Bool} (h : Calls Tryz.prog f args W fun e w' => e = .returned (.bool b) ∧ Below W.heap.size W w') (hv : b = v) :
    Calls Tryz.prog f args W fun e w' => e = .returned (.bool v) ∧ Hid (Below W.heap.size W w') := by
  subst hv
  exact h.mono fun _ _ ⟨h1, h2⟩ => ⟨h1, Lib.hid h2⟩
theorem same_at7 (A B : Option Addr) (L : List Od) (n d : Nat) (W : World) (hA : Ino W A L n n) (hB : Ino W B L n d) (hm : n ≤ 100000) :
    Calls Tryz.prog 21 #[.slice A n n, .int .i64 0, .slice B n d, .int .i64 0] W fun e w' => e = .returned (.bool true) ∧ Hid (Below W.heap.size W w') :=
  (same_set A B L n d W hA hB hm).mono fun _ _ ⟨h1, h2⟩ => ⟨h1, Lib.hid h2⟩
theorem lives_at7 (W : World) (hE : Env W) : Calls Tryz.prog 9 #[] W fun e w' => e = .returned (.bool true) ∧ Hid (Below W.heap.size W w') :=
  (lives7 W hE).mono fun _ _ ⟨h1, h2⟩ => ⟨h1, Lib.hid h2⟩

/-! Facts on sets. -/
theorem cmb_ok (kf : Bool → Bool → Bool) {L M : List Od} (hL : SetO L) (hM : SetO M) (h1 : L.length ≤ 256) (h2 : M.length ≤ 256) : cmbR kf L M = (mrg kf (L.length + M.length) L M, 0) := by
  unfold cmbR
  rw [if_neg (by rw [hL.chk h1]; decide), if_neg (by rw [hM.chk h2]; decide)]
theorem cmb_bad (kf : Bool → Bool → Bool) {L M : List Od} {f : Nat} (hf : f ≠ 0) (h : chkW L = f ∨ (chkW L = 0 ∧ chkW M = f)) : cmbR kf L M = ([], f) := by
  unfold cmbR
  rcases h with rfl | ⟨h1, rfl⟩
  · rw [if_pos hf]
  · rw [if_neg (by rw [h1]; decide), if_pos hf]
theorem uni_bad {L M : List Od} {f : Nat} (hf : f ≠ 0) (h : chkW L = f ∨ (chkW L = 0 ∧ chkW M = f)) : uniR L M = ([], f) := by
  unfold uniR
  rw [cmb_bad uK hf h]
  rfl
theorem wit_bad {L M : List Od} {f : Nat} (hf : f ≠ 0) (h : chkW L = f ∨ (chkW L = 0 ∧ chkW M = f)) : witR L M = false := by
  unfold witR
  rw [cmb_bad mK hf h]
  simp [hf]
theorem sam_bad {L M : List Od} {f : Nat} (hf : f ≠ 0) (h : chkW L = f ∨ (chkW L = 0 ∧ chkW M = f)) : samR L M = false := by
  unfold samR
  rcases h with h | ⟨h1, h2⟩
  · rw [decide_eq_false (by rw [h]; exact hf)]; rfl
  · rw [decide_eq_false (p := L = M) (fun e => hf (by rw [← h2, ← e, h1]))]
    simp
theorem mrg_len (kf : Bool → Bool → Bool) (L M : List Od) (n : Nat) : (mrg kf n L M).length ≤ n := mrg_le kf n L M
end Go.Proofs.YtaiiihdckdjpoaaGreatDoor
