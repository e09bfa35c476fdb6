/-
  What every row of layer 10 wants: the listed variable out of the row's condition; an argument opened by its shape; the row's last step where of the world behind the call only 'below the old heap nothing has turned' is known.
  Conditions: none.
-/
import Derived.Test.YtecmgkmonehmfaaDoorTimZb
import Derived.Test.YtecmgkmonehmfaaDoorCards
import Derived.Test.YtecmgkmonehmfaaDoorTie
import Derived.ProofKit
import Derived.LaidMore
import Derived.Lay
import Derived.OpenShut
import Derived.Stop.Joined
import Derived.SevenTiedAt
import Derived.Lib.LaidTab
import Derived.Lib.SmallJoins
namespace Go.Proofs.YtecmgkmonehmfaaDoor.Tim
open Go.ChangeShapes Go.WideShapes Go.ChangeAt Go.WideMaps Go.WideElems Go.RowKit Go.Lib

theorem x_own : ownKnob Tryd.prog.godebug = none := by kernel_rfl
theorem x_laid : laidOutB Tryd.prog = true := by kernel_rfl
/-- The listed variable. -/
def laidL : List (String × DataW Unit) := [("vidimus/times.monthDays", Rows.laid_vidimus_times_monthDays)]
/-- The heap that the list lays meets the condition. -/
theorem door_met (os : Os) (args : Array Value) : laidMetH Tryd.prog laidL ((World.laidAll Tryd.prog os laidL).forCall (fun _ _ => 0) ⟨#[], args, []⟩).memory := by
  rw [MakeChecks.laidMetH_plain _ _ _ (by kernel_rfl)]
  exact laidMet_laidAll _ (by kernel_rfl) (by kernel_rfl)
theorem gMon : Tryd.prog.globalNamed "vidimus/times.monthDays" = some 0 := by kernel_rfl
set_option maxRecDepth 100000 in
theorem of_laid {W : World} (h : laidMetH Tryd.prog laidL W) : Env W := by
  rw [MakeChecks.laidMetH_plain _ _ _ (by kernel_rfl)] at h
  have ht : TabIs Tryd.prog W "vidimus/times.monthDays" .i64 [31, 28, 31, 30, 31, 30, 31, 31, 30, 31, 30, 31] :=
    Lib.tabIs_of_head (t := 67) gMon (by kernel_rfl) Tryd.underlying67 Tryd.underlying3 (by kernel_rfl) (by kernel_rfl) (show laidMet Tryd.prog (("vidimus/times.monthDays", Lib.tabData .i64 [31, 28, 31, 30, 31, 30, 31, 31, 30, 31, 30, 31]) :: []) W from h)
  intro k hk
  rw [ht.cell gMon k hk]
  have : ∀ j : Fin 12, [(31 : Int), 28, 31, 30, 31, 30, 31, 31, 30, 31, 30, 31].getD j.val 0 = (mdL.getD j.val 0 : Int) := by decide
  have h2 := this ⟨k, hk⟩
  dsimp only at h2
  rw [h2]

section
variable {H : Type} {enc : TypeId × Value → H} {P : Program}
/-- All arguments read behind the call as before it. -/
theorem all_stay {W W' : World} {sp : Nat → Bool} (hl : laidOutB P = true) : ∀ {ts : List TypeId} {vs : List Value} {ds : List (DataW H)} {ps : List MemPlace},
    (∀ t ∈ ts, P.readableRec t = true ∧ t < P.types.size) → DataW.TrodAll enc P W 0 (fun _ => true) true ts vs ds ps → (∀ p ∈ ps, W.sameAt W' p) → (∀ p ∈ ps, sp p.block = true) → DataW.TrodAll enc P W' 0 sp true ts vs ds ps
  | [], [], [], _, _, h, _, _ => h
  | t :: ts, v :: vs, d :: ds, _, ht, ⟨p, q, h1, h2, e⟩, hs, hsp =>
    ⟨p, q, WideElems.Trod_stays hl (ht t (List.mem_cons_self ..)).1 (ht t (List.mem_cons_self ..)).2 h1 (fun x hx => hs x (by rw [e]; exact List.mem_append_left _ hx)) (fun x hx => hsp x (by rw [e]; exact List.mem_append_left _ hx)),
      all_stay hl (fun u hu => ht u (List.mem_cons_of_mem _ hu)) h2 (fun x hx => hs x (by rw [e]; exact List.mem_append_right _ hx)) (fun x hx => hsp x (by rw [e]; exact List.mem_append_right _ hx)), e⟩

/-- A law answered true and left what was there as it was. -/
theorem law_post {f : Func} {s : ChangeSpec} {W W' : World} {args : Array Value} {ds : List (DataW H)} {before : List MemPlace} {tb : TypeId} (hl : laidOutB P = true) (hts : ∀ t ∈ f.params.toList, P.readableRec t = true ∧ t < P.types.size)
    (hv : s.vars = []) (hfn : s.fn H ds = { results := [.lit (.bool true)], args := ds }) (hr : f.resultTypes = #[tb]) (hB : P.underlying tb = some .bool)
    (hW : DataW.Whole enc P f.params.toList s.vars false W args.toList ds [] before) (hb : Below W.heap.size W W') : s.post enc P f false true false false W args (.bool true) W' := by
  have hlt := hW.lt
  obtain ⟨p, q, h1, h2, rfl, h4, h5⟩ := hW
  have h2' := h2
  rw [hv] at h2'
  obtain ⟨_, rfl⟩ := trodVars_none h2'
  have e0 : s.fn H (ds ++ []) = { results := [.lit (.bool true)], args := ds } := by rw [List.append_nil]; exact hfn
  have hdec : ∀ x ∈ p, decide (x.block < W.heap.size) = true := fun x hx => by simpa using hlt x (List.mem_append_left _ hx)
  refine ⟨ds, [], p ++ [], [], p, [], ⟨p, [], h1, h2, rfl, h4, h5⟩, ?_, ?_, ?_, ?_, fun h => by cases h⟩
  · rw [e0, hr]
    exact trodAll_mk1 (shut_bool hB true)
  · rw [e0]
    exact all_stay hl hts h1 (fun x hx => hb.same (hlt x (List.mem_append_left _ hx))) hdec
  · rw [e0, hv]
    exact rfl
  · exact World.keptBut_mono (fun x hx => ⟨hx, Or.inr (Or.inl (by simpa using hx))⟩) (hb.frame (· ∈ p ++ []))
end

section
variable {H : Type} {enc : TypeId × Value → H} {W : World} {base : Nat} {d : DataW H} {v : Value} {ps : List MemPlace}
theorem open_cells {fuel : Nat} {cs : List Value} {x : DataW H × List MemPlace} (hd : DataW.trod enc Tryd.prog W 0 (fun _ => true) true fuel 34 cs = some x) :
    ∃ (A : Option Addr) (l : List Nat) (c : Nat), cs = [.slice A l.length c] ∧ Rb W A l ∧ l.length ≤ c ∧ c ≤ maxLen := by
  rcases open_ints Tryd.underlying34 Tryd.underlying5 (by kernel_rfl) hd with ⟨rfl, _⟩ | ⟨a, len, cap, zs, rfl, _, hl, hm, hz, _, hc, hw⟩
  · exact ⟨none, [], 0, rfl, Rb.nil, Nat.le_refl _, Nat.zero_le _⟩
  · rw [if_pos rfl] at hz
    have hzr : ∀ i, i < zs.length → 0 ≤ zs.getD i 0 ∧ zs.getD i 0 < 256 := by
      intro i hi
      have := hw (zs.getD i 0) (by rw [show zs.getD i 0 = zs[i] from by simp [List.getD, hi]]; exact List.getElem_mem hi)
      revert this
      generalize zs.getD i 0 = z
      intro this
      simp [Lit.wf, IntKind.min, IntKind.max, IntKind.signed, IntKind.bits] at this
      omega
    have hlen : ((zs.take len).map Int.toNat).length = len := by simp; omega
    refine ⟨some a, (zs.take len).map Int.toNat, cap, by rw [hlen], ⟨fun hn => ?_, ?_⟩, by rw [hlen]; exact hl, hm⟩
    · have h0 : 0 < zs.length := by
        rcases Nat.eq_zero_or_pos zs.length with h0 | h0
        · exact absurd (by rw [List.eq_nil_of_length_eq_zero h0]; simp [cs8]) hn
        · exact h0
      obtain ⟨b, off, rfl, hc'⟩ := ints_at hc h0
      refine ⟨b, off, rfl, ?_, ?_⟩
      · have h1 := hc' 0 h0
        rcases Nat.lt_or_ge b W.heap.size with hlt | hge
        · exact hlt
        · unfold World.cell? at h1
          simp [Array.getElem?_eq_none hge] at h1
      · intro j u hu
        unfold cs8 at hu
        rw [List.map_map, List.getElem?_map] at hu
        obtain ⟨z, hz1, rfl⟩ := Option.map_eq_some_iff.1 hu
        obtain ⟨hj, hz2⟩ := List.getElem?_eq_some_iff.1 hz1
        have hj2 : j < zs.length := by simp at hj; omega
        rw [hc' j hj2]
        have h3 := hzr j hj2
        have h4 : zs.getD j 0 = z := by rw [← hz2]; simp [List.getD, hj2]
        rw [h4] at h3 ⊢
        show _ = some (Value.int .u8 ((z.toNat : Nat) : Int))
        rw [Int.toNat_of_nonneg h3.1]
    · intro x hx
      obtain ⟨z, hz1, rfl⟩ := List.mem_map.1 hx
      obtain ⟨i, hi, rfl⟩ := List.getElem_of_mem (List.mem_of_mem_take hz1)
      have := hzr i hi
      rw [show zs.getD i 0 = zs[i] from by simp [List.getD, hi]] at this
      omega
set_option maxRecDepth 100000 in
/-- An argument that is a byte slice. -/
theorem open_bytes {r : Reach} (hval : Value.okWide Tryd.prog W r base 34 v) (hd : DataW.Trod enc Tryd.prog W 0 (fun _ => true) true 34 v d ps) :
    ∃ (A : Option Addr) (l : List Nat) (c : Nat), v = .slice A l.length c ∧ Rb W A l ∧ l.length ≤ c ∧ c ≤ maxLen := by
  obtain ⟨A, len, cap, rfl⟩ := okWide_slice Tryd.underlying34 hval
  obtain ⟨fuel, hf⟩ := hd
  obtain ⟨B, l, c, h1, h2, h3, h4⟩ := open_cells hf
  simp only [Value.cells, List.cons.injEq, and_true] at h1
  exact ⟨B, l, c, h1, h2, h3, h4⟩
/-- A number's reading is in its kind. -/
theorem u8_of {fuel : Nat} {sp : Nat → Bool} {t : TypeId} {x : DataW H × List MemPlace} {v : Value} (ht : Tryd.prog.underlying t = some (.int .u8)) (h : DataW.trod enc Tryd.prog W 0 sp true fuel t [v] = some x) : ∃ n : Nat, v = .int .u8 (n : Int) ∧ n < 256 := by
  obtain ⟨z, h1, _, hw⟩ := DataW.trod_int ht h
  simp only [List.cons.injEq, and_true] at h1
  have hr : 0 ≤ z ∧ z < 256 := by
    revert hw
    simp [Lit.wf, IntKind.min, IntKind.max, IntKind.signed, IntKind.bits]
    omega
  exact ⟨z.toNat, by rw [h1, Int.toNat_of_nonneg hr.1], by omega⟩
theorem u32_of {fuel : Nat} {sp : Nat → Bool} {t : TypeId} {x : DataW H × List MemPlace} {v : Value} (ht : Tryd.prog.underlying t = some (.int .u32)) (h : DataW.trod enc Tryd.prog W 0 sp true fuel t [v] = some x) : ∃ n : Nat, v = .int .u32 (n : Int) ∧ n < 4294967296 := by
  obtain ⟨z, h1, _, hw⟩ := DataW.trod_int ht h
  simp only [List.cons.injEq, and_true] at h1
  have hr : 0 ≤ z ∧ z < 4294967296 := by
    revert hw
    simp [Lit.wf, IntKind.min, IntKind.max, IntKind.signed, IntKind.bits]
    omega
  exact ⟨z.toNat, by rw [h1, Int.toNat_of_nonneg hr.1], by omega⟩
set_option maxRecDepth 100000 in
/-- An argument that is a byte. -/
theorem open_u8 {r : Reach} (hval : Value.okWide Tryd.prog W r base 5 v) (hd : DataW.Trod enc Tryd.prog W 0 (fun _ => true) true 5 v d ps) : ∃ n : Nat, v = .int .u8 (n : Int) ∧ n < 256 := by
  obtain ⟨z, rfl, _, _, hw⟩ := open_int Tryd.underlying5 hval hd
  have hr : 0 ≤ z ∧ z < 256 := by
    revert hw
    simp [Lit.wf, IntKind.min, IntKind.max, IntKind.signed, IntKind.bits]
    omega
  exact ⟨z.toNat, by rw [Int.toNat_of_nonneg hr.1], by omega⟩
set_option maxRecDepth 100000 in
/-- An argument that is a number of 32 bits. -/
theorem open_u32 {r : Reach} (hval : Value.okWide Tryd.prog W r base 31 v) (hd : DataW.Trod enc Tryd.prog W 0 (fun _ => true) true 31 v d ps) : ∃ n : Nat, v = .int .u32 (n : Int) ∧ n < 4294967296 := by
  obtain ⟨z, rfl, _, _, hw⟩ := open_int Tryd.underlying31 hval hd
  have hr : 0 ≤ z ∧ z < 4294967296 := by
    revert hw
    simp [Lit.wf, IntKind.min, IntKind.max, IntKind.signed, IntKind.bits]
    omega
  exact ⟨z.toNat, by rw [Int.toNat_of_nonneg hr.1], by omega⟩
set_option maxRecDepth 100000 in
/-- An argument that is an int. -/
theorem open_i64 {r : Reach} (hval : Value.okWide Tryd.prog W r base 3 v) (hd : DataW.Trod enc Tryd.prog W 0 (fun _ => true) true 3 v d ps) : ∃ z : Int, v = .int .i64 z ∧ -9223372036854775808 ≤ z ∧ z < 9223372036854775808 := by
  obtain ⟨z, rfl, _, _, hw⟩ := open_int Tryd.underlying3 hval hd
  have hr : -9223372036854775808 ≤ z ∧ z < 9223372036854775808 := by
    revert hw
    simp [Lit.wf, IntKind.min, IntKind.max, IntKind.signed, IntKind.bits]
    omega
  exact ⟨z, rfl, hr⟩
theorem bool_of {fuel : Nat} {sp : Nat → Bool} {t : TypeId} {x : DataW H × List MemPlace} {v : Value} (ht : Tryd.prog.underlying t = some .bool) (h : DataW.trod enc Tryd.prog W 0 sp true fuel t [v] = some x) : ∃ b : Bool, v = .bool b := by
  obtain ⟨b, h1, _⟩ := DataW.trod_bool ht h
  simp only [List.cons.injEq, and_true] at h1
  exact ⟨b, h1⟩
theorem array5 {α : Type} {cs : Array α} (h : cs.size = 5) : ∃ c0 c1 c2 c3 c4, cs = #[c0, c1, c2, c3, c4] := by
  obtain ⟨l⟩ := cs
  match l, h with
  | [c0, c1, c2, c3, c4], _ => exact ⟨c0, c1, c2, c3, c4, rfl⟩
set_option maxRecDepth 100000 in
/-- An argument that is an element: its tag, its octets, how many elements it has. -/
theorem open_elem {r : Reach} (hval : Value.okWide Tryd.prog W r base 37 v) (hd : DataW.Trod enc Tryd.prog W 0 (fun _ => true) true 37 v d ps) :
    ∃ (c n : Nat) (k : Bool) (A B : Option Addr) (l : List Nat) (ca S cb : Nat), v = .agg (elF c k n (.slice A l.length ca) (.slice B S cb)).toArray ∧ c < 256 ∧ n < 4294967296 ∧ Rb W A l ∧ l.length ≤ ca ∧ ca ≤ maxLen := by
  have e0 : Tryd.prog.cellsOf 37 = 5 := by kernel_rfl
  have e1 : Tryd.prog.cellsOf 33 = 3 := by kernel_rfl
  have e2 : Tryd.prog.cellsOf 34 = 1 := by kernel_rfl
  have e3 : Tryd.prog.cellsOf 35 = 1 := by kernel_rfl
  have e4 : Tryd.prog.cellsOf 30 = 1 := by kernel_rfl
  have e5 : Tryd.prog.cellsOf 4 = 1 := by kernel_rfl
  have e6 : Tryd.prog.cellsOf 31 = 1 := by kernel_rfl
  obtain ⟨cs, rfl, hs⟩ := okWide_struct Tryd.underlying37 hval
  rw [e0] at hs
  obtain ⟨c0, c1, c2, c3, c4, rfl⟩ := array5 hs
  obtain ⟨fuel, hf⟩ := hd
  obtain ⟨y0, y1, y2, n, _, _, f0, f1, f2⟩ := Deep.trod_struct3 Tryd.underlying37 hf
  clear hf hval
  simp [e1, e2, e3, Value.cells] at f0 f1 f2
  obtain ⟨z0, z1, z2, m, _, _, g0, g1, g2⟩ := Deep.trod_struct3 Tryd.underlying33 f0
  simp [e4, e5, e6] at g0 g1 g2
  obtain ⟨c, rfl, hc⟩ := u8_of Tryd.underlying30 g0
  obtain ⟨k, rfl⟩ := bool_of Tryd.underlying4 g1
  obtain ⟨num, rfl, hn⟩ := u32_of Tryd.underlying31 g2
  obtain ⟨A, l, ca, h1, h2, h3, h4⟩ := open_cells f1
  simp only [List.cons.injEq, and_true] at h1
  subst h1
  obtain ⟨B, S, cb, h5⟩ := Joins.slice_form Tryd.underlying35 f2
  simp only [List.cons.injEq, and_true] at h5
  subst h5
  exact ⟨c, num, k, A, B, l, ca, S, cb, rfl, hc, hn, h2, h3, h4⟩
theorem str_of {fuel : Nat} {sp : Nat → Bool} {t : TypeId} {x : DataW H × List MemPlace} {v : Value} (ht : Tryd.prog.underlying t = some .string) (h : DataW.trod enc Tryd.prog W 0 sp true fuel t [v] = some x) : ∃ l : List Nat, v = .string (bstr l) ∧ All8 l ∧ l.length ≤ maxLen := by
  obtain ⟨s, h1, _, hs⟩ := DataW.trod_string ht h
  simp only [List.cons.injEq, and_true] at h1
  exact ⟨sl s, by rw [h1, bstr_sl], sl_all s, by rw [← bstr_size, bstr_sl]; exact hs⟩
set_option maxRecDepth 100000 in
/-- An argument that is a string. -/
theorem open_str {r : Reach} (hval : Value.okWide Tryd.prog W r base 9 v) (hd : DataW.Trod enc Tryd.prog W 0 (fun _ => true) true 9 v d ps) : ∃ l : List Nat, v = .string (bstr l) ∧ All8 l ∧ l.length ≤ maxLen := by
  obtain ⟨s, rfl, -, -, hs⟩ := Go.ChangeMaps.open_string Tryd.underlying9 hval hd
  exact ⟨sl s, by rw [bstr_sl], sl_all s, by rw [← bstr_size, bstr_sl]; exact hs⟩
theorem okWide_arr {P : Program} {w : World} {r : Reach} {b0 : Nat} {t e : TypeId} {n : Nat} {v : Value} (ht : P.underlying t = some (.array n e)) (h : Value.okWide P w r b0 t v) : ∃ cs, v = .agg cs ∧ cs.size = P.cellsOf t := by
  simp only [Value.okWide, ht] at h
  obtain ⟨cs, h1, h2, _⟩ := h
  exact ⟨cs, h1, h2⟩
theorem u16_of {fuel : Nat} {sp : Nat → Bool} {t : TypeId} {x : DataW H × List MemPlace} {v : Value} (ht : Tryd.prog.underlying t = some (.int .u16)) (h : DataW.trod enc Tryd.prog W 0 sp true fuel t [v] = some x) : ∃ n : Nat, v = .int .u16 (n : Int) ∧ n < 65536 := by
  obtain ⟨z, h1, _, hw⟩ := DataW.trod_int ht h
  simp only [List.cons.injEq, and_true] at h1
  have hr : 0 ≤ z ∧ z < 65536 := by
    revert hw
    simp [Lit.wf, IntKind.min, IntKind.max, IntKind.signed, IntKind.bits]
    omega
  exact ⟨z.toNat, by rw [h1, Int.toNat_of_nonneg hr.1], by omega⟩
theorem i64_of {fuel : Nat} {sp : Nat → Bool} {t : TypeId} {x : DataW H × List MemPlace} {v : Value} (ht : Tryd.prog.underlying t = some (.int .i64)) (h : DataW.trod enc Tryd.prog W 0 sp true fuel t [v] = some x) : ∃ z : Int, v = .int .i64 z ∧ I64 z := by
  obtain ⟨z, h1, _, hw⟩ := DataW.trod_int ht h
  simp only [List.cons.injEq, and_true] at h1
  refine ⟨z, h1, ?_⟩
  unfold I64
  revert hw
  simp [Lit.wf, IntKind.min, IntKind.max, IntKind.signed, IntKind.bits]
theorem array6 {α : Type} {cs : Array α} (h : cs.size = 6) : ∃ c0 c1 c2 c3 c4 c5, cs = #[c0, c1, c2, c3, c4, c5] := by
  obtain ⟨l⟩ := cs
  match l, h with
  | [c0, c1, c2, c3, c4, c5], _ => exact ⟨c0, c1, c2, c3, c4, c5, rfl⟩
theorem array12 {α : Type} {cs : Array α} (h : cs.size = 12) : ∃ c0 c1 c2 c3 c4 c5 d0 d1 d2 d3 d4 d5, cs = #[c0, c1, c2, c3, c4, c5, d0, d1, d2, d3, d4, d5] := by
  obtain ⟨l⟩ := cs
  match l, h with
  | [c0, c1, c2, c3, c4, c5, d0, d1, d2, d3, d4, d5], _ => exact ⟨c0, c1, c2, c3, c4, c5, d0, d1, d2, d3, d4, d5, rfl⟩
/-- A struct of six fields. -/
theorem trod_struct6 {fuel : Nat} {sp : Nat → Bool} {t : TypeId} {f0 f1 f2 f3 f4 f5 : Field} {cs : List Value} {x : DataW H × List MemPlace} (ht : Tryd.prog.underlying t = some (.struct #[f0, f1, f2, f3, f4, f5])) (h : DataW.trod enc Tryd.prog W 0 sp true fuel t cs = some x) :
    ∃ y0 y1 y2 y3 y4 y5 n, DataW.trod enc Tryd.prog W 0 sp true n f0.type ((cs.drop f0.offset).take (Tryd.prog.cellsOf f0.type)) = some y0 ∧ DataW.trod enc Tryd.prog W 0 sp true n f1.type ((cs.drop f1.offset).take (Tryd.prog.cellsOf f1.type)) = some y1 ∧
      DataW.trod enc Tryd.prog W 0 sp true n f2.type ((cs.drop f2.offset).take (Tryd.prog.cellsOf f2.type)) = some y2 ∧ DataW.trod enc Tryd.prog W 0 sp true n f3.type ((cs.drop f3.offset).take (Tryd.prog.cellsOf f3.type)) = some y3 ∧
      DataW.trod enc Tryd.prog W 0 sp true n f4.type ((cs.drop f4.offset).take (Tryd.prog.cellsOf f4.type)) = some y4 ∧ DataW.trod enc Tryd.prog W 0 sp true n f5.type ((cs.drop f5.offset).take (Tryd.prog.cellsOf f5.type)) = some y5 := by
  obtain ⟨xs, n, _, rfl, hl, hlen, hf⟩ := DataW.trod_struct ht h
  match xs, hlen with
  | [y0, y1, y2, y3, y4, y5], _ => exact ⟨y0, y1, y2, y3, y4, y5, n, by simpa using hf 0 f0 rfl, by simpa using hf 1 f1 rfl, by simpa using hf 2 f2 rfl, by simpa using hf 3 f3 rfl, by simpa using hf 4 f4 rfl, by simpa using hf 5 f5 rfl⟩
set_option maxRecDepth 100000 in
/-- An argument that is a time. -/
theorem open_time {r : Reach} (hval : Value.okWide Tryd.prog W r base 23 v) (hd : DataW.Trod enc Tryd.prog W 0 (fun _ => true) true 23 v d ps) :
    ∃ a0 a1 a2 a3 a4 a5 : Int, v = tV a0 a1 a2 a3 a4 a5 ∧ I64 a0 ∧ I64 a1 ∧ I64 a2 ∧ I64 a3 ∧ I64 a4 ∧ I64 a5 := by
  have e0 : Tryd.prog.cellsOf 23 = 6 := by kernel_rfl
  have e1 : Tryd.prog.cellsOf 3 = 1 := by kernel_rfl
  obtain ⟨cs, rfl, hs⟩ := okWide_struct Tryd.underlying23 hval
  rw [e0] at hs
  obtain ⟨c0, c1, c2, c3, c4, c5, rfl⟩ := array6 hs
  obtain ⟨fuel, hf⟩ := hd
  obtain ⟨y0, y1, y2, y3, y4, y5, m, f0, f1, f2, f3, f4, f5⟩ := trod_struct6 Tryd.underlying23 hf
  clear hf hval
  simp [e1, Value.cells] at f0 f1 f2 f3 f4 f5
  obtain ⟨a0, rfl, h0⟩ := i64_of Tryd.underlying3 f0
  obtain ⟨a1, rfl, h1⟩ := i64_of Tryd.underlying3 f1
  obtain ⟨a2, rfl, h2⟩ := i64_of Tryd.underlying3 f2
  obtain ⟨a3, rfl, h3⟩ := i64_of Tryd.underlying3 f3
  obtain ⟨a4, rfl, h4⟩ := i64_of Tryd.underlying3 f4
  obtain ⟨a5, rfl, h5⟩ := i64_of Tryd.underlying3 f5
  exact ⟨a0, a1, a2, a3, a4, a5, rfl, h0, h1, h2, h3, h4, h5⟩
/-- Plain data in range. -/
def PtR (a b c d e f : Nat) : Prop := a < 65536 ∧ b < 256 ∧ c < 256 ∧ d < 256 ∧ e < 256 ∧ f < 256
set_option maxRecDepth 100000 in
theorem cells_T {fuel : Nat} {c0 c1 c2 c3 c4 c5 : Value} {x : DataW H × List MemPlace} (hf : DataW.trod enc Tryd.prog W 0 (fun _ => true) true fuel 44 [c0, c1, c2, c3, c4, c5] = some x) :
    ∃ a b c d e f : Nat, c0 = .int .u16 (a : Int) ∧ c1 = .int .u8 (b : Int) ∧ c2 = .int .u8 (c : Int) ∧ c3 = .int .u8 (d : Int) ∧ c4 = .int .u8 (e : Int) ∧ c5 = .int .u8 (f : Int) ∧ PtR a b c d e f := by
  have e1 : Tryd.prog.cellsOf 42 = 1 := by kernel_rfl
  have e2 : Tryd.prog.cellsOf 5 = 1 := by kernel_rfl
  obtain ⟨y0, y1, y2, y3, y4, y5, m, f0, f1, f2, f3, f4, f5⟩ := trod_struct6 Tryd.underlying44 hf
  clear hf
  simp [e1, e2] at f0 f1 f2 f3 f4 f5
  obtain ⟨a, rfl, h0⟩ := u16_of Tryd.underlying42 f0
  obtain ⟨b, rfl, h1⟩ := u8_of Tryd.underlying5 f1
  obtain ⟨c, rfl, h2⟩ := u8_of Tryd.underlying5 f2
  obtain ⟨d, rfl, h3⟩ := u8_of Tryd.underlying5 f3
  obtain ⟨e, rfl, h4⟩ := u8_of Tryd.underlying5 f4
  obtain ⟨f, rfl, h5⟩ := u8_of Tryd.underlying5 f5
  exact ⟨a, b, c, d, e, f, rfl, rfl, rfl, rfl, rfl, rfl, h0, h1, h2, h3, h4, h5⟩
set_option maxRecDepth 100000 in
/-- An argument that is plain data. -/
theorem open_T {r : Reach} (hval : Value.okWide Tryd.prog W r base 44 v) (hd : DataW.Trod enc Tryd.prog W 0 (fun _ => true) true 44 v d ps) :
    ∃ a b c d e f : Nat, v = .agg (ptL a b c d e f).toArray ∧ PtR a b c d e f := by
  have e0 : Tryd.prog.cellsOf 44 = 6 := by kernel_rfl
  obtain ⟨cs, rfl, hs⟩ := okWide_struct Tryd.underlying44 hval
  rw [e0] at hs
  obtain ⟨c0, c1, c2, c3, c4, c5, rfl⟩ := array6 hs
  obtain ⟨fuel, hf⟩ := hd
  obtain ⟨a, b, c, d, e, f, rfl, rfl, rfl, rfl, rfl, rfl, h⟩ := cells_T hf
  exact ⟨a, b, c, d, e, f, rfl, h⟩
set_option maxRecDepth 100000 in
/-- An argument that is two of them. -/
theorem open_T2 {r : Reach} (hval : Value.okWide Tryd.prog W r base 59 v) (hd : DataW.Trod enc Tryd.prog W 0 (fun _ => true) true 59 v d ps) :
    ∃ a b c d e f a' b' c' d' e' f' : Nat, v = .agg (ptL a b c d e f ++ ptL a' b' c' d' e' f').toArray ∧ PtR a b c d e f ∧ PtR a' b' c' d' e' f' := by
  have e0 : Tryd.prog.cellsOf 59 = 12 := by kernel_rfl
  have e1 : Tryd.prog.cellsOf 44 = 6 := by kernel_rfl
  obtain ⟨cs, rfl, hs⟩ := okWide_arr Tryd.underlying59 hval
  rw [e0] at hs
  obtain ⟨u0, u1, u2, u3, u4, u5, v0, v1, v2, v3, v4, v5, rfl⟩ := array12 hs
  obtain ⟨fuel, hf⟩ := hd
  obtain ⟨xs, m, -, -, -, hn, hel⟩ := DataW.trod_array Tryd.underlying59 hf
  rw [e1] at hel
  have q0 := hel 0 (by omega)
  have q1 := hel 1 (by omega)
  rw [List.getElem?_eq_getElem (by omega)] at q0 q1
  obtain ⟨a, b, c, d, e, f, rfl, rfl, rfl, rfl, rfl, rfl, h⟩ := cells_T (show DataW.trod enc Tryd.prog W 0 (fun _ => true) true m 44 [u0, u1, u2, u3, u4, u5] = some _ from q0)
  obtain ⟨a', b', c', d', e', f', rfl, rfl, rfl, rfl, rfl, rfl, h'⟩ := cells_T (show DataW.trod enc Tryd.prog W 0 (fun _ => true) true m 44 [v0, v1, v2, v3, v4, v5] = some _ from q1)
  exact ⟨a, b, c, d, e, f, a', b', c', d', e', f', rfl, h, h'⟩
end
end Go.Proofs.YtecmgkmonehmfaaDoor.Tim
