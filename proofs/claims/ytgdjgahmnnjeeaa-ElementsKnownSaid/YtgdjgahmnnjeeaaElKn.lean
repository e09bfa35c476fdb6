/-
  Layer 4: what ElementsKnown asks, as plain facts: elements of many levels, of many elements, of many octets; literals of bytes that are appended to.
  Conditions: none.
-/
import Derived.Test.YtgdjgahmnnjeeaaElNe
import Derived.Test.YtgdjgahmnnjeeaaElWi
import Derived.Test.YtgdjgahmnnjeeaaElPu
import Derived.Test.YtgdjgahmnnjeeaaElRow
import Derived.ArgAppend
namespace Go.Proofs.Ytgdjgahmnnjeeaa
open Go.RowKit

theorem getX_of {e : El} (hv : valE e) (hd : depE e ≤ 16) (hc : cntE e ≤ 8192) (hl : (encE e).length ≤ 1048576) : resX (getX (encE e)) = (e, 0, 0) := by
  have h := nx_back e 17 1 0 [] hv (by omega) (by omega) (by omega) (by omega)
  rw [List.append_nil] at h
  unfold getX nextX
  rw [if_neg (by omega), h]
  dsimp only
  rw [if_neg (by omega)]
  rfl
theorem encR_of {e : El} (hv : valE e) (hd : depE e ≤ 16) (hc : cntE e ≤ 8192) (hl : (encE e).length ≤ 1048576) : encR e = (encE e, 0) ∧ sizR e = ((encE e).length, 0) ∧ (chkE e 1 0).1 = 0 := by
  have h0 : (chkE e 1 0).1 = 0 := (chkE_zero e 1 0).2 ⟨hv, by omega, by omega⟩
  have h1 : sizR e = ((encE e).length, 0) := by unfold sizR; rw [if_neg (by rw [h0]; simp), if_pos hl]
  exact ⟨by unfold encR; rw [h1, if_pos rfl], h1, h0⟩
theorem conOk_of {e : El} (h : conL e ≤ 1048576) : conOk e := fun _ => h

/-! Levels. -/
theorem nest_val : ∀ (p : Nat), valE (nestE p)
  | 0 => ⟨by decide, (fun h => by cases h), fun _ => rfl, trivial⟩
  | p + 1 => ⟨by decide, fun _ => rfl, (fun h => by cases h), nest_val p, trivial⟩
theorem nest_dep : ∀ (p : Nat), depE (nestE p) = p + 1
  | 0 => by rw [nestE, depE, depS]
  | p + 1 => by rw [nestE, depE, depS, depS, nest_dep p]; omega
theorem nest_cnt : ∀ (p : Nat), cntE (nestE p) = p + 1
  | 0 => by rw [nestE, cntE, cntS]
  | p + 1 => by rw [nestE, cntE, cntS, cntS, nest_cnt p]; omega
theorem nest_len : (encE (nestE 15)).length = 32 := by decide +kernel
theorem nest_con (p : Nat) (h : p ≤ 16) : conOk (nestE p) := by
  refine conOk_of ?_
  have : ∀ q : Fin 17, conL (nestE q.val) ≤ 1048576 := by decide +kernel
  exact this ⟨p, by omega⟩
theorem nest_put : encR (nestE 15) = (encE (nestE 15), 0) := (encR_of (nest_val _) (by rw [nest_dep]; decide) (by rw [nest_cnt]; decide) (by rw [nest_len]; decide)).1
theorem nest_get : resX (getX (encE (nestE 15))) = (nestE 15, 0, 0) := getX_of (nest_val _) (by rw [nest_dep]; decide) (by rw [nest_cnt]; decide) (by rw [nest_len]; decide)
theorem nest_mea : (meaR (nestE 15)).2.1 = 16 := by decide +kernel
theorem nest_deep : (meaR (nestE 16)).2.2 = 12 := by decide +kernel
theorem nest_over : resX (getX ([48, 32] ++ encE (nestE 15))) = (zE, 32, 12) := by kernel_rfl

/-! Many. -/
theorem rep_len : ∀ (m : Nat), (encS (List.replicate m nulE)).length = 2 * m
  | 0 => by rw [List.replicate_zero, encS]; rfl
  | m + 1 => by
    rw [List.replicate_succ, encS, List.length_append, rep_len m, show (encE nulE).length = 2 from by decide +kernel]
    omega
theorem rep_val : ∀ (m : Nat), valS (List.replicate m nulE)
  | 0 => trivial
  | m + 1 => ⟨⟨by decide, (fun h => by cases h), fun _ => rfl, trivial⟩, rep_val m⟩
theorem rep_cnt : ∀ (m : Nat), cntS (List.replicate m nulE) = m
  | 0 => by rw [List.replicate_zero, cntS]
  | m + 1 => by rw [List.replicate_succ, cntS, rep_cnt m, cntE, cntS]; omega
theorem rep_dep : ∀ (m : Nat), depS (List.replicate m nulE) ≤ 1
  | 0 => by rw [List.replicate_zero, depS]; omega
  | m + 1 => by rw [List.replicate_succ, depS, depE, depS]; have := rep_dep m; omega
theorem wide_val (m : Nat) : valE (wideE m) := ⟨by decide, fun _ => rfl, (fun h => by cases h), rep_val m⟩
theorem wide_dep (m : Nat) : depE (wideE m) ≤ 16 := by unfold wideE; rw [depE]; have := rep_dep m; omega
theorem wide_cnt (m : Nat) : cntE (wideE m) = m + 1 := by unfold wideE; rw [cntE, rep_cnt]; omega
theorem wide_conL (m : Nat) : conL (wideE m) = 2 * m := by
  show ([] : List Nat).length + (encS (List.replicate m nulE)).length = 2 * m
  rw [rep_len, List.length_nil, Nat.zero_add]
theorem wide_enc (m : Nat) : encE (wideE m) = putL 0 17 true ++ (Len.putL (2 * m) ++ encS (List.replicate m nulE)) := by
  have h := wide_conL m
  unfold wideE at h ⊢
  unfold conL at h
  rw [encE]
  simp only [List.nil_append, List.length_nil, Nat.zero_add] at h ⊢
  first | rw [h] | (simp only [h]) | skip
theorem put17 : putL 0 17 true = [49] := by decide +kernel
theorem putW : Len.putL (2 * 8191) = [130, 63, 254] := by decide +kernel
theorem putV : Len.putL (2 * 8192) = [130, 64, 0] := by decide +kernel
theorem wide_len : (encE (wideE 8191)).length = 16386 := by
  rw [wide_enc, putW, put17]
  have hr := rep_len 8191
  generalize encS (List.replicate 8191 nulE) = X at *
  have h9 : ([49] ++ ([130, 63, 254] ++ X)).length = X.length + 4 := by simp
  rw [h9, hr]
theorem wide_drop : (encE (wideE 8191)).drop 4 = encS (List.replicate 8191 nulE) := by rw [wide_enc, putW, put17]; rfl
theorem wide_over : encE (wideE 8192) = [49, 130, 64, 0] ++ (encE (wideE 8191)).drop 4 ++ [5, 0] := by
  rw [wide_drop, wide_enc, putV, put17, show (8192 : Nat) = 8191 + 1 from rfl, List.replicate_succ', encS_app, encS, encS, show encE nulE = [5, 0] from by decide +kernel]
  generalize encS (List.replicate 8191 nulE) = X
  simp
theorem wide_put : encR (wideE 8191) = (encE (wideE 8191), 0) := (encR_of (wide_val _) (wide_dep _) (by rw [wide_cnt]; decide) (by rw [wide_len]; decide)).1
theorem wide_get : resX (getX (encE (wideE 8191))) = (wideE 8191, 0, 0) := getX_of (wide_val _) (wide_dep _) (by rw [wide_cnt]; decide) (by rw [wide_len]; decide)
theorem wide_mea : (meaR (wideE 8191)).1 = 8192 := by
  rw [meaR_cnt (encR_of (wide_val _) (wide_dep _) (by rw [wide_cnt]; decide) (by rw [wide_len]; decide)).2.2]
  exact wide_cnt 8191
theorem chkS_rep : ∀ (m d b : Nat), d ≤ 16 → b ≤ 8192 → (chkS (List.replicate m nulE) d b).1 = if b + m ≤ 8192 then 0 else 3
  | 0, d, b, _, hb => by rw [List.replicate_zero, chkS, if_pos (by omega)]
  | m + 1, d, b, hd, hb => by
    have hp : plcE d b = if 8192 ≤ b then 3 else 0 := by unfold plcE; rw [if_neg (by omega)]
    have h1 : chkE nulE d b = if 8192 ≤ b then (3, 0) else (0, b + 1) := by
      rw [chkE, oneE_place (by decide) (by simp), hp]
      by_cases h : 8192 ≤ b <;> simp [h, chkS]
    rw [List.replicate_succ, chkS, h1]
    by_cases h : 8192 ≤ b
    · rw [if_pos h, if_pos (by decide), if_neg (by omega)]
    · rw [if_neg h, if_neg (fun h => h rfl)]
      dsimp only
      rw [chkS_rep m d (b + 1) hd (by omega), show b + 1 + m = b + (m + 1) from by omega]
set_option maxRecDepth 100000 in
theorem wide_bad : (meaR (wideE 8192)).2.2 = 3 := by
  rw [meaR_err]
  unfold wideE
  rw [chkE, oneE_place (by decide) (by rintro (⟨_, h⟩ | ⟨h, _⟩); exact absurd h (by decide); cases h), if_neg (by decide), chkS_rep 8192 2 1 (by decide) (by decide)]
  decide
theorem nxS_rep : ∀ (m g b : Nat), 2 * m ≤ g → b ≤ 8192 → 8192 < b + m → nxS (fun l b => nxE 16 l 2 b) g (encS (List.replicate m nulE)) b = .err 3 (2 * (8192 - b))
  | 0, g, b, _, h1, h2 => by omega
  | m + 1, g, b, hg, h1, h2 => by
    obtain ⟨g, rfl⟩ : ∃ g', g = g' + 1 := ⟨g - 1, by omega⟩
    have hne : encS (List.replicate (m + 1) nulE) ≠ [] := by
      intro e
      have h9 := rep_len (m + 1)
      rw [e, List.length_nil] at h9; omega
    have he : encS (List.replicate (m + 1) nulE) = encE nulE ++ encS (List.replicate m nulE) := by rw [List.replicate_succ, encS]
    by_cases hb : b = 8192
    · subst hb
      rw [nxS_err hne (f := 3) (a := 0)]
      rw [he, show encE nulE = [5, 0] from by decide +kernel]
      have hrd : rdL ([5, 0] ++ encS (List.replicate m nulE)) = (0, 5, false, 1, 0) := rfl
      rw [nxE_plc hrd (by decide)]
      rfl
    · have h3 := nx_back nulE 16 2 b (encS (List.replicate m nulE)) ⟨by decide, (fun h => by cases h), fun _ => rfl, trivial⟩ (by decide) (by decide) (by rw [cntE, cntS]; omega) (by decide)
      rw [nxS, if_neg hne, he]
      rw [h3]
      dsimp only
      rw [show (encE nulE).length = 2 from by decide +kernel, show b + cntE nulE = b + 1 from by rw [cntE, cntS], show (encE nulE ++ encS (List.replicate m nulE)).drop 2 = encS (List.replicate m nulE) from by rw [show encE nulE = [5, 0] from by decide +kernel]; rfl,
        nxS_rep m g (b + 1) (by omega) (by omega) (by omega)]
      dsimp only
      congr 1
      omega
set_option maxRecDepth 100000 in
theorem wide_fault : resX (getX (encE (wideE 8192))) = (zE, 16386, 3) := by
  have hr := rep_len 8192
  have hn := nxS_rep 8192 16384 (0 + 1) (by decide) (by decide) (by decide)
  have he := wide_enc 8192
  rw [putV, put17] at he
  rw [he]
  generalize encS (List.replicate 8192 nulE) = X at *
  have hl : ([49] ++ ([130, 64, 0] ++ X)).length = 16388 := by
    have h9 : ([49] ++ ([130, 64, 0] ++ X)).length = X.length + 4 := by simp
    rw [h9, hr]
  have hrd : rdL ([49] ++ ([130, 64, 0] ++ X)) = (0, 17, true, 1, 0) := rfl
  have hgq : Len.getL (([49] ++ ([130, 64, 0] ++ X)).drop 1) = (16384, 3, 0) := by kernel_rfl
  have hdr : ([49] ++ ([130, 64, 0] ++ X)).drop 4 = X := rfl
  have hb := nxE_body (f := 16) (d := 1) (b := 0) hrd (by decide) hgq
  generalize [49] ++ ([130, 64, 0] ++ X) = l at *
  have hx : nxE 17 l 1 0 = .err 3 16386 := by
    rw [hb, nxB, if_neg (by rw [show 1 + 3 = 4 from rfl, hdr, hr]; omega), if_neg (by decide), show 1 + 3 = 4 from rfl, hdr, List.take_of_length_le (by rw [hr]; decide), hr, show 2 * 8192 = 16384 from rfl, hn]
  unfold getX nextX
  rw [if_neg (by omega), hx]
  rfl

/-! Many octets. -/
def bigE (z : Nat) : El := .mk 0 4 false (List.replicate z 0) []
theorem big_val (z : Nat) : valE (bigE z) := ⟨by decide, (fun h => by cases h), fun _ => rfl, trivial⟩
theorem big_dep (z : Nat) : depE (bigE z) = 1 := by unfold bigE; rw [depE, depS]
theorem big_cnt (z : Nat) : cntE (bigE z) = 1 := by unfold bigE; rw [cntE, cntS]
theorem big_conL (z : Nat) : conL (bigE z) = z := by
  show (List.replicate z 0).length + (encS []).length = z
  rw [List.length_replicate, encS]; rfl
theorem big_len (z : Nat) (h : (Len.putL z).length = 4) : (encE (bigE z)).length = z + 5 := by
  have h1 := big_conL z
  unfold bigE at h1 ⊢
  rw [encE_len, h1, h, show (putL 0 4 false).length = 1 from by decide +kernel]
  omega
theorem big_put {z : Nat} (h : (Len.putL z).length = 4) (hz : z + 5 ≤ 1048576) : encR (bigE z) = (encE (bigE z), 0) ∧ (sizR (bigE z)).1 = z + 5 ∧ resX (getX (encE (bigE z))) = (bigE z, 0, 0) := by
  have hl := big_len z h
  have h1 := encR_of (big_val z) (by rw [big_dep]; decide) (by rw [big_cnt]; decide) (by omega)
  exact ⟨h1.1, by rw [h1.2.1]; exact hl, getX_of (big_val z) (by rw [big_dep]; decide) (by rw [big_cnt]; decide) (by omega)⟩
theorem big_no {z : Nat} (h : (Len.putL z).length = 4) (hz : 1048576 < z + 5) : encR (bigE z) = ([], 3) ∧ (sizR (bigE z)).1 = 0 := by
  have hl := big_len z h
  have h0 : (chkE (bigE z) 1 0).1 = 0 := (chkE_zero _ 1 0).2 ⟨big_val z, by rw [big_dep]; decide, by rw [big_cnt]; decide⟩
  have h1 : sizR (bigE z) = (0, 3) := by unfold sizR; rw [if_neg (by rw [h0]; simp), if_neg (by omega)]
  exact ⟨by unfold encR; rw [h1]; rfl, by rw [h1]⟩
theorem getX_long {l : List Nat} (h : 1048576 < l.length) : getX l = .err 3 0 := by unfold getX nextX; rw [if_pos h]
theorem put71 : (Len.putL 1048571).length = 4 := by decide +kernel
theorem put72 : (Len.putL 1048572).length = 4 := by decide +kernel

/-! Memory. -/
set_option maxRecDepth 100000 in
/-- 'make([]byte, z)'. -/
theorem make_zeros (z : Nat) (hz : z ≤ 2000000) (W : World) : ∃ W', (Instr.makeSlice 26 (.int .i64 (z : Int)) (.int .i64 (z : Int))).run Try.prog W = .ok (.slice (some ⟨W.heap.size, 0, none⟩) z z) W' ∧ Rb W' (some ⟨W.heap.size, 0, none⟩) (List.replicate z 0) ∧ Below W.heap.size W W' := by
  obtain ⟨i, hi, hz0, hz1, hz2⟩ := info_parts Len.info5
  have h := run_make (P := Try.prog) W 26 5 i (.int .u8 0) Try.underlying26 hi hz0 .i64 .i64 (z : Int) (z : Int) (by omega) (by omega) (by rw [hz2]; omega) (by omega)
  rw [hz1, Int.toNat_natCast, Nat.mul_one, show (Value.int IntKind.u8 0).cells = #[Value.int IntKind.u8 0] from rfl, Len.made_one] at h
  refine ⟨_, h, ⟨?_, fun x hx => by rw [(List.mem_replicate.1 hx).2]; omega⟩, bel1 _ _⟩
  have hb := (Bk.new W 5 (List.replicate z (by8 0))).rd 0
  rw [List.drop_zero] at hb
  have e : cs8 (List.replicate z 0) = List.replicate z (by8 0) := by unfold cs8; rw [List.map_replicate]
  rw [e]
  have e2 : (List.replicate z (by8 0)).toArray = Array.replicate z (by8 0) := by simp
  rw [e2] at hb
  exact hb
set_option maxRecDepth 100000 in
/-- A literal of bytes, appended to. -/
theorem lit_app {w W : World} (bs : List Nat) (hbs : All8 bs) (hbl : bs.length ≤ 100) (hb : Below (w.heap.size + 1) (w.alloc (.cells (cs8 bs).toArray 5)) W) {A : Option Addr} {l : List Nat} (hA : Rb W A l) (hl : l.length ≤ 1000000) (c L N : Nat) (hL : l.length = L) (hN : bs.length = N) :
    ∃ v2 w2, (Builtin.append_ #[26, 26] 26 #[.slice (some ⟨w.heap.size, 0, none⟩) N N, .slice A L c]).run Try.prog W = .ok v2 w2 ∧ w2.ownsRow w.heap.size 5 1 v2 (cs8 (bs ++ l)).length (cs8 (bs ++ l)) ∧ All8 (bs ++ l) ∧ Below w.heap.size w w2 := by
  have h0 : (w.alloc (.cells (cs8 bs).toArray 5)).heap[w.heap.size]? = some (.cells (cs8 bs).toArray 5 (0, 0)) := heap_alloc_new w _
  have h1 := (hb.block w.heap.size (by omega)).trans h0
  have hz := hb.size
  simp only [World.size_alloc] at hz
  have hown : W.ownsRow w.heap.size 5 1 (.slice (some ⟨w.heap.size, 0, none⟩) N N) (cs8 bs).length (cs8 bs) := by
    rw [cs8_length, hN]
    exact ⟨by rw [cs8_length, hN, Nat.mul_one], .inr ⟨w.heap.size, N, (cs8 bs).toArray, rfl, Nat.le_refl _, h1, Nat.le_refl _, by unfold maxLen; omega, by simp [cs8_length, hN], by simp [← hN, ← cs8_length]⟩⟩
  obtain ⟨v', w2, hrun, hown2, hb3⟩ := Len.app_src (P := Try.prog) (t := 26) (ty := 26) Try.underlying26 info5 rfl hown (c := c) hA.1 (cs8_ones l) (by omega) (by rw [cs8_length, cs8_length]; omega) (by rw [cs8_length, cs8_length]; unfold maxLen; omega)
  rw [cs8_length, hL] at hrun
  rw [cs8_cat] at hown2
  exact ⟨v', w2, hrun, hown2, hbs.append hA.2, (((Below.refl w.heap.size w).alloc (Nat.le_refl _) _).trans (hb.mono (Nat.le_succ _))).trans hb3⟩
set_option maxRecDepth 100000 in
theorem own_bytes {w : World} {base : Nat} {v : Value} {l : List Nat} (h : w.ownsRow base 5 1 v (cs8 l).length (cs8 l)) (h8 : All8 l) :
    ∃ C k, v = .slice C l.length k ∧ Rb w C l ∧ l.length ≤ k ∧ k ≤ maxLen ∧ ((C = none ∧ k = 0) ∨ ∃ ba off, C = some ⟨ba, off, none⟩ ∧ ba < w.heap.size) := by
  obtain ⟨C, k, hv, h1, h2, h3⟩ := own_open h
  rw [cs8_length] at hv h2
  refine ⟨C, k, hv, ⟨h1, h8⟩, h2, h3, ?_⟩
  rcases h.2 with ⟨e, _⟩ | ⟨g, cap, cur, e, hg, hh, _⟩
  · rw [hv] at e; injection e with e1 e2 e3
    exact .inl ⟨e1, e3⟩
  · rw [hv] at e; injection e with e1 e2 e3
    refine .inr ⟨g, 0, e1, ?_⟩
    rcases Nat.lt_or_ge g w.heap.size with h | h
    · exact h
    · rw [Array.getElem?_eq_none h] at hh; cases hh
set_option maxRecDepth 100000 in
/-- append to a slice without room. -/
theorem full_app {w : World} {b off : Nat} {l : List Nat} {A : Option Addr} {m : List Nat} (hl : Rb w (some ⟨b, off, none⟩) l) (a : Nat) (ao : Nat) (hA : A = some ⟨a, ao, none⟩) (hm : Rb w A m) (h0 : 0 < m.length) (hn : l.length + m.length ≤ 2000000) (c L M : Nat) (hL : l.length = L) (hM : m.length = M) :
    ∃ v2 w2, (Builtin.append_ #[26, 26] 26 #[.slice (some ⟨b, off, none⟩) L L, .slice A M c]).run Try.prog w = .ok v2 w2 ∧ w2.ownsRow w.heap.size 5 1 v2 (cs8 (l ++ m)).length (cs8 (l ++ m)) ∧ All8 (l ++ m) ∧ Below w.heap.size w w2 := by
  subst hA hL hM
  obtain ⟨i, hi, hz0, hz1, hz2⟩ := info_parts Len.info5
  obtain ⟨v', w', hr, ho, hg⟩ := run_append_arg_grows (P := Try.prog) w 26 26 5 i (.int .u8 0) 1 1 Try.underlying26 hi hz0 hz1 hz2 rfl (by decide) ⟨b, off, none⟩ l.length l.length (cs8 l) (by rw [cs8_length, Nat.mul_one])
    (fun j u hu => by
      have hne : cs8 l ≠ [] := by intro e; rw [e] at hu; simp at hu
      obtain ⟨b', off', e, _, hc⟩ := hl.1 hne
      injection e with e
      injection e with e1 e2
      subst e1 e2
      rw [addr_add]; exact hc j u hu) ⟨a, ao, none⟩ m.length c (cs8 m) (by rw [cs8_length, Nat.mul_one])
    (fun j u hu => by
      have hne : cs8 m ≠ [] := by intro e; rw [e] at hu; simp at hu
      obtain ⟨b', off', e, _, hc⟩ := hm.1 hne
      injection e with e
      injection e with e1 e2
      subst e1 e2
      rw [addr_add]; exact hc j u hu) (by omega) (by unfold maxLen; omega) (by omega)
  refine ⟨v', w', hr, ?_, hl.2.append hm.2, (Below.refl _ _).grown hg (Nat.le_refl _) (fun k e => by cases e)⟩
  rw [← cs8_cat, List.length_append, cs8_length, cs8_length]
  exact ho
set_option maxRecDepth 100000 in
theorem make_lit (z : Nat) (hz : z ≤ 2000000) (Z : Int) (hZ : (z : Int) = Z) (W : World) : ∃ (zs : List Nat) (W' : World), zs = List.replicate z 0 ∧ (Instr.makeSlice 26 (.int .i64 Z) (.int .i64 Z)).run Try.prog W = .ok (.slice (some ⟨W.heap.size, 0, none⟩) z z) W' ∧ Rb W' (some ⟨W.heap.size, 0, none⟩) zs ∧ Below W.heap.size W W' := by
  subst hZ
  obtain ⟨W', h1, h2, h3⟩ := make_zeros z hz W
  exact ⟨_, W', rfl, h1, h2, h3⟩
theorem rd_big {W : World} {g z : Nat} {zs : List Nat} (hzs : zs = List.replicate z 0) (hr : Rb W (some ⟨g, 0, none⟩) zs) (hz : z ≤ maxLen) : RdE false (fun _ => True) W (bigE z) (elV 0 4 false (.slice (some ⟨g, 0, none⟩) z z) (.slice none 0 0)) := by
  subst hzs
  exact ⟨by decide, by decide, hr.2, some ⟨g, 0, none⟩, z, none, 0, by rw [List.length_replicate]; rfl, fun hn => (by obtain ⟨b, off, e, hb, hc⟩ := hr.1 hn; exact ⟨b, off, e, hb, trivial, hc⟩), Nat.le_of_eq List.length_replicate, hz, Nat.le_refl _, Nat.zero_le _, fun h => (by cases h), trivial⟩
theorem put_n {S : Nat → Prop} {W : World} {u : Value} (h : RdE true S W (nestE 15) u) : Calls Try.prog 13 #[u] W (GiveE W (encE (nestE 15)) 0) := by
  have := eput_any _ _ W (by rw [nest_dep]; decide) h (nest_con 15 (by decide))
  rw [nest_put] at this
  exact this
theorem dep_n {S : Nat → Prop} {W : World} {u : Value} (h : RdE true S W (nestE 15) u) : Calls Try.prog 19 #[u] W fun e w' => e = .returned (.int .i64 16) ∧ Below W.heap.size W w' := by
  have := edepth_any _ _ W (by rw [nest_dep]; decide) h
  rw [nest_mea] at this
  exact this
theorem chk_n {S : Nat → Prop} {W : World} {u : Value} (h : RdE true S W (nestE 16) u) : Calls Try.prog 14 #[u] W fun e w' => e = .returned (.int .i64 12) ∧ Below W.heap.size W w' := by
  have := echeck_any _ _ W (by rw [nest_dep]; decide) h
  rw [nest_deep] at this
  exact this
theorem n16 (W : World) : Calls Try.prog 31 #[.int .i64 16] W fun e w' => ∃ u, e = .returned u ∧ RdE true (fun i => W.heap.size ≤ i) w' (nestE 15) u ∧ Below W.heap.size W w' := nested_any 16 W (by decide) (by decide)
theorem n17 (W : World) : Calls Try.prog 31 #[.int .i64 17] W fun e w' => ∃ u, e = .returned u ∧ RdE true (fun i => W.heap.size ≤ i) w' (nestE 16) u ∧ Below W.heap.size W w' := nested_any 17 W (by decide) (by decide)
theorem d92 (W : World) : Calls Try.prog 32 #[.int .i64 8192] W fun e w' => ∃ u, e = .returned u ∧ RdE false (fun i => W.heap.size ≤ i) w' (wideE 8191) u ∧ Below W.heap.size W w' := wide_any 8192 W (by decide) (by decide)
theorem d93 (W : World) : Calls Try.prog 32 #[.int .i64 8193] W fun e w' => ∃ u, e = .returned u ∧ RdE false (fun i => W.heap.size ≤ i) w' (wideE 8192) u ∧ Below W.heap.size W w' := wide_any 8193 W (by decide) (by decide)
theorem wide_conOk (m : Nat) (h : m ≤ 100000) : conOk (wideE m) := conOk_of (by rw [wide_conL]; omega)
theorem put_w {S : Nat → Prop} {W : World} {u : Value} (h : RdE false S W (wideE 8191) u) : Calls Try.prog 13 #[u] W (GiveE W (encE (wideE 8191)) 0) := by
  have := eput_any _ _ W (by have := wide_dep 8191; omega) h (wide_conOk 8191 (by decide))
  rw [wide_put] at this
  exact this
theorem cnt_w {S : Nat → Prop} {W : World} {u : Value} (h : RdE false S W (wideE 8191) u) : Calls Try.prog 15 #[u] W fun e w' => e = .returned (.int .i64 8192) ∧ Below W.heap.size W w' := by
  have := ecount_any _ _ W (by have := wide_dep 8191; omega) h
  rw [wide_mea] at this
  exact this
theorem chk_w {S : Nat → Prop} {W : World} {u : Value} (h : RdE false S W (wideE 8192) u) : Calls Try.prog 14 #[u] W fun e w' => e = .returned (.int .i64 3) ∧ Below W.heap.size W w' := by
  have := echeck_any _ _ W (by have := wide_dep 8192; omega) h
  rw [wide_bad] at this
  exact this
theorem put_b {S : Nat → Prop} {W : World} {u : Value} (h : RdE false S W (bigE 1048571) u) : Calls Try.prog 13 #[u] W (GiveE W (encE (bigE 1048571)) 0) := by
  have := eput_any _ _ W (by rw [big_dep]; decide) h (conOk_of (by rw [big_conL]; decide))
  rw [(big_put put71 (by decide)).1] at this
  exact this
theorem siz_b {S : Nat → Prop} {W : World} {u : Value} (h : RdE false S W (bigE 1048571) u) : Calls Try.prog 18 #[u] W fun e w' => e = .returned (.int .i64 1048576) ∧ Below W.heap.size W w' := by
  have := esize_any _ _ W (by rw [big_dep]; decide) h (conOk_of (by rw [big_conL]; decide))
  rw [(big_put put71 (by decide)).2.1] at this
  exact this
theorem put_c {S : Nat → Prop} {W : World} {u : Value} (h : RdE false S W (bigE 1048572) u) : Calls Try.prog 13 #[u] W (GiveE W [] 3) := by
  have := eput_any _ _ W (by rw [big_dep]; decide) h (conOk_of (by rw [big_conL]; decide))
  rw [(big_no put72 (by decide)).1] at this
  exact this
theorem siz_c {S : Nat → Prop} {W : World} {u : Value} (h : RdE false S W (bigE 1048572) u) : Calls Try.prog 18 #[u] W fun e w' => e = .returned (.int .i64 0) ∧ Below W.heap.size W w' := by
  have := esize_any _ _ W (by rw [big_dep]; decide) h (conOk_of (by rw [big_conL]; decide))
  rw [(big_no put72 (by decide)).2] at this
  exact this
end Go.Proofs.Ytgdjgahmnnjeeaa
