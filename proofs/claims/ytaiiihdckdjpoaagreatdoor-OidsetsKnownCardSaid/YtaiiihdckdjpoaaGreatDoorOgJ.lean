/-
  Layer 7: the order of OIDs as the library's sort asks for it: what Compare lays, and that it is an order.
  Conditions: the OIDs' cells are in their kinds.
-/
import Derived.Test.YtaiiihdckdjpoaaGreatDoorOgI
import Derived.Sort.Grow
import Derived.Shelf.SlSortCmp.InsertionK
import Derived.DeepKeys4
import Derived.Maps.Range
import Derived.Sort.MapsRangeIn
import Derived.RangeFuncFrom
import Derived.Maps.Own
import Derived.LoopIn
import Derived.LoopNIn
import Derived.RangeFuncNested
namespace Go.Proofs.YtaiiihdckdjpoaaGreatDoor
open Go.RowKit

theorem counted_bd (n : Nat) (l : List Nat) (w : World) (ho : OkO n l) : Calls Tryz.prog 59 #[oV n l] w fun e w' => e = .returned (.int .i64 ((min n 16 : Nat) : Int)) ∧ Below w.heap.size w w' ∧ w.drawn ≤ w'.drawn := by
  have h1 := oid_n (Bk.new w 26 (oc n l))
  have h8 := ho.n8
  rcases Nat.lt_or_ge 16 n with hn | hn
  · rw [Nat.min_eq_right (by omega)]
    go_enter Tryz.func59, Tryz.ntmps59
    go_wp2
    go_ret
    exact ⟨by show Ending.returned (Value.int .i64 (min (n : Int) 16)) = _; rw [show min (n : Int) 16 = 16 by omega]; rfl, bel1 _ _, Nat.le_refl _⟩
  · rw [Nat.min_eq_left (by omega)]
    go_enter Tryz.func59, Tryz.ntmps59
    go_wp2
    go_ret
    exact ⟨by show Ending.returned (Value.int .i64 (min (n : Int) 16)) = _; rw [show min (n : Int) 16 = (n : Int) by omega], bel1 _ _, Nat.le_refl _⟩

set_option maxRecDepth 100000 in
set_option maxHeartbeats 2000000 in
theorem compare_bd (n : Nat) (l : List Nat) (m : Nat) (k : List Nat) (w : World) (ho : OkO n l) (hp : OkO m k) :
    Calls Tryz.prog 39 #[oV n l, oV m k] w fun e w' => e = .returned (.int .i64 (cmpO n l m k)) ∧ Below w.heap.size w w' ∧ w.drawn ≤ w'.drawn := by
  have hl := ho.len
  have hk := hp.len
  have S1 := Lib.hid ((Bk.new w 26 (oc n l)).alloc (.cells (oc m k).toArray 26))
  have S2' := Bk.new (w.alloc (.cells (oc n l).toArray 26)) 26 (oc m k)
  rw [World.size_alloc] at S2'
  have S2 := Lib.hid S2'
  clear S2'
  have B0 := Lib.hid ((bel1 w (.cells (oc n l).toArray 26)).alloc (by simp) (.cells (oc m k).toArray 26))
  have ha : min n 16 ≤ 16 := Nat.min_le_right _ _
  have hb : min m 16 ≤ 16 := Nat.min_le_right _ _
  have HC := Lib.hid (counted_bd n l · ho)
  have HD := Lib.hid (counted_bd m k · hp)
  unfold cmpO
  generalize min n 16 = a at *
  generalize min m 16 = b at *
  have q1 := slice23h w.heap.size a ha .i64
  have q2 := slice23h (w.heap.size + 1) b hb .i64
  have HL := Lib.hid hl
  have HK := Lib.hid hk
  clear ho hp hl hk
  go_enter Tryz.func39, Tryz.ntmps39
  go_upto_region 1 with fail
  have hd1 : w.drawn ≤ ((w.alloc (.cells (oc n l).toArray 26)).alloc (.cells (oc m k).toArray 26)).drawn := Nat.le_refl _
  generalize (w.alloc (.cells (oc n l).toArray 26)).alloc (.cells (oc m k).toArray 26) = w1 at *
  have HD1 := Lib.hid hd1
  clear hd1
  refine wp_region_held_drew (S := fun W => Bk W w.heap.size 26 (oc n l) ∧ Bk W (w.heap.size + 1) 26 (oc m k)) (by kernel_rfl) (⟨S1.out, S2.out⟩) (fun hS => ?_)
  refine wpAnyH_take (i := 0) (oi := ⟨some 5, _, _, _, _, _⟩) (v := .pointer (some ⟨w.heap.size, 1, none⟩)) rfl (by kernel_rfl) (by kernel_rfl) (by kernel_rfl) (fun _ _ _ h => h) (Or.inl ⟨by rfl, fun w hSw => by (try dsimp only at hSw); go_simp⟩) hS ?_
  simp only [Act.put, List.setIfInBounds_toArray, List.set_cons_zero, List.set_cons_succ]
  refine wpAnyH_take (i := 1) (oi := ⟨some 6, _, _, _, _, _⟩) (v := oV n l) rfl (by kernel_rfl) (by kernel_rfl) (by kernel_rfl) (fun _ _ _ h => h) (yieldsIf_load_mid (by rfl) 26 (.tmp 2) rfl (w.heap.size) 0 rfl (oc n l) _ (fun W h => range25 h.1) Tryz.underlying26 rfl (by rw [oc_length, HL.out]; exact info25)) hS ?_
  simp only [Act.put, List.setIfInBounds_toArray, List.set_cons_zero, List.set_cons_succ]
  refine wpAnyH_take (i := 4) (oi := ⟨some 9, _, _, _, _, _⟩) (v := .pointer (some ⟨w.heap.size + 1, 1, none⟩)) rfl (by kernel_rfl) (by kernel_rfl) (by kernel_rfl) (fun _ _ _ h => h) (Or.inl ⟨by rfl, fun w hSw => by (try dsimp only at hSw); go_simp⟩) hS ?_
  simp only [Act.put, List.setIfInBounds_toArray, List.set_cons_zero, List.set_cons_succ]
  refine wpAnyH_take (i := 5) (oi := ⟨some 10, _, _, _, _, _⟩) (v := oV m k) rfl (by kernel_rfl) (by kernel_rfl) (by kernel_rfl) (fun _ _ _ h => h) (yieldsIf_load_mid (by rfl) 26 (.tmp 3) rfl (w.heap.size + 1) 0 rfl (oc m k) _ (fun W h => range25 h.2) Tryz.underlying26 rfl (by rw [oc_length, HK.out]; exact info25)) hS ?_
  simp only [Act.put, List.setIfInBounds_toArray, List.set_cons_zero, List.set_cons_succ]
  refine wpAnyH_ready (rs := [2]) (by kernel_rfl) (by simp) ?_
  refine AllReadyH.cons (o := _) rfl (fun K hK => ?_) (AllReadyH.nil)
  go_simp
  refine (HC.out w1.drew).mono ?_
  rintro e w2 ⟨rfl, hb, hdw⟩
  have HD2 := Lib.hid (show w.drawn ≤ w2.drawn from Nat.le_trans (Nat.le_trans HD1.out (Nat.le_succ _)) hdw)
  clear hdw HD1
  have B2 := Lib.hid (B0.out.drew.trans (hb.mono B0.out.drew.size))
  have T1 := Lib.hid (hS.1.below hb hS.1.lt)
  have T2 := Lib.hid (hS.2.below hb hS.2.lt)
  clear hb S1 S2 B0
  go_simp
  refine hK.out _ _ (⟨T1.out, T2.out⟩) (fun hS => ?_)
  clear hK K
  (try simp only [Act.put, List.setIfInBounds_toArray, List.set_cons_zero, List.set_cons_succ])
  refine wpAnyH_take (i := 3) (oi := ⟨some 8, _, _, _, _, _⟩) (v := .slice (some ⟨w.heap.size, 1, none⟩) a 16) rfl (by kernel_rfl) (by kernel_rfl) (by kernel_rfl) (fun _ _ _ h => h) (Or.inl ⟨by rfl, fun w hSw => by (try dsimp only at hSw); go_simp⟩) hS ?_
  simp only [Act.put, List.setIfInBounds_toArray, List.set_cons_zero, List.set_cons_succ]
  refine wpAnyH_ready (rs := [6]) (by kernel_rfl) (by simp) ?_
  refine AllReadyH.cons (o := _) rfl (fun K hK => ?_) (AllReadyH.nil)
  go_simp
  refine (HD.out w2).mono ?_
  rintro e w3 ⟨rfl, hb, hdw⟩
  have HD3 := Lib.hid (show w.drawn ≤ w3.drawn from Nat.le_trans HD2.out hdw)
  clear hdw HD2
  have B3 := bt B2 (Lib.hid hb)
  have U1 := Lib.hid (hS.1.below hb hS.1.lt)
  have U2 := Lib.hid (hS.2.below hb hS.2.lt)
  clear hb T1 T2 B2
  go_simp
  refine hK.out _ _ (⟨U1.out, U2.out⟩) (fun hS => ?_)
  clear hK K
  (try simp only [Act.put, List.setIfInBounds_toArray, List.set_cons_zero, List.set_cons_succ])
  refine wpAnyH_take (i := 7) (oi := ⟨some 12, _, _, _, _, _⟩) (v := .slice (some ⟨w.heap.size + 1, 1, none⟩) b 16) rfl (by kernel_rfl) (by kernel_rfl) (by kernel_rfl) (fun _ _ _ h => h) (Or.inl ⟨by rfl, fun w hSw => by (try dsimp only at hSw); go_simp⟩) hS ?_
  simp only [Act.put, List.setIfInBounds_toArray, List.set_cons_zero, List.set_cons_succ]
  refine wpAnyH_ready (rs := [8]) (by kernel_rfl) (by simp) ?_
  refine AllReadyH.cons (o := _) rfl (fun K hK => ?_) (AllReadyH.nil)
  go_simp
  refine (scompare_t _ _ a b l k w3 HL.out HK.out ha ‹b ≤ 16› (r32_arr U1.out a) (r32_arr U2.out b)).mono ?_
  rintro e w4 ⟨rfl, rfl⟩
  go_simp
  refine hK.out _ _ (⟨U1.out, U2.out⟩) (fun hS => ?_)
  clear hK K
  (try simp only [Act.put, List.setIfInBounds_toArray, List.set_cons_zero, List.set_cons_succ])
  refine wpAnyH_ready (rs := [9]) (by kernel_rfl) (by simp) ?_
  refine AllReadyH.cons (o := _) rfl (fun K hK => ?_) (AllReadyH.nil)
  go_simp
  refine hK.out _ _ (⟨U1.out, U2.out⟩) (fun hS => ?_)
  clear hK K
  (try simp only [Act.put, List.setIfInBounds_toArray, List.set_cons_zero, List.set_cons_succ])
  refine wpAnyH_done (by kernel_rfl) ?_ _
  go_wp2_with fail
  go_ret
  exact ⟨rfl, B3.out, HD3.out⟩

/-- What only grows, and draws: blocks are laid behind. -/
theorem grow_of {w w' : World} (hb : Below w.heap.size w w') (hd : w.drawn ≤ w'.drawn) : ∃ q os, w' = Sort.grow (w.drewN q) os := by
  refine ⟨w'.drawn - w.drawn, w'.heap.extract w.heap.size w'.heap.size, ?_⟩
  have hh : w'.heap = w.heap ++ w'.heap.extract w.heap.size w'.heap.size := by
    apply Array.ext_getElem?
    intro i
    by_cases hi : i < w.heap.size
    · rw [Array.getElem?_append_left hi]; exact hb.block i hi
    · rw [Array.getElem?_append_right (by omega)]
      by_cases h2 : i < w'.heap.size
      · rw [Array.getElem?_extract]
        rw [if_pos (by omega), show w.heap.size + (i - w.heap.size) = i by omega]
      · rw [Array.getElem?_eq_none (by omega), Array.getElem?_eq_none (by simp; omega)]
  obtain ⟨h1, t1, d1, o1, p1⟩ := w'
  obtain ⟨h2, t2, d2, o2, p2⟩ := w
  have e1 := hb.os
  have e2 := hb.tape
  have e3 := hb.output
  simp only at e1 e2 e3 hh hd ⊢
  subst e1 e2 e3
  unfold Sort.grow World.drewN
  simp only [World.mk.injEq, true_and, and_true]
  refine ⟨?_, by omega⟩
  exact hh
noncomputable instance : Inhabited OD := ⟨⟨(0, zeroL), ok_zero⟩⟩
def encO (x : OD) : List Value := oc x.1.1 x.1.2
def cfO (x y : OD) : Int := cmpO x.1.1 x.1.2 y.1.1 y.1.2
theorem cmp_lays (blk off size : Nat) (w : World) : CmpLays Tryz.prog 39 #[] encO 17 cfO blk off size w := by
  intro m os dk _ x y
  refine (compare_bd x.1.1 x.1.2 y.1.1 y.1.2 _ x.2 y.2).mono ?_
  rintro e w' ⟨rfl, hb, hd⟩
  exact ⟨rfl, grow_of hb hd⟩
end Go.Proofs.YtaiiihdckdjpoaaGreatDoor

/-!
  Layer 7: OIDs as the keys of a map.
-/
namespace Go.Proofs.YtaiiihdckdjpoaaGreatDoor
open Go.RowKit Go.Shelf Go.Maps

theorem oidsLaid : laidOutB Tryz.prog = true := by kernel_rfl
theorem keyedO : Maps.Keyed Tryz.prog 26 :=
  Maps.Keyed.of_law (deep_law_laid oidsLaid (m := 3) (by omega) (of_decide_eq_true (by kernel_rfl)) (by kernel_rfl) (by rw [Tryz.underlying26]))
theorem mapM_some {α β : Type} (f : α → Option β) : ∀ (l : List α), (∀ x ∈ l, ∃ y, f x = some y) → ∃ ys, l.mapM f = some ys
  | [], _ => ⟨[], rfl⟩
  | x :: l, h => by
    obtain ⟨y, hy⟩ := h x (by simp)
    obtain ⟨ys, hys⟩ := mapM_some f l (fun z hz => h z (by simp [hz]))
    exact ⟨y :: ys, by rw [List.mapM_cons, hy]; simp [hys]⟩
theorem key8 (d n : Nat) (h : n < 256) : ∃ ls, Tryz.prog.keyLits (d + 1) 5 [.int .u8 (n : Int)] = some ls := by
  have m0 : IntKind.u8.min = 0 := rfl
  have m1 : IntKind.u8.max = 255 := rfl
  have hw : (Lit.int .u8 (n : Int)).wf = true := by simp [Lit.wf, m0, m1]; omega
  exact ⟨[.int .u8 (n : Int)], by simp [Program.keyLits, Tryz.underlying5, hw]⟩
theorem key32 (d n : Nat) (h : n < 4294967296) : ∃ ls, Tryz.prog.keyLits (d + 1) 23 [.int .u32 (n : Int)] = some ls := by
  have m0 : IntKind.u32.min = 0 := rfl
  have m1 : IntKind.u32.max = 4294967295 := rfl
  have hw : (Lit.int .u32 (n : Int)).wf = true := by simp [Lit.wf, m0, m1]; omega
  exact ⟨[.int .u32 (n : Int)], by simp [Program.keyLits, Tryz.underlying23, hw]⟩
set_option maxRecDepth 100000 in
theorem keyArcs (D : Nat) (hD : 1 ≤ D) {l : List Nat} (hl : l.length = 16) (h : ∀ x ∈ l, x < 4294967296) : ∃ ls, Tryz.prog.keyLits (D + 1) 24 (cs32 l) = some ls := by
  have h1 : Tryz.prog.cellsOf 24 = 16 := by kernel_rfl
  have h2 : Tryz.prog.cellsOf 23 = 1 := by kernel_rfl
  obtain ⟨ys, hys⟩ := mapM_some (fun i => Tryz.prog.keyLits D 23 (((cs32 l).drop (i * 1)).take 1)) (List.range 16) (fun i hi => by
    rw [List.mem_range] at hi
    have : ((cs32 l).drop (i * 1)).take 1 = [.int .u32 (l[i] : Int)] := by
      have e : i * 1 = i := Nat.mul_one i
      rw [e, List.drop_eq_getElem_cons (by rw [cs32_length]; omega)]
      have := cs32_get (l := l) (n := i) (by omega)
      rw [List.getElem?_eq_getElem (by rw [cs32_length]; omega)] at this
      injection this with this
      simp [this]
    rw [this]
    obtain ⟨d, rfl⟩ : ∃ d, D = d + 1 := ⟨D - 1, by omega⟩
    exact key32 d _ (h _ (List.getElem_mem _)))
  exact ⟨ys.flatten, by simp only [Program.keyLits, Tryz.underlying24, h1, h2, cs32_length, hl, if_true, hys]; rfl⟩
set_option maxRecDepth 100000 in
theorem keyLitsO (D : Nat) (hD : 2 ≤ D) {n : Nat} {l : List Nat} (ho : OkO n l) : ∃ ls, Tryz.prog.keyLits (D + 1) 26 (oc n l) = some ls := by
  have h1 : Tryz.prog.cellsOf 26 = 17 := by kernel_rfl
  have h2 : Tryz.prog.cellsOf 24 = 16 := by kernel_rfl
  have h3 : Tryz.prog.cellsOf 5 = 1 := by kernel_rfl
  obtain ⟨a, ha⟩ : ∃ ls, Tryz.prog.keyLits D 5 [.int .u8 (n : Int)] = some ls := by
    obtain ⟨d, rfl⟩ : ∃ d, D = d + 1 := ⟨D - 1, by omega⟩
    exact key8 d n ho.n8
  obtain ⟨b, hb⟩ : ∃ ls, Tryz.prog.keyLits D 24 (cs32 l) = some ls := by
    obtain ⟨d, rfl⟩ : ∃ d, D = d + 1 := ⟨D - 1, by omega⟩
    exact keyArcs d (by omega) ho.len ho.a32
  have e1 : (oc n l).take 1 = [.int .u8 (n : Int)] := rfl
  have e2 : (oc n l).tail.take 16 = cs32 l := by
    show (cs32 l).take 16 = _
    rw [List.take_of_length_le (by rw [cs32_length, ho.len]; exact Nat.le_refl _)]
  have h17 : (oc n l).length = 17 := oc_17 (o := (n, l)) ho
  refine ⟨a ++ b, ?_⟩
  simp [Program.keyLits, Tryz.underlying26, h1, h2, h3, h17, e1, e2, ha, hb]
theorem keyO {n : Nat} {l : List Nat} (ho : OkO n l) : ∃ kl, keyOf Tryz.prog 26 (oV n l) = some kl := by
  have hk : Tryz.prog.keyType 26 = true := by kernel_rfl
  have h1 : Tryz.prog.cellsOf 26 = 17 := by kernel_rfl
  have h17 : (oc n l).length = 17 := oc_17 (o := (n, l)) ho
  have hf : (oV n l).formed Tryz.prog 26 = true := by simp [Value.formed, Tryz.underlying26, h1, h17]
  obtain ⟨ls, hls⟩ := keyLitsO Tryz.prog.types.size (of_decide_eq_true (by kernel_rfl)) ho
  have hc : (oV n l).cells.toList = oc n l := rfl
  unfold keyOf
  rw [Tryz.underlying26]
  simp only [hk, hf, Bool.and_self, if_true, hc, hls]
  exact ⟨_, rfl⟩
/-- An OID as a key. -/
noncomputable def kO (o : Od) : Lit := (keyOf Tryz.prog 26 (oV o.1 o.2)).getD (.bool false)
theorem kO_key {o : Od} (ho : OkO o.1 o.2) : keyOf Tryz.prog 26 (oV o.1 o.2) = some (kO o) := by
  obtain ⟨kl, h⟩ := keyO ho
  unfold kO; rw [h]; rfl
theorem oV_inj {o p : Od} (ho : OkO o.1 o.2) (hp : OkO p.1 p.2) (h : oV o.1 o.2 = oV p.1 p.2) : o = p := by
  obtain ⟨n, l⟩ := o
  obtain ⟨m, k⟩ := p
  simp only [oV, Value.agg.injEq] at h
  have h := congrArg Array.toList h
  have h : oc n l = oc m k := h
  unfold oc at h
  injection h with h1 h2
  injection h1 with _ h1
  have h3 : l = k := by
    refine List.map_inj_right (f := by32) (fun a b e => ?_) |>.1 h2
    unfold by32 at e
    injection e with _ e
    omega
  rw [h3, show n = m by omega]
theorem kO_inj {o p : Od} (ho : OkO o.1 o.2) (hp : OkO p.1 p.2) (h : kO o = kO p) : o = p :=
  oV_inj ho hp (keyedO.inj (kO_key ho) (by rw [h]; exact kO_key hp))
end Go.Proofs.YtaiiihdckdjpoaaGreatDoor

/-!
  Layer 7: a map keyed by OIDs, and the library's iterator over its keys (maps.Keys).
-/
namespace Go.Proofs.YtaiiihdckdjpoaaGreatDoor
open Go.RowKit Go.Shelf Go.Maps
attribute [local go_sem] Oper.semAt_some

/-- How the map's values are read: bools. -/
noncomputable abbrev RB : Value → Option (DataW Unit × List MemPlace) := Go.plainElem Tryz.prog 4
/-- A map whose keys are these OIDs. -/
structure MapO (w : World) (b n : Nat) (M : List Od) : Prop where
  own : ∃ D, w.ownsMap Tryz.prog 26 RB b n D ∧ Maps.size D = M.length ∧ ∀ kl, Maps.has D kl = true ↔ ∃ o ∈ M, kO o = kl
  nd : M.Nodup
  ok : OkL M
/-- The keys, with one more. -/
def insM (M : List Od) (o : Od) : List Od := if o ∈ M then M else M ++ [o]
theorem MapO.kept {w w' : World} {b n : Nat} {M : List Od} (h : MapO w b n M) (hk : w'.heap[b]? = w.heap[b]?) : MapO w' b n M := by
  obtain ⟨⟨D, ⟨es, clock, hb, F⟩, h2⟩, h3, h4⟩ := h
  exact ⟨⟨D, ⟨es, clock, hk.trans hb, F⟩, h2⟩, h3, h4⟩
theorem MapO.lt {w : World} {b n : Nat} {M : List Od} (h : MapO w b n M) : b < w.heap.size := by
  obtain ⟨⟨D, h1, h2⟩, h3, h4⟩ := h
  exact h1.lt
theorem MapO.mono {w : World} {b n m : Nat} {M : List Od} (h : MapO w b n M) (hn : n ≤ m) : MapO w b m M := by
  obtain ⟨⟨D, h1, h2⟩, h3, h4⟩ := h
  exact ⟨⟨D, h1.mono hn, h2⟩, h3, h4⟩
set_option maxRecDepth 100000 in
theorem MapO.new (w : World) : MapO (w.alloc (.map #[] 0)) w.heap.size 0 [] :=
  ⟨⟨_, World.ownsMap_made w _ _ _, rfl, fun kl => by constructor <;> intro h <;> simp [Maps.has] at h⟩, List.nodup_nil, OkL.nil⟩
set_option maxRecDepth 100000 in
theorem MapO.put {w w' : World} {b n : Nat} {M : List Od} {D : DataW Unit} {d : DataW Unit} {o : Od} (hown : w.ownsMap Tryz.prog 26 RB b n D) (hsz : Maps.size D = M.length) (hh : ∀ kl, Maps.has D kl = true ↔ ∃ o ∈ M, kO o = kl)
    (nd : M.Nodup) (ok : OkL M) (ho : OkO o.1 o.2) (h' : w'.ownsMap Tryz.prog 26 RB b (n + 1) (D.put (kO o) d)) : MapO w' b (n + 1) (insM M o) := by
  have hkl := keyedO.key (kO_key ho)
  have hmem : Maps.has D (kO o) = true ↔ o ∈ M := by
    rw [hh]
    constructor
    · rintro ⟨p, hp, e⟩
      rw [← kO_inj (ok p hp) ho e]; exact hp
    · exact fun h => ⟨o, h, rfl⟩
  refine ⟨⟨_, h', ?_, fun kl => ?_⟩, ?_, ?_⟩
  · rw [Maps.size_put (hown.tidy keyedO)]
    unfold insM
    by_cases hm : o ∈ M
    · rw [if_pos (hmem.2 hm), if_pos hm, hsz]
    · rw [if_neg (fun e => hm (hmem.1 e)), if_neg hm, hsz, List.length_append]; rfl
  · by_cases hk : kl = kO o
    · subst hk
      rw [Maps.has_put_same hown.isMap hkl]
      simp only [true_iff]
      refine ⟨o, ?_, rfl⟩
      unfold insM; split
      · assumption
      · simp
    · rw [Maps.has_put_other hk, hh]
      unfold insM; split
      · exact Iff.rfl
      · constructor
        · rintro ⟨p, hp, e⟩; exact ⟨p, by simp [hp], e⟩
        · rintro ⟨p, hp, e⟩
          rcases List.mem_append.1 hp with hp | hp
          · exact ⟨p, hp, e⟩
          · obtain rfl := List.mem_singleton.1 hp; exact absurd e.symm hk
  · unfold insM; split
    · exact nd
    · rename_i hm
      exact List.nodup_append.2 ⟨nd, by simp, fun a ha c hc => by obtain rfl := List.mem_singleton.1 hc; intro e; subst e; exact hm ha⟩
  · unfold insM; split
    · exact ok
    · exact ok.app (OkL.cons ho OkL.nil)
/-- What is handed to a round. -/
abbrev encD (o : OD) : Array Value := #[oV o.1.1 o.1.2]

set_option maxRecDepth 100000 in
set_option maxHeartbeats 2000000 in
theorem keys1_in (n : Nat) (hn : 1 ≤ n) (l Bm b nn : Nat) (M : List Od) (J Jx : List OD → World → Prop)
    (hY : ∀ pre x W, J pre W → pre.length < M.length → YieldAt Fence.wide (n - 1) Tryz.prog l (encD x) W fun e W' => (e = .returned (.bool true) ∧ J (pre ++ [x]) W' ∧ KeepsWalks W W') ∨ (e = .returned (.bool false) ∧ Jx (pre ++ [x]) W'))
    (W : World) (hJ : AbidesFrom W.heap.size J) (hm : W.cell? ⟨Bm, 0, none⟩ = some (.map (some b))) (hM : MapO W b nn M) (h0 : J [] W) :
    CallsIn Fence.wide n Tryz.prog 68 #[.func (.yield l) #[] #[], .pointer (some ⟨Bm, 0, none⟩)] W fun e W' => (∃ v, e = .returned v) ∧
      ((∃ ss : List OD, (vs ss).Perm M ∧ J ss W') ∨ (∃ pre : List OD, True ∧ Jx pre W')) := by
  have hz := zero25
  obtain ⟨zl, hzl⟩ : ∃ zl, zeroL = zl := ⟨_, rfl⟩
  have HZL : Hid (zl.length = 16) := Lib.hid (by rw [← hzl]; exact zeroL_length)
  rw [hzl] at hz
  clear hzl
  obtain ⟨⟨D, hown, hsz, hh⟩, nd, ok⟩ := hM
  have HY := Lib.hid hY
  have HJ := Lib.hid hJ
  have HSZ := Lib.hid hsz
  have HH := Lib.hid hh
  have ND := Lib.hid nd
  have OK := Lib.hid ok
  have H0 := Lib.hid h0
  clear hY hJ hsz hh nd ok h0
  refine callsIn_of_wp Tryz.func68 rfl trivial ?_ rfl
  simp only [Tryz.ntmps68, List.size_toArray, List.length_cons, List.length_nil, Nat.reduceAdd, Nat.reduceSub, Array.replicate_succ, Array.replicate_zero, List.push_toArray, List.append_toArray, List.nil_append, List.cons_append]
  gi_wp2_with (first
    | (gi_at_range; refine wpListIn_range_own _ rfl _ 64 rfl 26 4 keyedO Tryz.underlying64 RB b nn _ rfl hown ?_; intro w0 hrg0 hg0 hs0)
    | gi_in)
  have HRG0 := Lib.hid hrg0
  have HG0 := Lib.hid hg0
  clear hrg0 hg0 hs0 hm hown
  go_frame
  gi_loopw [3] (fun _ wr => ∃ (left : Lit → Bool) (cnt : Nat) (ss : List OD), wr.ranges Tryz.prog 26 RB b W.heap.size nn D left cnt ∧ ss.length + cnt ≤ M.length ∧ (vs ss).Nodup ∧ (∀ o ∈ vs ss, o ∈ M) ∧ (∀ kl, left kl = true ↔ ∃ o ∈ M, o ∉ vs ss ∧ kO o = kl) ∧ J ss wr)
    (fun _ wr => wr.rangeLeft b W.heap.size)
  case atStart =>
    exact ⟨_, _, [], HRG0.out, by rw [HSZ.out]; simp, List.nodup_nil, by simp, fun kl => by rw [HH.out]; simp, HJ.out [] W w0 none H0.out HG0.out (fun r e => by cases e)⟩
  case round =>
    obtain ⟨left, cnt, ss, hrg, hcs, hnd, hsub, hlf, hJs⟩ := hrel
    have HCS := Lib.hid hcs
    have HND := Lib.hid hnd
    have HSUB := Lib.hid hsub
    have HLF := Lib.hid hlf
    have HJS := Lib.hid hJs
    clear hcs hnd hsub hlf hJs HRG0 HG0 H0
    gi_wp2_with (first
      | (gi_at_next; refine wpListIn_next_ranges _ rfl _ rfl 26 keyedO RB (id : Value → Value) (id : Value → Value) (fun key kl hk => ⟨key, rfl⟩) (fun v _ _ => ⟨v, rfl⟩) b W.heap.size nn _ _ _ rfl hrg ?_ ?_)
      | gi_in)
    · intro hc0 hl0
      have HL0 := Lib.hid hl0
      clear hl0
      gi_wp2
      go_end0
      exact ⟨⟨_, rfl⟩, .inl ⟨ss, (List.perm_ext_iff_of_nodup HND.out ND.out).2 fun o => ⟨HSUB.out o, fun ho => by
        apply Classical.byContradiction
        intro hns
        have := (HLF.out (kO o)).2 ⟨o, ho, hns, rfl⟩
        rw [HL0.out] at this
        cases this⟩, HJS.out⟩⟩
    · intro x c kl yd yp w2 cnt2 hkey hlk hv hat hrg2 hlt hg2 hs2 hen
      obtain ⟨o, hoM, hos, rfl⟩ := (HLF.out kl).1 hlk
      have hoo := OK.out o hoM
      obtain rfl : x = oV o.1 o.2 := keyedO.inj hkey (kO_key hoo)
      have hl16 := hoo.len
      have HOM := Lib.hid hoM
      have HOS := Lib.hid hos
      have HRG := Lib.hid hrg
      have HRG2 := Lib.hid hrg2
      have HLT := Lib.hid hlt
      have HG2 := Lib.hid hg2
      have HHS2 := Lib.hid hs2
      have HOO := Lib.hid hoo
      clear hkey hlk hv hat hrg hrg2 hlt hg2 hs2 hoo hoM hos
      obtain ⟨p, q⟩ := o
      have HLEN : Hid (ss.length < M.length) := Lib.hid (by have := HCS.out; have := HLT.out; omega)
      gi_wp2_with (first
        | (refine wpListIn_store25 rfl (.tmp 3) (.tmp 9) rfl (m := p) (l := q) rfl rfl (Bk.new w2 26 (oc 0 zl)) (by rw [oc_length, HZL.out]) hl16 ?_
           intro w3 S3 hg3 hz3
           have HS3 := Lib.hid S3
           have HB3 := Lib.hid ((bel1 w2 (.cells (oc 0 zl).toArray 26)).grown hg3 (by simp) (fun j e => by injection e with e; omega))
           have HGN : Hid (w2.grownBy w3 none) := Lib.hid ⟨HB3.out.os, HB3.out.tape, HB3.out.output, HB3.out.size, fun k hk _ => HB3.out.block k hk⟩
           have HJ3 : Hid (J ss w3) := Lib.hid (HJ.out ss w2 w3 none (HJ.out ss wr w2 (some W.heap.size) HJS.out HG2.out (fun r e => by cases e; exact ⟨Nat.le_refl _, HRG.out.iter_walk⟩)) HGN.out (fun r e => by cases e))
           have HRG3 := Lib.hid (HRG2.out.kept HGN.out (by simp) (by simp))
           obtain ⟨fn, tmps, assign, body, hy, hR⟩ := HY.out ss ⟨(p, q), HOO.out⟩ w3 HJ3.out HLEN.out
           simp only [encD] at hy
           have HR := Lib.hid hR
           clear S3 hg3 hz3 hR)
        | (refine wpListIn_load25 rfl (.tmp 3) rfl rfl HS3.out hl16 ?_))
      refine HR.out.mono ?_
      rintro e W3 (⟨rfl, hJ3, hk3⟩ | ⟨rfl, hJx3⟩)
      · have HRG4 := Lib.hid (HRG3.out.of_walks hk3)
        have HJ4 := Lib.hid hJ3
        clear hJ3 hk3
        gi_wp2
        go_roundw
        case rel =>
          have hvs : vs (ss ++ [⟨(p, q), HOO.out⟩]) = vs ss ++ [(p, q)] := by unfold vs; rw [List.map_append]; rfl
          refine ⟨_, cnt2, ss ++ [⟨(p, q), HOO.out⟩], HRG4.out, by have := HCS.out; have := HLT.out; simp; omega, by rw [hvs]; exact List.nodup_append.2 ⟨HND.out, by simp, fun a ha c hc => by obtain rfl := List.mem_singleton.1 hc; intro e; subst e; exact HOS.out ha⟩,
            fun o ho => by rw [hvs] at ho; rcases List.mem_append.1 ho with ho | ho; exact HSUB.out o ho; obtain rfl := List.mem_singleton.1 ho; exact HOM.out, fun kl => ?_, HJ4.out⟩
          rw [hvs]
          show (left kl && !kl.sameKey (kO (p, q))) = true ↔ _
          rw [Bool.and_eq_true, HLF.out kl, Bool.not_eq_true']
          constructor
          · rintro ⟨⟨o, ho, hns, rfl⟩, h2⟩
            refine ⟨o, ho, fun hm => ?_, rfl⟩
            rcases List.mem_append.1 hm with hm | hm
            · exact hns hm
            · obtain rfl := List.mem_singleton.1 hm
              rw [WideAt.sameKey_self (keyedO.key (kO_key (OK.out _ ho)))] at h2
              cases h2
          · rintro ⟨o, ho, hns, rfl⟩
            exact ⟨⟨o, ho, fun h => hns (by simp [h]), rfl⟩, Maps.sameKey_ne fun e => hns (by rw [kO_inj (OK.out _ ho) (OK.out _ HOM.out) e]; simp)⟩
        case measure => rw [HRG4.out.left_eq, HRG.out.left_eq]; exact HLT.out
      · gi_wp2
        refine bodyPost_ret (results_none rfl _ _ _) rfl ?_
        exact ⟨⟨_, rfl⟩, .inr ⟨_, trivial, hJx3⟩⟩
/-- maps.Keys hands back a value that gives the keys, each once, in some order. -/
theorem keys_stops (n : Nat) (hn : 1 ≤ n) (Bm b nn : Nat) (M : List Od) (w : World) (hBm : Bm < w.heap.size) (hm : w.cell? ⟨Bm, 0, none⟩ = some (.map (some b))) (hM : MapO w b nn M) :
    SeqStopsK Fence.wide n Tryz.prog 68 #[.pointer (some ⟨Bm, 0, none⟩)] encD KeepsWalks (fun ss => (vs ss).Perm M) (fun _ => True) M.length w := fun l J Jx W hW hJ _ hY h0 =>
  keys1_in n hn l Bm b nn M J Jx hY W hJ ((hW.cell (p := ⟨Bm, 0, none⟩) hBm).trans hm) (hM.kept (hW.block b hM.lt)) h0
theorem keys_any (mb : Option Nat) (w : World) : Calls Tryz.prog 50 #[.map mb] w fun e w' =>
    e = .returned (.func (.func 68) #[] #[.pointer (some ⟨w.heap.size, 0, none⟩)]) ∧ w' = w.alloc (.cells #[.map mb] 64) := by
  go_enter Tryz.func50, Tryz.ntmps50
  go_wp2
  go_ret
  exact ⟨rfl, rfl⟩
end Go.Proofs.YtaiiihdckdjpoaaGreatDoor

/-!
  Layer 7: slices.AppendSeq and slices.Collect at OIDs, against whatever iterator that gives them.
-/
namespace Go.Proofs.YtaiiihdckdjpoaaGreatDoor
open Go.RowKit Go.Shelf
attribute [local go_sem] Oper.semAt_some

theorem po_put {W : World} {B D : Nat} {K : List Od} {v : Value} (h : PO B K v W) (hD : W.heap[D]? = some (.deferred (some []))) (o : Obj) : PO B K v (W.putObj D o) := by
  refine ⟨own_keptO h.own fun g hg => World.putObj_heap_other fun e => ?_, h.ok, by rw [World.putObj_size]; exact h.bz⟩
  subst e
  rcases h.own.2 with ⟨rfl, _⟩ | ⟨g', cap, cur, rfl, _, hgb, _⟩
  · simp [Value.ownBlock] at hg
  · obtain rfl : g' = g := by simpa [Value.ownBlock] using hg
    rw [hgb] at hD; cases hD
/-- What stands between two rounds. -/
def ApO (w : World) (pre : List OD) (W : World) : Prop :=
  (∃ v, Boxed W w.heap.size 22 v ∧ W.ownsRow w.heap.size 26 17 v (vs pre).length (ocs (vs pre)) ∧ True) ∧ Below w.heap.size w W
theorem apO_own (w : World) (B : Nat) (hB : w.heap.size ≤ B) : OwnFrom B (ApO w) :=
  OwnFrom.and (Own.from (holdsRow_own w.heap.size w.heap.size 22 26 17 (fun s => (vs s).length) (fun s => ocs (vs s)) (fun _ _ => True)) B) (ownFrom_below (Nat.le_refl _) hB)
theorem ApO.below {w W W' : World} {pre : List OD} (h : ApO w pre W) (hb : Below W.heap.size W W') : ApO w pre W' := by
  obtain ⟨⟨v, h1, h2, -⟩, h5⟩ := h
  exact ⟨⟨v, (hb.block _ h1.lt).trans h1, own_below h2 hb, trivial⟩, h5.trans (hb.mono h5.size)⟩
theorem apO_end {w W w3 : World} {pre : List OD} {x : OD} {v v' : Value} {tmp : Obj} (hP : ApO w pre W) (hv : Boxed W w.heap.size 22 v) (hrow : W.ownsRow w.heap.size 26 17 v (vs pre).length (ocs (vs pre)))
    (hown : w3.ownsRow w.heap.size 26 17 v' (vs pre ++ [x.1]).length (ocs (vs pre ++ [x.1]))) (hg : (W.alloc tmp).grownBy w3 v.ownBlock) :
    KeepsOthers W (w3.setCell ⟨w.heap.size, 0, none⟩ v') ∧ KeepsWalks W (w3.setCell ⟨w.heap.size, 0, none⟩ v') ∧ ApO w (pre ++ [x]) (w3.setCell ⟨w.heap.size, 0, none⟩ v') := by
  obtain ⟨-, k5⟩ := hP
  have hsz := k5.size
  have hnc : ∀ j o, v.ownBlock = some j → (W.alloc tmp).heap[j]? = some o → o.isCells = true ∧ o.isWalk = false := fun j o ej hj => by
    rcases (hrow.alloc tmp).2 with ⟨rfl, _⟩ | ⟨g, cap, cur, rfl, _, hgb, _⟩
    · simp [Value.ownBlock] at ej
    · obtain rfl : g = j := by simpa [Value.ownBlock] using ej
      rw [hgb] at hj; cases hj; exact ⟨rfl, rfl⟩
  have hbx : Boxed w3 w.heap.size 22 v := (hv.alloc tmp).kept hg (hv.not_row (by decide) hrow)
  have hvs : vs (pre ++ [x]) = vs pre ++ [x.1] := by unfold vs; rw [List.map_append]; rfl
  refine ⟨((KeepsOthers.alloc W tmp).trans (KeepsOthers.of_grownBy hg fun j o ej hj => (hnc j o ej hj).1)).trans (KeepsOthers.setCell _ _ _),
    ((KeepsWalks.alloc W tmp).trans (KeepsWalks.of_grownBy hg fun j o ej hj => (hnc j o ej hj).2)).trans (KeepsWalks.setCell _ _ _), ⟨v', hbx.set v', ?_, trivial⟩, ?_⟩
  · rw [hvs]
    exact own_keptO hown fun g hgo => setCell_heap (fun e => hbx.not_row (by decide) hown (by rw [hgo, e])) _
  · exact ((k5.alloc hsz tmp).grown hg (by simp; omega) (fun k e => (hrow.lt k e).1)).setCell (p := ⟨w.heap.size, 0, none⟩) (Nat.le_refl _) _

set_option maxRecDepth 100000 in
set_option maxHeartbeats 2000000 in
theorem appendSeq_in (m : Nat) (hm : 4 ≤ m) (gf : Nat) (lb : Array Value) (eg : ∀ args w, (callFunc gf args).run Tryz.prog w = .ok (.enter gf args) w) (S : List OD → Prop) (N : Nat) (hN : N ≤ 100000) (w : World)
    (hseq : SeqStopsK Fence.wide (m - 1) Tryz.prog gf lb encD KeepsWalks S (fun _ => True) N w) :
    CallsIn Fence.wide m Tryz.prog 80 #[.slice none 0 0, .func (.func gf) #[] lb] w fun e w' => ∃ v ss, e = .returned v ∧ S ss ∧ PO w.heap.size (vs ss) v w' ∧ Below w.heap.size w w' := by
  have h1 : 1 ≤ m := by omega
  have hz := zero25
  obtain ⟨zl, hzl⟩ : ∃ zl, zeroL = zl := ⟨_, rfl⟩
  have HZL : Hid (zl.length = 16) := Lib.hid (by rw [← hzl]; exact zeroL_length)
  rw [hzl] at hz
  clear hzl
  refine callsIn_of_wp_marks Tryz.func80 rfl trivial ?_ rfl
  simp only [Tryz.ntmps80, List.size_toArray, List.length_cons, List.length_nil, Nat.reduceAdd, Nat.reduceSub, Array.replicate_succ, Array.replicate_zero, List.push_toArray, List.append_toArray, List.nil_append, List.cons_append]
  have BX := Lib.hid (Boxed.new w 22 (.slice none 0 0))
  have B0 := Lib.hid (bel1 w (.cells #[.slice none 0 0] 22))
  have hsz : (w.alloc (.cells #[.slice none 0 0] 22)).heap.size = w.heap.size + 1 := by simp
  have hsq := hseq
  gi_wp2_with fail
  generalize w.alloc (.cells #[.slice none 0 0] 22) = w1 at *
  refine wpIn_rangeFunc_ownH rfl h1 (gf := gf) (lb := lb) rfl trivial eg hsq (fun h k => h.trans k) (fun W l o o' _ h _ hw => KeepsWalks.putObj o' h hw) B0.out (fun _ => rfl)
    (ApO w) (fun _ _ _ => False) (apO_own w _ (by omega)) (fun _ _ _ _ _ h _ _ => h.elim) ⟨⟨_, BX.out, World.ownsRow_nil _ _ _ _, trivial⟩, B0.out⟩
    (fun x a' W => ∃ g, w.heap.size < g ∧ a' = { tmps := #[.slice none 0 0, .func (.func gf) #[] lb, .pointer (some ⟨w.heap.size, 0, none⟩), undef, .slice none 0 0, .pointer (some ⟨g, 0, none⟩), .func (.func gf) #[] lb, oV x.1.1 x.1.2, undef, undef, undef, undef, undef], defers := [] } ∧ Bk W g 26 (oc x.1.1 x.1.2))
    (fun x a' s X Y row h hg hr => by
      obtain ⟨g, k1, k2, k3⟩ := h
      exact ⟨g, k1, k2, own_bk g 26 _ (β := Unit) () X Y row k3 hg (fun r e => (hr r e).2)⟩) ?assign ?body ?done ?stop
  case assign =>
    rintro l pre ⟨⟨p, q⟩, hx⟩ W K hI hK
    have hl16 := hx.len
    have HI := Lib.hid hI
    have HK := Lib.hid hK
    clear hI hK
    simp only [encD]
    gi_wp2_with (refine wpListIn_store25 rfl (.tmp 5) (.tmp 7) rfl (m := p) (l := q) rfl rfl (Bk.new W 26 (oc 0 zl)) (by rw [oc_length, HZL.out]) hl16 ?_; intro w3 S3 hg3 hz3; have HS3 := Lib.hid S3; have HB3 := Lib.hid ((bel1 W (.cells (oc 0 zl).toArray 26)).grown hg3 (by simp) (fun j e => by injection e with e; omega)); clear S3 hg3 hz3)
    exact HK.out _ _ ((keeps_below HB3.out).from _) (KeepsWalks.of_grownBy (row := none) ⟨HB3.out.os, HB3.out.tape, HB3.out.output, HB3.out.size, fun k hk _ => HB3.out.block k hk⟩ (fun j o e => by cases e)) (HI.out.below HB3.out) ⟨W.heap.size, by obtain ⟨⟨v, hv, _⟩, _⟩ := HI.out; exact hv.lt, rfl, HS3.out⟩
  case body =>
    rintro l pre ⟨⟨p, q⟩, hx⟩ a' W hl hr hI ⟨g, hg, rfl, hbk⟩ hlen
    have HI := Lib.hid hI
    obtain ⟨⟨v, hv, hrow, -⟩, hB⟩ := hI
    have hl16 := hx.len
    obtain ⟨A, c, rfl, -⟩ := (PO.mk hrow (vs_ok pre) hB.size).form
    obtain ⟨g', c', w7, hrun, hown', hg7⟩ := pushO hrow hB.size (by unfold vs; rw [List.length_map]; omega) hx
    obtain ⟨kn, hkn⟩ : ∃ kn, (vs pre).length = kn := ⟨_, rfl⟩
    have c4 := hv.cell
    have hv7 := (hv.alloc (.cells (oc p q).toArray 26)).kept hg7 (hv.not_row (by decide) hrow)
    have c7 := hv7.cell
    have f7 := hv7.frozen
    have HE := Lib.hid (apO_end (x := ⟨(p, q), hx⟩) HI.out hv hrow hown' hg7)
    rw [hkn] at c4 hrun HE
    have HBK := Lib.hid hbk
    clear hv hrow hB hown' hg7 hv7 hkn hl hr hbk
    gi_wp2_with (first
      | (refine wpListIn_load25 rfl (.tmp 5) rfl rfl HBK.out hl16 ?_)
      | (refine wpListIn_buildO rfl 9 rfl (m := p) (l := q) rfl hl16 ?_)
      | (gi_at_builtin; refine wpListIn_app rfl _ _ _ _ rfl _ _ rfl rfl hrun ?_))
    exact ⟨HE.out.1.from _, HE.out.2.1, HE.out.2.2⟩
  case done =>
    rintro D ss W hD hS hI hK
    obtain ⟨⟨v, hv, hrow, -⟩, hB⟩ := hI
    have c4 := hv.cell
    have HPO := Lib.hid (PO.mk hrow (vs_ok ss) hB.size)
    have HB := Lib.hid hB
    have HS := Lib.hid hS
    have HKK := Lib.hid hK
    clear hv hrow hB hS hK
    gi_wp2
    refine leaves_marks2 (fun W => PO w.heap.size (vs ss) v W ∧ Below w.heap.size w W) w.heap.size (fun W D hD h hk => ⟨po_put h.1 hk _, h.2.grown (grownBy_putObj' W D _) h.2.size (fun k e => by cases e; exact hD)⟩)
      (fun W h => ⟨_, results_tmp rfl _ _ _, v, ss, rfl, HS.out, h.1, h.2⟩) [D] _ (by simp) (marks_one (by omega) HKK.out) ⟨HPO.out, HB.out⟩
  case stop =>
    rintro D c pre W hD _ h hK
    exact h.elim
theorem collect_any (gf : Nat) (lb : Array Value) (eg : ∀ args w, (callFunc gf args).run Tryz.prog w = .ok (.enter gf args) w) (S : List OD → Prop) (N : Nat) (hN : N ≤ 100000) (w : World)
    (hseq : SeqStopsK Fence.wide 3 Tryz.prog gf lb encD KeepsWalks S (fun _ => True) N w) :
    Calls Tryz.prog 66 #[.func (.func gf) #[] lb] w fun e w' => ∃ v ss, e = .returned v ∧ S ss ∧ PO w.heap.size (vs ss) v w' ∧ Below w.heap.size w w' := by
  have HA := Lib.hid (callsIn_wide.1 (appendSeq_in 4 (by omega) gf lb eg S N hN w hseq))
  clear hseq eg
  go_enter Tryz.func66, Tryz.ntmps66
  go_wp2_with (go_at_call 80; refine HA.out.mono ?_; rintro e w2 ⟨v, ss, rfl, hS, hP, hb⟩; have H := Lib.hid (And.intro hS (And.intro hP hb)); clear hS hP hb)
  go_ret
  exact ⟨v, ss, rfl, H.out.1, H.out.2.1, H.out.2.2⟩
end Go.Proofs.YtaiiihdckdjpoaaGreatDoor
