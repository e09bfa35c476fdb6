/-
  Layer 7: the library's sort at OIDs (slices.SortFunc with Compare), on a row that the call has made.
-/
import Derived.Test.YtaiiihdckdjpoaaGreatDoorOgJ
import Derived.Test.YtaiiihdckdjpoaaGreatDoorSort
import Derived.Shelf.SlSortCmp.NoneTotal
import Derived.Test.YtaiiihdckdjpoaaGreatDoorOgF
namespace Go.Proofs.YtaiiihdckdjpoaaGreatDoor
open Go.RowKit Go.Shelf

theorem swoO : Sort.SWO (ltOf cfO) where
  irrefl x := by unfold ltOf cfO; rw [cmpO_self]; rfl
  trans x y z h1 h2 := by
    unfold ltOf cfO at *
    rw [decide_eq_true_eq] at *
    apply Classical.byContradiction
    intro h3
    have h4 := cmpO_anti x.1.1 x.1.2 z.1.1 z.1.2
    have h5 := cmpO_le (n := z.1.1) (l := z.1.2) (m := x.1.1) (k := x.1.2) (p := y.1.1) (j := y.1.2) (by omega) (by omega)
    have h6 := cmpO_anti z.1.1 z.1.2 y.1.1 y.1.2
    omega
  ntrans x y z h1 h2 := by
    unfold ltOf cfO at *
    rw [decide_eq_false_iff_not] at *
    have h3 := cmpO_anti x.1.1 x.1.2 y.1.1 y.1.2
    have h4 := cmpO_anti y.1.1 y.1.2 z.1.1 z.1.2
    have h5 := cmpO_le (n := z.1.1) (l := z.1.2) (m := y.1.1) (k := y.1.2) (p := x.1.1) (j := x.1.2) (by omega) (by omega)
    have h6 := cmpO_anti z.1.1 z.1.2 x.1.1 x.1.2
    omega
theorem flat_ocs (d : Array OD) : (Sort.flatK encO 17 d).toList = ocs (vs d.toList) := by
  have hok := vs_ok d.toList
  have hl : (ocs (vs d.toList)).length = d.size * 17 := by rw [ocs_len hok]; unfold vs; rw [List.length_map]; simp
  refine List.ext_getElem? fun t => ?_
  by_cases ht : t < d.size * 17
  · have hd : t / 17 < d.size := by omega
    have hd2 : t / 17 < (vs d.toList).length := by unfold vs; rw [List.length_map]; simpa using hd
    have h1 : (Sort.flatK encO 17 d).toList[t]? = some ((encO d[t / 17])[t % 17]!) := by
      rw [Array.getElem?_toList, Array.getElem?_eq_getElem (by rw [Sort.size_flatK]; exact ht)]
      unfold Sort.flatK
      simp [hd]
    have h17 : (encO d[t / 17]).length = 17 := oc_17 (d[t / 17]).2
    have h2 := ocs_get hok hd2 (j := t % 17) (v := (encO d[t / 17])[t % 17]!) (by
      have e : (vs d.toList)[t / 17] = (d[t / 17]).1 := by unfold vs; simp
      rw [e]
      show (encO d[t / 17])[t % 17]? = _
      rw [List.getElem?_eq_getElem (by omega), getElem!_pos _ _ (by omega)])
    rw [h1, ← h2]
    congr 1; omega
  · rw [List.getElem?_eq_none (by rw [Array.length_toList, Sort.size_flatK]; omega), List.getElem?_eq_none (by omega)]
theorem sort_any (B : Nat) (L : List OD) (v : Value) (w : World) (hP : PO B (vs L) v w) (hl : L.length ≤ 1000000) :
    Calls Tryz.prog 67 #[v, .func (.func 39) #[] #[]] w fun e w' => e = .returned (.tuple #[]) ∧ ∃ M : List OD, M.Perm L ∧ M.Pairwise (fun x y => ¬ cfO y x < 0) ∧ PO B (vs M) v w' ∧ Below B w w' := by
  rcases hP.own.2 with ⟨rfl, h0⟩ | ⟨g, cap, cur, rfl, hg, hh, hn, hm, hs, ht⟩
  · have hL : L = [] := by unfold vs at h0; rw [List.length_map] at h0; exact List.eq_nil_of_length_eq_zero h0
    subst hL
    exact (AnyF.slices_SortFunc_none Tryz.sortO none 0 _ w).mono fun e w' ⟨he, hw⟩ => ⟨he, [], List.Perm.refl _, List.Pairwise.nil, hw ▸ hP, hw ▸ Below.refl _ _⟩
  · obtain ⟨n, hnn⟩ : ∃ n, (vs L).length = n := ⟨_, rfl⟩
    have hLn : L.length = n := by rw [← hnn]; unfold vs; rw [List.length_map]
    have hflat := flat_ocs L.toArray
    have hfs : (Sort.flatK encO 17 L.toArray).size = n * 17 := by rw [Sort.size_flatK]; simp [hLn]
    have hgl : g < w.heap.size := (Array.getElem?_eq_some_iff.1 hh).1
    have hH : Sort.HoldsK encO 17 w g 0 L.toArray := by
      intro j hj
      rw [hfs] at hj
      have hjc : cur.toList[j]? = some (Sort.flatK encO 17 L.toArray)[j]! := by
        have h1 : (cur.toList.take ((vs L).length * 17))[j]? = some (Sort.flatK encO 17 L.toArray)[j]! := by
          rw [ht, show ocs (vs L) = (Sort.flatK encO 17 L.toArray).toList by rw [hflat], Array.getElem?_toList, Array.getElem?_eq_getElem (by rw [hfs]; exact hj), getElem!_pos _ _ (by rw [hfs]; exact hj)]
        rwa [List.getElem?_take_of_lt (by rw [hnn]; exact hj)] at h1
      refine ⟨?_, ?_⟩
      · unfold World.cell?
        simp only [hh, Nat.zero_add]
        rw [← Array.getElem?_toList]
        simpa using hjc
      · unfold World.frozen?
        simp [hh]
    have hcon := AnyQ.slices_SortFunc Tryz.sortO 17 (fun w => by kernel_rfl) (fun w => by kernel_rfl) encO (fun x => oc_17 x.2) (fun x u hu => Array.all_eq_true_iff_forall_mem.1 (oc_one x.1.1 x.1.2) u (by simpa [encO] using hu)) cfO swoO 39 #[] g 0 cap L.toArray w (enters_of Tryz.func39 (by kernel_rfl) rfl) (cmp_lays g 0 _ w) hH hgl (by simp; omega)
    rw [show L.toArray.size = (vs L).length by rw [hnn]; simp [hLn]] at hcon
    have hsz : (vs L).length = L.toArray.size := by rw [hnn]; simp [hLn]
    rw [hsz] at hcon ⊢
    refine hcon.mono fun e w' ⟨he, d', m, os, hp, hso, hw⟩ => ?_
    have hds : d'.size = n := by rw [hp.1]; simp [hLn]
    have hdv : (vs d'.toList).length = n := by unfold vs; rw [List.length_map]; simpa using hds
    have hperm : d'.toList.Perm L := by
      have := hp.2.2
      rwa [show d'.extract 0 L.toArray.size = d' by rw [← hp.1, Array.extract_size], Array.extract_size] at this
    have hfl := flat_ocs d'
    have hfs' : (Sort.flatK encO 17 d').size = n * 17 := by rw [Sort.size_flatK, hds]
    have hheap : w'.heap = (w.heap.modify g (Sort.onCells (Sort.putCells id 0 (Sort.flatK encO 17 d')))) ++ os := by rw [hw]; rfl
    have hblk : w'.heap[g]? = some (.cells (Sort.putCells id 0 (Sort.flatK encO 17 d') cur) 26 (0, 0)) := by
      rw [hheap, Array.getElem?_append_left (by rw [Array.size_modify]; exact hgl), Array.getElem?_modify, if_pos rfl, hh]; rfl
    have hlow : ∀ k, k < w.heap.size → k ≠ g → w'.heap[k]? = w.heap[k]? := fun k hk hne => by
      rw [hheap, Array.getElem?_append_left (by rw [Array.size_modify]; exact hk), Array.getElem?_modify, if_neg (fun e => hne e.symm)]
    have hwz : w.heap.size ≤ w'.heap.size := by rw [hheap, Array.size_append, Array.size_modify]; omega
    have hcap : n ≤ cap := by rw [← hnn]; exact hn
    refine ⟨he, d'.toList, hperm, ?_, ⟨⟨by rw [ocs_len (vs_ok _)], .inr ⟨g, cap, _, by rw [hdv]; simp [hLn], hg, hblk, by rw [hdv]; exact hcap, hm, ?_, ?_⟩⟩, vs_ok _, Nat.le_trans hP.bz hwz⟩, ⟨by rw [hw]; rfl, by rw [hw]; rfl, by rw [hw]; rfl, hwz, fun k hk => hlow k (by have := hP.bz; omega) (by omega)⟩⟩
    · rw [List.pairwise_iff_getElem]
      intro i j hi hj hij
      have h1 := hso i j (Nat.zero_le _) hij (by rw [← hp.1]; simpa using hj)
      rw [getElem!_pos _ j (by simpa using hj), getElem!_pos _ i (by simpa using hi)] at h1
      unfold ltOf at h1
      rw [decide_eq_false_iff_not] at h1
      simpa using h1
    · unfold Sort.putCells; rw [Array.size_mapIdx]; exact hs
    · rw [hdv, ← hfl]
      refine List.ext_getElem? fun t => ?_
      by_cases ht' : t < n * 17
      · have htc : t < cur.size := by rw [hs]; omega
        rw [List.getElem?_take_of_lt ht', Array.getElem?_toList, Array.getElem?_toList]
        unfold Sort.putCells
        rw [Array.getElem?_mapIdx, Array.getElem?_eq_getElem htc, Option.map_some, if_pos ⟨Nat.zero_le _, by rw [hfs']; omega⟩, Array.getElem?_eq_getElem (by rw [hfs']; exact ht'), Nat.sub_zero, getElem!_pos _ t (by rw [hfs']; exact ht')]
        rfl
      · rw [List.getElem?_eq_none (by rw [List.length_take]; omega), List.getElem?_eq_none (by rw [Array.length_toList, hfs']; omega)]
end Go.Proofs.YtaiiihdckdjpoaaGreatDoor

/-!
  Layer 7: slices.SortedFunc over the keys of a map of OIDs; the program's Of.
  Conditions: at most 100000 OIDs, their cells in their kinds.
-/
namespace Go.Proofs.YtaiiihdckdjpoaaGreatDoor
open Go.RowKit Go.Shelf Go.Maps

/-- In strictly ascending order. -/
def AscO (M : List OD) : Prop := M.Pairwise (fun x y => 0 ≤ cfO y x)
theorem sorted_any (Bm b nn : Nat) (M : List Od) (w : World) (hBm : Bm < w.heap.size) (hm : w.cell? ⟨Bm, 0, none⟩ = some (.map (some b))) (hM : MapO w b nn M) (hl : M.length ≤ 100000) :
    Calls Tryz.prog 49 #[.func (.func 68) #[] #[.pointer (some ⟨Bm, 0, none⟩)], .func (.func 39) #[] #[]] w fun e w' =>
      ∃ v R, e = .returned v ∧ (vs R).Perm M ∧ AscO R ∧ PO w.heap.size (vs R) v w' ∧ Below w.heap.size w w' := by
  have HC := Lib.hid (collect_any 68 #[.pointer (some ⟨Bm, 0, none⟩)] (enters_of Tryz.func68 (by kernel_rfl) rfl) (fun ss => (vs ss).Perm M) M.length hl w (keys_stops 3 (by omega) Bm b nn M w hBm hm hM))
  clear hBm hm hM
  go_enter Tryz.func49, Tryz.ntmps49
  go_wp2_with fail
  refine HC.out.mono ?_
  rintro e w2 ⟨v, ss, rfl, hS, hP, hb⟩
  have hlen : ss.length ≤ 1000000 := by have := hS.length_eq; unfold vs at this; rw [List.length_map] at this; omega
  have HS := Lib.hid ((sort_any w.heap.size ss v w2 hP hlen).mono fun e w' ⟨he, M, h1, h2, h3⟩ => (⟨he, M, h1, h2.imp (fun h => by omega), h3⟩ : e = Ending.returned (.tuple #[]) ∧ ∃ M : List OD, M.Perm ss ∧ AscO M ∧ PO w.heap.size (vs M) v w' ∧ RowKit.Below w.heap.size w2 w'))
  have HPM := Lib.hid hS
  have HB := Lib.hid hb
  clear hS hP hb hlen HC
  go_wp2_with fail
  refine HS.out.mono ?_
  rintro e w3 ⟨rfl, R, hR, hA, hP, hb⟩
  have HR := Lib.hid (And.intro hR (And.intro hA (And.intro hP hb)))
  clear hR hA hP hb
  go_wp2_with fail
  go_ret
  exact ⟨v, R, rfl, (HR.out.1.map Subtype.val).trans HPM.out, HR.out.2.1, HR.out.2.2.1, HB.out.trans HR.out.2.2.2⟩
theorem MapO.len {w : World} {b n k : Nat} {M : List Od} (hM : MapO w b n M) (hk : M.length = k) : (Builtin.len_ #[64] 3 #[.map (some b)]).run Tryz.prog w = .ok (.int .i64 (k : Int)) w := by
  obtain ⟨⟨D, h1, h2, h3⟩, h4, h5⟩ := hM
  rw [h1.len Tryz.underlying64 3, h2, hk]
set_option maxRecDepth 100000 in
theorem wpList_putM {ops : Array Oper} {rest : List Oper} {o : Oper} {a : Act} {w : World} {Q : Exit → Act → World → Prop} (hg : o.guard = none) (m x v : Operand) (hop : o.op = Op.mapUpdate 64 m x v)
    {b n p : Nat} {q : List Nat} {M : List Od} (hm : a.eval m = .map (some b)) (hx : a.eval x = oV p q) (hv : a.eval v = .bool true) (ho : OkO p q) (hM : MapO w b n M) (hn : n ≤ 1000000)
    (h : ∀ w', MapO w' b (n + 1) (insM M (p, q)) → w.grownBy w' (some b) → wpList Tryz.prog ops Q rest (a.put o.dst undef) w') : wpList Tryz.prog ops Q (o :: rest) a w := by
  obtain ⟨⟨D, h1, h2, h3⟩, h4, h5⟩ := hM
  refine wpList_mapUpdate_own w hg m x v _ hop 26 4 keyedO Tryz.underlying64 RB b n D hm h1 (Nat.lt_of_le_of_lt hn (by decide)) (oV p q) (.bool true) (kO (p, q)) hx hv (kO_key (o := (p, q)) ho) _ [] (plainElem_bool Tryz.underlying4 true) ?_
  intro w' hown' hg'
  exact h w' (MapO.put h1 h2 h3 h4 h5 ho hown') hg'
/-- What the map holds behind one more OID: one element too many is enough to tell. -/
def stM (M : List Od) (o : Od) : List Od := if M.length ≤ 256 then insM M o else M
/-- What the map holds behind all. -/
def capM (L : List Od) : List Od := L.foldl stM []
theorem capM_snoc (L : List Od) (o : Od) : capM (L ++ [o]) = stM (capM L) o := by unfold capM; rw [List.foldl_append]; rfl
/-- Is every OID valid? -/
def okA (L : List Od) : Bool := L.all fun o => chkO o.1 o.2 == 0
/-- What Of answers. -/
def GiveOf (w : World) (L : List Od) (e : Ending) (w' : World) : Prop :=
  if okA L = false then e = .returned (.tuple #[.slice none 0 0, .int .i64 1]) ∧ Below w.heap.size w w'
  else if 256 < (capM L).length then e = .returned (.tuple #[.slice none 0 0, .int .i64 3]) ∧ Below w.heap.size w w'
  else ∃ A N R, e = .returned (.tuple #[.slice A N N, .int .i64 0]) ∧ (vs R).Perm (capM L) ∧ AscO R ∧ R.length = N ∧ RdO w' A (vs R) ∧ Below w.heap.size w w'

set_option linter.unusedSimpArgs false in
set_option maxHeartbeats 2000000 in
set_option maxRecDepth 100000 in
theorem of_setany (A : Option Addr) (L : List Od) (N c : Nat) (w : World) (hA : RdO w A L) (hN : L.length = N) (hm : N ≤ 100000) :
    Calls Tryz.prog 24 #[.slice A N c] w (GiveOf w L) := by
  have R := Lib.hid hA
  have HN := Lib.hid hN
  have hz := zero25
  obtain ⟨zl, hzl⟩ : ∃ zl, zeroL = zl := ⟨_, rfl⟩
  have HZL : Hid (zl.length = 16) := Lib.hid (by rw [← hzl]; exact zeroL_length)
  rw [hzl] at hz
  clear hzl hA hN
  have hmk : ∀ w : World, (Instr.makeMap 64 none).run Tryz.prog w = .ok (.map (some w.heap.size)) (w.alloc (.map #[] 0)) := fun w => run_makeMap _ w
  have M0 := Lib.hid (MapO.new w)
  have B0 := Lib.hid (bel1 w (.map #[] 0))
  go_enter Tryz.func24, Tryz.ntmps24
  go_upto_region 2 with fail
  generalize w.alloc (.map #[] 0) = w1 at *
  go_wp2_with fail
  go_loopw [11] (fun i wr => ∃ p : Nat, p ≤ N ∧ i = .int .i64 (p : Int) ∧ okA (L.take p) = true ∧ MapO wr w.heap.size p (capM (L.take p)) ∧ Below w.heap.size w wr) (fun i _ => N - (intOf i).toNat)
  case atStart => exact ⟨0, Nat.zero_le _, rfl, rfl, M0.out, B0.out⟩
  case round =>
    obtain ⟨p, hp, rfl, hok, hmap, hbl⟩ := hrel
    have HOK := Lib.hid hok
    have HM := Lib.hid hmap
    have B := Lib.hid hbl
    clear hok hmap hbl M0 B0
    by_cases hlt : p < N
    · have hpl : p < L.length := by rw [HN.out]; exact hlt
      obtain ⟨b, off, rfl, hb, hr, ho⟩ := (R.out.below B.out).at_ hpl
      have hl16 := ho.len
      have HO := Lib.hid ho
      have HTK := Lib.hid (show L.take (p + 1) = L.take p ++ [L[p]] from List.take_succ_eq_append_getElem hpl)
      have HDR := Lib.hid (List.drop_eq_getElem_cons hpl)
      obtain ⟨kn, hkn⟩ : ∃ kn, (capM (L.take p)).length = kn := ⟨_, rfl⟩
      have HKN := Lib.hid hkn
      have HDT := Lib.hid (List.take_append_drop p L)
      generalize L[p] = o at *
      obtain ⟨n, l⟩ := o
      have HR := Lib.hid hr
      have hck := fun W => check_any n l W HO.out
      clear ho hr hkn hmk
      go_upto_region 5 with (first
        | (refine wpList_loadO rfl (.tmp 13) rfl rfl HR.out hl16 ?_)
        | (refine wpList_store25 rfl (.tmp 6) (.tmp 14) rfl (n := n) (l := l) rfl rfl (Bk.new wr 26 (oc 0 zl)) (by rw [oc_length, HZL.out]) hl16 ?_; intro w3 V3 hg3 hz3; have KO := Lib.hid V3; have hb3 : RowKit.Below wr.heap.size wr w3 := (bel1 wr (.cells (oc 0 zl).toArray 26)).grown hg3 (by simp) (fun j e => by injection e with e; omega); clear V3 hg3 hz3))
      have B3 := Lib.hid (B.out.trans (hb3.mono B.out.size))
      have M3 := Lib.hid (HM.out.kept (hb3.block _ HM.out.lt))
      obtain ⟨go, hgo⟩ : ∃ go, wr.heap.size = go := ⟨_, rfl⟩
      rw [hgo] at KO
      have HGO := Lib.hid (show w.heap.size < go by rw [← hgo]; exact HM.out.lt)
      clear hb3 HR B HM
      try rw [hgo]
      clear hgo
      by_cases hc0 : chkO n l = 0
      rotate_left
      · have h1 : chkO n l = 1 := by unfold chkO at hc0 ⊢; split at hc0 <;> simp_all
        have HE : Hid (okA L = false) := Lib.hid (by
          rw [← HDT.out, HDR.out]
          unfold okA
          rw [List.all_append, List.all_cons]
          simp [h1])
        rw [h1] at hck
        have HCK := Lib.hid hck
        clear hck hc0 h1
        unfold GiveF at HCK
        go_wp2_with (first
          | (refine wpList_load25 rfl (.tmp 6) rfl rfl KO.out hl16 ?_)
          | (go_at_call 38; refine (HCK.out _).mono ?_; rintro r w4 ⟨rfl, hb4⟩; have B4 := bt B3 (Lib.hid hb4); clear hb4))
        go_ret2
        unfold GiveOf
        rw [if_pos HE.out]
        exact ⟨rfl, B4.out⟩
      · have HVA : Hid (okA (L.take (p + 1)) = true) := Lib.hid (by
          have h2 := HOK.out
          rw [HTK.out]
          unfold okA at h2 ⊢
          rw [List.all_append, h2]; simp [hc0])
        have HCM := Lib.hid (show capM (L.take (p + 1)) = stM (capM (L.take p)) (n, l) by rw [HTK.out, capM_snoc])
        rw [hc0] at hck
        have HCK := Lib.hid hck
        clear hck hc0
        unfold GiveF at HCK
        generalize capM (L.take p) = M at *
        by_cases hle : kn ≤ 256
        · have hd : decide ((kn : Int) ≤ 256) = true := by simp; omega
          have HS := Lib.hid (show stM M (n, l) = insM M (n, l) by unfold stM; rw [if_pos (by rw [HKN.out]; exact hle)])
          clear hle
          go_wp2_with (first
            | (refine wpList_load25 rfl (.tmp 6) rfl rfl KO.out hl16 ?_)
            | (go_at_call 38; refine (HCK.out _).mono ?_; rintro r w4 ⟨rfl, hb4⟩; have B4 := bt B3 (Lib.hid hb4); have M4 := Lib.hid (M3.out.kept (hb4.block _ M3.out.lt)); have hln := M4.out.len HKN.out; have KOq := Lib.hid (KO.out.below hb4 KO.out.lt); clear hb4 KO; have KO := KOq; clear KOq)
            | (at_mapUpdate; refine wpList_putM rfl _ _ _ rfl rfl rfl rfl HO.out M4.out (by omega) ?_; intro w5 hm5 hg5; have M5 := Lib.hid hm5; have B5 := Lib.hid (B4.out.grown hg5 B4.out.size (fun k e => by injection e with e; omega)); clear hm5 hg5))
          exact ⟨⟨p + 1, by omega, by go_num, HVA.out, by rw [HCM.out, HS.out]; exact M5.out, B5.out⟩, by simp [intOf]; omega⟩
        · have hd : decide ((kn : Int) ≤ 256) = false := by simp; omega
          have HS := Lib.hid (show stM M (n, l) = M by unfold stM; rw [if_neg (by rw [HKN.out]; exact hle)])
          clear hle
          go_wp2_with (first
            | (refine wpList_load25 rfl (.tmp 6) rfl rfl KO.out hl16 ?_)
            | (go_at_call 38; refine (HCK.out _).mono ?_; rintro r w4 ⟨rfl, hb4⟩; have B4 := bt B3 (Lib.hid hb4); have M4 := Lib.hid (M3.out.kept (hb4.block _ M3.out.lt)); have hln := M4.out.len HKN.out; clear hb4)
            )
          exact ⟨⟨p + 1, by omega, by go_num, HVA.out, by rw [HCM.out, HS.out]; exact M4.out.mono (by omega), B4.out⟩, by simp [intOf]; omega⟩
    · obtain rfl : p = N := by omega
      have HT := Lib.hid (show L.take p = L by rw [← HN.out, List.take_length])
      rw [HT.out] at HOK HM
      obtain ⟨kn, hkn⟩ : ∃ kn, (capM L).length = kn := ⟨_, rfl⟩
      have HKN := Lib.hid hkn
      clear hkn hmk hlt
      by_cases hle : 256 < kn
      · have hd : decide ((256 : Int) < (kn : Int)) = true := by simp; omega
        have hln := HM.out.len HKN.out
        go_wp2_with fail
        go_ret2
        unfold GiveOf
        rw [if_neg (by rw [HOK.out]; decide), if_pos (by rw [HKN.out]; exact hle)]
        exact ⟨rfl, B.out⟩
      · have hd : decide ((256 : Int) < (kn : Int)) = false := by simp; omega
        have hln := HM.out.len HKN.out
        have hcell : (wr.alloc (.cells #[.map (some w.heap.size)] 64)).cell? ⟨wr.heap.size, 0, none⟩ = some (.map (some w.heap.size)) := (Boxed.new wr 64 (.map (some w.heap.size))).cell
        have HS := Lib.hid (sorted_any wr.heap.size w.heap.size p (capM L) (wr.alloc (.cells #[.map (some w.heap.size)] 64)) (by simp) hcell (HM.out.kept ((bel1 wr (.cells #[.map (some w.heap.size)] 64)).block _ HM.out.lt)) (by rw [HKN.out]; omega))
        have BA := Lib.hid (B.out.trans ((bel1 wr (.cells #[.map (some w.heap.size)] 64)).mono B.out.size))
        clear hcell
        go_wp2_with (go_at_call 50; refine (keys_any _ _).mono ?_; rintro e w4 ⟨rfl, rfl⟩)
        generalize wr.alloc (.cells #[.map (some w.heap.size)] 64) = w4 at *
        refine HS.out.mono ?_
        rintro e w5 ⟨v, R, rfl, hpm, hasc, hpo, hb5⟩
        obtain ⟨A', c', rfl, hlc, hcm, hrd, hA⟩ := hpo.form
        obtain ⟨rn, hrn⟩ : ∃ rn, (vs R).length = rn := ⟨_, rfl⟩
        have hRl : R.length = rn := by rw [← hrn]; unfold vs; rw [List.length_map]
        rw [hrn] at hlc ⊢
        have HCL := Lib.hid (clipO A' rn c' · hlc hcm (fun e => by
          rcases hA with ⟨_, h2, h3⟩ | ⟨g, h2, _⟩
          · exact ⟨by rw [← hrn, h3]; rfl, h2⟩
          · rw [e] at h2; cases h2))
        have HE : Hid (∃ A N R, (Ending.returned (.tuple #[.slice A' rn rn, .int .i64 0]) = Ending.returned (.tuple #[.slice A N N, .int .i64 0])) ∧ (vs R).Perm (capM L) ∧ AscO R ∧ R.length = N ∧ RdO w5 A (vs R) ∧ RowKit.Below w.heap.size w w5) :=
          Lib.hid ⟨A', rn, R, rfl, hpm, hasc, hRl, hrd, bt BA (Lib.hid hb5) |>.out⟩
        clear hpm hasc hpo hb5 hlc hcm hrd hA hrn hRl HS
        go_wp2_with (go_at_call 48; refine (HCL.out _).mono ?_; rintro e w6 ⟨rfl, rfl⟩)
        go_ret2
        unfold GiveOf
        rw [if_neg (by rw [HOK.out]; decide), if_neg (by rw [HKN.out]; exact hle)]
        exact HE.out
end Go.Proofs.YtaiiihdckdjpoaaGreatDoor
