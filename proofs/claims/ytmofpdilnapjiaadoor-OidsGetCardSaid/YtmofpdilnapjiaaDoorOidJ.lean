/-
  The reference of layers 2 and 6: contracts of Groups and of layer 6's Put.
  Conditions: the OID is valid; the number is less than 2^32.
-/
import Derived.Test.YtmofpdilnapjiaaDoorOidI
import Derived.Laws.AppendOwnNone
import Derived.Deep.Onto
import Derived.Test.YtmofpdilnapjiaaDoorStr
namespace Go.Proofs.YtmofpdilnapjiaaDoor
open Go.RowKit

/-- The walk's step at the builtin append, by what it runs to. -/
theorem wpList_app {P : Program} {w : World} {ops : Array Oper} {rest : List Oper} {o : Oper} {a : Act} {Q : Exit → Act → World → Prop} (hgd : o.guard = none) (s x : Operand) (t1 t2 : TypeId)
    (ho : o.op = .call { callee := .builtin .append, args := #[s, x], argTypes := #[t1, t2] }) (u v : Value) (hs : a.eval s = u) (hx : a.eval x = v) {r : Value} {w1 : World}
    (hrun : (Builtin.append_ #[t1, t2] o.type #[u, v]).run P w = .ok r w1) (h : wpList P ops Q rest (a.put o.dst r) w1) : wpList P ops Q (o :: rest) a w := by
  refine wpList_plain hgd fun K hK => ?_
  have hK' := hK _ _ h
  unfold Oper.wp execOp
  simp only [ho, resolve, invoke, builtin, Sem.run_bind, Sem.run_pure, Result.andThen_ok, List.map_toArray, List.map_cons, List.map_nil, hs, hx, hrun]
  exact hK'
/-- 'append(v, s...)' to what the call has built, whatever s is. -/
theorem app_src {P : Program} {t ty e : TypeId} {z : Value} {bytes : Nat} (ht : P.underlying t = some (.slice e)) (hinfo : (P.info? e).map (fun i => (i.zero, i.size, i.bytes)) = some (some z, 1, bytes)) (hz : z.cells.size = 1)
    {w : World} {base : Nat} {v : Value} {xs : List Value} (hown : w.ownsRow base e 1 v xs.length xs) {A : Option Addr} {ys : List Value} {c : Nat} (hy : Rd w A ys) (h1 : ∀ u ∈ ys, u.oneCell' = true) (hb : base ≤ w.heap.size)
    (hl : (xs.length + ys.length) * bytes ≤ 140737488355328) (hm : xs.length + ys.length ≤ maxLen) :
    ∃ v' w', (Builtin.append_ #[t, t] ty #[v, .slice A ys.length c]).run P w = .ok v' w' ∧ w'.ownsRow base e 1 v' (xs ++ ys).length (xs ++ ys) ∧ Below base w w' := by
  obtain ⟨i, hi, hz0, hz1, hz2⟩ := info_parts hinfo
  cases A with
  | some a =>
    obtain ⟨v', w', hrun, h2, h3, _⟩ := run_append_own (P := P) w base t ty e i z 1 bytes ht hi hz0 hz1 hz2 hz (by omega) v xs.length xs hown a ys.length c ys (by simp)
      (fun j u hu => by
        obtain ⟨b, off, e, _, hc⟩ := hy (by intro e; subst e; simp at hu)
        injection e with e
        subst e
        rw [addr_add]; exact hc j u hu) h1 hm hl hb
    exact ⟨v', w', hrun, by rw [List.length_append]; exact h2, (Below.refl base w).grown h3 hb (fun k hk => (hown.lt k hk).1)⟩
  | none =>
    have hnil : ys = [] := by
      cases ys with
      | nil => rfl
      | cons u m => obtain ⟨_, _, e, _⟩ := hy (by simp); cases e
    subst hnil
    refine ⟨v, w, ?_, by simpa using hown, Below.refl _ _⟩
    rcases hown.2 with ⟨rfl, h0⟩ | ⟨g, cap, cur, rfl, _, _, hnc, _⟩
    · simp [Builtin.append_, run_underlying ht, sizeOf, typeInfo, hi, Builtin.lenOf, Builtin.firstCells]
    · simp [Builtin.append_, run_underlying ht, sizeOf, typeInfo, hi, Builtin.lenOf, Builtin.firstCells, hnc, storeCells]
/-- A slice literal of one element. -/
theorem own_lit (w : World) (e : TypeId) (x : Value) : (w.alloc (.cells #[x] e)).ownsRow w.heap.size e 1 (.slice (some ⟨w.heap.size, 0, none⟩) 1 1) [x].length [x] :=
  ⟨rfl, .inr ⟨w.heap.size, 1, #[x], rfl, Nat.le_refl _, heap_alloc_new w _, Nat.le_refl _, by unfold maxLen; omega, rfl, rfl⟩⟩
theorem cs8_length (l : List Nat) : (cs8 l).length = l.length := by unfold cs8; rw [List.length_map]

/-- A slice that the call has made is returned. -/
def GiveW (w : World) (l : List Nat) (e : Ending) (w' : World) : Prop :=
  ∃ v, e = .returned v ∧ w'.ownsRow w.heap.size 5 1 v l.length (cs8 l) ∧ Below w.heap.size w w'
theorem own_below {w w' : World} {base : Nat} {e : TypeId} {size : Nat} {v : Value} {n : Nat} {xs : List Value} (h : w.ownsRow base e size v n xs) (hb : Below w.heap.size w w') : w'.ownsRow base e size v n xs := by
  refine ⟨h.1, ?_⟩
  rcases h.2 with h2 | ⟨g, cap, cur, rfl, h3, h4, rest⟩
  · exact .inl h2
  · exact .inr ⟨g, cap, cur, rfl, h3, (hb.block g (Array.getElem?_eq_some_iff.1 h4).1).trans h4, rest⟩
theorem own_rd {w : World} {base : Nat} {v : Value} {l : List Nat} (h : w.ownsRow base 5 1 v l.length (cs8 l)) : ∃ A c, v = .slice A l.length c ∧ Rd w A (cs8 l) ∧ l.length ≤ c ∧ c ≤ maxLen := by
  have := own_open (e := 5) (base := base) (w := w) (v := v) (xs := cs8 l) (by rw [cs8_length]; exact h)
  rw [cs8_length] at this
  exact this
theorem ocs_len {n : Nat} (h : n < 4294967296) : (ocs n).length ≤ 5 := by rw [ocs_length]; have := gk5 h; omega
theorem one8 (l : List Nat) : ∀ u ∈ cs8 l, u.oneCell' = true := by intro u hu; obtain ⟨n, _, rfl⟩ := List.mem_map.1 hu; rfl
/-- 'append(v, s...)' of bytes. -/
theorem app8 {w : World} {base : Nat} {v : Value} {xs ys : List Nat} {A : Option Addr} {c : Nat} (hown : w.ownsRow base 5 1 v xs.length (cs8 xs)) (hy : Rd w A (cs8 ys)) (hb : base ≤ w.heap.size) (hl : xs.length + ys.length ≤ 1000) :
    ∃ v' w', (Builtin.append_ #[35, 35] 35 #[v, .slice A ys.length c]).run Tryd.prog w = .ok v' w' ∧ w'.ownsRow base 5 1 v' (xs ++ ys).length (cs8 (xs ++ ys)) ∧ Below base w w' := by
  obtain ⟨v', w', h1, h2, h3⟩ := app_src (P := Tryd.prog) (ty := 35) Tryd.underlying35 info5 rfl (by rw [cs8_length]; exact hown) (c := c) hy (one8 ys) hb (by rw [cs8_length, cs8_length]; omega) (by rw [cs8_length, cs8_length]; unfold maxLen; omega)
  have e : cs8 xs ++ cs8 ys = cs8 (xs ++ ys) := by unfold cs8; rw [List.map_append]
  rw [cs8_length] at h1
  rw [e, cs8_length] at h2
  exact ⟨v', w', h1, h2, h3⟩

set_option maxRecDepth 100000 in
set_option maxHeartbeats 1000000 in
theorem rgroups_any (n : Nat) (w : World) (hn : n < 4294967296) : Calls Tryd.prog 36 #[.int .i64 (n : Int)] w (GiveW w (ocs n)) := by
  have hgl := ocs_len hn
  rw [ocs_gl (by omega)] at hgl ⊢
  obtain ⟨y, hy⟩ : ∃ y, n % 128 = y := ⟨_, rfl⟩
  obtain ⟨v, hv⟩ : ∃ v, n / 128 = v := ⟨_, rfl⟩
  have hy1 : ((n : Int) % 128) = (y : Int) := by omega
  have hv1 : ((n : Int) / 128) = (v : Int) := by omega
  have hy2 : y < 128 := by omega
  have hv2 : v < 4294967296 := by omega
  have HG := Lib.hid (show gl n = ((dgs 128 v).map (128 + ·)).reverse ++ [y] by rw [← hy, ← hv]; rfl)
  have HGL := Lib.hid hgl
  clear hy hv hgl
  go_enter Tryd.func36, Tryd.ntmps36
  go_wp2_with fail
  go_loopw [0, 3] (fun d o wr => ∃ (u : Nat) (out : List Nat), u < 4294967296 ∧ d = .int .i64 (u : Int) ∧ wr.ownsRow w.heap.size 5 1 o out.length (cs8 out) ∧ gl n = ((dgs 128 u).map (128 + ·)).reverse ++ out ∧ Below w.heap.size w wr) (fun d _ _ => (intOf d).toNat)
  case atStart => exact ⟨v, [y], hv2, rfl, own_lit w 5 (.int .u8 (y : Int)), HG.out, (Below.refl _ _).alloc (Nat.le_refl _) _⟩
  case round =>
    rename_i o wr
    obtain ⟨u, out, hu, rfl, hown, hd, hbel⟩ := hrel
    have hol : out.length ≤ 5 := by
      have := congrArg List.length hd
      have h5 := HGL.out
      rw [List.length_append] at this
      omega
    have HOWN := Lib.hid hown
    have HD := Lib.hid hd
    have HBel := Lib.hid hbel
    clear hd hbel hy1 hv1
    by_cases hu0 : u = 0
    · subst hu0
      have HD2 : Hid (gl n = out) := HD.out.trans (by rw [dgs_zero]; rfl)
      clear hown
      go_wp2_with fail
      go_ret
      rw [HD2.out]
      exact ⟨_, rfl, HOWN.out, HBel.out⟩
    · have hupos : 0 < u := by omega
      obtain ⟨x, hx⟩ : ∃ x, 128 + u % 128 = x := ⟨_, rfl⟩
      obtain ⟨u', hu'⟩ : ∃ u', u / 128 = u' := ⟨_, rfl⟩
      have hx1 : (128 + (u : Int) % 128) = (x : Int) := by omega
      have hu1 : ((u : Int) / 128) = (u' : Int) := by omega
      have hx2 : x < 256 := by omega
      have hu2 : u' < u := by omega
      obtain ⟨A, c, rfl, hrd, _, _⟩ := own_rd hown
      obtain ⟨v2, w2, hrun, hown2, hb2⟩ := app8 (xs := [x]) (ys := out) (c := c) (own_lit wr 5 (.int .u8 (x : Int))) (hrd.below (bel1 wr _)) (by simp) (by simp; omega)
      have HOWN2 := Lib.hid (hown2.mono HBel.out.size)
      have HB2 := Lib.hid (HBel.out.trans ((bel1 wr (.cells #[.int .u8 (x : Int)] 5)).trans hb2 |>.mono HBel.out.size))
      have HN : Hid (gl n = ((dgs 128 u').map (128 + ·)).reverse ++ (x :: out)) := Lib.hid (HD.out.trans (by rw [dgs_pos (by omega) hu0, hu', List.map_cons, List.reverse_cons, hx, List.append_assoc]; rfl))
      clear hown2 hb2 hx hu' hu0 hown hrd
      go_wp2_with (at_builtin; refine wpList_app rfl _ _ _ _ rfl _ _ rfl rfl hrun ?_)
      exact ⟨⟨u', x :: out, by omega, rfl, HOWN2.out, HN.out, HB2.out⟩, by simp [intOf]; omega⟩
theorem putO_small {n : Nat} {l : List Nat} (ho : OkO n l) (h : chkO n l = 0) : ∀ k, (((ids n l).take k).flatMap ocs).length ≤ 80 := fun k => by
  obtain ⟨a, b, m, rfl, hm, hab, h32⟩ := ids_lt ho h
  have hn := chkO_n h
  have h1 := flat_len (is := (ids n (a :: b :: m)).take k) (fun x hx => by
    rcases List.mem_cons.1 (List.mem_of_mem_take hx) with rfl | hx
    · exact hab
    · exact h32 x (List.mem_of_mem_take hx))
  have h2 : ((ids n (a :: b :: m)).take k).length ≤ 16 := by
    rw [List.length_take]; unfold ids; simp only [List.length_cons, List.length_take]; omega
  omega

set_option maxRecDepth 100000 in
set_option maxHeartbeats 1000000 in
theorem rput_any (n : Nat) (l : List Nat) (w : World) (ho : OkO n l) (hc : chkO n l = 0) : Calls Tryd.prog 22 #[oV n l] w (GiveW w (putO n l)) := by
  have HSM := Lib.hid (putO_small ho hc)
  have hl := ho.len
  have hn2 := chkO_n hc
  obtain ⟨a, b, tl, rfl, htl, hab, h32⟩ := ids_lt ho hc
  obtain ⟨q, rfl⟩ : ∃ q, n = q + 2 := ⟨n - 2, by omega⟩
  have hids : ids (q + 2) (a :: b :: tl) = (40 * a + b) :: tl.take q := rfl
  unfold putO
  rw [hids] at HSM ⊢
  obtain ⟨s, hs⟩ : ∃ s, 40 * a + b = s := ⟨_, rfl⟩
  rw [hs] at hab HSM ⊢
  have hsi : 40 * (a : Int) + (b : Int) = (s : Int) := by omega
  have S := Lib.hid (Bk.new w 25 (oc (q + 2) (a :: b :: tl)))
  have B0 := Lib.hid (bel1 w (.cells (oc (q + 2) (a :: b :: tl)).toArray 25))
  have c0 := oid_a S.out (i := 0) (by simp)
  have c1 := oid_a S.out (i := 1) (by simp)
  simp only [List.getElem_cons_zero, List.getElem_cons_succ, Nat.zero_add, Nat.reduceAdd] at c0 c1
  have H32 := Lib.hid h32
  have HTL := Lib.hid htl
  have hla : a < 4294967296 := by omega
  have hlb : b < 4294967296 := by omega
  clear ho hc hl hs hids h32 htl
  generalize hd : (a :: b :: tl) = l at *
  have hat : ∀ j, j < q → ∃ x, x < 4294967296 ∧ l[2 + j]? = some x ∧ (tl.take q)[j]? = some x := fun j hj => by
    have hj2 : j < tl.length := by have := HTL.out; omega
    refine ⟨tl[j], H32.out _ (List.getElem_mem _), ?_, ?_⟩
    · rw [← hd, Nat.add_comm]; simp
    · rw [List.getElem?_take, if_pos hj]; simp
  have hlt : (tl.take q).length = q := by have := HTL.out; rw [List.length_take]; omega
  generalize tl.take q = tq at *
  have HAT := Lib.hid hat
  have HLT := Lib.hid hlt
  have HD := Lib.hid hd
  clear hat hlt hd
  go_enter Tryd.func22, Tryd.ntmps22
  go_upto_region 1 with fail
  generalize w.alloc (.cells (oc (q + 2) l).toArray 25) = w1 at *
  go_wp2_with fail
  refine (rgroups_any s _ hab).mono ?_
  rintro e w2 ⟨v, rfl, hown, hb⟩
  have B2 := bt B0 (Lib.hid hb)
  have S2 := kt S (Lib.hid hb)
  have HOWN := Lib.hid (hown.mono (show w.heap.size + 1 ≤ w1.heap.size from S.out.lt))
  clear hown hb c0 c1 hsi
  go_wp2_with fail
  go_loopw [3, 4] (fun o i wr => ∃ j : Nat, j ≤ q ∧ i = .int .i64 ((2 + j : Nat) : Int) ∧ wr.ownsRow (w.heap.size + 1) 5 1 o (((s :: tq).take (j + 1)).flatMap ocs).length (cs8 (((s :: tq).take (j + 1)).flatMap ocs)) ∧ Bk wr w.heap.size 25 (oc (q + 2) l) ∧ Below w.heap.size w wr) (fun _ i _ => q + 2 - (intOf i).toNat)
  case atStart => exact ⟨0, Nat.zero_le _, rfl, by simpa using HOWN.out, S2.out, B2.out⟩
  case round =>
    obtain ⟨j, hj, rfl, hown, hbk, hbel⟩ := hrel
    have cn := oid_n hbk
    rcases Nat.lt_or_ge j q with hjq | hjq
    · obtain ⟨x, hx32, hx1, hx2⟩ := HAT.out j hjq
      have hxc : wr.cell? ⟨w.heap.size, 1 + (2 + j), none⟩ = some (.int .u32 (x : Int)) := by
        rw [hbk.cell, show 1 + (2 + j) = (2 + j) + 1 by omega]
        exact (List.getElem?_cons_succ ..).trans (by unfold cs32; rw [List.getElem?_map, hx1]; rfl)
      have htake : Hid ((s :: tq).take (j + 1 + 1) = (s :: tq).take (j + 1) ++ [x]) := Lib.hid (by
        have h1 : j + 1 < (s :: tq).length := by have := HLT.out; simp; omega
        rw [List.take_succ_eq_append_getElem h1]
        congr 2
        have : (s :: tq)[j + 1]? = some x := by simpa using hx2
        rw [List.getElem?_eq_getElem h1] at this
        exact Option.some.inj this)
      have hsm := HSM.out (j + 1)
      have HOWN3 := Lib.hid hown
      have HBK := Lib.hid hbk
      have HBEL := Lib.hid hbel
      clear hown hbk hbel hx1 hx2
      obtain ⟨j2, hj2⟩ : ∃ j2, 2 + j = j2 := ⟨_, rfl⟩
      rw [hj2] at hxc ⊢
      have hj3 : j2 < 16 := by omega
      have hj4 : (j2 : Int) < ((q + 2 : Nat) : Int) := by omega
      have hj5 : j2 < q + 2 := by omega
      have HJ2 := Lib.hid hj2
      clear hj2
      go_wp2_with fail
      refine (rgroups_any x _ hx32).mono ?_
      rintro e w4 ⟨v4, rfl, hown4, hb4⟩
      obtain ⟨A4, c4, rfl, hrd4, _, _⟩ := own_rd hown4
      obtain ⟨v5, w5, hrun, hown5, hb5⟩ := app8 (xs := ((s :: tq).take (j + 1)).flatMap ocs) (ys := ocs x) (c := c4) (own_below HOWN3.out hb4) hrd4 (Nat.le_trans (show w.heap.size + 1 ≤ wr.heap.size from HBK.out.lt) hb4.size) (by have := ocs_len hx32; omega)
      have HOWN5 := Lib.hid hown5
      have HBE5 := Lib.hid ((HBEL.out.trans (hb4.mono HBEL.out.size)).trans (hb5.mono (Nat.le_succ _)))
      have HBK5 := Lib.hid ((HBK.out.below hb4 HBK.out.lt).below hb5 (Nat.lt_succ_self _))
      clear hown4 hb4 hrd4 hown5 hb5 cn hxc hsm
      go_wp2_with (at_builtin; refine wpList_app rfl _ _ _ _ rfl _ _ rfl rfl hrun ?_)
      have := HJ2.out
      exact ⟨⟨j + 1, by omega, by congr 1; omega, by rw [htake.out, List.flatMap_append, List.flatMap_singleton]; exact HOWN5.out, HBK5.out, HBE5.out⟩, by simp [intOf]; omega⟩
    · obtain rfl : j = q := by omega
      have htk : (s :: tq).take (j + 1) = s :: tq := List.take_of_length_le (by have := HLT.out; simp; omega)
      rw [htk] at hown
      have HOWN3 := Lib.hid (hown.mono (Nat.le_succ _))
      have HBEL := Lib.hid hbel
      clear hown hbel hbk
      go_wp2_with fail
      go_ret
      exact ⟨_, rfl, HOWN3.out, HBEL.out⟩
end Go.Proofs.YtmofpdilnapjiaaDoor
