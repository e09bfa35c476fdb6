/-
  The reference of layer 4: Put.
  Conditions: the element is valid, its encoding no longer than a program bears.
-/
import Derived.Test.YtgdjgahmnnjeeaaElS
import Derived.Test.YtgdjgahmnnjeeaaTagT
import Derived.Test.YtgdjgahmnnjeeaaLenG0
namespace Go.Proofs.Ytgdjgahmnnjeeaa
open Go.RowKit

theorem own_empty8 (w : World) : (w.alloc (.cells #[] 5)).ownsRow w.heap.size 5 1 (.slice (some ⟨w.heap.size, 0, none⟩) 0 0) ([] : List Value).length [] :=
  ⟨rfl, .inr ⟨w.heap.size, 0, #[], rfl, Nat.le_refl _, heap_alloc_new w _, Nat.le_refl _, by unfold maxLen; omega, rfl, rfl⟩⟩
/-- A slice is returned that lies in a block which was not there, as the first of what lies in it. -/
def GiveO (w : World) (l : List Nat) (e : Ending) (w' : World) : Prop :=
  ∃ v, e = .returned v ∧ w'.ownsRow w.heap.size 5 1 v (cs8 l).length (cs8 l) ∧ All8 l ∧ Below w.heap.size w w'
theorem app_lit_own {w w1 : World} {o : Obj} {x : Nat} (hb : Below ((w.alloc o).alloc (.cells #[.int .u8 (x : Int)] 5)).heap.size ((w.alloc o).alloc (.cells #[.int .u8 (x : Int)] 5)) w1) {A : Option Addr} {out : List Nat} {c : Nat} (h : Rb w1 A out) (hl : out.length ≤ 1000) (hx : x < 256) :
    ∃ v2 w2, (Builtin.append_ #[26, 26] 26 #[.slice (some ⟨w.heap.size + 1, 0, none⟩) 1 1, .slice A out.length c]).run Try.prog w1 = .ok v2 w2 ∧ w2.ownsRow w.heap.size 5 1 v2 (cs8 (x :: out)).length (cs8 (x :: out)) ∧ All8 (x :: out) ∧ Below w.heap.size w w2 := by
  have h0 : ((w.alloc o).alloc (.cells #[.int .u8 (x : Int)] 5)).heap[w.heap.size + 1]? = some (.cells #[.int .u8 (x : Int)] 5 (0, 0)) := by
    have := heap_alloc_new (w.alloc o) (.cells #[.int .u8 (x : Int)] 5)
    rwa [World.size_alloc] at this
  have h1 : w1.heap[w.heap.size + 1]? = some (.cells #[.int .u8 (x : Int)] 5 (0, 0)) := (hb.block (w.heap.size + 1) (by simp)).trans h0
  have hz := hb.size
  simp only [World.size_alloc] at hz
  have hown : w1.ownsRow w.heap.size 5 1 (.slice (some ⟨w.heap.size + 1, 0, none⟩) 1 1) [Value.int .u8 (x : Int)].length [Value.int .u8 (x : Int)] :=
    ⟨rfl, .inr ⟨w.heap.size + 1, 1, #[.int .u8 (x : Int)], rfl, by omega, h1, Nat.le_refl _, by unfold maxLen; omega, rfl, rfl⟩⟩
  obtain ⟨v', w2, hrun, hown2, hb3⟩ := app_src (P := Try.prog) (ty := 26) Try.underlying26 info5 rfl hown (c := c) h.1 (cs8_ones out) (by omega) (by rw [cs8_length, List.length_singleton]; omega) (by rw [cs8_length, List.length_singleton]; unfold maxLen; omega)
  rw [cs8_length] at hrun
  have hB : Below w.heap.size w w1 := (((Below.refl w.heap.size w).alloc (Nat.le_refl _) _).alloc (by simp) _).trans (hb.mono (by simp; omega))
  exact ⟨v', w2, hrun, hown2, All8.cons hx h.2, hB.trans hb3⟩
theorem lit_own {w : World} {o : Obj} {x : Nat} : ((w.alloc o).alloc (.cells #[.int .u8 (x : Int)] 5)).ownsRow w.heap.size 5 1 (.slice (some ⟨w.heap.size + 1, 0, none⟩) 1 1) (cs8 [x]).length (cs8 [x]) := by
  have h0 : ((w.alloc o).alloc (.cells #[.int .u8 (x : Int)] 5)).heap[w.heap.size + 1]? = some (.cells #[.int .u8 (x : Int)] 5 (0, 0)) := by
    have := heap_alloc_new (w.alloc o) (.cells #[.int .u8 (x : Int)] 5)
    rwa [World.size_alloc] at this
  exact ⟨rfl, .inr ⟨w.heap.size + 1, 1, #[.int .u8 (x : Int)], rfl, by omega, h0, Nat.le_refl _, by unfold maxLen; omega, rfl, rfl⟩⟩
set_option maxRecDepth 100000 in
set_option maxHeartbeats 1000000 in
theorem rputo_any (c n : Nat) (k : Bool) (w : World) (hc : c < 256) (hn : n < 4294967296) (h : chk c n k = 0) :
    Calls Try.prog 43 #[tagV c n k] w (GiveO w (putL c n k)) := by
  have hc3 := (chk_zero h).1
  have h28 := (chk_zero h).2
  have hl := hd_le c k hc3
  clear h
  by_cases h31 : n < 31
  · have HP := Lib.hid (show putL c n k = [hd c k + n] from if_pos h31)
    obtain ⟨E, hE⟩ : ∃ E, hd c k + n = E := ⟨_, rfl⟩
    have hEl : E < 256 := by omega
    have hE1 : ((if k = true then (64 * (c : Int) + 32) else 64 * (c : Int)) + (n : Int)) = (E : Int) := by rw [← hE]; unfold hd; cases k <;> simp <;> omega
    have HE := Lib.hid hE
    clear hE hl
    cases k
    · rw [if_neg (by simp)] at hE1
      go_enter Try.func43, Try.ntmps43
      go_wp2_with fail
      go_ret
      rw [HP.out, HE.out]
      exact ⟨_, rfl, lit_own, by intro y hy; simp at hy; omega, ((Below.refl _ _).alloc (Nat.le_refl _) _).alloc (by simp) _⟩
    · rw [if_pos rfl] at hE1
      go_enter Try.func43, Try.ntmps43
      go_wp2_with fail
      go_ret
      rw [HP.out, HE.out]
      exact ⟨_, rfl, lit_own, by intro y hy; simp at hy; omega, ((Below.refl _ _).alloc (Nat.le_refl _) _).alloc (by simp) _⟩
  · have HP := Lib.hid (show putL c n k = (hd c k + 31) :: gl n from if_neg h31)
    have hgl := gl_le h28
    obtain ⟨E, hE⟩ : ∃ E, hd c k + 31 = E := ⟨_, rfl⟩
    have hEl : E < 256 := by omega
    have hE1 : ((if k = true then (64 * (c : Int) + 32) else 64 * (c : Int)) + 31) = (E : Int) := by rw [← hE]; unfold hd; cases k <;> simp <;> omega
    have HE := Lib.hid hE
    clear hE hl
    cases k
    · rw [if_neg (by simp)] at hE1
      go_enter Try.func43, Try.ntmps43
      go_wp2_with fail
      refine (rgroups_any n _ h28).mono ?_
      rintro e w1 ⟨A, c1, rfl, r1, _, _, hb1⟩
      obtain ⟨v2, w2, hrun, hr2, h8, hb2⟩ := app_lit_own hb1 r1 (c := c1) (by omega) hEl
      have HH := Lib.hid hr2
      have H8 := Lib.hid h8
      have HB2 := Lib.hid hb2
      clear hr2 h8 hb2 hb1 r1
      go_wp2_with (at_builtin; refine wpList_app rfl _ _ _ _ rfl _ _ rfl rfl hrun ?_)
      go_ret
      rw [HP.out, HE.out]
      exact ⟨v2, rfl, HH.out, H8.out, HB2.out⟩
    · rw [if_pos rfl] at hE1
      go_enter Try.func43, Try.ntmps43
      go_wp2_with fail
      refine (rgroups_any n _ h28).mono ?_
      rintro e w1 ⟨A, c1, rfl, r1, _, _, hb1⟩
      obtain ⟨v2, w2, hrun, hr2, h8, hb2⟩ := app_lit_own hb1 r1 (c := c1) (by omega) hEl
      have HH := Lib.hid hr2
      have H8 := Lib.hid h8
      have HB2 := Lib.hid hb2
      clear hr2 h8 hb2 hb1 r1
      go_wp2_with (at_builtin; refine wpList_app rfl _ _ _ _ rfl _ _ rfl rfl hrun ?_)
      go_ret
      rw [HP.out, HE.out]
      exact ⟨v2, rfl, HH.out, H8.out, HB2.out⟩


/-- What the loop of Put keeps. -/
def RputR (W : World) (B : Nat) (bs : List Nat) (ss : List El) (p : Nat) (v : Value) (wr : World) : Prop :=
  wr.ownsRow B 5 1 v (cs8 (bs ++ encS (ss.take p))).length (cs8 (bs ++ encS (ss.take p))) ∧ All8 (bs ++ encS (ss.take p)) ∧ Below B W wr
set_option maxHeartbeats 4000000 in
set_option maxRecDepth 100000 in
theorem rputE_any {x : Bool} {S : Nat → Prop} (e : El) : ∀ (v : Value) (w : World), RdE x S w e v → valE e → (encE e).length ≤ 16000000 →
    Calls Try.prog 17 #[v] w (GiveB w (encE e)) := by
  refine El.ind (P := fun e => ∀ (v : Value) (w : World), RdE x S w e v → valE e → (encE e).length ≤ 16000000 →
    Calls Try.prog 17 #[v] w (GiveB w (encE e))) ?_ e
  clear e
  intro c n k bs ss ih v w h hv hl
  obtain ⟨h1, h2, h3, A, ca, B, cb, rfl, h5, h6, h7, h8, h9, h10, h11⟩ := h
  have hlen : ss.length ≤ 9223372036854775807 := by unfold maxLen at h9; omega
  rw [valE] at hv
  have hel := encE_len (c := c) (n := n) (k := k) (bs := bs) (ss := ss)
  have hll : bs.length + (encS ss).length ≤ 16000000 := by simp only [conL] at hel; omega
  obtain ⟨W1, hW1⟩ : ∃ W1, w.alloc (.cells #[.int .u8 (c : Int), .bool k, .int .u32 (n : Int), .slice A bs.length ca, .slice B ss.length cb] 29) = W1 := ⟨_, rfl⟩
  have hb1 : Below w.heap.size w W1 := by rw [← hW1]; exact bel1 w _
  have z1 : W1.heap.size = w.heap.size + 1 := by rw [← hW1]; simp
  have k1 : Bk W1 w.heap.size 29 [.int .u8 (c : Int), .bool k, .int .u32 (n : Int), .slice A bs.length ca, .slice B ss.length cb] := by rw [← hW1]; exact Bk.new w _ [_, _, _, _, _]
  have hb1' : Below W1.heap.size W1 (W1.alloc (.cells #[] 5)) := bel1 _ _
  obtain ⟨v3, W3, hrun3, hown3, hb3⟩ := app_src (P := Try.prog) (ty := 26) Try.underlying26 info5 rfl (own_empty8 W1) (c := ca) ((h5.rd.below hb1).below hb1') (cs8_ones bs) hb1'.size (by rw [cs8_length, List.length_nil]; omega) (by rw [cs8_length, List.length_nil]; unfold maxLen; omega)
  rw [cs8_length] at hrun3
  rw [List.nil_append] at hown3
  have hbW3 := hb1'.trans hb3
  have hk3 := k1.below hbW3 k1.lt
  have HRL := Lib.hid (show RputR W1 W1.heap.size bs ss 0 v3 W3 from ⟨by simpa [encS] using hown3, by simpa [encS] using h3, hbW3⟩)
  have HRUN3 := Lib.hid hrun3
  have HB1 := Lib.hid hb1
  have HW1 := Lib.hid hW1
  have HK1 := Lib.hid k1
  have HZ1 := Lib.hid z1
  have H12 := Lib.hid (And.intro h1 h2)
  have H11 := Lib.hid h11
  have HIH := Lib.hid ih
  have HV := Lib.hid hv
  have HLL := Lib.hid hll
  have HEL := Lib.hid hl
  obtain ⟨e0, e1, e2, e3, e4, ez⟩ := k1.five
  clear h1 h2 h3 h5 h6 h7 h8 h9 h10 h11 hb1 z1 k1 hb1' hrun3 hown3 hb3 hbW3 hk3 hW1 ih hv hll hl hel
  go_enter Try.func17, Try.ntmps17
  go_upto_region 1 with fail
  rw [HW1.out]
  go_wp2_with (at_builtin; refine wpList_app rfl _ _ _ _ rfl _ _ rfl rfl HRUN3.out ?_)
  clear e0 e1 e2 e3 e4 ez
  go_loopw [4, 3] (fun i v wr => ∃ p : Nat, p ≤ ss.length ∧ i = .int .i64 (p : Int) ∧ RputR W1 W1.heap.size bs ss p v wr) (fun i _ _ => ss.length - (intOf i).toNat)
  case atStart => exact ⟨0, Nat.zero_le _, rfl, HRL.out⟩
  case round =>
    obtain ⟨p, hp, rfl, hown, h8, hbel⟩ := hrel
    have hk := HK1.out.below hbel HK1.out.lt
    obtain ⟨e0, e1, e2, e3, e4, ez⟩ := hk.five
    have hbw := HB1.out.trans (hbel.mono HB1.out.size)
    have HS := Lib.hid (H11.out.stay hbw)
    obtain ⟨acc, hacc⟩ : ∃ acc, bs ++ encS (ss.take p) = acc := ⟨_, rfl⟩
    rw [hacc] at hown h8
    have hal : acc.length ≤ 16000000 := by
      have := HLL.out
      rw [← hacc, List.length_append]
      by_cases hlt : p < ss.length
      · have := encS_part hlt
        omega
      · rw [List.take_of_length_le (by omega)]
        omega
    have HBel := Lib.hid hbel
    have HBW := Lib.hid hbw
    have HAcc := Lib.hid hacc
    have H8 := Lib.hid h8
    by_cases hlt : p < ss.length
    · obtain ⟨b, off, c', n', k', A1, l1, q1, A2, l2, q2, rfl, hb, hS, f0, f1, f2, f3, f4, hE⟩ := HS.out.fives hlt
      have hpart := encS_part hlt
      have HC := Lib.hid (HIH.out _ (List.getElem_mem hlt) _ wr hE (valS_mem HV.out.2.2.2 (List.getElem_mem hlt)) (by have := HLL.out; omega))
      have HOwn := Lib.hid hown
      have HPart := Lib.hid hpart
      clear hown hk hbel hbw h8 hacc hE hS HS hpart
      go_wp2_with fail
      refine HC.out.mono ?_
      rintro e' w4 ⟨A4, c4, rfl, r4, h41, h42, hb4⟩
      have hbel4 := HBel.out.trans (hb4.mono HBel.out.size)
      obtain ⟨v5, w5, hrun5, hown5, hb5⟩ := app_src (P := Try.prog) (ty := 26) Try.underlying26 info5 rfl (own_kept HOwn.out fun g hg => hb4.block g (HOwn.out.lt g hg).2) (c := c4) r4.1 (cs8_ones _) hbel4.size (by rw [cs8_length, cs8_length]; have := HPart.out; have := HLL.out; omega) (by rw [cs8_length, cs8_length]; have := HPart.out; have := HLL.out; unfold maxLen; omega)
      rw [cs8_length (encE ss[p])] at hrun5
      rw [cs8_cat, show acc ++ encE ss[p] = bs ++ encS (ss.take (p + 1)) from by rw [← HAcc.out, List.take_succ_eq_append_getElem hlt, encS_app, List.append_assoc]; simp [encS]] at hown5
      have HR5 := Lib.hid (show RputR W1 W1.heap.size bs ss (p + 1) v5 w5 from ⟨hown5, by
        rw [show bs ++ encS (ss.take (p + 1)) = acc ++ encE ss[p] from by rw [← HAcc.out, List.take_succ_eq_append_getElem hlt, encS_app, List.append_assoc]; simp [encS]]
        exact H8.out.append r4.2, hbel4.trans hb5⟩)
      have HRun5 := Lib.hid hrun5
      clear hrun5 hown5 hb5 hbel4 hb4 r4 h41 h42 HC e0 e1 e2 e3 e4 ez f0 f1 f2 f3 f4 hb
      go_wp2_with (at_builtin; refine wpList_app rfl _ _ _ _ rfl _ _ rfl rfl HRun5.out ?_)
      exact ⟨⟨p + 1, by omega, rfl, HR5.out⟩, by simp [intOf]; omega⟩
    · have hend : acc = bs ++ encS ss := by rw [← hacc, List.take_of_length_le (by omega)]
      have HEnd := Lib.hid hend
      obtain ⟨N, hN⟩ : ∃ N, acc.length = N := ⟨_, rfl⟩
      rw [hN] at hal
      obtain ⟨A2, c2, rfl, hr2, hc2, hc3⟩ := own_open hown
      rw [cs8_length, hN] at hown
      rw [cs8_length, hN] at hc2
      rw [cs8_length, hN]
      have HO := Lib.hid (rputo_any c n k wr H12.out.1 H12.out.2 HV.out.1)
      have HRd := Lib.hid hr2
      have HN := Lib.hid hN
      clear hown hk hbel hbw h8 hacc HS hend hN hr2
      go_wp2_with fail
      refine HO.out.mono ?_
      rintro e' w4 ⟨v4, rfl, hown4, h84, hb4⟩
      have HL := Lib.hid (Len.rput_any N w4 (by omega))
      have HOwn4 := Lib.hid hown4
      have HB4 := Lib.hid hb4
      have H84 := Lib.hid h84
      clear hown4 h84 hb4 HO
      go_wp2_with fail
      refine HL.out.mono ?_
      rintro e' w5 ⟨A5, c5, rfl, r5, h51, h52, hb5⟩
      have hb45 := HB4.out.trans (hb5.mono HB4.out.size)
      have hlpl := (lput_le (m := N) (by omega)).2
      have htl := tput_le (c := c) (k := k) (chk_zero HV.out.1).2
      obtain ⟨v6, w6, hrun6, hown6, hb6⟩ := app_src (P := Try.prog) (ty := 26) Try.underlying26 info5 rfl (own_kept HOwn4.out fun g hg => hb5.block g (HOwn4.out.lt g hg).2) (c := c5) r5.1 (cs8_ones _) hb45.size (by rw [cs8_length, cs8_length]; omega) (by rw [cs8_length, cs8_length]; unfold maxLen; omega)
      rw [cs8_length (Len.putL N)] at hrun6
      rw [cs8_cat] at hown6
      have hb46 := hb45.trans hb6
      obtain ⟨v7, w7, hrun7, hown7, hb7⟩ := app_src (P := Try.prog) (ty := 26) Try.underlying26 info5 rfl hown6 (c := c2) (HRd.out.below hb46) (cs8_ones acc) hb46.size (by rw [cs8_length, cs8_length, List.length_append, HN.out]; omega) (by rw [cs8_length, cs8_length, List.length_append, HN.out]; unfold maxLen; omega)
      rw [cs8_length acc, HN.out] at hrun7
      rw [cs8_cat] at hown7
      obtain ⟨A7, c7, rfl, hr7, hc7, hm7⟩ := own_open hown7
      have henc : (putL c n k ++ Len.putL N) ++ acc = encE (.mk c n k bs ss) := by
        have := HN.out
        rw [HEnd.out, List.length_append] at this
        rw [encE, this, ← HEnd.out, List.append_assoc]
      rw [henc, cs8_length] at hrun7 hc7
      rw [henc] at hr7
      have H7 := Lib.hid (show GiveB w (encE (.mk c n k bs ss)) (.returned (.slice A7 (encE (.mk c n k bs ss)).length c7)) w7 from ⟨A7, c7, rfl, ⟨hr7, by rw [← henc]; exact (H84.out.append r5.2).append H8.out⟩, hc7, hm7, HBW.out.trans ((hb46.trans hb7).mono HBW.out.size)⟩)
      have HRun6 := Lib.hid hrun6
      have HRun7 := Lib.hid hrun7
      clear hrun6 hrun7 hown6 hown7 hb6 hb7 hb45 hb46 hr7 hc7 hm7 henc r5 h51 h52 hb5 e0 e1 e2 e3 e4 ez
      go_wp2_with (at_builtin; first | refine wpList_app (o := ⟨some 30, _, _, _, _, _⟩) rfl _ _ _ _ rfl _ _ rfl rfl HRun6.out ?_ | refine wpList_app (o := ⟨some 32, _, _, _, _, _⟩) rfl _ _ _ _ rfl _ _ rfl rfl HRun7.out ?_)
      go_ret
      exact H7.out
end Go.Proofs.Ytgdjgahmnnjeeaa
