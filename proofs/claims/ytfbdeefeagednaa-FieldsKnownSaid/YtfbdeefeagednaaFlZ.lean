/-
  Layer 12: the law's build, walked.
  Conditions: none beyond that the codes are bytes.
-/
import Derived.Test.YtfbdeefeagednaaFlY
namespace Go.Proofs.Ytfbdeefeagednaa.Fl
open Go.RowKit

/-- What build gives. -/
def GiveBd (w : World) (es : List El) (a : Nat) (e : Ending) (w' : World) : Prop :=
  ∃ v cs S, e = .returned (.tuple #[v, .int .i64 (a : Int)]) ∧ Pl w.heap.size S es cs v w' ∧ Below w.heap.size w w'
theorem pl_nil (w : World) (B : Nat) (hB : B ≤ w.heap.size) : Pl B (fun _ => False) [] [] (.slice none 0 0) w :=
  ⟨fun _ h => h.elim, fun _ h => h.elim, fun _ h => h.elim, World.ownsRow_nil _ _ _ _, rfl, hB⟩
theorem prim_ways {x c n : Nat} (hx : x < 256) (h : tagN x = (c, n, false)) : (c = 0 ∧ n = 1 ∧ bytN x = [255]) ∨ (c = 0 ∧ n = 2 ∧ bytN x = [x / 8]) ∨ ((c = 2 ∨ (c = 0 ∧ n = 4)) ∧ bytN x = List.replicate (x * (x / 64)) 0) := by
  have h9 : ∀ y : Fin 256, (tagN y.1).2.2 = false → ((tagN y.1).1 = 0 ∧ (tagN y.1).2.1 = 1 ∧ bytN y.1 = [255]) ∨ ((tagN y.1).1 = 0 ∧ (tagN y.1).2.1 = 2 ∧ bytN y.1 = [y.1 / 8]) ∨ (((tagN y.1).1 = 2 ∨ ((tagN y.1).1 = 0 ∧ (tagN y.1).2.1 = 4)) ∧ bytN y.1 = List.replicate (y.1 * (y.1 / 64)) 0) := by decide +kernel
  have := h9 ⟨x, hx⟩ (by rw [h])
  rw [h] at this
  exact this
/-- A pile as the Subs of an element. -/
theorem Pl.subs {B : Nat} {S : Nat → Prop} {es : List El} {cs : List Value} {v : Value} {w : World} (h : Pl B S es cs v w) : ∃ A c, v = .slice A es.length c ∧ es.length ≤ c ∧ c ≤ maxLen ∧ RdS false (fun j => B ≤ j ∧ j < w.heap.size) w A es := by
  obtain ⟨A, c, hv, h1, h2, h3⟩ := h.form
  refine ⟨A, c, hv, h1, h2, ?_⟩
  rcases h3 with ⟨rfl, _, rfl⟩ | ⟨g, rfl, hg, hB, hlt, hc⟩
  · trivial
  · exact RowE.rds hlt ⟨hB, hlt⟩ (fun i hi => ⟨h.sb i hi, h.sl i hi⟩) h.row (fun j u hu => by rw [Nat.zero_add]; exact hc j u hu)
/-- Zeros that are made. -/
theorem make_bytes (n : Nat) (hn : n ≤ 2000000) (W : World) : (Instr.makeSlice 26 (.int .i64 (n : Int)) (.int .i64 (n : Int))).run Try.prog W = .ok (.slice (some ⟨W.heap.size, 0, none⟩) n n) (W.alloc (.cells (cs8 (List.replicate n 0)).toArray 5)) := by
  obtain ⟨i, hi, hz0, hz1, hz2⟩ := info_parts info5
  have h := run_make (P := Try.prog) W 26 5 i (.int .u8 0) Try.underlying26 hi hz0 .i64 .i64 (n : Int) (n : Int) (by omega) (Int.le_refl _) (by rw [hz2]; omega) (by omega)
  rw [h, hz1, Int.toNat_natCast, Nat.mul_one, show (Value.int IntKind.u8 0).cells = #[Value.int IntKind.u8 0] from rfl, made_one, show cs8 (List.replicate n 0) = List.replicate n (.int .u8 0) by (simp only [cs8, List.map_replicate]; rfl)]
/-- The heap after a primitive element has got its content. -/
theorem prim_heap {wr w3 : World} {E tc tn cc : Nat} {bs : List Nat} {sv : Value} (k : Bk w3 E 29 [.int .u8 (tc : Int), .bool false, .int .u32 (tn : Int), .slice none 0 0, .slice none 0 0]) (hz : w3.heap.size = E + 1) (hr : wr.heap.size ≤ E) (hb : Below wr.heap.size wr w3)
    (h3 : tc < 256) (hn : tn < 4294967296) (h8 : ∀ y ∈ bs, y < 256) (hcc : cc = bs.length) (hm : bs.length ≤ maxLen) (hsv : sv = .slice (some ⟨E + 1, 0, none⟩) bs.length cc) :
    ∃ w5, (w3.setCell ⟨E, 3, none⟩ sv).alloc (.cells (cs8 bs).toArray 5) = w5 ∧
      Bk w5 E 29 [.int .u8 (tc : Int), .bool false, .int .u32 (tn : Int), sv, .slice none 0 0] ∧ Below wr.heap.size wr w5 ∧
      RdE false (fun j => wr.heap.size ≤ j ∧ j < w5.heap.size) w5 (.mk tc tn false bs []) (elV tc tn false sv (.slice none 0 0)) := by
  subst hsv hcc
  obtain ⟨w4, hw4⟩ : ∃ v, w3.setCell ⟨E, 3, none⟩ (.slice (some ⟨E + 1, 0, none⟩) bs.length bs.length) = v := ⟨_, rfl⟩
  have k4 : Bk w4 E 29 [.int .u8 (tc : Int), .bool false, .int .u32 (tn : Int), .slice (some ⟨E + 1, 0, none⟩) bs.length bs.length, .slice none 0 0] := by rw [← hw4]; exact k.store 3 _
  have z4 : w4.heap.size = E + 1 := by rw [← hw4, World.size_setCell, hz]
  have b4 : Below wr.heap.size wr w4 := by rw [← hw4]; exact hb.setCell (p := ⟨E, 3, none⟩) hr _
  obtain ⟨w5, hw5⟩ : ∃ v, w4.alloc (.cells (cs8 bs).toArray 5) = v := ⟨_, rfl⟩
  have hb5 : Below w4.heap.size w4 w5 := by rw [← hw5]; exact bel1 _ _
  have kb : Bk w5 (E + 1) 5 (cs8 bs) := by rw [← hw5, ← z4]; exact Bk.new w4 _ (cs8 bs)
  have k5 := kt (Lib.hid k4) (Lib.hid hb5)
  rw [hw4]
  refine ⟨w5, hw5, k5.out, b4.trans (hb5.mono b4.size), h3, hn, h8, some ⟨E + 1, 0, none⟩, bs.length, none, 0, rfl, fun _ => ⟨E + 1, 0, rfl, kb.lt, ⟨by omega, kb.lt⟩, fun j u hu => ?_⟩, Nat.le_refl _, hm, Nat.le_refl _, Nat.zero_le _, fun h => (by cases h), trivial⟩
  rw [Nat.zero_add, kb.cell]; exact hu
/-- The heap after a constructed element has got its content. -/
theorem con_heap {wr w3 w4 : World} {E tc tn cb : Nat} {B : Option Addr} {ss : List El} (k : Bk w3 E 29 [.int .u8 (tc : Int), .bool true, .int .u32 (tn : Int), .slice none 0 0, .slice none 0 0]) (hr : wr.heap.size ≤ E) (hb : Below wr.heap.size wr w3) (hb4 : Below w3.heap.size w3 w4)
    (h3 : tc < 256) (hn : tn < 4294967296) (hs : RdS false (fun j => w3.heap.size ≤ j ∧ j < w4.heap.size) w4 B ss) (hl : ss.length ≤ cb) (hc : cb ≤ maxLen) :
    ∃ w5, w4.setCell ⟨E, 4, none⟩ (.slice B ss.length cb) = w5 ∧
      Bk w5 E 29 [.int .u8 (tc : Int), .bool true, .int .u32 (tn : Int), .slice none 0 0, .slice B ss.length cb] ∧ Below wr.heap.size wr w5 ∧
      RdE false (fun j => wr.heap.size ≤ j ∧ j < w5.heap.size) w5 (.mk tc tn true [] ss) (elV tc tn true (.slice none 0 0) (.slice B ss.length cb)) := by
  have k4 := k.below hb4 k.lt
  have hlt := k.lt
  have hz : w4.heap.size = (w4.setCell ⟨E, 4, none⟩ (.slice B ss.length cb)).heap.size := by rw [World.size_setCell]
  refine ⟨_, rfl, k4.store 4 _, (hb.trans (hb4.mono hb.size)).setCell (p := ⟨E, 4, none⟩) hr _, h3, hn, fun y hy => by simp at hy, none, 0, B, cb, rfl, RdX.nil, Nat.le_refl _, by unfold maxLen; omega, hl, hc, fun h => (by cases h), ?_⟩
  refine RdS.keep (Nat.le_of_eq hz) (fun j hj _ => ?_) (fun j hj _ => ⟨Nat.le_trans hb.size hj.1, by rw [← hz]; exact hj.2⟩) _ _ hs
  exact Below.heap_setCell _ _ _ _ (by show j ≠ E; omega)
set_option linter.unusedSimpArgs false in
set_option maxHeartbeats 4000000 in
set_option maxRecDepth 100000 in
theorem build_any (code : List Nat) (A : Option Addr) (n c : Nat) (hn : code.length = n) (hnm : n ≤ maxLen) : ∀ (F a lv : Nat) (w : World), 41 ≤ a + F → a ≤ 40 → 1 ≤ lv → lv ≤ 5 → Rb w A code → ∀ es a', bldL code F a lv = (es, a') →
    Calls Try.prog 67 #[.slice A n c, .int .i64 (a : Int), .int .i64 (lv : Int)] w (GiveBd w es a') := by
  intro F
  induction F using Nat.strongRecOn with
  | _ F ih =>
  intro a lv w hF ha hl1 hl5 hA es a' hR
  have HIH := Lib.hid ih
  have HA := Lib.hid hA
  have HR := Lib.hid hR
  have HN := Lib.hid hn
  have hnn : n ≤ 9223372036854775807 := by unfold maxLen at hnm; omega
  clear ih hA hR hn
  go_enter Try.func67, Try.ntmps67
  go_wp2_with fail
  go_loopw [1, 8, 9, 10] (fun ai o _ _ wr => ∃ (q f : Nat) (pre : List El) (S : Nat → Prop) (cs : List Value), ai = .int .i64 (q : Int) ∧ q ≤ 40 ∧ 41 ≤ q + f ∧ f ≤ F ∧ pre.length ≤ q ∧ pre ++ (bldL code f q lv).1 = es ∧ (bldL code f q lv).2 = a' ∧ Pl w.heap.size S pre cs o wr ∧ Below w.heap.size w wr) (fun ai _ _ _ _ => 41 - (intOf ai).toNat)
  case atStart => exact ⟨a, F, [], _, _, rfl, ha, hF, Nat.le_refl _, Nat.zero_le _, by rw [HR.out]; rfl, by rw [HR.out], pl_nil w _ (Nat.le_refl _), Below.refl _ _⟩
  case round =>
    obtain ⟨q, f, pre, S, cs, rfl, hq, hf, hfF, hpl, hes, haa, hP, hbl⟩ := hrel
    have PP := Lib.hid hP
    have BB := Lib.hid hbl
    have HES := Lib.hid hes
    have HAA := Lib.hid haa
    have HPL := Lib.hid hpl
    clear hP hbl hes haa HR hF ha hpl
    by_cases hlt : q < n ∧ q < 40
    · obtain ⟨hlt1, hlt2⟩ := hlt
      obtain ⟨f, rfl⟩ : ∃ f', f = f' + 1 := ⟨f - 1, by omega⟩
      obtain ⟨b, off, rfl, hb, hx8, hcell⟩ := (HA.out.below BB.out).at_ (k := q) (by rw [HN.out]; exact hlt1)
      obtain ⟨x, hx⟩ : ∃ x, code[q]'(by rw [HN.out]; exact hlt1) = x := ⟨_, rfl⟩
      have hgd : code.getD q 0 = x := by simp [List.getD, List.getElem?_eq_getElem (show q < code.length by rw [HN.out]; exact hlt1), hx]
      rw [hx] at hx8 hcell
      have hun := bldL.eq_2 code q lv f
      rw [if_pos ⟨by rw [HN.out]; exact hlt1, hlt2⟩, hgd] at hun
      rw [hun] at HES HAA
      have hm : (x : Int).tmod 16 = ((x % 16 : Nat) : Int) := (Int.ofNat_tmod x 16).symm
      obtain ⟨r, hr⟩ : ∃ r, x % 16 = r := ⟨_, rfl⟩
      rw [hr] at hm HES HAA
      have hm2 : (x : Int) % 16 = (r : Int) := by omega
      obtain ⟨q1, hq1e⟩ : ∃ q1, q + 1 = q1 := ⟨_, rfl⟩
      rw [hq1e] at HES HAA
      have hqq : (q : Int) + 1 = (q1 : Int) := by omega
      have hq41 : q1 ≤ 41 := by omega
      have HQ1 := Lib.hid hq1e
      have t40 : decide ((q : Int) < 40) = true := by simp; omega
      have HQ := Lib.hid hlt2
      have HX8 := Lib.hid hx8
      have HF := Lib.hid (And.intro hf hfF)
      clear hun hgd hx hr hq1e hq hf hfF hlt2 hx8
      by_cases h15 : r = 15
      · subst h15
        rw [if_pos rfl] at HES HAA
        have HES2 : Hid (pre = es) := Lib.hid (by have := HES.out; simpa using this)
        have HAA2 : q1 = a' := HAA.out
        subst HAA2
        rw [show ((15 : Nat) : Int) = 15 from rfl] at hm hm2
        clear HES HAA hl1 hl5
        go_wp2_with fail
        go_ret2
        rw [← HES2.out]
        exact ⟨u8, cs, S, rfl, PP.out, BB.out⟩
      · rw [if_neg h15] at HES HAA
        have hr15 : ((r : Int) == 15) = false := by simp; omega
        have htl := tagN_lt HX8.out
        obtain ⟨tc, hT⟩ : ∃ tc, tagN x = tc := ⟨_, rfl⟩
        obtain ⟨tc, tn, tk⟩ := tc
        rw [hT] at HES HAA htl
        dsimp only at htl
        have HTL := Lib.hid htl
        have HTG := Lib.hid fun W => tag_any x tc tn tk W HX8.out hT
        have HT := Lib.hid hT
        clear htl hT h15
        go_wp2_with fail
        refine (HTG.out _).mono ?_
        rintro e w2 ⟨rfl, hb2⟩
        go_upto_region 8 with fail
        obtain ⟨E, hE⟩ : ∃ E, w2.heap.size = E := ⟨_, rfl⟩
        obtain ⟨w3, hw3⟩ : ∃ v, w2.alloc (.cells #[.int .u8 (tc : Int), .bool tk, .int .u32 (tn : Int), .slice none 0 0, .slice none 0 0] 29) = v := ⟨_, rfl⟩
        have hb3 : Below w2.heap.size w2 w3 := by rw [← hw3]; exact bel1 _ _
        have K3 := Lib.hid (show Bk w3 E 29 [.int .u8 (tc : Int), .bool tk, .int .u32 (tn : Int), .slice none 0 0, .slice none 0 0] by rw [← hw3, ← hE]; exact Bk.new w2 _ [_, _, _, _, _])
        have HE3 : Hid (w3.heap.size = E + 1) := Lib.hid (by rw [← hw3, World.size_alloc, hE])
        have HER : Hid (wr.heap.size ≤ E) := Lib.hid (by rw [← hE]; exact hb2.size)
        have B13 := bt (Lib.hid hb2) (Lib.hid hb3)
        rw [hw3, hE]
        clear hb2 hb3 hw3 hE
        by_cases hk5 : tk = true ∧ lv = 5
        · obtain ⟨rfl, hl⟩ := hk5
          obtain ⟨e0, e1, e2, e3, e4, ez⟩ := K3.out.five
          have HES2 : Hid (pre ++ (bldL code f q1 lv).1 = es) := Lib.hid (by have := HES.out; simpa [hl] using this)
          have HAA2 : Hid ((bldL code f q1 lv).2 = a') := Lib.hid (by have := HAA.out; simpa [hl] using this)
          have tl : ((lv : Int) == 5) = true := by simp; omega
          have P3 := Lib.hid (PP.out.below B13.out)
          have B3 := bt BB B13
          clear HES HAA PP
          go_wp2_with fail
          exact ⟨⟨q1, f, pre, S, cs, rfl, by have := HQ1.out; have := HQ.out; omega, by have := HF.out.1; have := HQ1.out; omega, by have := HF.out.2; omega, by have := HPL.out; have := HQ1.out; omega, HES2.out, HAA2.out, P3.out, B3.out⟩, by have := HQ1.out; simp [intOf]; omega⟩
        · obtain ⟨e0, e1, e2, e3, e4, ez⟩ := K3.out.five
          go_upto_if 35 with fail
          clear e0 e1 e2 e3 e4 ez
          go_cut [1] (fun z wx => ∃ (a2 : Nat) (e2 : El) (v1 v2 : Value), z = .int .i64 (a2 : Int) ∧ q < a2 ∧ a2 ≤ 40 ∧ pre ++ e2 :: (bldL code f a2 lv).1 = es ∧ (bldL code f a2 lv).2 = a' ∧ Bk wx E 29 [.int .u8 (tc : Int), .bool tk, .int .u32 (tn : Int), v1, v2] ∧ RdE false (fun j => wr.heap.size ≤ j ∧ j < wx.heap.size) wx e2 (elV tc tn tk v1 v2) ∧ Below wr.heap.size wr wx)
          case first =>
            obtain ⟨e0, e1, e2, e3, e4, ez⟩ := K3.out.five
            cases tk
            · -- primitive
              clear hk5 HIH
              obtain ⟨bs, hbs⟩ : ∃ bs, bytN x = bs := ⟨_, rfl⟩
              have hb8 := bytN_lt HX8.out
              have hpw := prim_ways HX8.out HT.out
              rw [hbs] at hb8 hpw HES
              have FIN : Hid (pre ++ El.mk tc tn false bs [] :: (bldL code f q1 lv).1 = es ∧ (bldL code f q1 lv).2 = a') := Lib.hid ⟨by have := HES.out; simpa using this, by have := HAA.out; simpa using this⟩
              clear HES HAA
              rcases hpw with ⟨rfl, rfl, rfl⟩ | ⟨rfl, rfl, rfl⟩ | ⟨hcn, rfl⟩
              · -- [255]
                obtain ⟨w5, hw5, k5, b35, hrd⟩ := prim_heap (bs := [255]) (cc := 1) (sv := .slice (some ⟨E + 1, 0, none⟩) 1 1) K3.out HE3.out HER.out B13.out (by decide) (by decide) hb8.1 rfl (by unfold maxLen; decide) rfl
                have HALL := Lib.hid (And.intro k5 (And.intro hrd b35))
                have f3 := K3.out.free 3
                have c3 := K3.out.cell 3
                have z3 := HE3.out
                clear hbs hb8 b35 hrd k5
                go_wp2_with fail
                go_meet
                have hw6 : (w3.setCell { block := E, off := 3 } (Value.slice (some { block := E + 1, off := 0 }) 1 1)).alloc (Obj.cells #[Value.int IntKind.u8 255] 5) = w5 := hw5
                rw [hw6]
                exact ⟨q1, _, _, _, rfl, by have := HQ1.out; omega, by have := HQ1.out; have := HQ.out; omega, FIN.out.1, FIN.out.2, HALL.out⟩
              · -- [x / 8]
                have hdv : (x : Int).tdiv 8 = ((x / 8 : Nat) : Int) := (Int.ofNat_tdiv x 8).symm
                obtain ⟨w5, hw5, k5, b35, hrd⟩ := prim_heap (bs := [x / 8]) (cc := 1) (sv := .slice (some ⟨E + 1, 0, none⟩) 1 1) K3.out HE3.out HER.out B13.out (by decide) (by decide) hb8.1 rfl (by unfold maxLen; show 1 ≤ 2 ^ 63 - 1; decide) rfl
                have HALL := Lib.hid (And.intro k5 (And.intro hrd b35))
                have f3 := K3.out.free 3
                have c3 := K3.out.cell 3
                have z3 := HE3.out
                clear hbs hb8 b35 hrd k5
                go_wp2_with fail
                go_meet
                rw [show (x : Int) / 8 % 256 = ((x / 8 : Nat) : Int) by have := HX8.out; omega]
                have hw6 : (w3.setCell { block := E, off := 3 } (Value.slice (some { block := E + 1, off := 0 }) 1 1)).alloc (Obj.cells #[Value.int IntKind.u8 ((x / 8 : Nat) : Int)] 5) = w5 := hw5
                rw [hw6]
                exact ⟨q1, _, _, _, rfl, by have := HQ1.out; omega, by have := HQ1.out; have := HQ.out; omega, FIN.out.1, FIN.out.2, HALL.out⟩
              · -- zeros
                obtain ⟨m, hmm⟩ : ∃ m, x * (x / 64) = m := ⟨_, rfl⟩
                have hm765 : m ≤ 765 := by rw [← hmm]; have h1 := HX8.out; have h2 : x / 64 ≤ 3 := by omega
                                           calc x * (x / 64) ≤ 255 * 3 := Nat.mul_le_mul (by omega) h2
                                           _ = 765 := by decide
                rw [hmm] at hb8 FIN
                have hph := prim_heap (bs := (List.replicate m 0)) (cc := m) (sv := .slice (some ⟨E + 1, 0, none⟩) m m) K3.out HE3.out HER.out B13.out (by have := HTL.out.1; omega) (by have := HTL.out.2; omega) hb8.1 (by simp) (by unfold maxLen; simp; omega) (by simp)
                obtain ⟨w5, hw5, k5, b35, hrd⟩ := hph
                have HALL := Lib.hid (And.intro k5 (And.intro hrd b35))
                have f3 := K3.out.free 3
                have c3 := K3.out.cell 3
                have z3 := HE3.out
                clear hbs hb8 b35 hrd k5
                obtain ⟨ob, hob⟩ : ∃ o, Obj.cells (cs8 (List.replicate m 0)).toArray 5 = o := ⟨_, rfl⟩
                have hw1 : wrap64 (wrap64 (x : Int) * ((x : Int) / 64 % 256)) = (m : Int) := by
                  have h8 := HX8.out
                  have h1 : (x : Int) / 64 % 256 = ((x / 64 : Nat) : Int) := by omega
                  have h2 : wrap64 (x : Int) = (x : Int) := by unfold wrap64; omega
                  rw [h1, h2, ← Int.natCast_mul, hmm]
                  unfold wrap64; omega
                have hmk := make_bytes m (Nat.le_trans hm765 (by decide)) w3
                rw [hob, z3] at hmk
                rw [hob] at hw5
                have hdv : (x : Int).tdiv 64 = ((x / 64 : Nat) : Int) := (Int.ofNat_tdiv x 64).symm
                clear hob
                have g1 : ((tc : Int) == 0 && (tn : Int) == 1) = false := by rcases hcn with rfl | ⟨rfl, rfl⟩ <;> simp
                have g2 : ((tc : Int) == 0 && (tn : Int) == 2) = false := by rcases hcn with rfl | ⟨rfl, rfl⟩ <;> simp
                rcases hcn with rfl | ⟨rfl, rfl⟩
                · go_wp2_with fail
                  go_meet
                  exact ⟨q1, _, _, _, rfl, by have := HQ1.out; omega, by have := HQ1.out; have := HQ.out; omega, FIN.out.1, FIN.out.2, HALL.out⟩
                · go_wp2_with fail
                  go_meet
                  exact ⟨q1, _, _, _, rfl, by have := HQ1.out; omega, by have := HQ1.out; have := HQ.out; omega, FIN.out.1, FIN.out.2, HALL.out⟩
            · -- constructed
              have hl5' : lv ≠ 5 := fun h => hk5 ⟨rfl, h⟩
              obtain ⟨l1, hl1e⟩ : ∃ l1, lv + 1 = l1 := ⟨_, rfl⟩
              have tl : ((lv : Int) == 5) = false := by simp; omega
              obtain ⟨pr, hpr⟩ : ∃ p, bldL code f q1 l1 = p := ⟨_, rfl⟩
              obtain ⟨es2, a2⟩ := pr
              have hle := bldL_le code f q1 l1
              have hln := len_bld code f q1 l1
              rw [hpr] at hle hln
              have FIN : Hid (pre ++ El.mk tc tn true [] es2 :: (bldL code f a2 lv).1 = es ∧ (bldL code f a2 lv).2 = a') := Lib.hid ⟨by have := HES.out; rw [hl1e, hpr] at this; simpa [hl5'] using this, by have := HAA.out; rw [hl1e, hpr] at this; simpa [hl5'] using this⟩
              have hlw : (lv : Int) + 1 = (l1 : Int) := by omega
              have HLE : Hid (q < a2 ∧ a2 ≤ 40 ∧ es2.length ≤ 40) := Lib.hid ⟨by have := HQ1.out; have := hle.1; dsimp only at this; omega, by have := HQ1.out; have := HQ.out; exact hle.2 (by omega), by have := HQ1.out; have := HQ.out; have := hle.2 (by omega); dsimp only at this hln; omega⟩
              have HCALL := Lib.hid (HIH.out f (by have := HF.out.2; omega) q1 l1 w3 (by have := HF.out.1; have := HQ1.out; omega) (by have := HQ1.out; have := HQ.out; omega) (by omega) (by omega) ((HA.out.below BB.out).below B13.out) es2 a2 hpr)
              have hl18 : l1 ≤ 9 := by omega
              clear HES HAA hle hln hpr hl1e hl5' hk5 HIH
              go_wp2_with fail
              refine HCALL.out.mono ?_
              rintro e w4 ⟨v4, cs4, S4, rfl, hpl4, hb4⟩
              obtain ⟨A4, c4, rfl, hc4, hcm4, hrs4⟩ := Pl.subs hpl4
              obtain ⟨w5, hw5, k5, b35, hrd⟩ := con_heap K3.out HER.out B13.out hb4 (by have := HTL.out.1; omega) (by have := HTL.out.2; omega) hrs4 hc4 hcm4
              have HALL := Lib.hid (And.intro k5 (And.intro hrd b35))
              have K4 := kt K3 (Lib.hid hb4)
              have f3 := K4.out.free 4
              have c3 := K4.out.cell 4
              clear b35 hrd k5 hrs4 hc4 hcm4 hpl4 HCALL hb4 e0 e1 e2 e3 e4 ez
              go_wp2_with fail
              go_meet
              exact ⟨a2, _, _, _, rfl, HLE.out.1, HLE.out.2.1, FIN.out.1, FIN.out.2, HALL.out⟩
          case rest =>
            obtain ⟨a2, e2, v1, v2, rfl, hqa, ha40, hes2, haa2, hbk, hrd, hbl⟩ := hcut
            have HU := Lib.hid hrd
            have HB5 := Lib.hid hbl
            have K5 := Lib.hid hbk
            have HA2 := Lib.hid (And.intro hqa ha40)
            have FIN : Hid ((pre ++ [e2]) ++ (bldL code f a2 lv).1 = es ∧ (bldL code f a2 lv).2 = a') := Lib.hid ⟨by rw [← hes2]; simp, haa2⟩
            clear hqa ha40 hes2 haa2 hbk hrd hbl HES HAA hk5 HIH K3
            obtain ⟨e0, e1, e2', e3, e4, ez⟩ := K5.out.five
            obtain ⟨ga, cap, S9, cs9, w6, hrun, hP6, hb6⟩ := PP.out.push (by have := HPL.out; have := HQ.out; omega) HB5.out HU.out
            have P6 := Lib.hid hP6
            have B6 := Lib.hid ((BB.out.trans (HB5.out.mono BB.out.size)).trans hb6)
            obtain ⟨pl, hpl⟩ : ∃ pl, pre.length = pl := ⟨_, rfl⟩
            rw [hpl] at P6 HPL hrun
            have HPLE := Lib.hid hpl
            clear hP6 hb6 hpl
            simp only [elV, Value.cells] at hrun
            go_wp2_with (refine wpList_app (o := ⟨some 84, _, _, _, _, _⟩) rfl (.tmp 81) (.tmp 83) _ _ rfl _ _ rfl rfl hrun ?_)
            exact ⟨⟨a2, f, pre ++ [e2], S9, cs9, rfl, HA2.out.2, by have := HF.out.1; have := HA2.out.1; omega, by have := HF.out.2; omega, by rw [List.length_append, HPLE.out]; have := HPL.out; have := HA2.out.1; simp; omega, FIN.out.1, FIN.out.2, by have := P6.out; rw [← HPLE.out] at this; rw [← HPLE.out]; exact this, B6.out⟩, by have := HA2.out.1; have := HA2.out.2; have := HQ.out; simp [intOf]; omega⟩
    · have h0 := bldL_no (code := code) (f := f) (a := q) (lv := lv) (by rw [HN.out]; exact hlt)
      rw [h0] at HES HAA
      have HES2 : Hid (pre = es) := Lib.hid (by have := HES.out; simpa using this)
      have HAA2 : Hid (q = a') := Lib.hid HAA.out
      have hqa : q = a' := HAA2.out
      subst hqa
      clear HES HAA h0
      by_cases h1 : q < n
      · have t40 : decide ((q : Int) < 40) = false := by simp; omega
        go_wp2_with fail
        go_ret2
        rw [← HES2.out]
        exact ⟨u8, cs, S, rfl, PP.out, BB.out⟩
      · go_wp2_with fail
        go_ret2
        rw [← HES2.out]
        exact ⟨u8, cs, S, rfl, PP.out, BB.out⟩
end Go.Proofs.Ytfbdeefeagednaa.Fl
