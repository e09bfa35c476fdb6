/-
  Appending to what the call has made, where there is room; room for an encoding.
  Conditions: none.
-/
import Derived.Test.YtgdjgahmnnjeeaaElM
import Derived.Deep.Upon
import Derived.ArgAppend
namespace Go.Proofs.Ytgdjgahmnnjeeaa
open Go.RowKit

/-- Cells that are stored one behind the other. -/
theorem Bk.puts {w : World} {g : Nat} {t : TypeId} (news : List Value) : ∀ {A R : List Value}, Bk w g t (A ++ R) → news.length ≤ R.length → Bk (w.setCells g A.length news) g t (A ++ news ++ R.drop news.length) := by
  induction news generalizing w with
  | nil => intro A R h _; simpa [World.setCells] using h
  | cons v news ih =>
    intro A R h hl
    cases R with
    | nil => simp at hl
    | cons r R =>
      have h1 := h.store A.length v
      rw [show (A ++ r :: R).set A.length v = (A ++ [v]) ++ R by rw [List.set_append_right _ _ (Nat.le_refl _)]; simp] at h1
      have h2 := ih h1 (by simpa using hl)
      rw [List.length_append, List.length_singleton] at h2
      rw [World.setCells]
      simpa using h2
theorem only_puts {a : World} {g : Nat} (news : List Value) : ∀ {w : World} (o : Nat), a.grownBy w (some g) → a.grownBy (w.setCells g o news) (some g) := by
  induction news with
  | nil => intro w o h; exact h
  | cons v news ih => intro w o h; exact ih (o + 1) (only_store h o v)

/-- 'make([]byte, 0, L)'. -/
theorem make_cap2 (L : Nat) (hL : L ≤ 2000000) (W : World) : (Instr.makeSlice 26 (.int .i64 0) (.int .i64 (L : Int))).run Try.prog W = .ok (.slice (some ⟨W.heap.size, 0, none⟩) 0 L) (W.alloc (.cells (List.replicate L (by8 0)).toArray 5)) := by
  obtain ⟨i, hi, hz0, hz1, hz2⟩ := info_parts Len.info5
  have h := run_make (P := Try.prog) W 26 5 i (.int .u8 0) Try.underlying26 hi hz0 .i64 .i64 0 (L : Int) (by omega) (by omega) (by rw [hz2]; omega) (by omega)
  rw [h, hz1, Int.toNat_natCast, Nat.mul_one, show (Value.int IntKind.u8 0).cells = #[Value.int IntKind.u8 0] from rfl, Len.made_one, Int.toNat_zero]
  rfl
theorem cs8_len (l : List Nat) : (cs8 l).length = l.length := by unfold cs8; rw [List.length_map]
theorem cs8_cat (l m : List Nat) : cs8 l ++ cs8 m = cs8 (l ++ m) := by unfold cs8; rw [List.map_append]
theorem cs8_ones (l : List Nat) : ∀ u ∈ cs8 l, u.oneCell' = true := by intro u hu; obtain ⟨n, _, rfl⟩ := List.mem_map.1 hu; rfl
/-- 'append(octets, b...)' where there is room. -/
theorem room_app {w : World} {g L : Nat} {l m : List Nat} {A : Option Addr} (hr : Len.Room w g L l) (hA : Rb w A m) (k k1 q c : Nat) (hk : l.length = k) (hq : m.length = q) (hk1 : k + q = k1) (hl : k1 ≤ L) :
    ∃ w', (Builtin.append_ #[26, 26] 26 #[.slice (some ⟨g, 0, none⟩) k L, .slice A q c]).run Try.prog w = .ok (.slice (some ⟨g, 0, none⟩) k1 L) w' ∧ Len.Room w' g L (l ++ m) ∧ w.grownBy w' (some g) := by
  subst hk hq hk1
  obtain ⟨hb, hle, h8⟩ := hr
  obtain ⟨i, hi, hz0, hz1, hz2⟩ := info_parts Len.info5
  rcases Nat.eq_zero_or_pos m.length with h0 | h0
  · obtain rfl := List.eq_nil_of_length_eq_zero h0
    refine ⟨w, ?_, by rw [List.append_nil]; exact ⟨hb, hle, h8⟩, only_refl _ _⟩
    have hs : Src Try.prog i.size 26 (.slice A 0 c) 0 [] w := by
      cases A with
      | none => exact Src.ofNil (e' := 5) w Try.underlying26 c
      | some a => exact Src.ofSlice (e' := 5) w Try.underlying26 a 0 c [] (by simp) (fun j u hu => by simp at hu) (fun u hu => by simp at hu)
    exact run_append_nothing (P := Try.prog) w 26 26 26 5 i Try.underlying26 hi (some ⟨g, 0, none⟩) l.length L hle (.slice A 0 c) hs
  · obtain ⟨b, off, rfl, hbz, hc⟩ := hA.1.all_ (by rw [cs8_len]; exact h0)
    have hsz : (cs8 l ++ List.replicate (L - l.length) (by8 0)).length = L := by simp [cs8_len]; omega
    have h := run_append_room_cells (P := Try.prog) (w := w) 26 26 5 i Try.underlying26 hi g 0 l.length L ⟨b, off, none⟩ m.length c (cs8 m) (by rw [hz1, cs8_len, Nat.mul_one])
        (fun j u hj => by
          obtain ⟨hj1, rfl⟩ := List.getElem?_eq_some_iff.1 hj
          rw [addr_add]; exact hc j hj1) (cs8_ones m) (by omega)
        (fun j hj => by
          rw [cs8_len] at hj
          rw [hb.cell, List.getElem?_eq_getElem (by rw [hsz, hz1]; omega)]; rfl)
        (fun j _ => hb.free _)
    rw [hz1, Nat.zero_add, Nat.mul_one] at h
    refine ⟨_, h, ⟨?_, by rw [List.length_append]; omega, h8.append hA.2⟩, only_puts _ _ (only_refl _ _)⟩
    have hp := hb.puts (cs8 m) (by rw [cs8_len, List.length_replicate]; omega)
    rw [cs8_len, cs8_cat, cs8_len, List.drop_replicate] at hp
    rw [List.length_append, ← Nat.sub_sub]
    exact hp

theorem rd_kp {T : Nat → Prop} {w w' : World} {A : Option Addr} {xs : List Value} (h : Rd w A xs) (hk : Kp T w w') (hA : ∀ p, A = some p → xs ≠ [] → ¬ T p.block) : Rd w' A xs := fun hn => by
  obtain ⟨b, off, e, hb, hc⟩ := h hn
  exact ⟨b, off, e, Nat.lt_of_lt_of_le hb hk.size, fun j u hu => (World.cell?_of_block (w := w) (hk.block b hb (hA _ e hn))).trans (hc j u hu)⟩
/-- What Put does at an element. -/
def putStep (l : List Nat) (e : El) (_ : Nat) : Except Nat (List Nat) :=
  match e with
  | .mk c n k bs ss => .ok (l ++ (putL c n k ++ (Len.putL (conL (.mk c n k bs ss)) ++ bs)))
mutual
theorem putE_vis : ∀ (e : El) (l : List Nat) (d : Nat), visE putStep e l d = .ok (l ++ encE e)
  | .mk c n k bs ss, l, d => by
    rw [visE, putStep]
    dsimp only
    rw [putS_vis ss _ (d + 1), encE, conL]
    simp only [List.append_assoc]
theorem putS_vis : ∀ (ss : List El) (l : List Nat) (d : Nat), visS putStep ss l d = .ok (l ++ encS ss)
  | [], l, d => by rw [visS, encS, List.append_nil]
  | e :: ss, l, d => by
    rw [visS, putE_vis e l d]
    dsimp only
    rw [putS_vis ss _ d, encS, List.append_assoc]
end
theorem putStep_mk {l : List Nat} {c n : Nat} {k : Bool} {bs : List Nat} {ss : List El} {d : Nat} : putStep l (.mk c n k bs ss) d = .ok (l ++ (putL c n k ++ (Len.putL (conL (.mk c n k bs ss)) ++ bs))) := rfl
/-- What Put's variable holds. -/
def PutI (L go g : Nat) (l : List Nat) (w : World) : Prop := Bk w go 26 [.slice (some ⟨g, 0, none⟩) l.length L] ∧ Len.Room w g L l
def PutT (go g : Nat) (i : Nat) : Prop := i = go ∨ i = g
def PutPre (L : Nat) (l : List Nat) (e : El) (_ : Nat) : Prop := l.length + (encE e).length ≤ L ∧ valE e
def PutPreS (L : Nat) (l : List Nat) (ss : List El) (_ : Nat) : Prop := l.length + (encS ss).length ≤ L ∧ valS ss

set_option maxHeartbeats 2000000 in
set_option maxRecDepth 100000 in
theorem put1_any {x : Bool} {S : Nat → Prop} (L go g : Nat) (hL : L ≤ 1048576) (hne : go ≠ g) (l : List Nat) (e : El) (d : Nat) (v : Value) (w : World) (hp : PutPre L l e d) (hi : PutI L go g l w) (hE : RdE x S w e v) (hS : ∀ i, S i → i ≠ go ∧ i ≠ g) :
    Calls Try.prog 37 (#[v, .int .i64 (d : Int)] ++ #[.pointer (some ⟨go, 0, none⟩)]) w (Outs (PutI L go g) (PutT go g) w (putStep l e d)) := by
  obtain ⟨c, n, k, bs, ss⟩ := e
  obtain ⟨hlen, hv⟩ := hp
  obtain ⟨hc, hr⟩ := hi
  have hE2 := hE
  obtain ⟨h1, h2, h3, A, ca, B, cb, rfl, h5, h6, h7, h8, h9, h10, h11⟩ := hE
  have hvt := hv
  rw [valE] at hv
  have hba := bel1 w (.cells #[.int .u8 (c : Int), .bool k, .int .u32 (n : Int), .slice A bs.length ca, .slice B ss.length cb] 29)
  have hkp := kp_below hba (PutT go g)
  have HKA := Lib.hid (Bk.new w 29 [.int .u8 (c : Int), .bool k, .int .u32 (n : Int), .slice A bs.length ca, .slice B ss.length cb])
  obtain ⟨w1, hw1⟩ : ∃ w1, w.alloc (.cells #[.int .u8 (c : Int), .bool k, .int .u32 (n : Int), .slice A bs.length ca, .slice B ss.length cb] 29) = w1 := ⟨_, rfl⟩
  rw [hw1] at HKA hba hkp
  have hcon : conL (.mk c n k bs ss) ≤ 1048576 := by have := conL_le (e := .mk c n k bs ss); omega
  rw [encE_len] at hlen
  obtain ⟨m, hm⟩ : ∃ m, conL (.mk c n k bs ss) = m := ⟨_, rfl⟩
  have hbm : bs.length ≤ m := by rw [← hm, conL]; omega
  have HCon := Lib.hid fun w' (h : RdE x S w' (.mk c n k bs ss) (elV c n k (.slice A bs.length ca) (.slice B ss.length cb))) => by
    have := con_any _ _ w' h hvt hcon
    rw [hm] at this
    exact this
  rw [hm] at hlen hcon
  have HP1 := Lib.hid fun w => putn_any c n k w h1 h2 hv.1
  have HP2 := Lib.hid fun w => Len.putn_any m w (by omega)
  obtain ⟨q, hq⟩ : ∃ q, l.length = q := ⟨_, rfl⟩
  obtain ⟨q1, hq1⟩ : ∃ q1, (putL c n k).length = q1 := ⟨_, rfl⟩
  obtain ⟨q2, hq2⟩ : ∃ q2, (Len.putL m).length = q2 := ⟨_, rfl⟩
  rw [hq, hq1, hq2] at hlen
  have HQ := Lib.hid hq
  have HQ1 := Lib.hid hq1
  have HQ2 := Lib.hid hq2
  have HC := Lib.hid (hc.below hba hc.lt)
  have HR : Hid (Len.Room w1 g L l) := Lib.hid ⟨hr.1.below hba hr.1.lt, hr.2⟩
  have HE := Lib.hid (hE2.stay hba)
  have HKP := Lib.hid hkp
  have HST := Lib.hid (show putStep l (.mk c n k bs ss) d = .ok (l ++ (putL c n k ++ (Len.putL m ++ bs))) by rw [putStep_mk, hm])
  have hg0 : g < w1.heap.size := HR.out.1.lt
  have hgo0 : go < w1.heap.size := HC.out.lt
  have hTn : ¬ PutT go g w.heap.size := by have := hc.lt; have := hr.1.lt; unfold PutT; omega
  have HSA : Hid (∀ i, S i → ¬ PutT go g i) := Lib.hid fun i h ht => by have := hS i h; unfold PutT at ht; omega
  have HBS : Hid (RdX S w1 A (cs8 bs) ∧ All8 bs) := Lib.hid ⟨h5.keep hba.size (fun i _ hi => hba.block i hi) (fun _ h _ => h), h3⟩
  simp only [List.append_toArray, List.cons_append, List.nil_append]
  clear hE2 h5 h6 h7 h8 h9 h10 h11 hba hkp hc hr hv hvt hm hq hq1 hq2 h1 h2 h3 hS
  go_enter Try.func37, Try.ntmps37
  have HG := Lib.hid (And.intro hg0 hgo0)
  clear hg0 hgo0
  obtain ⟨e0, e1, e2, e3, e4, hsz⟩ := HKA.out.five
  go_wp2_with fail
  refine (HP1.out _).mono ?_
  rintro e' w2 ⟨b1, rfl, hn1, hr1, hb1⟩
  rw [HQ1.out]
  have hka := HKA.out.below hb1 HKA.out.lt
  clear e0 e1 e2 e3 e4 hsz
  obtain ⟨e0, e1, e2, e3, e4, hsz⟩ := hka.five
  have HKA2 := Lib.hid hka
  have HR1 := Lib.hid hr1
  have HB1 := Lib.hid hb1
  have HN1 := Lib.hid hn1
  clear hka hr1 hb1 hn1 HP1 HKA
  go_wp2_with fail
  refine (HCon.out _ (HE.out.stay HB1.out)).mono ?_
  rintro e' w3 ⟨rfl, hb2⟩
  have HB2 := Lib.hid (HB1.out.trans (hb2.mono HB1.out.size))
  have HR2 := Lib.hid (HR1.out.below hb2)
  have HKA3 := Lib.hid (HKA2.out.below hb2 HKA2.out.lt)
  clear hb2 HKA2 e0 e1 e2 e3 e4 hsz HR1 HB1
  go_wp2_with fail
  refine (HP2.out _).mono ?_
  rintro e' w4 ⟨b2, rfl, hn2, hr2, hb3⟩
  rw [HQ2.out]
  have hb4 := HB2.out.trans (hb3.mono HB2.out.size)
  have hr1 := HR2.out.below hb3
  have hka := HKA3.out.below hb3 HKA3.out.lt
  have hc := HC.out.below hb4 HC.out.lt
  rw [HQ.out] at hc
  have hroom : Len.Room w4 g L l := ⟨HR.out.1.below hb4 HR.out.1.lt, HR.out.2⟩
  have hkp4 := HKP.out.trans (kp_below hb4 (PutT go g))
  have hbg1 : b1 ≠ g ∧ b1 ≠ go := by have := HN1.out; have := HG.out; omega
  have hbg2 : b2 ≠ g ∧ b2 ≠ go := by have := HB2.out.size; have := HG.out; omega
  have hwg : w.heap.size ≠ g ∧ w.heap.size ≠ go := by unfold PutT at hTn; omega
  -- the tag's octets
  obtain ⟨w5, hp1, hroom1, hg1⟩ := room_app hroom hr1 q (q + q1) q1 q1 HQ.out HQ1.out rfl (by omega)
  obtain ⟨w5', hw5⟩ : ∃ w5', w5.setCell ⟨go, 0, none⟩ (.slice (some ⟨g, 0, none⟩) (q + q1) L) = w5' := ⟨_, rfl⟩
  have hcg1 := hc.only hg1 (by intro e; injection e with e; exact hne e)
  have hc1 : Bk w5' go 26 [.slice (some ⟨g, 0, none⟩) (q + q1) L] := by rw [← hw5]; exact hcg1.store 0 _
  have hm1 : Len.Room w5' g L (l ++ putL c n k) := by rw [← hw5]; exact ⟨hroom1.1.far (p := ⟨go, 0, none⟩) (fun e => hne e.symm) _, hroom1.2⟩
  have hk1 : Kp (PutT go g) w4 w5' := by rw [← hw5]; exact (kp_grown hg1 (.inr rfl)).setCell (p := ⟨go, 0, none⟩) (.inl (.inl rfl)) _
  have hr2' : Rb w5' (some ⟨b2, 0, none⟩) (Len.putL m) := ⟨rd_kp hr2.1 hk1 (by intro p hp _; injection hp with hp; rw [← hp]; unfold PutT; dsimp only; omega), hr2.2⟩
  -- the length's octets
  obtain ⟨w6, hp2, hroom2, hg2⟩ := room_app hm1 hr2' (q + q1) (q + q1 + q2) q2 q2 (by rw [List.length_append, HQ.out, HQ1.out]) HQ2.out rfl (by omega)
  obtain ⟨w6', hw6⟩ : ∃ w6', w6.setCell ⟨go, 0, none⟩ (.slice (some ⟨g, 0, none⟩) (q + q1 + q2) L) = w6' := ⟨_, rfl⟩
  have hcg2 := hc1.only hg2 (by intro e; injection e with e; exact hne e)
  have hc2 : Bk w6' go 26 [.slice (some ⟨g, 0, none⟩) (q + q1 + q2) L] := by rw [← hw6]; exact hcg2.store 0 _
  have hm2 : Len.Room w6' g L (l ++ putL c n k ++ Len.putL m) := by rw [← hw6]; exact ⟨hroom2.1.far (p := ⟨go, 0, none⟩) (fun e => hne e.symm) _, hroom2.2⟩
  have hk2 : Kp (PutT go g) w4 w6' := by rw [← hw6]; exact hk1.trans ((kp_grown hg2 (.inr rfl)).setCell (p := ⟨go, 0, none⟩) (.inl (.inl rfl)) _)
  have hka2 := hka.kp hk2 hTn
  have hbs : Rb w6' A bs := ⟨(HBS.out.1.keep (hkp4.size |> fun _ => Nat.le_trans hb4.size hk2.size) (fun i hi hl => (hk2.block i (Nat.lt_of_lt_of_le hl hb4.size) (HSA.out i hi)).trans (hb4.block i hl)) (fun _ h _ => h)).rd, HBS.out.2⟩
  -- the content's octets
  obtain ⟨w7, hp3, hroom3, hg3⟩ := room_app hm2 hbs (q + q1 + q2) (q + q1 + q2 + bs.length) bs.length ca (by rw [List.length_append, List.length_append, HQ.out, HQ1.out, HQ2.out]) rfl rfl (by omega)
  have hcg3 := hc2.only hg3 (by intro e; injection e with e; exact hne e)
  have HC7 := Lib.hid hcg3
  have HM7 := Lib.hid hroom3
  have HK7 := Lib.hid (hkp4.trans (hk2.trans (kp_grown hg3 (.inr rfl))))
  obtain ⟨e0, e1, e2, e3, e4, hsz⟩ := hka2.five
  have a1 := hc.cell 0
  have a2 := hc1.cell 0
  have a3 := hc2.cell 0
  have g1 := hcg1.cell 0
  have g2 := hcg2.cell 0
  have g3 := hcg3.cell 0
  have i1 := hcg1.free 0
  have i2 := hcg2.free 0
  have i3 := hcg3.free 0
  simp only [List.getElem?_cons_zero] at a1 a2 a3 g1 g2 g3
  have HP1 := Lib.hid hp1
  have HP2' := Lib.hid hp2
  have HP3 := Lib.hid hp3
  clear hb4 hr1 hr2 hb3 hn2 hka hc hroom hkp4 hbg1 hbg2 hwg hp1 hroom1 hg1 hcg1 hc1 hm1 hk1 hr2' hp2 hroom2 hg2 hcg2 hc2 hm2 hk2 hka2 hbs hp3 hroom3 hg3 hcg3 HP2 HCon e0 e1 e2 e4
  go_wp2_with (at_builtin; first | refine Len.wpList_app (o := ⟨some 23, _, _, _, _, _⟩) rfl _ _ _ _ rfl _ _ rfl rfl HP1.out ?_ | refine Len.wpList_app (o := ⟨some 26, _, _, _, _, _⟩) rfl _ _ _ _ rfl _ _ rfl rfl HP2'.out ?_ | refine Len.wpList_app (o := ⟨some 30, _, _, _, _, _⟩) rfl _ _ _ _ rfl _ _ rfl rfl HP3.out ?_)
  go_end0
  rw [HST.out]
  refine ⟨rfl, ⟨?_, ?_⟩, HK7.out.setCell (p := ⟨go, 0, none⟩) (.inl (.inl rfl)) _⟩
  · have := HC7.out.store 0 (.slice (some ⟨g, 0, none⟩) (q + q1 + q2 + bs.length) L)
    rw [show (l ++ (putL c n k ++ (Len.putL m ++ bs))).length = q + q1 + q2 + bs.length by rw [List.length_append, List.length_append, List.length_append, HQ.out, HQ1.out, HQ2.out]; omega]
    exact this
  · have := HM7.out
    simp only [List.append_assoc] at this
    exact ⟨this.1.far (p := ⟨go, 0, none⟩) (fun e => hne e.symm) _, this.2⟩
end Go.Proofs.Ytgdjgahmnnjeeaa
