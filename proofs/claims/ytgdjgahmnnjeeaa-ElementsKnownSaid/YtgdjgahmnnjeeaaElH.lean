/-
  Layer 4: the closure that visits the elements, by whatever it calls for each; visit.
  Conditions: none beyond that values read as elements.
-/
import Derived.Test.YtgdjgahmnnjeeaaElG
import Derived.Laws.EntriesVeiled
namespace Go.Proofs.Ytgdjgahmnnjeeaa
open Go.RowKit

mutual
/-- What is left when a function has seen each element in preorder; or the fault that it raised. -/
def visE {σ : Type} (step : σ → El → Nat → Except Nat σ) : El → σ → Nat → Except Nat σ
  | .mk c n k bs ss, s, d => match step s (.mk c n k bs ss) d with
    | .error f => .error f
    | .ok s' => visS step ss s' (d + 1)
def visS {σ : Type} (step : σ → El → Nat → Except Nat σ) : List El → σ → Nat → Except Nat σ
  | [], s, _ => .ok s
  | e :: ss, s, d => match visE step e s d with
    | .error f => .error f
    | .ok s' => visS step ss s' d
end
/-- How a call ends that sees elements. -/
def Outs {σ : Type} (I : σ → World → Prop) (T : Nat → Prop) (w : World) : Except Nat σ → Ending → World → Prop
  | .ok s, e, w' => e = .returned (.tuple #[]) ∧ I s w' ∧ Kp T w w'
  | .error f, e, w' => f ≠ 0 ∧ e = .panicked [fltP f 0] ∧ (∃ s, I s w') ∧ Kp T w w'

/-- The five cells of one of the elements that lie one behind the other, its slices written out. -/
theorem RdS.fives {x : Bool} {S : Nat → Prop} {w : World} {A : Option Addr} {ss : List El} (h : RdS x S w A ss) {i : Nat} (hi : i < ss.length) :
    ∃ b off c n k A1 l1 c1 A2 l2 c2, A = some ⟨b, off, none⟩ ∧ b < w.heap.size ∧ S b ∧ w.cell? ⟨b, off + i * 5, none⟩ = some (.int .u8 ((c : Nat) : Int)) ∧ w.cell? ⟨b, off + i * 5 + 1, none⟩ = some (.bool k) ∧ w.cell? ⟨b, off + i * 5 + 2, none⟩ = some (.int .u32 ((n : Nat) : Int)) ∧
      w.cell? ⟨b, off + i * 5 + 3, none⟩ = some (.slice A1 l1 c1) ∧ w.cell? ⟨b, off + i * 5 + 4, none⟩ = some (.slice A2 l2 c2) ∧ RdE x S w ss[i] (elV c n k (.slice A1 l1 c1) (.slice A2 l2 c2)) := by
  obtain ⟨b, off, y, h1, h2, h3, h4, h5⟩ := h.at_ hi
  generalize ss[i] = e at h5
  obtain ⟨c, n, k, bs, ts⟩ := e
  have h6 := h5
  obtain ⟨g1, g2, g3, A', ca, B', cb, rfl, g5⟩ := h5
  exact ⟨b, off, c, n, k, _, _, _, _, _, _, h1, h2, h3, h4 0 _ rfl, h4 1 _ rfl, h4 2 _ rfl, h4 3 _ rfl, h4 4 _ rfl, h6⟩

set_option maxHeartbeats 2000000 in
set_option maxRecDepth 100000 in
theorem walk_any {x : Bool} {S T : Nat → Prop} {σ : Type} (step : σ → El → Nat → Except Nat σ) (I : σ → World → Prop) (Pre : σ → El → Nat → Prop) (PreS : σ → List El → Nat → Prop) (K : Nat) (cap : Array Value)
    (hK : ∀ (args : Array Value) (w : World), (callFunc K args).run Try.prog w = .ok (.enter K args) w)
    (hI : ∀ s w w', I s w → Below w.heap.size w w' → I s w') (hT : ∀ s w, I s w → ∀ i, T i → i < w.heap.size)
    (hsee : ∀ s e d v w, Pre s e d → I s w → RdE x S w e v → Calls Try.prog K (#[v, .int .i64 ((d : Nat) : Int)] ++ cap) w (Outs I T w (step s e d)))
    (p1 : ∀ s c n k bs ss d s', Pre s (.mk c n k bs ss) d → step s (.mk c n k bs ss) d = .ok s' → PreS s' ss (d + 1))
    (p2 : ∀ s e ss d, PreS s (e :: ss) d → Pre s e d)
    (p3 : ∀ s e ss d s', PreS s (e :: ss) d → visE step e s d = .ok s' → PreS s' ss d)
    (gs gw : Nat) (hgs : ¬ T gs) (hgw : ¬ T gw) (hST : ∀ i, S i → ¬ T i) (e : El) :
    ∀ (s : σ) (d : Nat) (v : Value) (w : World), Pre s e d → d + depE e ≤ 20000 → I s w → RdE x S w e v → Bk w gs 70 [.func (.func K) #[] cap] →
      Bk w gw 70 [.func (.func 54) #[] #[.pointer (some ⟨gs, 0, none⟩), .pointer (some ⟨gw, 0, none⟩)]] →
      Calls Try.prog 54 #[v, .int .i64 (d : Int), .pointer (some ⟨gs, 0, none⟩), .pointer (some ⟨gw, 0, none⟩)] w (Outs I T w (visE step e s d)) := by
  refine El.ind (P := fun e => ∀ (s : σ) (d : Nat) (v : Value) (w : World), Pre s e d → d + depE e ≤ 20000 → I s w → RdE x S w e v → Bk w gs 70 [.func (.func K) #[] cap] →
      Bk w gw 70 [.func (.func 54) #[] #[.pointer (some ⟨gs, 0, none⟩), .pointer (some ⟨gw, 0, none⟩)]] →
      Calls Try.prog 54 #[v, .int .i64 (d : Int), .pointer (some ⟨gs, 0, none⟩), .pointer (some ⟨gw, 0, none⟩)] w (Outs I T w (visE step e s d))) ?_ e
  clear e
  intro c n k bs ss ih s d v w hpre hd hi h hs hw
  have hE := h
  obtain ⟨h1, h2, h3, A, ca, B, cb, rfl, h5, h6, h7, h8, h9, h10, h11⟩ := h
  have hlen : ss.length ≤ 9223372036854775807 := by unfold maxLen at h9; omega
  rw [depE] at hd
  have hba := bel1 w (.cells #[.int .u8 (c : Int), .bool k, .int .u32 (n : Int), .slice A bs.length ca, .slice B ss.length cb] 29)
  have HS := Lib.hid (hsee s _ d _ _ hpre (hI _ _ _ hi hba) (hE.stay hba))
  have HBA := Lib.hid hba
  have HKA := Lib.hid (Bk.new w 29 [.int .u8 (c : Int), .bool k, .int .u32 (n : Int), .slice A bs.length ca, .slice B ss.length cb])
  have HGS := Lib.hid hs
  have HGW := Lib.hid hw
  have c1 := (hs.below hba hs.lt).cell 0
  have c2 := (hw.below hba hw.lt).cell 0
  simp only [List.getElem?_cons_zero] at c1 c2
  clear hba hs hw hE h5 h6 h7 h8 h9 h10 hsee
  go_enter Try.func54, Try.ntmps54
  go_wp2_with fail
  refine HS.out.mono ?_
  have hTn : ¬ T w.heap.size := fun ht => absurd (hT _ _ hi _ ht) (by omega)
  cases hst : step s (.mk c n k bs ss) d with
  | error f =>
    have HV : visE step (.mk c n k bs ss) s d = .error f := by rw [visE, hst]
    rintro e' w1 ⟨hf, rfl, hj, hk1⟩
    rw [HV]
    exact ⟨rfl, hf, rfl, hj, (kp_below HBA.out T).trans hk1⟩
  | ok s1 =>
    have HV : visE step (.mk c n k bs ss) s d = visS step ss s1 (d + 1) := by rw [visE, hst]
    have hps := p1 _ _ _ _ _ _ _ _ hpre hst
    rw [HV]
    rintro e' w1 ⟨rfl, hi1, hk1⟩
    have hka := HKA.out.kp hk1 hTn
    have hkw := (kp_below HBA.out T).trans hk1
    obtain ⟨e0, e1, e2, e3, e4, hsz⟩ := hka.five
    have HKA1 := Lib.hid hka
    have HKW := Lib.hid hkw
    have HI := Lib.hid hi1
    have HPS := Lib.hid hps
    have HVT := Lib.hid HV
    clear hps hi1 hka hkw hk1 HV hst hpre hi HS HKA HBA c1 c2
    go_wp2_with fail
    go_loopw [15, 7] (fun i _ wr => ∃ (p : Nat) (s2 : σ), p ≤ ss.length ∧ i = .int .i64 (p : Int) ∧ visS step (ss.drop p) s2 (d + 1) = visS step ss s1 (d + 1) ∧ I s2 wr ∧ PreS s2 (ss.drop p) (d + 1) ∧ Kp T w wr) (fun i _ _ => ss.length - (intOf i).toNat)
    case atStart =>
      exact ⟨0, s1, Nat.zero_le _, rfl, rfl, HI.out, HPS.out, HKW.out⟩
    case round =>
      clear e0 e1 e2 e3 e4 hsz
      obtain ⟨p, s2, hp, rfl, hV, hi2, hps2, hk2⟩ := hrel
      have HV := Lib.hid hV
      have HI2 := Lib.hid hi2
      have HPS2 := Lib.hid hps2
      have HK2 := Lib.hid hk2
      have c1 := (HGS.out.kp hk2 hgs).cell 0
      have c2 := (HGW.out.kp hk2 hgw).cell 0
      simp only [List.getElem?_cons_zero] at c1 c2
      have H11 := Lib.hid (h11.kp hk2 hST)
      clear hV hi2 hps2 hk2
      by_cases hlt : p < ss.length
      · obtain ⟨b, off, c', n', k', A1, l1, q1, A2, l2, q2, rfl, hb, hS, f0, f1, f2, f3, f4, hE⟩ := H11.out.fives hlt
        have HE := Lib.hid hE
        clear hE hS
        have hdr := List.drop_eq_getElem_cons hlt
        have hdp := depE_mem (List.getElem_mem hlt)
        have hps3 := HPS2.out
        rw [hdr] at hps3
        have hq := p2 _ _ _ _ hps3
        have hba2 := bel1 wr (.cells #[.int .u8 (c' : Int), .bool k', .int .u32 (n' : Int), .slice A1 l1 q1, .slice A2 l2 q2] 29)
        have hk3 := HK2.out.trans (kp_below hba2 T)
        have hc := ih _ (List.getElem_mem hlt) s2 (d + 1) _ _ hq (by omega) (hI _ _ _ HI2.out hba2) (HE.out.stay hba2) (HGS.out.kp hk3 hgs) (HGW.out.kp hk3 hgw)
        rw [show ((d + 1 : Nat) : Int) = (d : Int) + 1 from rfl] at hc
        have HC := Lib.hid hc
        have HK3 := Lib.hid hk3
        have hd1 : (d : Int) + 1 ≤ 9223372036854775807 := by omega
        have hgs2 := (HGS.out.kp HK2.out hgs).lt
        have hgw2 := (HGW.out.kp HK2.out hgw).lt
        have HPS3 := Lib.hid hps3
        have HDR := Lib.hid hdr
        clear hdr hdp hps3 hq hba2 hk3 hc
        go_wp2_with fail
        refine HC.out.mono ?_
        cases hst : visE step ss[p] s2 (d + 1) with
        | error f =>
          rintro e' w2 ⟨hf, rfl, hj, hk4⟩
          have HW : visE step (.mk c n k bs ss) s d = .error f := by rw [HVT.out, ← HV.out, HDR.out, visS, hst]
          go_wp2_with fail
          rw [HW]
          exact ⟨rfl, hf, rfl, hj, HK3.out.trans hk4⟩
        | ok s3 =>
          rintro e' w2 ⟨rfl, hi3, hk4⟩
          have HI3 := Lib.hid hi3
          have HK4 := Lib.hid hk4
          have HST := Lib.hid hst
          clear hi3 hk4 hst
          go_wp2_with fail
          exact ⟨⟨p + 1, s3, by omega, by go_num, by rw [← HV.out, HDR.out, visS, HST.out], HI3.out, p3 _ _ _ _ _ HPS3.out HST.out, HK3.out.trans HK4.out⟩, by simp [intOf]; omega⟩
      · have HF := Lib.hid (HV.out.symm.trans (by rw [List.drop_eq_nil_of_le (by omega), visS]))
        go_wp2_with fail
        go_end0
        rw [HVT.out, HF.out]
        exact ⟨rfl, HI2.out, HK2.out⟩

set_option maxHeartbeats 2000000 in
set_option maxRecDepth 100000 in
theorem visit_any {x : Bool} {S T : Nat → Prop} {σ : Type} (step : σ → El → Nat → Except Nat σ) (I : σ → World → Prop) (Pre : σ → El → Nat → Prop) (PreS : σ → List El → Nat → Prop) (K : Nat) (cap : Array Value)
    (hK : ∀ (args : Array Value) (w : World), (callFunc K args).run Try.prog w = .ok (.enter K args) w)
    (hI : ∀ s w w', I s w → Below w.heap.size w w' → I s w') (hT : ∀ s w, I s w → ∀ i, T i → i < w.heap.size)
    (hsee : ∀ s e d v w, Pre s e d → I s w → RdE x S w e v → Calls Try.prog K (#[v, .int .i64 ((d : Nat) : Int)] ++ cap) w (Outs I T w (step s e d)))
    (p1 : ∀ s c n k bs ss d s', Pre s (.mk c n k bs ss) d → step s (.mk c n k bs ss) d = .ok s' → PreS s' ss (d + 1))
    (p2 : ∀ s e ss d, PreS s (e :: ss) d → Pre s e d)
    (p3 : ∀ s e ss d s', PreS s (e :: ss) d → visE step e s d = .ok s' → PreS s' ss d)
    (hST : ∀ i, S i → ¬ T i) (e : El) (s : σ) (v : Value) (w : World) (hpre : Pre s e 1) (hd : 1 + depE e ≤ 20000) (hi : I s w) (hE : RdE x S w e v) :
    Calls Try.prog 36 #[v, .func (.func K) #[] cap] w (Outs I T w (visE step e s 1)) := by
  have hmf : ∀ (fn : Fn) (first cap : Array Value) (w : World), (Instr.makeFunc fn first cap).run Try.prog w = .ok (.func fn first cap) w := fun _ _ _ _ => rfl
  obtain ⟨c, n, k, bs, ss⟩ := e
  have hE2 := hE
  obtain ⟨h1, h2, h3, A, ca, B, cb, rfl, h5, h6, h7, h8, h9, h10, h11⟩ := hE
  clear h1 h2 h3 h5 h6 h7 h8 h9 h10 h11
  obtain ⟨o1, ho1⟩ : ∃ o1, Obj.cells #[.int .u8 (c : Int), .bool k, .int .u32 (n : Int), .slice A bs.length ca, .slice B ss.length cb] 29 = o1 := ⟨_, rfl⟩
  obtain ⟨o2, ho2⟩ : ∃ o2, Obj.cells #[.func (.func K) #[] cap] 70 = o2 := ⟨_, rfl⟩
  obtain ⟨o3, ho3⟩ : ∃ o3, Obj.cells #[.func (.func 54) #[] #[.pointer (some ⟨w.heap.size + 1, 0, none⟩), .pointer (some ⟨w.heap.size + 1 + 1, 0, none⟩)]] 70 = o3 := ⟨_, rfl⟩
  have hba := bel3 w o1 o2 o3
  have b2 : Bk (((w.alloc o1).alloc o2).alloc o3) (w.heap.size + 1) 70 [.func (.func K) #[] cap] := by
    have := (Bk.new (w.alloc o1) 70 [.func (.func K) #[] cap]).alloc o3
    rw [World.size_alloc] at this
    rw [← ho2]; exact this
  have b3 : Bk (((w.alloc o1).alloc o2).alloc o3) (w.heap.size + 1 + 1) 70 [.func (.func 54) #[] #[.pointer (some ⟨w.heap.size + 1, 0, none⟩), .pointer (some ⟨w.heap.size + 1 + 1, 0, none⟩)]] := by
    have := Bk.new ((w.alloc o1).alloc o2) 70 [.func (.func 54) #[] #[.pointer (some ⟨w.heap.size + 1, 0, none⟩), .pointer (some ⟨w.heap.size + 1 + 1, 0, none⟩)]]
    rw [World.size_alloc, World.size_alloc] at this
    rw [← ho3]; exact this
  have hTn : ∀ i, w.heap.size ≤ i → ¬ T i := fun i h ht => absurd (hT _ _ hi _ ht) (by omega)
  have HW := Lib.hid (walk_any step I Pre PreS K cap hK hI hT hsee p1 p2 p3 (w.heap.size + 1) (w.heap.size + 1 + 1) (hTn _ (by omega)) (hTn _ (by omega)) hST (.mk c n k bs ss) s 1 _ _ hpre hd (hI _ _ _ hi hba) (hE2.stay hba) b2 b3)
  have HBA := Lib.hid hba
  have c3 := b3.cell 0
  have c2 := b2.cell 0
  simp only [List.getElem?_cons_zero] at c2 c3
  clear hE2 hi hpre hba b2 b3 hsee p1 p2 p3 hI hT hTn
  subst ho1 ho2 ho3
  go_enter Try.func36, Try.ntmps36
  go_wp2_with fail
  refine HW.out.mono ?_
  cases hst : visE step (.mk c n k bs ss) s 1 with
  | error f =>
    rintro e' w1 ⟨hf, rfl, hj, hk1⟩
    go_wp2_with fail
    exact ⟨rfl, hf, rfl, hj, (kp_below HBA.out T).trans hk1⟩
  | ok s1 =>
    rintro e' w1 ⟨rfl, hi1, hk1⟩
    have HI := Lib.hid hi1
    have HK1 := Lib.hid hk1
    clear hi1 hk1
    go_wp2_with fail
    go_end0
    rw [hst]
    exact ⟨rfl, HI.out, (kp_below HBA.out T).trans HK1.out⟩
end Go.Proofs.Ytgdjgahmnnjeeaa
