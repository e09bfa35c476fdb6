/-
  Layer 4: Put.
  Conditions: none beyond that values read as elements; the content of a valid one has at most 2^20 octets.
-/
import Derived.Test.YtgdjgahmnnjeeaaElN
namespace Go.Proofs.Ytgdjgahmnnjeeaa
open Go.RowKit

/-- What Put returns: the octets; the error. -/
def encR (e : El) : List Nat × Nat := if (sizR e).2 = 0 then (encE e, 0) else ([], (sizR e).2)
/-- Octets without spare capacity, in a block that was not there, and an error. -/
def GiveE (w : World) (l : List Nat) (f : Nat) (e : Ending) (w' : World) : Prop :=
  ∃ A, e = .returned (.tuple #[.slice A l.length l.length, .int .i64 (f : Int)]) ∧ RdX (fun i => w.heap.size ≤ i) w' A (cs8 l) ∧ All8 l ∧ Below w.heap.size w w'

set_option maxHeartbeats 2000000 in
set_option maxRecDepth 100000 in
theorem eput_any {x : Bool} {S : Nat → Prop} (e : El) (v : Value) (w : World) (hd : depE e ≤ 10000) (hE : RdE x S w e v) (hco : conOk e) :
    Calls Try.prog 13 #[v] w (GiveE w (encR e).1 (encR e).2) := by
  have hmf : ∀ (fn : Fn) (first cap : Array Value) (w : World), (Instr.makeFunc fn first cap).run Try.prog w = .ok (.func fn first cap) w := fun _ _ _ _ => rfl
  obtain ⟨c, n, k, bs, ss⟩ := e
  have hE2 : RdE x (· < w.heap.size) w (.mk c n k bs ss) v := RdE.keep (Nat.le_refl _) (fun _ _ _ => rfl) (fun _ _ h => h) _ _ hE
  obtain ⟨h1, h2, h3, A, ca, B, cb, rfl, h5, h6, h7, h8, h9, h10, h11⟩ := hE
  clear h1 h2 h3 h5 h6 h7 h8 h9 h10 h11
  have hba := bel1 w (.cells #[.int .u8 (c : Int), .bool k, .int .u32 (n : Int), .slice A bs.length ca, .slice B ss.length cb] 29)
  have hka := Bk.new w 29 [.int .u8 (c : Int), .bool k, .int .u32 (n : Int), .slice A bs.length ca, .slice B ss.length cb]
  have HS := Lib.hid (sizeOf_any _ _ _ hd (hE2.stay hba) hco)
  have HBA := Lib.hid hba
  have HKA := Lib.hid hka
  have HE := Lib.hid hE2
  obtain ⟨N, hN⟩ : ∃ N, (sizR (.mk c n k bs ss)).1 = N := ⟨_, rfl⟩
  obtain ⟨f, hf⟩ : ∃ f, (sizR (.mk c n k bs ss)).2 = f := ⟨_, rfl⟩
  have HN := Lib.hid hN
  have HF := Lib.hid hf
  by_cases hf0 : f ≠ 0
  · have HR : Hid (encR (.mk c n k bs ss) = ([], f)) := Lib.hid (by unfold encR; rw [hf, if_neg hf0])
    have hfb : ((f : Int) != 0) = true := by simp; omega
    clear hba hka hE2 hd hco hN hf
    rw [HR.out]
    go_enter Try.func13, Try.ntmps13
    go_wp2_with fail
    refine HS.out.mono ?_
    rintro e' w1 ⟨rfl, hb1⟩
    have HB := Lib.hid (HBA.out.trans (hb1.mono HBA.out.size))
    clear hb1
    rw [HN.out, HF.out]
    go_wp2_with fail
    go_ret2
    exact ⟨none, rfl, RdX.nil, All8.nil, HB.out⟩
  obtain rfl : f = 0 := by omega
  have hR : encR (.mk c n k bs ss) = (encE (.mk c n k bs ss), 0) := by unfold encR; rw [hf, if_pos rfl]
  obtain ⟨hz, hNe, hN2⟩ : (chkE (.mk c n k bs ss) 1 0).1 = 0 ∧ (encE (.mk c n k bs ss)).length = N ∧ N ≤ 1048576 := by
    unfold sizR at hf hN
    split at hf
    · rename_i h; exact absurd hf h
    · rename_i h
      rw [if_neg h] at hN
      split at hf
      · rename_i h2
        rw [if_pos h2] at hN
        dsimp only at hN
        exact ⟨by omega, hN, by omega⟩
      · cases hf
  have hv := ((chkE_zero _ 1 0).1 hz).1
  have HV := Lib.hid hv
  have HR := Lib.hid hR
  have HNE := Lib.hid hNe
  have HD := Lib.hid hd
  have HMK := Lib.hid (make_cap2 N (by omega))
  clear hba hka hE2 hd hco hN hf hR hv hz hNe
  rw [HR.out]
  go_enter Try.func13, Try.ntmps13
  go_wp2_with fail
  refine HS.out.mono ?_
  rintro e' w1 ⟨rfl, hb1⟩
  rw [HN.out, HF.out]
  have hk1 := HKA.out.below hb1 HKA.out.lt
  have hbw := HBA.out.trans (hb1.mono HBA.out.size)
  obtain ⟨w2, hw2⟩ : ∃ w2, (w1.alloc (.cells (List.replicate N (by8 0)).toArray 5)).alloc (.cells #[.slice (some ⟨w1.heap.size, 0, none⟩) 0 N] 26) = w2 := ⟨_, rfl⟩
  have hb2 : Below w1.heap.size w1 w2 := by rw [← hw2]; exact bel2 _ _ _
  have hg : Len.Room w2 w1.heap.size N [] := by
    rw [← hw2]
    exact ⟨by simpa [cs8] using (Bk.new w1 5 (List.replicate N (by8 0))).alloc (.cells #[.slice (some ⟨w1.heap.size, 0, none⟩) 0 N] 26), Nat.zero_le _, All8.nil⟩
  have hgo : Bk w2 (w1.heap.size + 1) 26 [.slice (some ⟨w1.heap.size, 0, none⟩) 0 N] := by
    have := Bk.new (w1.alloc (.cells (List.replicate N (by8 0)).toArray 5)) 26 [.slice (some ⟨w1.heap.size, 0, none⟩) 0 N]
    rw [World.size_alloc] at this
    rw [← hw2]; exact this
  have hbw2 := hbw.trans (hb2.mono hbw.size)
  have hwl : w.heap.size < w1.heap.size := hk1.lt
  have hvis := visit_any putStep (PutI N (w1.heap.size + 1) w1.heap.size) (PutPre N) (PutPreS N) 37 #[.pointer (some ⟨w1.heap.size + 1, 0, none⟩)] (T := PutT (w1.heap.size + 1) w1.heap.size) (S := (· < w.heap.size)) (x := x) (fun _ _ => by simp [go_sem])
    (fun s w w' ⟨h1, h2⟩ hb => ⟨h1.below hb h1.lt, h2.1.below hb h2.1.lt, h2.2⟩) (fun s w ⟨h1, h2⟩ i hi => by rcases hi with rfl | rfl; exact h1.lt; exact h2.1.lt)
    (fun s e d v w hp hi hE => put1_any N _ _ hN2 (by omega) s e d v w hp hi hE (fun i hi => ⟨by omega, by omega⟩))
    (fun s c n k bs ss d s' hp he => by
      rw [putStep_mk] at he
      obtain rfl := Except.ok.inj he
      obtain ⟨p1, p2⟩ := hp
      rw [encE] at p1
      rw [valE] at p2
      refine ⟨?_, p2.2.2.2⟩
      rw [conL]
      simp only [List.length_append] at p1 ⊢
      omega)
    (fun s e ss d hp => by
      obtain ⟨p1, p2⟩ := hp
      rw [encS, List.length_append] at p1
      exact ⟨by omega, p2.1⟩)
    (fun s e ss d s' hp he => by
      rw [putE_vis] at he
      obtain rfl := Except.ok.inj he
      obtain ⟨p1, p2⟩ := hp
      rw [encS, List.length_append] at p1
      exact ⟨by rw [List.length_append]; omega, p2.2⟩)
    (fun i hi ht => by unfold PutT at ht; omega) (.mk c n k bs ss) [] (elV c n k (.slice A bs.length ca) (.slice B ss.length cb)) w2 ⟨by rw [HNE.out]; simp, HV.out⟩ (by have := HD.out; omega) ⟨hgo, hg⟩ (HE.out.below (fun _ h _ => h) hbw2)
  rw [putE_vis, List.nil_append] at hvis
  have HVis := Lib.hid hvis
  have hw2' := hw2
  rw [List.toArray_replicate] at hw2'
  have HB2 := Lib.hid hbw2
  have HW2 : Hid (w2.heap.size = w1.heap.size + 2) := Lib.hid (by rw [← hw2]; simp)
  obtain ⟨e0, e1, e2, e3, e4, hsz⟩ := (hk1.below hb2 hk1.lt).five
  have hmk := HMK.out
  simp only [List.toArray_replicate] at hmk
  clear hb1 hk1 hbw hb2 hg hgo hbw2 hvis HS HKA hw2
  go_wp2_with fail
  refine HVis.out.mono ?_
  rintro e' w3 ⟨rfl, ⟨hc3, hr3⟩, hk3⟩
  rw [HNE.out] at hc3
  have c3 := hc3.cell 0
  simp only [List.getElem?_cons_zero] at c3
  have hrb := hr3.rb HNE.out
  have HRB : Hid (RdX (fun i => w.heap.size ≤ i) w3 (some ⟨w1.heap.size, 0, none⟩) (cs8 (encE (.mk c n k bs ss)))) := Lib.hid fun hn => by
    obtain ⟨b, off, e, hb, hc⟩ := hrb.1 hn
    simp only [Option.some.injEq, Addr.mk.injEq, and_true] at e
    obtain ⟨rfl, rfl⟩ := e
    exact ⟨_, _, rfl, hb, by omega, hc⟩
  have H8 := Lib.hid hrb.2
  have HB3 := Lib.hid (HB2.out.trans (hk3.below (B := w.heap.size) (by rw [HW2.out]; omega) (by intro k hk; unfold PutT at hk; omega)))
  clear hc3 hr3 hrb hk3 HVis e0 e1 e2 e3 e4 hw2' hmk
  go_wp2_with fail
  go_ret2
  exact ⟨some ⟨w1.heap.size, 0, none⟩, by rw [HNE.out]; rfl, HRB.out, H8.out, HB3.out⟩
end Go.Proofs.Ytgdjgahmnnjeeaa
