/-
  Layer 4: a frame that lets go of some blocks; the program's checkOne; the closure that visits the elements, by whatever it calls for each.
  Conditions: none beyond that values read as elements.
-/
import Derived.Test.YtgdjgahmnnjeeaaElF
import Derived.Test.YtgdjgahmnnjeeaaElE
namespace Go.Proofs.Ytgdjgahmnnjeeaa
open Go.RowKit

/-- Of what was there nothing has turned but in blocks of T. -/
structure Kp (T : Nat → Prop) (w w' : World) : Prop where
  os : w'.os = w.os
  tape : w'.tape = w.tape
  output : w'.output = w.output
  size : w.heap.size ≤ w'.heap.size
  block : ∀ k, k < w.heap.size → ¬ T k → w'.heap[k]? = w.heap[k]?
section
variable {T U : Nat → Prop} {w w' w'' : World}
theorem Kp.refl (T : Nat → Prop) (w : World) : Kp T w w := ⟨rfl, rfl, rfl, Nat.le_refl _, fun _ _ _ => rfl⟩
theorem Kp.trans (h : Kp T w w') (k : Kp T w' w'') : Kp T w w'' :=
  ⟨k.os.trans h.os, k.tape.trans h.tape, k.output.trans h.output, Nat.le_trans h.size k.size, fun i hi hT => (k.block i (Nat.lt_of_lt_of_le hi h.size) hT).trans (h.block i hi hT)⟩
theorem Kp.mono (h : Kp T w w') (hT : ∀ k, k < w.heap.size → T k → U k) : Kp U w w' := ⟨h.os, h.tape, h.output, h.size, fun i hi hU => h.block i hi fun ht => hU (hT i hi ht)⟩
theorem kp_below (h : Below w.heap.size w w') (T : Nat → Prop) : Kp T w w' := ⟨h.os, h.tape, h.output, h.size, fun i hi _ => h.block i hi⟩
theorem kp_grown {g : Nat} (h : w.grownBy w' (some g)) (hT : T g) : Kp T w w' := ⟨h.os, h.tape, h.output, h.size, fun i hi hn => h.block i hi fun e => hn (by injection e with e; exact e ▸ hT)⟩
theorem Kp.below {B : Nat} (h : Kp T w w') (hB : B ≤ w.heap.size) (hT : ∀ k, T k → B ≤ k) : Below B w w' :=
  ⟨h.os, h.tape, h.output, h.size, fun k hk => h.block k (by omega) fun ht => by have := hT k ht; omega⟩
theorem Kp.alloc (h : Kp T w w') (o : Obj) : Kp T w (w'.alloc o) := h.trans (kp_below (bel1 _ o) T)
theorem Kp.setCell (h : Kp T w w') {p : Addr} (hp : T p.block ∨ w.heap.size ≤ p.block) (u : Value) : Kp T w (w'.setCell p u) :=
  ⟨h.os, h.tape, h.output, by simpa [World.setCell] using h.size, fun i hi hT => (Below.heap_setCell w' p u i (by rintro rfl; rcases hp with hp | hp; exact hT hp; omega)).trans (h.block i hi hT)⟩
theorem Kp.drew (h : Kp T w w') : Kp T w w'.drew := ⟨h.os, h.tape, h.output, h.size, h.block⟩
theorem Bk.kp {g : Nat} {t : TypeId} {cs : List Value} (h : Bk w g t cs) (k : Kp T w w') (hg : ¬ T g) : Bk w' g t cs := (k.block g h.lt hg).trans h
theorem RdE.kp {x : Bool} {S : Nat → Prop} {e : El} {v : Value} (h : RdE x S w e v) (k : Kp T w w') (hS : ∀ i, S i → ¬ T i) : RdE x S w' e v :=
  RdE.keep k.size (fun i hi hl => k.block i hl (hS i hi)) (fun _ hs _ => hs) e v h
theorem RdS.kp {x : Bool} {S : Nat → Prop} {ss : List El} {A : Option Addr} (h : RdS x S w A ss) (k : Kp T w w') (hS : ∀ i, S i → ¬ T i) : RdS x S w' A ss :=
  RdS.keep k.size (fun i hi hl => k.block i hl (hS i hi)) (fun _ hs _ => hs) ss A h
end

/-- The error of an element without its sub-elements. -/
def oneE : El → Nat → Nat → Nat
  | .mk c n k bs ss, d, b => if chk c n k ≠ 0 then chk c n k else if (k = true ∧ 0 < bs.length) ∨ (k = false ∧ 0 < ss.length) then 1 else plcE d b
theorem oneE_mk {c n : Nat} {k : Bool} {bs : List Nat} {ss : List El} {d b : Nat} : oneE (.mk c n k bs ss) d b = if chk c n k ≠ 0 then chk c n k else if (k = true ∧ 0 < bs.length) ∨ (k = false ∧ 0 < ss.length) then 1 else plcE d b := rfl
theorem oneE_place {c n : Nat} {k : Bool} {bs : List Nat} {ss : List El} {d b : Nat} (h0 : chk c n k = 0) (h1 : ¬ ((k = true ∧ 0 < bs.length) ∨ (k = false ∧ 0 < ss.length))) : oneE (.mk c n k bs ss) d b = plcE d b := by
  rw [oneE_mk, if_neg (by omega), if_neg h1]

set_option maxHeartbeats 1000000 in
set_option maxRecDepth 100000 in
theorem one_any {x : Bool} {S : Nat → Prop} (e : El) (v : Value) (d b : Nat) (w : World) (h : RdE x S w e v) :
    Calls Try.prog 63 #[v, .int .i64 (d : Int), .int .i64 (b : Int)] w fun e' w' => e' = .returned (.int .i64 (oneE e d b : Nat)) ∧ Below w.heap.size w w' := by
  obtain ⟨c, n, k, bs, ss⟩ := e
  obtain ⟨h1, h2, h3, A, ca, B, cb, rfl, h5, h6, h7, h8, h9, h10, h11⟩ := h
  have HBA := Lib.hid (bel1 w (.cells #[.int .u8 (c : Int), .bool k, .int .u32 (n : Int), .slice A bs.length ca, .slice B ss.length cb] 29))
  have HKA := Lib.hid (Bk.new w 29 [.int .u8 (c : Int), .bool k, .int .u32 (n : Int), .slice A bs.length ca, .slice B ss.length cb])
  have HC := Lib.hid fun w => check_any c n k w h1 h2
  clear h3 h5 h6 h7 h8 h9 h10 h11
  obtain ⟨z, hz⟩ : ∃ z, oneE (.mk c n k bs ss) d b = z := ⟨_, rfl⟩
  rw [hz]
  obtain ⟨f, hf⟩ : ∃ f, chk c n k = f := ⟨_, rfl⟩
  have HF := Lib.hid hf
  have HZ := Lib.hid hz
  by_cases hf0 : f = 0
  rotate_left
  · have hzf : f = z := by rw [← hz, oneE_mk, if_pos (by omega), hf]
    subst hzf
    clear hz hf
    have hf1 : ((f : Int) != 0) = true := by simp; omega
    go_enter Try.func63, Try.ntmps63
    go_wp2_with fail
    refine (HC.out _).mono ?_
    rintro e' w1 ⟨rfl, hb1⟩
    have HB1 := Lib.hid (HBA.out.trans (hb1.mono HBA.out.size))
    clear hb1
    rw [HF.out]
    go_wp2_with fail
    go_ret
    exact ⟨rfl, HB1.out⟩
  subst hf0
  by_cases hbad : (k = true ∧ 0 < bs.length) ∨ (k = false ∧ 0 < ss.length)
  · have hzf : 1 = z := by rw [← hz, oneE_mk, if_neg (by omega), if_pos hbad]
    subst hzf
    clear hz hf
    go_enter Try.func63, Try.ntmps63
    go_wp2_with fail
    refine (HC.out _).mono ?_
    rintro e' w1 ⟨rfl, hb1⟩
    obtain ⟨e0, e1, e2, e3, e4, hsz⟩ := (HKA.out.below hb1 (by simp)).five
    have HB1 := Lib.hid (HBA.out.trans (hb1.mono HBA.out.size))
    clear hb1
    rw [HF.out]
    rcases hbad with ⟨rfl, hl⟩ | ⟨rfl, hl⟩
    · go_wp2_with fail
      go_ret
      exact ⟨rfl, HB1.out⟩
    · go_wp2_with fail
      go_ret
      exact ⟨rfl, HB1.out⟩
  · have hp := oneE_place (d := d) (b := b) hf hbad
    rw [hz] at hp
    have HP := Lib.hid hp
    clear hz hf hp
    go_enter Try.func63, Try.ntmps63
    go_wp2_with fail
    refine (HC.out _).mono ?_
    rintro e' w1 ⟨rfl, hb1⟩
    obtain ⟨e0, e1, e2, e3, e4, hsz⟩ := (HKA.out.below hb1 (by simp)).five
    have HB1 := Lib.hid (HBA.out.trans (hb1.mono HBA.out.size))
    clear hb1
    rw [HF.out]
    cases k
    · have hl : ¬ 0 < ss.length := fun h => hbad (.inr ⟨rfl, h⟩)
      clear hbad
      go_wp2_with fail
      refine (place_any d b w1).mono ?_
      rintro e' w2 ⟨rfl, rfl⟩
      rw [← HP.out]
      go_wp2_with fail
      go_ret
      exact ⟨rfl, HB1.out⟩
    · have hl : ¬ 0 < bs.length := fun h => hbad (.inl ⟨rfl, h⟩)
      clear hbad
      go_wp2_with fail
      refine (place_any d b w1).mono ?_
      rintro e' w2 ⟨rfl, rfl⟩
      rw [← HP.out]
      go_wp2_with fail
      go_ret
      exact ⟨rfl, HB1.out⟩
end Go.Proofs.Ytgdjgahmnnjeeaa
