/-
  Layer 12: begins, missing; List and Explicit, the program's and the reference's.
  Conditions: none beyond that values read as what they are.
-/
import Derived.Test.YtfbdeefeagednaaFlC
namespace Go.Proofs.Ytfbdeefeagednaa.Fl
open Go.RowKit

theorem RdX.above {w : World} {A : Option Addr} {xs : List Value} {B g : Nat} (h : RdX (fun i => B ≤ i) w A xs) (hg : g < B) : RdX (fun i => g < i) w A xs :=
  h.keep (Nat.le_refl _) (fun _ _ _ => rfl) (fun _ hs _ => Nat.lt_of_lt_of_le hg hs)
theorem give_at {x : Bool} {w w2 w3 : World} {p : List Int} {f n c g : Nat} {A : Option Addr} (hb : Hid (Below w.heap.size w w2)) (hr : RdX (fun i => g < i) w2 A (csZ p)) (hl : p.length = n) (hc : n ≤ c) (hm : c ≤ maxLen) (hx : x = true → c = n)
    (hg : w.heap.size ≤ g) (h3 : Hid (w2.grownBy w3 (some g))) : GiveF x w p f (.returned (fvV A n c f)) w3 :=
  ⟨A, n, c, rfl, hl, hc, hm, hx, hr.keep h3.out.size (fun k hS hk => h3.out.block k hk (fun e => by injection e with e; omega)) (fun k hS _ => by omega), hb.out.trans (only_below h3.out hg hb.out.size)⟩
/-- Whether a row begins with an element for the field. -/
def begR (f : Fd) : List El → Bool
  | [] => false
  | e :: _ => fit f e
theorem beg_hit (f : Fd) (ss : List El) (p : Nat) : begR f (ss.drop p) = hit f ss p := by
  unfold hit
  by_cases h : p < ss.length
  · rw [dif_pos h, List.drop_eq_getElem_cons h]; rfl
  · rw [dif_neg h, List.drop_eq_nil_of_le (by omega)]; rfl
set_option maxRecDepth 100000 in
theorem begins_any {x : Bool} {S : Nat → Prop} (f : Fd) (ss : List El) (A : Option Addr) (m ca : Nat) (w : World) (h : RdS x S w A ss) (hm : ss.length = m) (hm2 : m ≤ maxLen) :
    Calls Try.prog 45 #[.slice A m ca, .func (.func 46) #[fdV f] #[]] w fun e' w' => e' = .returned (.bool (begR f ss)) ∧ Below w.heap.size w w' := by
  cases ss with
  | nil =>
    subst hm
    go_enter Try.func45, Try.ntmps45
    go_wp2_with fail
    go_ret
    exact ⟨rfl, Below.refl _ _⟩
  | cons e t =>
    obtain ⟨b, off, c, n, k, u, v, rfl, hb, hS, f0, f1, f2, f3, f4, hE⟩ := h.five (i := 0) (by simp)
    simp only [Nat.zero_mul, Nat.add_zero, List.getElem_cons_zero] at f0 f1 f2 f3 f4 hE
    obtain ⟨c', n', k', bs, ss'⟩ := e
    have HC := Lib.hid (fun W => matches_any f c n k u v bs ss' W)
    have he : fit f (.mk c n k bs ss') = begR f (.mk c' n' k' bs ss' :: t) := by
      obtain ⟨_, _, _, _, _, _, _, h, _⟩ := hE
      injection h with h
      simp at h
      obtain ⟨h1, h2, h3, _⟩ := h
      obtain rfl : c = c' := by omega
      obtain rfl : n = n' := by omega
      subst h2
      rfl
    have HE := Lib.hid he
    have h1 : (m : Int) > 0 := by simp at hm; omega
    have h2 : 0 < m := by simp at hm; omega
    have hmm : m ≤ 9223372036854775807 := by unfold maxLen at hm2; omega
    clear hE he hm hS hm2 h
    go_enter Try.func45, Try.ntmps45
    go_wp2_with fail
    refine (HC.out _).mono ?_
    rintro e w1 ⟨rfl, hb1⟩
    rw [HE.out]
    go_wp2_with fail
    go_ret
    exact ⟨rfl, hb1⟩
end Go.Proofs.Ytfbdeefeagednaa.Fl
