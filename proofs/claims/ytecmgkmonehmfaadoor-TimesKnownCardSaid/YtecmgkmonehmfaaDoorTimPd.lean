/-
  Layer 10: what a law keeps from call to call, and the contracts in the form that its walk takes.
  Conditions: none.
-/
import Derived.Test.YtecmgkmonehmfaaDoorTimPb
import Derived.Test.YtecmgkmonehmfaaDoorTimPc
import Derived.Test.YtecmgkmonehmfaaDoorTimOf
namespace Go.Proofs.YtecmgkmonehmfaaDoor.Tim
open Go.RowKit Go.Shelf

section
variable (W : World)
theorem leap_at (y : Int) (b : Bool) (h : lpT y = b) : Calls Tryd.prog 10 #[.int .i64 y] W fun e w' => e = .returned (.bool b) ∧ Hid (Below W.heap.size W w') :=
  (leap_any y W).mono fun _ _ ⟨h1, h2⟩ => ⟨by rw [h1, h], ob h2⟩
theorem rleap_at (y : Int) (b : Bool) (h : lpT y = b) : Calls Tryd.prog 11 #[.int .i64 y] W fun e w' => e = .returned (.bool b) ∧ Hid (Below W.heap.size W w') :=
  (rleap_any y W).mono fun _ _ ⟨h1, h2⟩ => ⟨by rw [h1, h], ob h2⟩
theorem days_at (y m : Int) (hm : I64 m) (n : Nat) (h : dyT y m = n) (hE : Env W) : Calls Tryd.prog 12 #[.int .i64 y, .int .i64 m] W fun e w' => e = .returned (.int .i64 (n : Int)) ∧ Hid (Below W.heap.size W w') :=
  (days_any y m hm W hE).mono fun _ _ ⟨h1, h2⟩ => ⟨by rw [h1, h], ob h2⟩
theorem rdays_at (y m : Int) (n : Nat) (h : dyT y m = n) : Calls Tryd.prog 13 #[.int .i64 y, .int .i64 m] W fun e w' => e = .returned (.int .i64 (n : Int)) ∧ Hid (Below W.heap.size W w') :=
  (rdays_any y m W).mono fun _ _ ⟨h1, h2⟩ => ⟨by rw [h1, h], ob h2⟩
theorem chk_at (y mo d h mi s : Int) (hmo : I64 mo) (n : Nat) (hc : ck y mo d h mi s = n) (hE : Env W) : Calls Tryd.prog 15 #[tV y mo d h mi s] W fun e w' => e = .returned (.int .i64 (n : Int)) ∧ Hid (Below W.heap.size W w') :=
  (check_any y mo d h mi s hmo W hE).mono fun _ _ ⟨h1, h2⟩ => ⟨by rw [h1, hc], Lib.hid h2⟩
theorem rchk_at (y mo d h mi s : Int) (n : Nat) (hc : ck y mo d h mi s = n) : Calls Tryd.prog 14 #[tV y mo d h mi s] W fun e w' => e = .returned (.int .i64 (n : Int)) ∧ Hid (Below W.heap.size W w') :=
  (rcheck_any y mo d h mi s W).mono fun _ _ ⟨h1, h2⟩ => ⟨by rw [h1, hc], Lib.hid h2⟩
theorem elem_at (y m d h mi s : Nat) (hc : ck y m d h mi s = 0) (k : Nat) (hk : tagN y = k) (l : List Nat) (hl : txtE k y m d h mi s = l) (N : Nat) (hN : l.length = N) (hE : Env W) :
    Calls Tryd.prog 17 #[tV y m d h mi s] W fun e w' => ∃ A, e = .returned (.tuple #[.agg #[.int .u8 0, .bool false, .int .u32 (k : Int), .slice A N N, .slice none 0 0], .int .i64 0]) ∧ Hid (Rd w' A (cs8 l)) ∧ Hid (Below W.heap.size W w') := by
  have hn := ck_nat hc
  subst hk hl hN
  exact (elem_ok y m d h mi s (by omega) (by omega) (by omega) (by omega) (by omega) (by omega) hc W hE).mono fun _ _ ⟨gb, _, h1, h2, h3⟩ => ⟨_, h1, Lib.hid h2, Lib.hid h3⟩
theorem elemb_at (y mo d h mi s : Int) (hmo : I64 mo) (hc : ck y mo d h mi s = 1) (hE : Env W) :
    Calls Tryd.prog 17 #[tV y mo d h mi s] W fun e w' => e = .returned (.tuple #[.agg #[.int .u8 0, .bool false, .int .u32 0, .slice none 0 0, .slice none 0 0], .int .i64 1]) ∧ Hid (Below W.heap.size W w') :=
  (elem_bad y mo d h mi s hmo hc W hE).mono fun _ _ ⟨h1, h2⟩ => ⟨h1, Lib.hid h2⟩
theorem secs_at (y m d h mi s : Nat) (hc : ck y m d h mi s = 0) (n : Nat) (hn : ssT y m d h mi s = n) (hE : Env W) :
    Calls Tryd.prog 18 #[tV y m d h mi s] W fun e w' => e = .returned (.int .i64 (n : Int)) ∧ Hid (Below W.heap.size W w') := by
  have h1 := ck_nat hc
  exact (secs_ok y m d h mi s (by omega) (by omega) (by omega) (by omega) (by omega) (by omega) (by omega) (by omega) hc W hE).mono fun _ _ ⟨h1, h2⟩ => ⟨by rw [h1, hn], Lib.hid h2⟩
theorem secsb_at (y mo d h mi s : Int) (hmo : I64 mo) (hc : ck y mo d h mi s = 1) (hE : Env W) :
    Calls Tryd.prog 18 #[tV y mo d h mi s] W fun e w' => e = .returned (.int .i64 (-1)) ∧ Hid (Below W.heap.size W w') :=
  (secs_bad y mo d h mi s hmo hc W hE).mono fun _ _ ⟨h1, h2⟩ => ⟨h1, Lib.hid h2⟩
theorem rsecs_at (y m d h mi s : Nat) (hc : ck y m d h mi s = 0) (n : Nat) (hn : ssT y m d h mi s = n) :
    Calls Tryd.prog 30 #[tV y m d h mi s] W fun e w' => e = .returned (.int .i64 (n : Int)) ∧ Hid (Below W.heap.size W w') := by
  have h1 := ck_nat hc
  exact (rsecs_any y m d h mi s (by omega) (by omega) (by omega) (by omega) (by omega) (by omega) (by omega) (by omega) W).mono fun _ _ ⟨h1, h2⟩ => ⟨by rw [h1, hn], Lib.hid h2⟩
/-- At inverts Seconds. -/
theorem at_at (n : Nat) (y m d h mi s : Nat) (hc : ck y m d h mi s = 0) (hn : ssT y m d h mi s = n) (hE : Env W) :
    Calls Tryd.prog 31 #[.int .i64 (n : Int)] W fun e w' => e = .returned (.tuple #[tV y m d h mi s, .int .i64 0]) ∧ Hid (Below W.heap.size W w') := by
  subst hn
  have hd := ss_date hc
  refine (at_ok _ (ss_bound hc) W hE).mono fun _ _ ⟨Y, M, D, h0, h1, h2⟩ => ⟨?_, Lib.hid h2⟩
  obtain ⟨rfl, rfl, rfl⟩ := isDate_uniq h0 hd.1
  rw [hd.2.1, hd.2.2.1, hd.2.2.2] at h1
  exact h1
theorem atb_at (n : Int) (hn : I64 n) (hb : n < 0 ∨ 315569520000 ≤ n) :
    Calls Tryd.prog 31 #[.int .i64 n] W fun e w' => e = .returned (.tuple #[tV 0 0 0 0 0 0, .int .i64 1]) ∧ Hid (Below W.heap.size W w') :=
  (at_bad n hn hb W).mono fun _ _ ⟨h1, h2⟩ => ⟨h1, Lib.hid h2⟩
/-- Every number of seconds below 10000 years is that of a time. -/
theorem ata_at (n : Nat) (hn : n < 315569520000) (hE : Env W) :
    Calls Tryd.prog 31 #[.int .i64 (n : Int)] W fun e w' => ∃ y m d h mi s : Nat, e = .returned (.tuple #[tV y m d h mi s, .int .i64 0]) ∧ Hid (ck y m d h mi s = 0 ∧ ssT y m d h mi s = n) ∧ Hid (Below W.heap.size W w') :=
  (at_ok n hn W hE).mono fun _ _ ⟨Y, M, D, h0, h1, h2⟩ => ⟨Y, M, D, _, _, _, h1, Lib.hid ⟨date_ck h0 (by omega) (by omega) (by omega), date_ss h0⟩, Lib.hid h2⟩
theorem text_at (y m d h mi s : Nat) (hc : ck y m d h mi s = 0) (S : ByteArray) (hS : bstr (txtX y m d h mi s) = S) (hE : Env W) :
    Calls Tryd.prog 19 #[tV y m d h mi s] W fun e w' => e = .returned (.string S) ∧ Hid (Below W.heap.size W w') := by
  have hn := ck_nat hc
  exact (text_ok y m d h mi s (by omega) (by omega) (by omega) (by omega) (by omega) (by omega) hc W hE).mono fun _ _ ⟨h1, h2⟩ => ⟨by rw [h1, hS], Lib.hid h2⟩
theorem textb_at (y mo d h mi s : Int) (hmo : I64 mo) (hc : ck y mo d h mi s = 1) (hE : Env W) :
    Calls Tryd.prog 19 #[tV y mo d h mi s] W fun e w' => e = .returned (.string ⟨#[63]⟩) ∧ Hid (Below W.heap.size W w') :=
  (text_bad y mo d h mi s hmo hc W hE).mono fun _ _ ⟨h1, h2⟩ => ⟨h1, Lib.hid h2⟩
theorem rtext_at (y m d h mi s : Nat) (hc : ck y m d h mi s = 0) (S : ByteArray) (hS : bstr (txtX y m d h mi s) = S) :
    Calls Tryd.prog 24 #[tV y m d h mi s] W fun e w' => e = .returned (.string S) ∧ Hid (Below W.heap.size W w') := by
  have hn := ck_nat hc
  exact (rtext_any y m d h mi s (by omega) (by omega) (by omega) (by omega) (by omega) (by omega) W).mono fun _ _ ⟨h1, h2⟩ => ⟨by rw [h1, hS], Lib.hid h2⟩
theorem relem_at (y m d h mi s : Nat) (hc : ck y m d h mi s = 0) (k : Nat) (hk : tagN y = k) (S : ByteArray) (hS : bstr (txtE k y m d h mi s) = S) :
    Calls Tryd.prog 21 #[tV y m d h mi s] W fun e w' => e = .returned (.tuple #[.int .u32 (k : Int), .string S]) ∧ Hid (Below W.heap.size W w') := by
  have hn := ck_nat hc
  subst hk
  exact (relem_any y m d h mi s (by omega) (by omega) (by omega) (by omega) (by omega) (by omega) W).mono fun _ _ ⟨h1, h2⟩ => ⟨by rw [h1, hS], Lib.hid h2⟩
theorem is_at (A : Option Addr) (l : List Nat) (h8 : All8 l) (N n : Nat) (hN : l.length = N) (hm : N ≤ 1000000) (S : ByteArray) (hS : bstr l = S) (hA : Rd W A (cs8 l)) :
    Calls Tryd.prog 22 #[.agg (elC n (.slice A N N)).toArray, .int .i64 0, .int .u32 (n : Int), .string S] W fun e w' => e = .returned (.bool true) ∧ Hid (Below W.heap.size W w') := by
  subst hS
  exact (is_any A l N n hN hm W ⟨hA, h8⟩).mono fun _ _ ⟨h1, h2⟩ => ⟨h1, Lib.hid h2⟩
theorem cmp_at (a0 a1 a2 a3 a4 a5 b0 b1 b2 b3 b4 b5 z : Int) (hz : cmpT a0 a1 a2 a3 a4 a5 b0 b1 b2 b3 b4 b5 = z) :
    Calls Tryd.prog 29 #[tV a0 a1 a2 a3 a4 a5, tV b0 b1 b2 b3 b4 b5] W fun e w' => e = .returned (.int .i64 z) ∧ Hid (Below W.heap.size W w') :=
  (compare_any a0 a1 a2 a3 a4 a5 b0 b1 b2 b3 b4 b5 W).mono fun _ _ ⟨h1, h2⟩ => ⟨by rw [h1, hz], Lib.hid h2⟩
theorem tof_at (a b c d e f : Nat) (hr : a < 65536 ∧ b < 256 ∧ c < 256 ∧ d < 256 ∧ e < 256 ∧ f < 256) (Y M D H MI S : Nat) (h0 : a % 10000 = Y) (h1 : 1 + b % 12 = M) (h2 : ofD a b c = D) (h3 : d % 24 = H) (h4 : e % 60 = MI) (h5 : f % 60 = S) :
    Calls Tryd.prog 20 #[.agg #[.int .u16 (a : Int), .int .u8 (b : Int), .int .u8 (c : Int), .int .u8 (d : Int), .int .u8 (e : Int), .int .u8 (f : Int)]] W fun x w' => x = .returned (tV Y M D H MI S) ∧ Hid (Below W.heap.size W w') := by
  subst h0 h1 h2 h3 h4 h5
  exact (tof_any a b c d e f hr.1 hr.2.1 hr.2.2.1 hr.2.2.2.1 hr.2.2.2.2.1 hr.2.2.2.2.2 W).mono fun _ _ ⟨h1, h2⟩ => ⟨h1, Lib.hid h2⟩
/-- Parse's answer is one. -/
theorem parse_fix (l : List Nat) (h8 : All8 l) (hlm : l.length ≤ 1000000) (T : List Value) (f : Int) (ha : AnsX l T f) (hE : Env W) :
    Calls Tryd.prog 38 #[.string (bstr l)] W fun e w' => e = .returned (.tuple #[.agg T.toArray, .int .i64 f]) ∧ Below W.heap.size W w' :=
  (parse_ans l h8 hlm W hE).mono fun _ _ ⟨T2, f2, h1, h2, h3⟩ => ⟨by obtain ⟨rfl, rfl⟩ := ha.uniq h1; exact h2, h3⟩
theorem parsed_at (l : List Nat) (h8 : All8 l) (hlm : l.length ≤ 1000000) (S : ByteArray) (hS : bstr l = S) (b0 b1 b2 b3 b4 b5 f : Int) (ha : AnsX l (tL b0 b1 b2 b3 b4 b5) f) (hE : Env W) :
    Calls Tryd.prog 25 #[.string S, tV b0 b1 b2 b3 b4 b5, .int .i64 f] W fun e w' => e = .returned (.bool true) ∧ Hid (Below W.heap.size W w') := by
  subst hS
  exact (parsed_any l b0 b1 b2 b3 b4 b5 b0 b1 b2 b3 b4 b5 f f true (by simp) W hE (fun W2 hE2 => parse_fix W2 l h8 hlm _ f ha hE2)).mono fun _ _ ⟨h1, h2⟩ => ⟨h1, Lib.hid h2⟩
/-- Of's answer is one. -/
theorem of_fix (k : Nat) (hk : k = 23 ∨ k = 24) (l : List Nat) (N ca : Nat) (hN : l.length = N) (A B : Option Addr) (cb : Nat) (h8 : All8 l) (hlm : l.length ≤ 1000000) (T : List Value) (f : Int) (ha : AnsE k l T f) (hE : Env W) (hA : Rb W A l) :
    Calls Tryd.prog 26 #[.agg (elF 0 false k (.slice A N ca) (.slice B 0 cb)).toArray] W fun e w' => e = .returned (.tuple #[.agg T.toArray, .int .i64 f]) ∧ Below W.heap.size W w' := by
  rcases hk with rfl | rfl
  · exact (of_ansU l N ca hN A B cb h8 hlm W hE hA).mono fun _ _ ⟨T2, f2, h1, h2, h3⟩ => ⟨by obtain ⟨rfl, rfl⟩ := ha.uniq (by decide) h1; exact h2, h3⟩
  · exact (of_ansG l N ca hN A B cb h8 hlm W hE hA).mono fun _ _ ⟨T2, f2, h1, h2, h3⟩ => ⟨by obtain ⟨rfl, rfl⟩ := ha.uniq (by decide) h1; exact h2, h3⟩
theorem lof_at (k : Nat) (hk : k = 23 ∨ k = 24) (l : List Nat) (h8 : All8 l) (hlm : l.length ≤ 1000000) (S : ByteArray) (hS : bstr l = S) (b0 b1 b2 b3 b4 b5 f : Int) (ha : AnsE k l (tL b0 b1 b2 b3 b4 b5) f) (hE : Env W) :
    Calls Tryd.prog 23 #[.int .u32 (k : Int), .string S, tV b0 b1 b2 b3 b4 b5, .int .i64 f] W fun e w' => e = .returned (.bool true) ∧ Hid (Below W.heap.size W w') := by
  subst hS
  exact (lof_any k l h8 hlm b0 b1 b2 b3 b4 b5 f W hE (fun A ca W2 hE2 hA2 => of_fix W2 k hk l l.length ca rfl A none 0 h8 hlm _ f ha hE2 hA2)).mono fun _ _ ⟨h1, h2⟩ => ⟨h1, Lib.hid h2⟩
end
end Go.Proofs.YtecmgkmonehmfaaDoor.Tim
