/-
  Layer 4: the order of octets; bytes.Compare; Compare.
  Conditions: none beyond that values read as elements; the content of a valid one has at most 2^20 octets.
-/
import Derived.Test.YtgdjgahmnnjeeaaElP
import Derived.Laws.Externs
namespace Go.Proofs.Ytgdjgahmnnjeeaa
open Go.RowKit

/-- The order of octets: -1, 0 or 1. -/
def cmpB : List Nat → List Nat → Int
  | [], [] => 0
  | [], _ :: _ => -1
  | _ :: _, [] => 1
  | a :: l, b :: m => if a < b then -1 else if b < a then 1 else cmpB l m
/-- The same, by the first place where they part. -/
def cmpN (l m : List UInt8) : Int :=
  match (List.range (min l.length m.length)).find? fun i => l[i]! != m[i]! with
  | some i => if l[i]! < m[i]! then -1 else 1
  | none => if l.length < m.length then -1 else if l.length > m.length then 1 else 0
theorem cmpN_eq : ∀ (l m : List Nat), All8 l → All8 m → cmpN (l.map UInt8.ofNat) (m.map UInt8.ofNat) = cmpB l m
  | [], [], _, _ => rfl
  | [], y :: m, _, _ => by simp [cmpN, cmpB]
  | x :: l, [], _, _ => by simp [cmpN, cmpB]
  | x :: l, y :: m, hl, hm => by
    have hx := hl x (by simp)
    have hy := hm y (by simp)
    have ih := cmpN_eq l m (fun z hz => hl z (by simp [hz])) (fun z hz => hm z (by simp [hz]))
    rw [cmpB]
    unfold cmpN at ih ⊢
    simp only [List.map_cons, List.length_cons, Nat.succ_min_succ, List.range_succ_eq_map, List.find?_cons, List.getElem!_cons_zero, List.find?_map, Function.comp_def, List.getElem!_cons_succ]
    have h1 : (UInt8.ofNat x != UInt8.ofNat y) = decide (x ≠ y) := by
      rw [Bool.eq_iff_iff, bne_iff_ne, decide_eq_true_iff]
      constructor
      · intro h e; exact h (by rw [e])
      · intro h e
        have := congrArg UInt8.toNat e
        rw [UInt8.toNat_ofNat_of_lt' hx, UInt8.toNat_ofNat_of_lt' hy] at this
        exact h this
    have h2 : (UInt8.ofNat x < UInt8.ofNat y) ↔ x < y := by
      rw [UInt8.lt_iff_toNat_lt, UInt8.toNat_ofNat_of_lt' hx, UInt8.toNat_ofNat_of_lt' hy]
    rw [h1]
    by_cases hxy : x = y
    · subst hxy
      rw [decide_eq_false (by simp), if_neg (Nat.lt_irrefl _), if_neg (Nat.lt_irrefl _), ← ih]
      dsimp only
      cases List.find? (fun i => (List.map UInt8.ofNat l)[i]! != (List.map UInt8.ofNat m)[i]!) (List.range (min (List.map UInt8.ofNat l).length (List.map UInt8.ofNat m).length)) with
      | none =>
        dsimp only [Option.map_none]
        simp only [Nat.add_lt_add_iff_right, gt_iff_lt]
      | some i =>
        dsimp only [Option.map_some]
        simp only [List.getElem!_cons_succ, Nat.succ_eq_add_one]
    · rw [decide_eq_true hxy]
      dsimp only
      simp only [List.getElem!_cons_zero]
      by_cases hlt : x < y
      · rw [if_pos (h2.2 hlt), if_pos hlt]
      · rw [if_neg (fun h => hlt (h2.1 h)), if_neg hlt, if_pos (by omega)]
theorem cmp_bstr {l m : List Nat} (hl : All8 l) (hm : All8 m) : Extern.BytealgCompare.cmp (bstr l) (bstr m) = cmpB l m := by
  rw [← cmpN_eq l m hl hm]
  have e1 : ∀ (l : List Nat), (bstr l).size = (l.map UInt8.ofNat).length := by intro l; rw [bstr_size, List.length_map]
  have e2 : ∀ (l : List Nat) (i : Nat), (bstr l)[i]! = (l.map UInt8.ofNat)[i]! := by
    intro l i
    by_cases h : i < (bstr l).size
    · rw [getElem!_pos (bstr l) i h, getElem!_pos (l.map UInt8.ofNat) i (by rw [← e1]; exact h)]
      exact List.getElem_toArray (show i < (l.map UInt8.ofNat).toArray.size from h)
    · rw [getElem!_neg (bstr l) i h, getElem!_neg (l.map UInt8.ofNat) i (by rw [← e1]; exact h)]
  unfold Extern.BytealgCompare.cmp cmpN
  simp only [e1, e2]
  rfl
theorem cmpB_self (l : List Nat) : cmpB l l = 0 := by
  induction l with
  | nil => rfl
  | cons x l ih => rw [cmpB, if_neg (Nat.lt_irrefl _), if_neg (Nat.lt_irrefl _), ih]
theorem cmpB_zero : ∀ {l m : List Nat}, cmpB l m = 0 ↔ l = m
  | [], [] => by simp [cmpB]
  | [], y :: m => by simp [cmpB]
  | x :: l, [] => by simp [cmpB]
  | x :: l, y :: m => by
    rw [cmpB]
    by_cases h1 : x < y
    · rw [if_pos h1]
      exact ⟨fun h => absurd h (by decide), fun h => by injection h; omega⟩
    · rw [if_neg h1]
      by_cases h2 : y < x
      · rw [if_pos h2]
        exact ⟨fun h => absurd h (by decide), fun h => by injection h; omega⟩
      · rw [if_neg h2, cmpB_zero]
        obtain rfl : x = y := by omega
        simp
theorem cmpB_swap : ∀ (l m : List Nat), cmpB m l = - cmpB l m
  | [], [] => rfl
  | [], y :: m => rfl
  | x :: l, [] => rfl
  | x :: l, y :: m => by
    rw [cmpB, cmpB]
    by_cases h1 : x < y
    · rw [if_neg (by omega), if_pos h1, if_pos h1]; rfl
    · rw [if_neg h1, if_neg h1]
      by_cases h2 : y < x
      · rw [if_pos h2, if_pos h2]
      · rw [if_neg h2, if_neg h2, cmpB_swap l m]
theorem less_bstr : ∀ {l m : List Nat}, All8 l → All8 m → Op.bytesLess (l.map UInt8.ofNat) (m.map UInt8.ofNat) = decide (cmpB l m = -1)
  | [], [], _, _ => rfl
  | [], y :: m, _, _ => rfl
  | x :: l, [], _, _ => rfl
  | x :: l, y :: m, hl, hm => by
    have hx := hl x (by simp)
    have hy := hm y (by simp)
    have ih := less_bstr (l := l) (m := m) (fun z hz => hl z (by simp [hz])) (fun z hz => hm z (by simp [hz]))
    have h2 : (UInt8.ofNat x < UInt8.ofNat y) ↔ x < y := by
      rw [UInt8.lt_iff_toNat_lt, UInt8.toNat_ofNat_of_lt' hx, UInt8.toNat_ofNat_of_lt' hy]
    have h3 : (UInt8.ofNat x == UInt8.ofNat y) = decide (x = y) := by
      rw [Bool.eq_iff_iff, beq_iff_eq, decide_eq_true_iff]
      constructor
      · intro e
        have := congrArg UInt8.toNat e
        rwa [UInt8.toNat_ofNat_of_lt' hx, UInt8.toNat_ofNat_of_lt' hy] at this
      · intro e; rw [e]
    rw [List.map_cons, List.map_cons, Op.bytesLess, cmpB, h3, ih]
    by_cases h4 : x < y
    · rw [if_pos h4, decide_eq_true (h2.2 h4)]; rfl
    · rw [if_neg h4, decide_eq_false (fun h => h4 (h2.1 h)), Bool.false_or]
      by_cases h5 : y < x
      · rw [if_pos h5, decide_eq_false (by omega), Bool.false_and]; rfl
      · rw [if_neg h5, decide_eq_true (by omega), Bool.true_and]

set_option maxHeartbeats 1000000 in
set_option maxRecDepth 100000 in
theorem bcmp_any (A B : Option Addr) (l m : List Nat) (c d : Nat) (w : World) (hA : Rb w A l) (hB : Rb w B m) :
    Calls Try.prog 46 #[.slice A l.length c, .slice B m.length d] w fun e w' => e = .returned (.int .i64 (cmpB l m)) ∧ w = w' := by
  have hx := run_callFunc_extern (P := Try.prog) (e := Extern.BytealgCompare.compare) Try.func69 (by kernel_rfl) (by kernel_rfl) (by kernel_rfl) (by kernel_rfl) #[.slice A l.length c, .slice B m.length d] w
  have h1 := run_bytesOfX (P := Try.prog) hA (c := c)
  have h2 := run_bytesOfX (P := Try.prog) hB (c := d)
  have hr : (Extern.BytealgCompare.compare #[.slice A l.length c, .slice B m.length d]).run Try.prog w = .ok (.int .i64 (cmpB l m)) w := by
    change (Sem.run Try.prog (do pure (goInt (Extern.BytealgCompare.cmp (← Extern.Bytes.bytesOf (.slice A l.length c)) (← Extern.Bytes.bytesOf (.slice B m.length d))))) w) = _
    simp only [Sem.run_bind, h1, h2, Result.andThen_ok, Sem.run_pure, cmp_bstr hA.2 hB.2]
    rfl
  rw [hr] at hx
  clear h1 h2 hr hA hB
  go_enter Try.func46, Try.ntmps46
  go_wp2_with fail
  go_ret
  exact ⟨rfl, rfl⟩

set_option maxHeartbeats 1000000 in
set_option maxRecDepth 100000 in
theorem ecmp_any {x y : Bool} {S T : Nat → Prop} (a b : El) (v v' : Value) (w : World) (hd : depE a ≤ 10000) (hd' : depE b ≤ 10000) (hco : conOk a) (hco' : conOk b) (h : RdE x S w a v) (h' : RdE y T w b v') :
    Calls Try.prog 23 #[v, v'] w fun r w' => r = .returned (.int .i64 (cmpB (encR a).1 (encR b).1)) ∧ Below w.heap.size w w' := by
  obtain ⟨c, n, k, bs, ss⟩ := a
  obtain ⟨c', n', k', bs', ss'⟩ := b
  have hE := h
  have hE' := h'
  obtain ⟨h1, h2, h3, A, ca, B, cb, rfl, h5, h6, h7, h8, h9, h10, h11⟩ := h
  obtain ⟨g1, g2, g3, A', ca', B', cb', rfl, g5, g6, g7, g8, g9, g10, g11⟩ := h'
  clear h1 h2 h3 h5 h6 h7 h8 h9 h10 h11 g1 g2 g3 g5 g6 g7 g8 g9 g10 g11
  have hba := bel2 w (.cells #[.int .u8 (c : Int), .bool k, .int .u32 (n : Int), .slice A bs.length ca, .slice B ss.length cb] 29) (.cells #[.int .u8 (c' : Int), .bool k', .int .u32 (n' : Int), .slice A' bs'.length ca', .slice B' ss'.length cb'] 29)
  have HP := Lib.hid (eput_any _ _ _ hd (hE.stay hba) hco)
  have HE' := Lib.hid (hE'.stay hba)
  have HBA := Lib.hid hba
  have HD := Lib.hid (And.intro hd' hco')
  have HK' := Lib.hid (Bk.new (w.alloc (.cells #[.int .u8 (c : Int), .bool k, .int .u32 (n : Int), .slice A bs.length ca, .slice B ss.length cb] 29)) 29 [.int .u8 (c' : Int), .bool k', .int .u32 (n' : Int), .slice A' bs'.length ca', .slice B' ss'.length cb'])
  obtain ⟨q, hq⟩ : ∃ q, encR (.mk c n k bs ss) = q := ⟨_, rfl⟩
  obtain ⟨l, f⟩ := q
  obtain ⟨q', hq'⟩ : ∃ q', encR (.mk c' n' k' bs' ss') = q' := ⟨_, rfl⟩
  obtain ⟨m, g⟩ := q'
  rw [hq] at HP
  have HQ' := Lib.hid hq'
  rw [hq, hq']
  clear hE hE' hba hd hd' hco hco' hq hq'
  go_enter Try.func23, Try.ntmps23
  go_wp2_with fail
  refine HP.out.mono ?_
  rintro r w1 ⟨A1, rfl, r1, l1, hb1⟩
  have hk' := HK'.out
  rw [World.size_alloc] at hk'
  obtain ⟨f0, f1, f2, f3, f4, hsz'⟩ := (hk'.below hb1 hk'.lt).five
  have HB := Lib.hid (HBA.out.trans (hb1.mono HBA.out.size))
  have HP2 := Lib.hid (eput_any _ _ _ HD.out.1 (HE'.out.stay hb1) HD.out.2)
  rw [HQ'.out] at HP2
  have HR1 : Hid (Rb w1 A1 l) := Lib.hid ⟨r1.rd, l1⟩
  clear hb1 hk' HP HK' r1 l1
  dsimp only
  go_wp2_with fail
  refine HP2.out.mono ?_
  rintro r w2 ⟨A2, rfl, r2, l2, hb2⟩
  have HB2 := Lib.hid (HB.out.trans (hb2.mono HB.out.size))
  have HC := Lib.hid (bcmp_any A1 A2 l m l.length m.length w2 (HR1.out.below hb2) ⟨r2.rd, l2⟩)
  clear hb2 r2 l2 f0 f1 f2 f3 f4 hsz' HP2
  dsimp only
  go_wp2_with fail
  refine HC.out.mono ?_
  rintro r w3 ⟨rfl, rfl⟩
  go_wp2_with fail
  go_ret
  exact ⟨rfl, HB2.out⟩
end Go.Proofs.Ytgdjgahmnnjeeaa
