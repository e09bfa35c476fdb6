/-
  Layer 5: contracts of OfInt, OfEnumerated, OfNat, OfBool, Int, Enumerated, Bool, Null, Nat; of the reference's Wrong.
  Conditions: the element's octets read as bytes.
-/
import Derived.Test.YtdmbkbgnlmiilaaSclJ
namespace Go.Proofs.Ytdmbkbgnlmiilaa.Scl
open Go.RowKit

/-- What an integer's element gives. -/
def oiV (c n : Nat) (k : Bool) (S num : Nat) (l : List Nat) : Int := if wrg c n k S num = 0 then giV l else 0
def oiE (c n : Nat) (k : Bool) (S num : Nat) (l : List Nat) : Nat := if wrg c n k S num = 0 then giE l else wrg c n k S num
def obV (c n : Nat) (k : Bool) (S num : Nat) (l : List Nat) : Bool := if wrg c n k S num = 0 then gbV l else false
def obE (c n : Nat) (k : Bool) (S num : Nat) (l : List Nat) : Nat := if wrg c n k S num = 0 then gbE l else wrg c n k S num
def onL (c n : Nat) (k : Bool) (S num : Nat) (l : List Nat) : List Nat := if wrg c n k S num = 0 then gnL l else []
def onE (c n : Nat) (k : Bool) (S num : Nat) (l : List Nat) : Nat := if wrg c n k S num = 0 then gnE l else wrg c n k S num
theorem box5 (w : World) (c n : Nat) (k : Bool) (u v : Value) : Bk (w.alloc (.cells #[.int .u8 (c : Int), .bool k, .int .u32 (n : Int), u, v] 34)) w.heap.size 34 [.int .u8 (c : Int), .bool k, .int .u32 (n : Int), u, v] := Bk.new w _ _

set_option maxRecDepth 100000 in
set_option maxHeartbeats 2000000 in
theorem ofint_any (c n : Nat) (k : Bool) (A B : Option Addr) (l : List Nat) (L ca S cb : Nat) (w : World) (h : Rb w A l) (hL : l.length = L) (hca : L ≤ ca) (hcm : ca ≤ maxLen) :
    Calls Try.prog 15 #[elV c n k (.slice A L ca) (.slice B S cb)] w fun e w' => e = .returned (.tuple #[.int .i64 (oiV c n k S 2 l), .int .i64 ((oiE c n k S 2 l : Nat) : Int)]) ∧ Below (w).heap.size (w) w' := by
  obtain ⟨c0, c1, c2, c3, c4, hsz⟩ := Bk.five (box5 w c n k (.slice A L ca) (.slice B S cb))
  have HB0 := Lib.hid (bel1 w (.cells #[.int .u8 (c : Int), .bool k, .int .u32 (n : Int), .slice A L ca, .slice B S cb] 34))
  have HV0 : Calls Try.prog 38 #[elV c n k (.slice A L ca) (.slice B S cb), .int .u32 ((2 : Nat) : Int), .func (.func 36) #[] #[]] (w.alloc (.cells #[.int .u8 (c : Int), .bool k, .int .u32 (n : Int), .slice A L ca, .slice B S cb] 34)) fun e w' => e = .returned (.tuple #[.int .i64 (oiV c n k S 2 l), .int .i64 ((oiE c n k S 2 l : Nat) : Int)]) ∧ Below ((w.alloc (.cells #[.int .u8 (c : Int), .bool k, .int .u32 (n : Int), .slice A L ca, .slice B S cb] 34))).heap.size ((w.alloc (.cells #[.int .u8 (c : Int), .bool k, .int .u32 (n : Int), .slice A L ca, .slice B S cb] 34))) w' :=
    value_int 36 c n k A B L ca S cb 2 (giV l) (giE l) (w.alloc (.cells #[.int .u8 (c : Int), .bool k, .int .u32 (n : Int), .slice A L ca, .slice B S cb] 34)) (fun _ _ => rfl)
      (fun w1 hb => gint_any A l L ca w1 ((h.below HB0.out).below hb) hL hca hcm)
  obtain ⟨z, hz⟩ : ∃ z, oiV c n k S 2 l = z := ⟨_, rfl⟩
  obtain ⟨f, hf⟩ : ∃ f, oiE c n k S 2 l = f := ⟨_, rfl⟩
  rw [hz, hf] at HV0
  rw [hz, hf]
  have HV := Lib.hid HV0
  clear h HV0 hz hf
  go_enter Try.func15, Try.ntmps15
  go_wp2_with fail
  refine HV.out.mono ?_
  rintro e w1 ⟨rfl, hb⟩
  have HB1 := bt HB0 (Lib.hid hb)
  clear hb
  go_wp2_with fail
  go_ret2
  exact ⟨rfl, HB1.out⟩
set_option maxRecDepth 100000 in
set_option maxHeartbeats 2000000 in
theorem ofenum_any (c n : Nat) (k : Bool) (A B : Option Addr) (l : List Nat) (L ca S cb : Nat) (w : World) (h : Rb w A l) (hL : l.length = L) (hca : L ≤ ca) (hcm : ca ≤ maxLen) :
    Calls Try.prog 16 #[elV c n k (.slice A L ca) (.slice B S cb)] w fun e w' => e = .returned (.tuple #[.int .i64 (oiV c n k S 10 l), .int .i64 ((oiE c n k S 10 l : Nat) : Int)]) ∧ Below (w).heap.size (w) w' := by
  obtain ⟨c0, c1, c2, c3, c4, hsz⟩ := Bk.five (box5 w c n k (.slice A L ca) (.slice B S cb))
  have HB0 := Lib.hid (bel1 w (.cells #[.int .u8 (c : Int), .bool k, .int .u32 (n : Int), .slice A L ca, .slice B S cb] 34))
  have HV0 : Calls Try.prog 38 #[elV c n k (.slice A L ca) (.slice B S cb), .int .u32 ((10 : Nat) : Int), .func (.func 36) #[] #[]] (w.alloc (.cells #[.int .u8 (c : Int), .bool k, .int .u32 (n : Int), .slice A L ca, .slice B S cb] 34)) fun e w' => e = .returned (.tuple #[.int .i64 (oiV c n k S 10 l), .int .i64 ((oiE c n k S 10 l : Nat) : Int)]) ∧ Below ((w.alloc (.cells #[.int .u8 (c : Int), .bool k, .int .u32 (n : Int), .slice A L ca, .slice B S cb] 34))).heap.size ((w.alloc (.cells #[.int .u8 (c : Int), .bool k, .int .u32 (n : Int), .slice A L ca, .slice B S cb] 34))) w' :=
    value_int 36 c n k A B L ca S cb 10 (giV l) (giE l) (w.alloc (.cells #[.int .u8 (c : Int), .bool k, .int .u32 (n : Int), .slice A L ca, .slice B S cb] 34)) (fun _ _ => rfl)
      (fun w1 hb => gint_any A l L ca w1 ((h.below HB0.out).below hb) hL hca hcm)
  obtain ⟨z, hz⟩ : ∃ z, oiV c n k S 10 l = z := ⟨_, rfl⟩
  obtain ⟨f, hf⟩ : ∃ f, oiE c n k S 10 l = f := ⟨_, rfl⟩
  rw [hz, hf] at HV0
  rw [hz, hf]
  have HV := Lib.hid HV0
  clear h HV0 hz hf
  go_enter Try.func16, Try.ntmps16
  go_wp2_with fail
  refine HV.out.mono ?_
  rintro e w1 ⟨rfl, hb⟩
  have HB1 := bt HB0 (Lib.hid hb)
  clear hb
  go_wp2_with fail
  go_ret2
  exact ⟨rfl, HB1.out⟩
set_option maxRecDepth 100000 in
set_option maxHeartbeats 2000000 in
theorem ofbool_any (c n : Nat) (k : Bool) (A B : Option Addr) (l : List Nat) (L ca S cb : Nat) (w : World) (h : Rb w A l) (hL : l.length = L) (_hca : L ≤ ca) (_hcm : ca ≤ maxLen) :
    Calls Try.prog 30 #[elV c n k (.slice A L ca) (.slice B S cb)] w fun e w' => e = .returned (.tuple #[.bool (obV c n k S 1 l), .int .i64 ((obE c n k S 1 l : Nat) : Int)]) ∧ Below (w).heap.size (w) w' := by
  obtain ⟨c0, c1, c2, c3, c4, hsz⟩ := Bk.five (box5 w c n k (.slice A L ca) (.slice B S cb))
  have HB0 := Lib.hid (bel1 w (.cells #[.int .u8 (c : Int), .bool k, .int .u32 (n : Int), .slice A L ca, .slice B S cb] 34))
  have HV0 : Calls Try.prog 47 #[elV c n k (.slice A L ca) (.slice B S cb), .int .u32 ((1 : Nat) : Int), .func (.func 18) #[] #[]] (w.alloc (.cells #[.int .u8 (c : Int), .bool k, .int .u32 (n : Int), .slice A L ca, .slice B S cb] 34)) fun e w' => e = .returned (.tuple #[.bool (obV c n k S 1 l), .int .i64 ((obE c n k S 1 l : Nat) : Int)]) ∧ Below ((w.alloc (.cells #[.int .u8 (c : Int), .bool k, .int .u32 (n : Int), .slice A L ca, .slice B S cb] 34))).heap.size ((w.alloc (.cells #[.int .u8 (c : Int), .bool k, .int .u32 (n : Int), .slice A L ca, .slice B S cb] 34))) w' :=
    value_bool 18 c n k A B L ca S cb 1 (gbV l) (gbE l) (w.alloc (.cells #[.int .u8 (c : Int), .bool k, .int .u32 (n : Int), .slice A L ca, .slice B S cb] 34)) (fun _ _ => rfl)
      (fun w1 hb => (gbool_any A l L ca w1 ((h.below HB0.out).below hb) hL).mono fun _ _ ⟨h1, h2⟩ => ⟨h1, h2 ▸ Below.refl _ _⟩)
  obtain ⟨z, hz⟩ : ∃ z, obV c n k S 1 l = z := ⟨_, rfl⟩
  obtain ⟨f, hf⟩ : ∃ f, obE c n k S 1 l = f := ⟨_, rfl⟩
  rw [hz, hf] at HV0
  rw [hz, hf]
  have HV := Lib.hid HV0
  clear h HV0 hz hf
  go_enter Try.func30, Try.ntmps30
  go_wp2_with fail
  refine HV.out.mono ?_
  rintro e w1 ⟨rfl, hb⟩
  have HB1 := bt HB0 (Lib.hid hb)
  clear hb
  go_wp2_with fail
  go_ret2
  exact ⟨rfl, HB1.out⟩
set_option maxRecDepth 100000 in
set_option maxHeartbeats 2000000 in
theorem ofnat_any (c n : Nat) (k : Bool) (A B : Option Addr) (l : List Nat) (L ca S cb : Nat) (w : World) (h : Rb w A l) (hL : l.length = L) (hca : L ≤ ca) (hcm : ca ≤ maxLen) (hn : L ≤ 1000) :
    Calls Try.prog 28 #[elV c n k (.slice A L ca) (.slice B S cb)] w fun e w' => ∃ A', e = .returned (.tuple #[.slice A' (onL c n k S 2 l).length (onL c n k S 2 l).length, .int .i64 ((onE c n k S 2 l : Nat) : Int)]) ∧ Rb w' A' (onL c n k S 2 l) ∧ Below (w).heap.size (w) w' := by
  obtain ⟨c0, c1, c2, c3, c4, hsz⟩ := Bk.five (box5 w c n k (.slice A L ca) (.slice B S cb))
  have HB0 := Lib.hid (bel1 w (.cells #[.int .u8 (c : Int), .bool k, .int .u32 (n : Int), .slice A L ca, .slice B S cb] 34))
  have HV0 : Calls Try.prog 46 #[elV c n k (.slice A L ca) (.slice B S cb), .int .u32 ((2 : Nat) : Int), .func (.func 41) #[] #[]] (w.alloc (.cells #[.int .u8 (c : Int), .bool k, .int .u32 (n : Int), .slice A L ca, .slice B S cb] 34)) fun e w' => ∃ A', e = .returned (.tuple #[.slice A' (onL c n k S 2 l).length (onL c n k S 2 l).length, .int .i64 ((onE c n k S 2 l : Nat) : Int)]) ∧ Rb w' A' (onL c n k S 2 l) ∧ Below ((w.alloc (.cells #[.int .u8 (c : Int), .bool k, .int .u32 (n : Int), .slice A L ca, .slice B S cb] 34))).heap.size ((w.alloc (.cells #[.int .u8 (c : Int), .bool k, .int .u32 (n : Int), .slice A L ca, .slice B S cb] 34))) w' :=
    value_nat 41 c n k A B L ca S cb 2 (gnL l) (gnE l) (w.alloc (.cells #[.int .u8 (c : Int), .bool k, .int .u32 (n : Int), .slice A L ca, .slice B S cb] 34)) (fun _ _ => rfl)
      (fun w1 hb => gnat_any A l L ca w1 ((h.below HB0.out).below hb) hL hca hcm hn)
  obtain ⟨z, hz⟩ : ∃ z, onL c n k S 2 l = z := ⟨_, rfl⟩
  obtain ⟨f, hf⟩ : ∃ f, onE c n k S 2 l = f := ⟨_, rfl⟩
  rw [hz, hf] at HV0
  rw [hz, hf]
  obtain ⟨Z, hZ⟩ : ∃ Z, z.length = Z := ⟨_, rfl⟩
  rw [hZ] at HV0
  rw [hZ]
  clear hZ
  have HV := Lib.hid HV0
  clear h HV0 hz hf
  go_enter Try.func28, Try.ntmps28
  go_wp2_with fail
  refine HV.out.mono ?_
  rintro e w1 ⟨A', rfl, hr, hb⟩
  have HR := Lib.hid hr
  have HB1 := bt HB0 (Lib.hid hb)
  clear hb hr
  go_wp2_with fail
  go_ret2
  exact ⟨A', rfl, HR.out, HB1.out⟩
set_option maxRecDepth 100000 in
set_option maxHeartbeats 2000000 in
theorem int_any (z : Int) (w : World) (h1 : -9223372036854775808 ≤ z) (h2 : z < 9223372036854775808) : Calls Try.prog 13 #[.int .i64 z] w fun e w' => ∃ A, e = .returned (elV 0 2 false (.slice A (putI z).length (putI z).length) (.slice none 0 0)) ∧ Rb w' A (putI z) ∧ Below w.heap.size w w' := by
  have hk := Bk.new w 34 elZ
  have HB0 := Lib.hid (bel1 w (.cells elZ.toArray 34))
  have HP := Lib.hid (fun w1 => pint_any z w1 h1 h2)
  unfold GiveN at HP
  obtain ⟨P, hP⟩ : ∃ P, putI z = P := ⟨_, rfl⟩
  rw [hP] at HP ⊢
  obtain ⟨N, hN⟩ : ∃ N, P.length = N := ⟨_, rfl⟩
  rw [hN] at HP ⊢
  have HN := Lib.hid hN
  clear hP hN
  go_enter Try.func13, Try.ntmps13
  go_wp2_with fail
  refine (HP.out _).mono ?_
  rintro e w1 ⟨A, rfl, hr, hb, hq⟩
  have hk1 := hk.below hb hk.lt
  have HR := Lib.hid hr
  have HB1 := bt HB0 (Lib.hid hb)
  have HQ := Lib.hid (fun q (e : A = some q) => (by have h1 := hq q e; have h2 : w.heap.size + 1 ≤ q.block := by simpa using h1
                                                    omega : q.block ≠ w.heap.size))
  clear hb hr hk hq
  go_wp2_with fail
  refine (elem_any 2 (.slice A N N) w1 ⟨_, _, _, rfl⟩).mono ?_
  rintro e w2 ⟨rfl, hb⟩
  have hk2 := hk1.below hb hk1.lt
  obtain ⟨c0, c1, c2, c3, c4, hsz⟩ := Bk.five hk2
  obtain ⟨f0, f1, f2, f3, f4⟩ := Bk.free5 hk2
  have HB2 := bt HB1 (Lib.hid hb)
  have HR2 := Lib.hid (HR.out.below hb)
  have HK := Lib.hid (((((hk2.store 0 (.int .u8 0)).store 1 (.bool false)).store 2 (.int .u32 2)).store 3 (.slice A N N)).store 4 (.slice none 0 0))
  clear hb hk1 hk2 HP
  go_wp2_with fail
  obtain ⟨s0, s1, s2, s3, s4, _⟩ := Bk.five HK.out
  have hl := Nat.le_refl w.heap.size
  exact bodyPost_ret (v := elV 0 2 false (.slice A N N) (.slice none 0 0)) (by simp [results, Try.results13, go_sem, s0, s1, s2, s3, s4]) rfl
    ⟨A, rfl, ((((HR2.out.far HQ.out _).far HQ.out _).far HQ.out _).far HQ.out _).far HQ.out _, ((((HB2.out.setCell (p := ⟨w.heap.size, 0, none⟩) hl _).setCell (p := ⟨w.heap.size, 1, none⟩) hl _).setCell (p := ⟨w.heap.size, 2, none⟩) hl _).setCell (p := ⟨w.heap.size, 3, none⟩) hl _).setCell (p := ⟨w.heap.size, 4, none⟩) hl _⟩
set_option maxRecDepth 100000 in
set_option maxHeartbeats 2000000 in
theorem enum_any (z : Int) (w : World) (h1 : -9223372036854775808 ≤ z) (h2 : z < 9223372036854775808) : Calls Try.prog 14 #[.int .i64 z] w fun e w' => ∃ A, e = .returned (elV 0 10 false (.slice A (putI z).length (putI z).length) (.slice none 0 0)) ∧ Rb w' A (putI z) ∧ Below w.heap.size w w' := by
  have hk := Bk.new w 34 elZ
  have HB0 := Lib.hid (bel1 w (.cells elZ.toArray 34))
  have HP := Lib.hid (fun w1 => pint_any z w1 h1 h2)
  unfold GiveN at HP
  obtain ⟨P, hP⟩ : ∃ P, putI z = P := ⟨_, rfl⟩
  rw [hP] at HP ⊢
  obtain ⟨N, hN⟩ : ∃ N, P.length = N := ⟨_, rfl⟩
  rw [hN] at HP ⊢
  have HN := Lib.hid hN
  clear hP hN
  go_enter Try.func14, Try.ntmps14
  go_wp2_with fail
  refine (HP.out _).mono ?_
  rintro e w1 ⟨A, rfl, hr, hb, hq⟩
  have hk1 := hk.below hb hk.lt
  have HR := Lib.hid hr
  have HB1 := bt HB0 (Lib.hid hb)
  have HQ := Lib.hid (fun q (e : A = some q) => (by have h1 := hq q e; have h2 : w.heap.size + 1 ≤ q.block := by simpa using h1
                                                    omega : q.block ≠ w.heap.size))
  clear hb hr hk hq
  go_wp2_with fail
  refine (elem_any 10 (.slice A N N) w1 ⟨_, _, _, rfl⟩).mono ?_
  rintro e w2 ⟨rfl, hb⟩
  have hk2 := hk1.below hb hk1.lt
  obtain ⟨c0, c1, c2, c3, c4, hsz⟩ := Bk.five hk2
  obtain ⟨f0, f1, f2, f3, f4⟩ := Bk.free5 hk2
  have HB2 := bt HB1 (Lib.hid hb)
  have HR2 := Lib.hid (HR.out.below hb)
  have HK := Lib.hid (((((hk2.store 0 (.int .u8 0)).store 1 (.bool false)).store 2 (.int .u32 10)).store 3 (.slice A N N)).store 4 (.slice none 0 0))
  clear hb hk1 hk2 HP
  go_wp2_with fail
  obtain ⟨s0, s1, s2, s3, s4, _⟩ := Bk.five HK.out
  have hl := Nat.le_refl w.heap.size
  exact bodyPost_ret (v := elV 0 10 false (.slice A N N) (.slice none 0 0)) (by simp [results, Try.results14, go_sem, s0, s1, s2, s3, s4]) rfl
    ⟨A, rfl, ((((HR2.out.far HQ.out _).far HQ.out _).far HQ.out _).far HQ.out _).far HQ.out _, ((((HB2.out.setCell (p := ⟨w.heap.size, 0, none⟩) hl _).setCell (p := ⟨w.heap.size, 1, none⟩) hl _).setCell (p := ⟨w.heap.size, 2, none⟩) hl _).setCell (p := ⟨w.heap.size, 3, none⟩) hl _).setCell (p := ⟨w.heap.size, 4, none⟩) hl _⟩
set_option maxRecDepth 100000 in
set_option maxHeartbeats 2000000 in
theorem bool_any (v : Bool) (w : World) : Calls Try.prog 33 #[.bool v] w fun e w' => ∃ A, e = .returned (elV 0 1 false (.slice A (pbL v).length (pbL v).length) (.slice none 0 0)) ∧ Rb w' A (pbL v) ∧ Below w.heap.size w w' := by
  have hk := Bk.new w 34 elZ
  have HB0 := Lib.hid (bel1 w (.cells elZ.toArray 34))
  have HP := Lib.hid (fun w1 => pbool_any v w1)
  unfold GiveN at HP
  obtain ⟨P, hP⟩ : ∃ P, pbL v = P := ⟨_, rfl⟩
  rw [hP] at HP ⊢
  obtain ⟨N, hN⟩ : ∃ N, P.length = N := ⟨_, rfl⟩
  rw [hN] at HP ⊢
  have HN := Lib.hid hN
  clear hP hN
  go_enter Try.func33, Try.ntmps33
  go_wp2_with fail
  refine (HP.out _).mono ?_
  rintro e w1 ⟨A, rfl, hr, hb, hq⟩
  have hk1 := hk.below hb hk.lt
  have HR := Lib.hid hr
  have HB1 := bt HB0 (Lib.hid hb)
  have HQ := Lib.hid (fun q (e : A = some q) => (by have h1 := hq q e; have h2 : w.heap.size + 1 ≤ q.block := by simpa using h1
                                                    omega : q.block ≠ w.heap.size))
  clear hb hr hk hq
  go_wp2_with fail
  refine (elem_any 1 (.slice A N N) w1 ⟨_, _, _, rfl⟩).mono ?_
  rintro e w2 ⟨rfl, hb⟩
  have hk2 := hk1.below hb hk1.lt
  obtain ⟨c0, c1, c2, c3, c4, hsz⟩ := Bk.five hk2
  obtain ⟨f0, f1, f2, f3, f4⟩ := Bk.free5 hk2
  have HB2 := bt HB1 (Lib.hid hb)
  have HR2 := Lib.hid (HR.out.below hb)
  have HK := Lib.hid (((((hk2.store 0 (.int .u8 0)).store 1 (.bool false)).store 2 (.int .u32 1)).store 3 (.slice A N N)).store 4 (.slice none 0 0))
  clear hb hk1 hk2 HP
  go_wp2_with fail
  obtain ⟨s0, s1, s2, s3, s4, _⟩ := Bk.five HK.out
  have hl := Nat.le_refl w.heap.size
  exact bodyPost_ret (v := elV 0 1 false (.slice A N N) (.slice none 0 0)) (by simp [results, Try.results33, go_sem, s0, s1, s2, s3, s4]) rfl
    ⟨A, rfl, ((((HR2.out.far HQ.out _).far HQ.out _).far HQ.out _).far HQ.out _).far HQ.out _, ((((HB2.out.setCell (p := ⟨w.heap.size, 0, none⟩) hl _).setCell (p := ⟨w.heap.size, 1, none⟩) hl _).setCell (p := ⟨w.heap.size, 2, none⟩) hl _).setCell (p := ⟨w.heap.size, 3, none⟩) hl _).setCell (p := ⟨w.heap.size, 4, none⟩) hl _⟩
set_option maxRecDepth 100000 in
set_option maxHeartbeats 2000000 in
theorem null_any (w : World) : Calls Try.prog 34 #[] w fun e w' => e = .returned (elV 0 5 false (.slice none 0 0) (.slice none 0 0)) ∧ Below w.heap.size w w' := by
  have hk1 := Bk.new w 34 elZ
  have HB1 := Lib.hid (bel1 w (.cells elZ.toArray 34))
  go_enter Try.func34, Try.ntmps34
  go_wp2_with fail
  refine (elem_any 5 (.slice none 0 0) _ ⟨_, _, _, rfl⟩).mono ?_
  rintro e w2 ⟨rfl, hb⟩
  have hk2 := hk1.below hb hk1.lt
  obtain ⟨c0, c1, c2, c3, c4, hsz⟩ := Bk.five hk2
  obtain ⟨f0, f1, f2, f3, f4⟩ := Bk.free5 hk2
  have HB2 := bt HB1 (Lib.hid hb)
  have HK := Lib.hid (((((hk2.store 0 (.int .u8 0)).store 1 (.bool false)).store 2 (.int .u32 5)).store 3 (.slice none 0 0)).store 4 (.slice none 0 0))
  clear hb hk1 hk2
  go_wp2_with fail
  obtain ⟨s0, s1, s2, s3, s4, _⟩ := Bk.five HK.out
  have hl := Nat.le_refl w.heap.size
  exact bodyPost_ret (v := elV 0 5 false (.slice none 0 0) (.slice none 0 0)) (by simp [results, Try.results34, go_sem, s0, s1, s2, s3, s4]) rfl
    ⟨rfl, ((((HB2.out.setCell (p := ⟨w.heap.size, 0, none⟩) hl _).setCell (p := ⟨w.heap.size, 1, none⟩) hl _).setCell (p := ⟨w.heap.size, 2, none⟩) hl _).setCell (p := ⟨w.heap.size, 3, none⟩) hl _).setCell (p := ⟨w.heap.size, 4, none⟩) hl _⟩
end Go.Proofs.Ytdmbkbgnlmiilaa.Scl
