/-
  Package oids: the contract of Parse.
  Conditions: the string has at most 1000000 bytes; the variables hold what the program's text lays.
-/
import Derived.Test.YtndamidmgglneaaDoorOidS
import Derived.Test.YtndamidmgglneaaDoorOidO
import Derived.Lib.AtoiErrMem
namespace Go.Proofs.YtndamidmgglneaaDoor
open Go.RowKit Go.Shelf
attribute [local go_sem] Oper.semAt_some

/-- The value of a decimal number. -/
def vdA (a : Nat) (l : List Nat) : Nat := l.foldl (fun a c => 10 * a + (c - 48)) a
def vd (l : List Nat) : Nat := vdA 0 l
theorem vdA_ge : ∀ (l : List Nat) (a : Nat), a ≤ vdA a l
  | [], _ => Nat.le_refl _
  | c :: l, a => Nat.le_trans (by omega) (vdA_ge l (10 * a + (c - 48)))
theorem prsM : ∀ (l : List Nat) (a : Nat), All8 l → l.all dg = true → a ≤ 4294967295 → Lib.parseUintM 4294967295 a (l.map UInt8.ofNat) = if vdA a l ≤ 4294967295 then .ok (vdA a l) else .range
  | [], a, _, _, ha => by rw [List.map_nil, Lib.parseUintM, vdA, List.foldl_nil, if_pos ha]
  | c :: l, a, h8, hd, ha => by
    have hc := h8 c (by simp)
    rw [List.all_cons, Bool.and_eq_true] at hd
    have hc2 : 48 ≤ c ∧ c ≤ 57 := by have := hd.1; unfold dg at this; simpa using this
    rw [List.map_cons, Lib.parseUintM, UInt8.toNat_ofNat_of_lt' hc, if_pos hc2, if_neg (by omega)]
    have e : a * 10 + (c - 48) = 10 * a + (c - 48) := by omega
    rw [e]
    show _ = if vdA (10 * a + (c - 48)) l ≤ 4294967295 then _ else _
    by_cases h : 4294967295 < 10 * a + (c - 48)
    · rw [if_pos h, if_neg (by have := vdA_ge l (10 * a + (c - 48)); omega)]
    · rw [if_neg h, prsM l _ (fun x hx => h8 x (by simp [hx])) hd.2 (by omega)]
      rfl
theorem dec_ne {l : List Nat} (h : isDec l = true) : l ≠ [] ∧ l.all dg = true := by
  unfold isDec at h
  rw [Bool.and_eq_true] at h
  refine ⟨fun e => ?_, h.1⟩
  rw [e] at h
  exact absurd h.2 (by decide)
theorem prsB {l : List Nat} (h8 : All8 l) (h : isDec l = true) : Lib.parseUintB 32 (l.map UInt8.ofNat) = if vd l ≤ 4294967295 then .ok (vd l) else .range := by
  obtain ⟨h1, h2⟩ := dec_ne h
  unfold Lib.parseUintB
  rw [if_neg (by simpa using h1)]
  exact prsM l 0 h8 h2 (by omega)
theorem gER : Tryd.prog.globalNamed "strconv.ErrRange" = some 2 := by kernel_rfl
theorem pu_ok (x : List Nat) (h8 : All8 x) (hl : x.length ≤ 1000000) (h : isDec x = true) (hv : vd x ≤ 4294967295) (w : World) :
    Calls Tryd.prog 32 #[.string (bstr x), .int .i64 10, .int .i64 32] w fun e w' => e = .returned (.tuple #[.int .u64 (vd x : Int), .nilIface]) ∧ Below w.heap.size w w' :=
  (Tryd.strconv_ParseUint_10_at32_ok (bstr x) (by rw [bstr_size]; omega) (vd x) (by rw [bstr_list, prsB h8 h, if_pos hv]) w).mono fun e w' ⟨h1, h2⟩ => ⟨h1, by
    rcases h2 with rfl | rfl
    · exact Below.refl _ _
    · exact Lib.bytesWorld_below _ _ _⟩
theorem pu_range (x : List Nat) (h8 : All8 x) (hl : x.length ≤ 1000000) (h : isDec x = true) (hv : 4294967295 < vd x) (w : World) (hE : Env w) :
    Calls Tryd.prog 32 #[.string (bstr x), .int .i64 10, .int .i64 32] w fun e w' => ∃ t N, e = .returned (.tuple #[.int .u64 4294967295, .iface t (.pointer (some ⟨N, 0, none⟩))]) ∧ Below w.heap.size w w' := by
  obtain ⟨tp, p, hr⟩ := hE.rng
  have hc := World.var?_cell gER hr 0
  exact (Tryd.strconv_ParseUint_10_at32_range (bstr x) (by rw [bstr_size]; omega) (by rw [bstr_list, prsB h8 h, if_neg (by omega)]) _ w hc (.inr ⟨_, _, rfl⟩)).mono fun e w' ⟨N, h1, _, _, h4⟩ => ⟨_, N, h1, h4⟩
/-- Is each number small enough, and are there not too many? -/
def fits (ps : List (List Nat)) : Bool := decide (ps.length ≤ 16) && ps.all fun x => decide (vd x ≤ 4294967295)
/-- What Parse reads. -/
def prsO (l : List Nat) : Nat × List Nat × Nat :=
  if (splitD l).all isDec = false then (0, zeroL, 6) else if fits (splitD l) = false then (0, zeroL, 3)
  else if chkO (splitD l).length (pad ((splitD l).map vd)) = 0 then ((splitD l).length, pad ((splitD l).map vd), 0) else (0, zeroL, 1)
/-- The walk's step at the store of a whole OID inside a fence. -/
theorem wpListIn_store25 {F : Fence} {n : Nat} {ops : Array Oper} {rest : List Oper} {o : Oper} {a : Act} {w : World} {Q : Exit → Act → World → Prop} (hgd : o.guard = none) (x v : Operand) (ho : o.op = .store 26 x v)
    {g m : Nat} {l : List Nat} {cs : List Value} (hx : a.eval x = .pointer (some ⟨g, 0, none⟩)) (hv : a.eval v = oV m l) (hg : Bk w g 26 cs) (hc : cs.length = 17) (hl : l.length = 16)
    (h : ∀ w', Bk w' g 26 (oc m l) → w.grownBy w' (some g) → w'.heap.size = w.heap.size → wpListIn F n Tryd.prog ops Q rest (a.put o.dst undef) w') : wpListIn F n Tryd.prog ops Q (o :: rest) a w := by
  refine wpListIn_plain hgd fun K hK => ?_
  obtain ⟨W', h1, h2, h3, h4⟩ := store25 hg hc hl (n := m)
  have hK' := hK _ _ (h W' h2 h3 h4)
  unfold Oper.wpIn
  refine ⟨?_, ?_⟩
  · simp [Oper.about, ho]
  · rw [Oper.semAt_plain F _ _ (by rw [ho]; intro c hc'; cases hc')]
    unfold execOp
    simp only [ho, hx, hv, Instr.storeAt, Instr.sureAddr, Sem.run_bind, Sem.run_pure, Result.andThen_ok, h1]
    exact hK'
theorem app32 {w : World} {base : Nat} {v : Value} {xs : List Nat} (hown : w.ownsRow base 23 1 v xs.length (cs32 xs)) (y : Nat) (hb : base ≤ w.heap.size) (hl : xs.length ≤ 1000) :
    ∃ v' w', (Builtin.append_ #[32, 32] 32 #[v, .slice (some ⟨w.heap.size, 0, none⟩) 1 1]).run Tryd.prog (w.alloc (.cells #[.int .u32 (y : Int)] 23)) = .ok v' w' ∧ w'.ownsRow base 23 1 v' (xs ++ [y]).length (cs32 (xs ++ [y])) ∧ (w.alloc (.cells #[.int .u32 (y : Int)] 23)).grownBy w' v.ownBlock ∧ ∃ g c, v' = .slice (some ⟨g, 0, none⟩) (xs.length + 1) c := by
  obtain ⟨i, hi, hz0, hz1, hz2⟩ := info_parts (show (Tryd.prog.info? 23).map (fun i => (i.zero, i.size, i.bytes)) = some (some (.int .u32 0), 1, 4) by kernel_rfl)
  obtain ⟨v', w', hrun, h2, h3, _⟩ := run_append_own (P := Tryd.prog) (w.alloc (.cells #[.int .u32 (y : Int)] 23)) base 32 32 23 i (.int .u32 0) 1 4 Tryd.underlying32 hi hz0 hz1 hz2 rfl (by decide) v xs.length (cs32 xs) (hown.alloc _) ⟨w.heap.size, 0, none⟩ 1 1 [.int .u32 (y : Int)] rfl
    (fun j u hu => by
      obtain ⟨hj, rfl⟩ := List.getElem?_eq_some_iff.1 hu
      have : j = 0 := by simpa using hj
      subst this
      simp [Addr.add, go_sem]) (by simp [Value.oneCell']) (by unfold maxLen; omega) (by omega) (by simp; omega)
  obtain ⟨g, c, e⟩ := ownsRow_succ h2
  refine ⟨v', w', hrun, ?_, h3, g, c, e⟩
  have e2 : cs32 xs ++ [.int .u32 (y : Int)] = cs32 (xs ++ [y]) := by unfold cs32; rw [List.map_append]; rfl
  rw [e2] at h2
  rw [List.length_append, List.length_singleton]
  exact h2
end Go.Proofs.YtndamidmgglneaaDoor
