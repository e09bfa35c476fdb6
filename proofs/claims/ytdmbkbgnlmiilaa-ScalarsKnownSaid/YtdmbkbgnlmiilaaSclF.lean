/-
  Layer 5: contracts of slices.Grow, slices.Concat of two, PutNat, GetNat; of the reference's PutNat, GetNat.
  Conditions: slices read as bytes, and are short.
-/
import Derived.Test.YtdmbkbgnlmiilaaSclE
import Derived.Lib.AppendZeros
namespace Go.Proofs.Ytdmbkbgnlmiilaa.Scl
open Go.RowKit

set_option maxHeartbeats 1000000 in
theorem grow_any (n : Nat) (w : World) (hn : n ≤ 100000) : Calls Try.prog 53 #[.slice none 0 0, .int .i64 (n : Int)] w fun e w' => ∃ v, e = .returned v ∧ w'.ownsRow w.heap.size 5 1 v 0 [] ∧ Below w.heap.size w w' := by
  by_cases h0 : n = 0
  · subst h0
    go_enter Try.func53, Try.ntmps53
    rw [show ((0 : Nat) : Int) = 0 from rfl]
    go_wp2_with fail
    go_ret
    exact ⟨_, rfl, World.ownsRow_nil _ _ _ _, Below.refl _ _⟩
  obtain ⟨i, hi, hz0, hz1, hz2⟩ := info_parts info5
  have hrun := Lib.run_append_nil_zeros (P := Try.prog) w 22 3 22 5 i _ .i64 .i64 Try.underlying22 Try.underlying3 hi hz0 n (by omega) (by rw [hz1]; omega) (by omega) (by rw [hz2]; omega)
  have hc1 := grownCap_ge w n 0 5
  have hc2 := grownCap_le_maxLen w n 0 5 (by unfold maxLen; omega)
  generalize grownCap w n 0 5 = cap at *
  obtain ⟨Z, hZ⟩ : ∃ Z, Builtin.zeroCells (Value.int IntKind.u8 0).cells n ++ Builtin.zeroCells (Value.int IntKind.u8 0).cells (cap - n) = Z := ⟨_, rfl⟩
  have hZs : Z.size = cap := by rw [← hZ, Array.size_append, size_zeroCells, size_zeroCells]; simp [Value.cells]; omega
  rw [hZ] at hrun
  have HRUN := Lib.hid hrun
  have HZ := Lib.hid hZs
  have HC2 := Lib.hid hc2
  have hcm : (0 : Int) ≤ (cap : Int) := by omega
  unfold maxLen at hc2
  clear hrun hZ hZs hi hz0 hz1 hz2
  go_enter Try.func53, Try.ntmps53
  go_wp2_with (at_builtin; refine Lib.wpList_append_run (o := ⟨some 22, _, _, _, _, _⟩) _ rfl _ _ _ _ rfl _ _ rfl rfl _ _ HRUN.out ?_)
  go_ret
  refine ⟨_, rfl, ⟨rfl, .inr ⟨w.heap.size, cap, Z, rfl, Nat.le_refl _, ?_, Nat.zero_le _, HC2.out, by rw [HZ.out, Nat.mul_one], rfl⟩⟩, ?_⟩
  · exact heap_alloc_new w.drew _
  · exact (Below.refl _ _).drew.alloc (Nat.le_refl _) _

/-- What a call has built by append, opened; nil has no capacity. -/
theorem own_open2 {w : World} {base : Nat} {e : TypeId} {v : Value} {xs : List Value} (h : w.ownsRow base e 1 v xs.length xs) : ∃ A c, v = .slice A xs.length c ∧ Rd w A xs ∧ xs.length ≤ c ∧ c ≤ maxLen ∧ (A = none → c = 0) ∧ (∀ q, A = some q → base ≤ q.block) := by
  obtain ⟨A, c, h1, h2, h3, h4⟩ := own_open h
  refine ⟨A, c, h1, h2, h3, h4, fun e => ?_, fun q e => by subst e; exact (h.lt q.block (by rw [h1]; rfl)).1⟩
  subst e
  rcases h.2 with ⟨h5, _⟩ | ⟨g, cap, cur, h5, _⟩
  · rw [h1] at h5; injection h5
  · rw [h1] at h5; injection h5 with h6; cases h6
theorem cs8_ones (l : List Nat) : ∀ u ∈ cs8 l, u.oneCell' = true := by intro u hu; obtain ⟨n, _, rfl⟩ := List.mem_map.1 hu; rfl
/-- 'append(v, s...)' of bytes to what the call has built. -/
theorem app8 {w : World} {base : Nat} {v : Value} {k l : List Nat} (hown : w.ownsRow base 5 1 v k.length (cs8 k)) {A : Option Addr} {c N : Nat} (hN : l.length = N) (h : Rb w A l) (hb : base ≤ w.heap.size) (hl : k.length + l.length ≤ 100000) :
    ∃ v' w', (Builtin.append_ #[22, 22] 22 #[v, .slice A N c]).run Try.prog w = .ok v' w' ∧ w'.ownsRow base 5 1 v' (k ++ l).length (cs8 (k ++ l)) ∧ Below base w w' := by
  subst hN
  obtain ⟨v', w', h1, h2, h3⟩ := app_src (P := Try.prog) (ty := 22) (xs := cs8 k) Try.underlying22 info5 rfl (by rw [cs8_length]; exact hown) (c := c) h.1 (cs8_ones l) hb (by rw [cs8_length, cs8_length]; omega) (by rw [cs8_length, cs8_length]; unfold maxLen; omega)
  rw [cs8_length] at h1
  have e : cs8 k ++ cs8 l = cs8 (k ++ l) := by unfold cs8; rw [List.map_append]
  rw [e, cs8_length] at h2
  exact ⟨v', w', h1, h2, h3⟩
theorem own8_open {w : World} {base : Nat} {v : Value} {l : List Nat} (h8 : All8 l) (h : w.ownsRow base 5 1 v l.length (cs8 l)) : ∃ A c, v = .slice A l.length c ∧ Rb w A l ∧ l.length ≤ c ∧ c ≤ maxLen ∧ (A = none → c = 0) ∧ (∀ q, A = some q → base ≤ q.block) := by
  obtain ⟨A, c, h1, h2, h3, h4, h5, h6⟩ := own_open2 (xs := cs8 l) (by rw [cs8_length]; exact h)
  rw [cs8_length] at h1 h3
  exact ⟨A, c, h1, ⟨h2, h8⟩, h3, h4, h5, h6⟩

/-- What the loop of Concat keeps. -/
def CRel (v v1 v2 : Value) (w1 w2 w3 : World) (s i : Value) (wr : World) : Prop := (i = .int .i64 0 ∧ s = v ∧ wr = w1) ∨ (i = .int .i64 1 ∧ s = v1 ∧ wr = w2) ∨ (i = .int .i64 2 ∧ s = v2 ∧ wr = w3)
set_option maxHeartbeats 2000000 in
set_option maxRecDepth 100000 in
theorem concat_any (A B : Option Addr) (l m : List Nat) (g L M ca cb : Nat) (w : World) (hl : l.length = L) (hm : m.length = M) (hL : L ≤ 1000) (hM : M ≤ 1000) (hA : Rb w A l) (hB : Rb w B m)
    (hg : Bk w g 22 [.slice A L ca, .slice B M cb]) :
    Calls Try.prog 45 #[.slice (some ⟨g, 0, none⟩) 2 2] w fun e w' => ∃ A' c, e = .returned (.slice A' (l ++ m).length c) ∧ Rb w' A' (l ++ m) ∧ (l ++ m).length ≤ c ∧ c ≤ maxLen ∧ (A' = none → c = 0) ∧ (∀ q, A' = some q → w.heap.size ≤ q.block) ∧ Below w.heap.size w w' := by
  have c0 := hg.cell 0
  have c1 := hg.cell 1
  simp only [List.getElem?_cons_zero, List.getElem?_cons_succ] at c0 c1
  have HG := Lib.hid hg
  have HA := Lib.hid hA
  have HB := Lib.hid hB
  have HL := Lib.hid hl
  have HM := Lib.hid hm
  obtain ⟨K, hK⟩ : ∃ K, l ++ m = K := ⟨_, rfl⟩
  have HK := Lib.hid hK
  rw [hK]
  obtain ⟨n, hn⟩ : ∃ n, K.length = n := ⟨_, rfl⟩
  have HN := Lib.hid hn
  rw [hn]
  clear hg hA hB hl hm hK hn
  go_enter Try.func45, Try.ntmps45
  go_wp2_with fail
  go_loop [3, 11] (fun s i => (i = .int .i64 0 ∧ s = .int .i64 0) ∨ (i = .int .i64 1 ∧ s = .int .i64 (L : Int)) ∨ (i = .int .i64 2 ∧ s = .int .i64 ((L : Int) + (M : Int)))) (fun _ i => 2 - (intOf i).toNat)
  case atStart => exact .inl ⟨rfl, rfl⟩
  case round =>
    rcases hrel with ⟨rfl, rfl⟩ | ⟨rfl, rfl⟩ | ⟨rfl, rfl⟩
    · go_wp2_with fail
      go_round
      case rel => exact .inr (.inl ⟨rfl, by simp⟩)
      case measure => simp [intOf]
    · go_wp2_with fail
      go_round
      case rel => exact .inr (.inr ⟨rfl, rfl⟩)
      case measure => simp [intOf]
    · have HGr := Lib.hid (grow_any (L + M) w (by omega))
      rw [show ((L + M : Nat) : Int) = (L : Int) + (M : Int) from by omega] at HGr
      go_wp2_with fail
      refine HGr.out.mono ?_
      rintro e w1 ⟨v, rfl, hown, hb⟩
      have HG1 := Lib.hid (HG.out.below hb HG.out.lt)
      have hglt := HG.out.lt
      have HA1 := Lib.hid (HA.out.below hb)
      have HB1 := Lib.hid (HB.out.below hb)
      have hz := hb.size
      obtain ⟨v1, w2, hr1, hown1, hb1⟩ := app8 (k := []) (c := ca) hown HL.out HA1.out hz (by rw [HL.out]; simp; omega)
      have hz1 := hb1.size
      have HB2 := Lib.hid (HB.out.below (hb.trans hb1))
      obtain ⟨v2, w3, hr2, hown2, hb2⟩ := app8 (c := cb) hown1 HM.out HB2.out (by omega) (by rw [List.nil_append, HL.out, HM.out]; omega)
      rw [List.nil_append, HK.out] at hown2
      obtain ⟨A', c', rfl, hr, h1, h2, h3, h4⟩ := own8_open (by rw [← HK.out]; exact HA.out.2.append HB.out.2) hown2
      rw [HN.out] at hr2 h1
      have HR := Lib.hid (And.intro hr (And.intro h1 (And.intro h2 (And.intro h3 (And.intro h4 ((hb.trans hb1).trans hb2))))))
      have HR1 := Lib.hid hr1
      have HR2 := Lib.hid hr2
      have HG2 := Lib.hid (HG.out.below (hb.trans hb1) HG.out.lt)
      have HG3 := Lib.hid (HG.out.below ((hb.trans hb1).trans hb2) HG.out.lt)
      clear hown hb hown1 hb1 hown2 hb2 hr h1 h2 h3 h4 hr1 hr2 hz hz1
      go_wp2_with fail
      go_loopw [6, 27] (fun s i wr => CRel v v1 (.slice A' n c') w1 w2 w3 s i wr) (fun _ i _ => 2 - (intOf i).toNat)
      case atStart => exact Or.inl ⟨rfl, rfl, rfl⟩
      case round =>
        rcases hrel with ⟨rfl, rfl, rfl⟩ | ⟨rfl, rfl, rfl⟩ | ⟨rfl, rfl, rfl⟩
        · have d0 := HG1.out.cell 0
          simp only [List.getElem?_cons_zero] at d0
          go_wp2_with (at_builtin; refine wpList_app rfl _ _ _ _ rfl _ _ rfl rfl HR1.out ?_)
          exact ⟨Or.inr (Or.inl ⟨rfl, rfl, rfl⟩), by simp [intOf]⟩
        · have d0 := HG2.out.cell 1
          simp only [List.getElem?_cons_zero, List.getElem?_cons_succ] at d0
          go_wp2_with (at_builtin; refine wpList_app rfl _ _ _ _ rfl _ _ rfl rfl HR2.out ?_)
          exact ⟨Or.inr (Or.inr ⟨rfl, rfl, rfl⟩), by simp [intOf]⟩
        · go_wp2_with fail
          go_ret
          exact ⟨A', c', rfl, HR.out.1, HR.out.2.1, HR.out.2.2.1, HR.out.2.2.2.1, HR.out.2.2.2.2.1, HR.out.2.2.2.2.2⟩
end Go.Proofs.Ytdmbkbgnlmiilaa.Scl
