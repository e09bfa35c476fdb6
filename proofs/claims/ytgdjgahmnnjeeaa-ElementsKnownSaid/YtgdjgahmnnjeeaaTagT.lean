/-
  The reference of layer 2: the contract of Get.
  Conditions: slices are no longer than a word allows, and read as bytes.
-/
import Derived.Test.YtgdjgahmnnjeeaaTagS
import Derived.Deep.RegionHeld3
import Derived.Deep.RegionWith
namespace Go.Proofs.Ytgdjgahmnnjeeaa
open Go.RowKit

/-- A tag, a size and an error, as the reference returns them. -/
theorem rget_nil (A : Option Addr) (c : Nat) (w : World) :
    Calls Try.prog 75 #[.slice A 0 c] w (GiveT w (rdL [])) := by
  go_enter Try.func75, Try.ntmps75
  go_wp2_with fail
  refine bodyPost_ret (v := .tuple #[tagV 0 0 false, .int .i64 0, .int .i64 7]) (by simp [results, Try.results75, go_sem]) rfl ⟨rfl, ?_⟩
  exact (Below.refl _ _).alloc (Nat.le_refl _) _

theorem rget_pre {w w1 : World} {u v x u' v' x' : Value} (hb : Below ((w.alloc (.cells #[u, v, x] 25)).alloc (.cells #[u', v', x'] 25)).drew.heap.size ((w.alloc (.cells #[u, v, x] 25)).alloc (.cells #[u', v', x'] 25)).drew w1) :
    Bk w1 w.heap.size 25 [u, v, x] ∧ Bk w1 (w.heap.size + 1) 25 [u', v', x'] ∧ Below w.heap.size w w1 := by
  have h1 : Bk ((w.alloc (.cells #[u, v, x] 25)).alloc (.cells #[u', v', x'] 25)).drew w.heap.size 25 [u, v, x] := (Bk.new w 25 [u, v, x]).alloc (.cells #[u', v', x'] 25)
  have h2 := Bk.new (w.alloc (.cells #[u, v, x] 25)) 25 [u', v', x']
  rw [World.size_alloc] at h2
  have h3 : Bk ((w.alloc (.cells #[u, v, x] 25)).alloc (.cells #[u', v', x'] 25)).drew (w.heap.size + 1) 25 [u', v', x'] := h2
  exact ⟨h1.below hb h1.lt, h3.below hb h3.lt, ((((Below.refl w.heap.size w).alloc (Nat.le_refl _) _).alloc (by simp) _).drew).trans (hb.mono (by show w.heap.size ≤ ((w.alloc _).alloc _).heap.size; simp; omega))⟩
set_option maxRecDepth 100000 in
set_option maxHeartbeats 4000000 in
theorem rget_cons (A : Option Addr) (x : Nat) (r : List Nat) (c : Nat) (w : World) (hn : (x :: r).length ≤ c) (_hcm : c ≤ maxLen) (h : Rb w A (x :: r)) :
    Calls Try.prog 75 #[.slice A (x :: r).length c] w (GiveT w (rdL (x :: r))) := by
  obtain ⟨b, off, rfl, hb, hx, hcell⟩ := h.at_ (k := 0) (by simp)
  simp only [List.getElem_cons_zero] at hx hcell
  simp only [Nat.add_zero] at hcell
  obtain ⟨N, hN⟩ : ∃ N, (x :: r).length = N := ⟨_, rfl⟩
  rw [hN] at hn ⊢
  have hN0 : 0 < N := by rw [← hN]; simp
  have HN := Lib.hid hN
  clear hN
  unfold maxLen at _hcm
  obtain ⟨m, hm⟩ : ∃ m, x % 32 = m := ⟨_, rfl⟩
  obtain ⟨k, hk⟩ : ∃ k, decide (x / 32 % 2 = 1) = k := ⟨_, rfl⟩
  obtain ⟨q, hq⟩ : ∃ q, x / 64 = q := ⟨_, rfl⟩
  have hm1 : ((x : Int) % 32) = (m : Int) := by omega
  have hk1 : ((x : Int) / 32 % 2 == 1) = k := by rw [← hk, Bool.eq_iff_iff, beq_iff_eq, decide_eq_true_iff]; omega
  have hq1 : ((x : Int) / 64) = (q : Int) := by omega
  have hwa : IntKind.u8.wrap (q : Int) = (q : Int) := by rw [IntKind.wrap_u8]; omega
  have hwb : ((IntKind.u8.wrap ((x : Int) / 32)).tmod 2 == 1) = k := by
    rw [← hk1, IntKind.wrap_u8, Int.tmod_eq_emod_of_nonneg (by omega)]
    congr 1
    omega
  have hwc : IntKind.u32.wrap ((x : Int).tmod 32) = (m : Int) := by rw [IntKind.wrap_u32, Int.tmod_eq_emod_of_nonneg (by omega)]; omega
  have hm2 : m < 32 := by omega
  have hq2 : q ≤ 3 := by omega
  have HM := Lib.hid hm
  have HK := Lib.hid hk
  have HQ := Lib.hid hq
  have HH := Lib.hid h
  clear hm hk hq h
  by_cases hm31 : m = 31
  · subst hm31
    go_enter Try.func75, Try.ntmps75
    go_wp2_with fail
    have hcW := (((Below.refl w.heap.size w).alloc (Nat.le_refl _) (.cells #[.int .u8 0, .bool false, .int .u32 0] 25)).cell (p := ⟨b, off, none⟩) hb).trans hcell
    have hcW2 := fun o => (((Below.refl _ w).alloc (Nat.le_refl _) (.cells #[.int .u8 0, .bool false, .int .u32 0] 25)).alloc (by simp) o).cell (p := ⟨b, off, none⟩) hb |>.trans hcell
    go_region_held3 (fun w' => w'.cell? ⟨b, off, none⟩ = some (.int .u8 (x : Int))) (first | exact hcW | exact hcW2 _) (first | fail)
    clear hwa hwb hwc hcW hcW2
    go_wp2_with fail
    go_loop [6, 7] (fun s a => ∃ i acc : Nat, i ≤ 3 ∧ i ≤ r.length ∧ s = .int .i64 ((i + 1 : Nat) : Int) ∧ a = .int .i64 (acc : Int) ∧ acc < 128 ^ i ∧ gg r = ggA (4 - i) i acc (r.drop i)) (fun s _ => 5 - (intOf s).toNat)
    case atStart => exact ⟨0, 0, by omega, by omega, rfl, rfl, by omega, rfl⟩
    case round =>
      obtain ⟨i, acc, hi3, hil, rfl, rfl, hacc, hgg⟩ := hrel
      have hN1 : N = r.length + 1 := by have := HN.out; simp at this; omega
      obtain ⟨f, hf⟩ : ∃ f, 4 - i = f + 1 := ⟨3 - i, by omega⟩
      rw [hf] at hgg
      by_cases hel : i = r.length
      · rw [List.drop_eq_nil_of_le (by omega)] at hgg
        have HZ := Lib.hid (show rdL (x :: r) = (0, 0, false, 0, 7) by rw [rdL, HM.out, show gg r = (0, 0, 7) from hgg, if_pos rfl]; rfl)
        have hNs : N = i + 1 := by omega
        clear hgg hf hel hil hN1 hacc hi3
        subst hNs
        go_wp2_with fail
        refine bodyPost_ret (v := .tuple #[tagV 0 0 false, .int .i64 0, .int .i64 7]) (by simp [results, Try.results75, go_sem]) rfl ⟨?_, (((Below.refl w.heap.size w).alloc (Nat.le_refl _) _).alloc (by simp) _).drew⟩
        rw [HZ.out]
        rfl
      have hil2 : i < r.length := by omega
      obtain ⟨b', off', hbo, hb', hz, hcz⟩ := HH.out.at_ (k := i + 1) (by simp; omega)
      obtain ⟨rfl, rfl⟩ : b = b' ∧ off = off' := by simpa using hbo
      rw [List.getElem_cons_succ] at hz hcz
      have hgs := hgg.trans (congrArg (ggA (f + 1) i acc) (List.drop_eq_getElem_cons hil2))
      obtain ⟨z, hzz⟩ : ∃ z, r[i] = z := ⟨_, rfl⟩
      rw [hzz] at hz hcz hgs
      obtain ⟨rr, hrr⟩ : ∃ rr, List.drop (i + 1) r = rr := ⟨_, rfl⟩
      rw [hrr] at hgs
      have HR := Lib.hid hrr
      have HG := Lib.hid hgs
      obtain ⟨y, hy⟩ : ∃ y, z % 128 = y := ⟨_, rfl⟩
      obtain ⟨a', ha'⟩ : ∃ a', acc * 128 + y = a' := ⟨_, rfl⟩
      have haj : acc < 2097152 := by
        have : 128 ^ i ≤ 128 ^ 3 := Nat.pow_le_pow_right (by omega) (by omega)
        omega
      have ha4 : a' < 128 ^ (i + 1) := by rw [Nat.pow_succ]; omega
      have ha5 : a' < 268435456 := by omega
      have hy1 : ((z : Int) % 128) = (y : Int) := by omega
      have ha1 : (128 * (acc : Int) + (y : Int)) = (a' : Int) := by omega
      have HA := Lib.hid (show ggA (f + 1) i acc (z :: rr) = if i = 0 ∧ z = 128 then (0, 0, 9) else if 128 ≤ z then ggA f (i + 1) a' rr else if a' < 31 then (0, 0, 9) else (a', i + 1, 0) by rw [← ha', ← hy]; rfl)
      have HA4 := Lib.hid ha4
      have HF := Lib.hid hf
      obtain ⟨s, hs⟩ : ∃ s, i + 1 = s := ⟨_, rfl⟩
      have hsN : s < N := by omega
      rw [hs] at hcz
      have HSi := Lib.hid hs
      have hs4 : s ≤ 4 := by omega
      have hs1 : 1 ≤ s := by omega
      rw [hs]
      have Hacc := Lib.hid hacc
      clear hgg hgs hf hel hil hN1 hacc hrr hzz hy ha' ha4 hbo hb' hil2
      rcases (show s = 1 ∨ s = 4 ∨ (s ≠ 1 ∧ s ≠ 4) by omega) with rfl | rfl | ⟨hn1, hn4⟩
      · have hi0 : i = 0 := by have := HSi.out; omega
        subst hi0
        clear hs hi3
        by_cases h128 : z = 128
        · subst h128
          have HC := Lib.hid (HG.out.trans (HA.out.trans (if_pos ⟨rfl, rfl⟩)))
          have HZ := Lib.hid (show rdL (x :: r) = (0, 0, false, 0, 9) by rw [rdL, HM.out, HC.out, if_pos rfl]; rfl)
          have hc8 : w.cell? ⟨b, off + 1, none⟩ = some (.int .u8 128) := hcz
          clear hcz
          go_wp2_with fail
          refine bodyPost_ret (v := .tuple #[tagV 0 0 false, .int .i64 0, .int .i64 9]) (by simp [results, Try.results75, go_sem]) rfl ⟨?_, (((Below.refl w.heap.size w).alloc (Nat.le_refl _) _).alloc (by simp) _).drew⟩
          rw [HZ.out]
          rfl
        have h81 : ((z : Int) == 128) = false := by rw [beq_eq_false_iff_ne]; omega
        by_cases hge : 128 ≤ z
        · have HC := Lib.hid (HG.out.trans (HA.out.trans ((if_neg (fun e => h128 e.2)).trans (if_pos hge))))
          go_wp2_with fail
          have hs' := HSi.out
          have hNN := HN.out
          rw [List.length_cons] at hNN
          exact ⟨⟨0 + 1, a', by omega, by omega, by go_num, rfl, HA4.out, by rw [HR.out, show 4 - (0 + 1) = f by have := HF.out; omega]; exact HC.out⟩, by simp [intOf]; try omega⟩
        · by_cases ha31 : a' < 31
          · have HC := Lib.hid (HG.out.trans (HA.out.trans ((if_neg (fun e => h128 e.2)).trans ((if_neg hge).trans (if_pos ha31)))))
            have HZ := Lib.hid (show rdL (x :: r) = (0, 0, false, 0, 9) by rw [rdL, HM.out, HC.out, if_pos rfl]; rfl)
            go_wp2_with fail
            refine bodyPost_ret (v := .tuple #[tagV 0 0 false, .int .i64 0, .int .i64 9]) (by simp [results, Try.results75, go_sem]) rfl ⟨?_, (((Below.refl w.heap.size w).alloc (Nat.le_refl _) _).alloc (by simp) _).drew⟩
            rw [HZ.out]
            rfl
          · have HGG := Lib.hid (show gg r = (a', 1, 0) from (HG.out.trans (HA.out.trans ((if_neg (fun e => h128 e.2)).trans ((if_neg hge).trans (if_neg ha31))))).trans (by rw [HSi.out]))
            obtain ⟨e0, he0⟩ : ∃ e0, chk q a' k = e0 := ⟨_, rfl⟩
            have HE := Lib.hid he0
            clear he0
            have HZ := Lib.hid (show rdL (x :: r) = rdT q a' k (1 + 1) by rw [rdL, HM.out, HK.out, HQ.out, HGG.out, if_pos rfl, if_neg (by simp)])
            have hwn : IntKind.u32.wrap (a' : Int) = (a' : Int) := by rw [IntKind.wrap_u32]; omega
            by_cases hez : e0 = 0
            · subst hez
              go_wp2_with (go_at_call 34; refine (rcheck_any q a' k _ (by omega) (by omega)).mono ?_; rintro e w1 ⟨rfl, hb1⟩; rw [HE.out]; obtain ⟨hbk1, hbk2, hbb⟩ := rget_pre hb1; have r0 := hbk1.cell 0; have r1 := hbk1.cell 1; have r2 := hbk1.cell 2; have f0 := hbk1.free 0; have f1 := hbk1.free 1; have f2 := hbk1.free 2; have q0 := hbk2.cell 0; have q1 := hbk2.cell 1; have q2' := hbk2.cell 2; have hsz := hbk2.lt; simp only [List.getElem?_cons_zero, List.getElem?_cons_succ] at r0 r1 r2 q0 q1 q2'; have HB1 := Lib.hid hbb; have HBk1 := Lib.hid hbk1; clear hb1 hbk1 hbk2 hbb)
              have HS := Lib.hid (set3 (a' := .int .u8 (q : Int)) (b' := .bool k) (c' := .int .u32 (a' : Int)) HBk1.out)
              have s0 := HS.out.cell 0
              have s1 := HS.out.cell 1
              have s2 := HS.out.cell 2
              simp only [List.getElem?_cons_zero, List.getElem?_cons_succ] at s0 s1 s2
              refine bodyPost_ret (v := .tuple #[tagV q a' k, .int .i64 2, .int .i64 0]) (by simp [results, Try.results75, go_sem, s0, s1, s2]) rfl ⟨?_, below3 HB1.out (Nat.le_refl _)⟩
              rw [HZ.out, rdT, if_neg (by rw [HE.out]; omega)]
              refine congrArg (fun z => Ending.returned (.tuple #[tagV q a' k, .int .i64 z, .int .i64 0])) ?_
              simp
              try omega
            · have hez1 : ((e0 : Int) != 0) = true := by rw [bne_iff_ne]; omega
              go_wp2_with (go_at_call 34; refine (rcheck_any q a' k _ (by omega) (by omega)).mono ?_; rintro e w1 ⟨rfl, hb1⟩; rw [HE.out]; obtain ⟨hbk1, hbk2, hbb⟩ := rget_pre hb1; have r0 := hbk1.cell 0; have r1 := hbk1.cell 1; have r2 := hbk1.cell 2; have f0 := hbk1.free 0; have f1 := hbk1.free 1; have f2 := hbk1.free 2; have q0 := hbk2.cell 0; have q1 := hbk2.cell 1; have q2' := hbk2.cell 2; have hsz := hbk2.lt; simp only [List.getElem?_cons_zero, List.getElem?_cons_succ] at r0 r1 r2 q0 q1 q2'; have HB1 := Lib.hid hbb; have HBk1 := Lib.hid hbk1; clear hb1 hbk1 hbk2 hbb)
              have HS := Lib.hid (set3 (a' := .int .u8 0) (b' := .bool false) (c' := .int .u32 0) HBk1.out)
              have s0 := HS.out.cell 0
              have s1 := HS.out.cell 1
              have s2 := HS.out.cell 2
              simp only [List.getElem?_cons_zero, List.getElem?_cons_succ] at s0 s1 s2
              refine bodyPost_ret (v := .tuple #[tagV 0 0 false, .int .i64 0, .int .i64 (e0 : Int)]) (by simp [results, Try.results75, go_sem, s0, s1, s2]) rfl ⟨?_, below3 HB1.out (Nat.le_refl _)⟩
              rw [HZ.out, rdT, if_pos (by rw [HE.out]; omega), HE.out]
              rfl
      · have hi0 : i = 3 := by have := HSi.out; omega
        subst hi0
        clear hs hi3
        by_cases hge : 128 ≤ z
        · have hf0 : f = 0 := by have := HF.out; omega
          subst hf0
          have HC := Lib.hid (HG.out.trans (HA.out.trans ((if_neg (fun e => absurd e.1 (by omega))).trans (if_pos hge))))
          have HZ := Lib.hid (show rdL (x :: r) = (0, 0, false, 0, 9) by rw [rdL, HM.out, HC.out, show ggA 0 (3 + 1) a' rr = (0, 0, 9) from rfl, if_pos rfl]; rfl)
          go_wp2_with fail
          refine bodyPost_ret (v := .tuple #[tagV 0 0 false, .int .i64 0, .int .i64 9]) (by simp [results, Try.results75, go_sem]) rfl ⟨?_, (((Below.refl w.heap.size w).alloc (Nat.le_refl _) _).alloc (by simp) _).drew⟩
          rw [HZ.out]
          rfl
        · by_cases ha31 : a' < 31
          · have HC := Lib.hid (HG.out.trans (HA.out.trans ((if_neg (fun e => absurd e.1 (by omega))).trans ((if_neg hge).trans (if_pos ha31)))))
            have HZ := Lib.hid (show rdL (x :: r) = (0, 0, false, 0, 9) by rw [rdL, HM.out, HC.out, if_pos rfl]; rfl)
            go_wp2_with fail
            refine bodyPost_ret (v := .tuple #[tagV 0 0 false, .int .i64 0, .int .i64 9]) (by simp [results, Try.results75, go_sem]) rfl ⟨?_, (((Below.refl w.heap.size w).alloc (Nat.le_refl _) _).alloc (by simp) _).drew⟩
            rw [HZ.out]
            rfl
          · have HGG := Lib.hid (show gg r = (a', 4, 0) from (HG.out.trans (HA.out.trans ((if_neg (fun e => absurd e.1 (by omega))).trans ((if_neg hge).trans (if_neg ha31))))).trans (by rw [HSi.out]))
            obtain ⟨e0, he0⟩ : ∃ e0, chk q a' k = e0 := ⟨_, rfl⟩
            have HE := Lib.hid he0
            clear he0
            have HZ := Lib.hid (show rdL (x :: r) = rdT q a' k (1 + 4) by rw [rdL, HM.out, HK.out, HQ.out, HGG.out, if_pos rfl, if_neg (by simp)])
            have hwn : IntKind.u32.wrap (a' : Int) = (a' : Int) := by rw [IntKind.wrap_u32]; omega
            by_cases hez : e0 = 0
            · subst hez
              go_wp2_with (go_at_call 34; refine (rcheck_any q a' k _ (by omega) (by omega)).mono ?_; rintro e w1 ⟨rfl, hb1⟩; rw [HE.out]; obtain ⟨hbk1, hbk2, hbb⟩ := rget_pre hb1; have r0 := hbk1.cell 0; have r1 := hbk1.cell 1; have r2 := hbk1.cell 2; have f0 := hbk1.free 0; have f1 := hbk1.free 1; have f2 := hbk1.free 2; have q0 := hbk2.cell 0; have q1 := hbk2.cell 1; have q2' := hbk2.cell 2; have hsz := hbk2.lt; simp only [List.getElem?_cons_zero, List.getElem?_cons_succ] at r0 r1 r2 q0 q1 q2'; have HB1 := Lib.hid hbb; have HBk1 := Lib.hid hbk1; clear hb1 hbk1 hbk2 hbb)
              have HS := Lib.hid (set3 (a' := .int .u8 (q : Int)) (b' := .bool k) (c' := .int .u32 (a' : Int)) HBk1.out)
              have s0 := HS.out.cell 0
              have s1 := HS.out.cell 1
              have s2 := HS.out.cell 2
              simp only [List.getElem?_cons_zero, List.getElem?_cons_succ] at s0 s1 s2
              refine bodyPost_ret (v := .tuple #[tagV q a' k, .int .i64 ((4 : Int) + 1), .int .i64 0]) (by simp [results, Try.results75, go_sem, s0, s1, s2]) rfl ⟨?_, below3 HB1.out (Nat.le_refl _)⟩
              rw [HZ.out, rdT, if_neg (by rw [HE.out]; omega)]
              refine congrArg (fun z => Ending.returned (.tuple #[tagV q a' k, .int .i64 z, .int .i64 0])) ?_
              simp
              try omega
            · have hez1 : ((e0 : Int) != 0) = true := by rw [bne_iff_ne]; omega
              go_wp2_with (go_at_call 34; refine (rcheck_any q a' k _ (by omega) (by omega)).mono ?_; rintro e w1 ⟨rfl, hb1⟩; rw [HE.out]; obtain ⟨hbk1, hbk2, hbb⟩ := rget_pre hb1; have r0 := hbk1.cell 0; have r1 := hbk1.cell 1; have r2 := hbk1.cell 2; have f0 := hbk1.free 0; have f1 := hbk1.free 1; have f2 := hbk1.free 2; have q0 := hbk2.cell 0; have q1 := hbk2.cell 1; have q2' := hbk2.cell 2; have hsz := hbk2.lt; simp only [List.getElem?_cons_zero, List.getElem?_cons_succ] at r0 r1 r2 q0 q1 q2'; have HB1 := Lib.hid hbb; have HBk1 := Lib.hid hbk1; clear hb1 hbk1 hbk2 hbb)
              have HS := Lib.hid (set3 (a' := .int .u8 0) (b' := .bool false) (c' := .int .u32 0) HBk1.out)
              have s0 := HS.out.cell 0
              have s1 := HS.out.cell 1
              have s2 := HS.out.cell 2
              simp only [List.getElem?_cons_zero, List.getElem?_cons_succ] at s0 s1 s2
              refine bodyPost_ret (v := .tuple #[tagV 0 0 false, .int .i64 0, .int .i64 (e0 : Int)]) (by simp [results, Try.results75, go_sem, s0, s1, s2]) rfl ⟨?_, below3 HB1.out (Nat.le_refl _)⟩
              rw [HZ.out, rdT, if_pos (by rw [HE.out]; omega), HE.out]
              rfl
      · have hq1' : ((s : Int) == 1) = false := by rw [beq_eq_false_iff_ne]; omega
        have hq4' : ((s : Int) == 4) = false := by rw [beq_eq_false_iff_ne]; omega
        have hi0 : i ≠ 0 := by omega
        clear hs hi3
        by_cases hge : 128 ≤ z
        · have HC := Lib.hid (HG.out.trans (HA.out.trans ((if_neg (fun e => absurd e.1 (by omega))).trans (if_pos hge))))
          go_wp2_with fail
          have hs' := HSi.out
          have hNN := HN.out
          rw [List.length_cons] at hNN
          exact ⟨⟨i + 1, a', by omega, by omega, by rw [← hs']; go_num, rfl, HA4.out, by rw [HR.out, show 4 - (i + 1) = f by have := HF.out; omega]; exact HC.out⟩, by simp [intOf]; try omega⟩
        · by_cases ha31 : a' < 31
          · have HC := Lib.hid (HG.out.trans (HA.out.trans ((if_neg (fun e => absurd e.1 (by omega))).trans ((if_neg hge).trans (if_pos ha31)))))
            have HZ := Lib.hid (show rdL (x :: r) = (0, 0, false, 0, 9) by rw [rdL, HM.out, HC.out, if_pos rfl]; rfl)
            go_wp2_with fail
            refine bodyPost_ret (v := .tuple #[tagV 0 0 false, .int .i64 0, .int .i64 9]) (by simp [results, Try.results75, go_sem]) rfl ⟨?_, (((Below.refl w.heap.size w).alloc (Nat.le_refl _) _).alloc (by simp) _).drew⟩
            rw [HZ.out]
            rfl
          · have HGG := Lib.hid (show gg r = (a', s, 0) from (HG.out.trans (HA.out.trans ((if_neg (fun e => absurd e.1 (by omega))).trans ((if_neg hge).trans (if_neg ha31))))).trans (by rw [HSi.out]))
            obtain ⟨e0, he0⟩ : ∃ e0, chk q a' k = e0 := ⟨_, rfl⟩
            have HE := Lib.hid he0
            clear he0
            have HZ := Lib.hid (show rdL (x :: r) = rdT q a' k (1 + s) by rw [rdL, HM.out, HK.out, HQ.out, HGG.out, if_pos rfl, if_neg (by simp)])
            have hwn : IntKind.u32.wrap (a' : Int) = (a' : Int) := by rw [IntKind.wrap_u32]; omega
            by_cases hez : e0 = 0
            · subst hez
              go_wp2_with (go_at_call 34; refine (rcheck_any q a' k _ (by omega) (by omega)).mono ?_; rintro e w1 ⟨rfl, hb1⟩; rw [HE.out]; obtain ⟨hbk1, hbk2, hbb⟩ := rget_pre hb1; have r0 := hbk1.cell 0; have r1 := hbk1.cell 1; have r2 := hbk1.cell 2; have f0 := hbk1.free 0; have f1 := hbk1.free 1; have f2 := hbk1.free 2; have q0 := hbk2.cell 0; have q1 := hbk2.cell 1; have q2' := hbk2.cell 2; have hsz := hbk2.lt; simp only [List.getElem?_cons_zero, List.getElem?_cons_succ] at r0 r1 r2 q0 q1 q2'; have HB1 := Lib.hid hbb; have HBk1 := Lib.hid hbk1; clear hb1 hbk1 hbk2 hbb)
              have HS := Lib.hid (set3 (a' := .int .u8 (q : Int)) (b' := .bool k) (c' := .int .u32 (a' : Int)) HBk1.out)
              have s0 := HS.out.cell 0
              have s1 := HS.out.cell 1
              have s2 := HS.out.cell 2
              simp only [List.getElem?_cons_zero, List.getElem?_cons_succ] at s0 s1 s2
              refine bodyPost_ret (v := .tuple #[tagV q a' k, .int .i64 ((s : Int) + 1), .int .i64 0]) (by simp [results, Try.results75, go_sem, s0, s1, s2]) rfl ⟨?_, below3 HB1.out (Nat.le_refl _)⟩
              rw [HZ.out, rdT, if_neg (by rw [HE.out]; omega)]
              refine congrArg (fun z => Ending.returned (.tuple #[tagV q a' k, .int .i64 z, .int .i64 0])) ?_
              simp
              try omega
            · have hez1 : ((e0 : Int) != 0) = true := by rw [bne_iff_ne]; omega
              go_wp2_with (go_at_call 34; refine (rcheck_any q a' k _ (by omega) (by omega)).mono ?_; rintro e w1 ⟨rfl, hb1⟩; rw [HE.out]; obtain ⟨hbk1, hbk2, hbb⟩ := rget_pre hb1; have r0 := hbk1.cell 0; have r1 := hbk1.cell 1; have r2 := hbk1.cell 2; have f0 := hbk1.free 0; have f1 := hbk1.free 1; have f2 := hbk1.free 2; have q0 := hbk2.cell 0; have q1 := hbk2.cell 1; have q2' := hbk2.cell 2; have hsz := hbk2.lt; simp only [List.getElem?_cons_zero, List.getElem?_cons_succ] at r0 r1 r2 q0 q1 q2'; have HB1 := Lib.hid hbb; have HBk1 := Lib.hid hbk1; clear hb1 hbk1 hbk2 hbb)
              have HS := Lib.hid (set3 (a' := .int .u8 0) (b' := .bool false) (c' := .int .u32 0) HBk1.out)
              have s0 := HS.out.cell 0
              have s1 := HS.out.cell 1
              have s2 := HS.out.cell 2
              simp only [List.getElem?_cons_zero, List.getElem?_cons_succ] at s0 s1 s2
              refine bodyPost_ret (v := .tuple #[tagV 0 0 false, .int .i64 0, .int .i64 (e0 : Int)]) (by simp [results, Try.results75, go_sem, s0, s1, s2]) rfl ⟨?_, below3 HB1.out (Nat.le_refl _)⟩
              rw [HZ.out, rdT, if_pos (by rw [HE.out]; omega), HE.out]
              rfl
  · have hm31b : ((m : Int) == 31) = false := by rw [beq_eq_false_iff_ne]; omega
    have HZ := Lib.hid (show rdL (x :: r) = rdT q m k 1 by rw [rdL, HM.out, HK.out, HQ.out, if_neg hm31])
    clear hm31
    obtain ⟨e0, he0⟩ : ∃ e0, chk q m k = e0 := ⟨_, rfl⟩
    have HE := Lib.hid he0
    clear he0
    by_cases hez : e0 = 0
    · subst hez
      go_enter Try.func75, Try.ntmps75
      go_wp2_with fail
      have hcW := (((Below.refl w.heap.size w).alloc (Nat.le_refl _) (.cells #[.int .u8 0, .bool false, .int .u32 0] 25)).cell (p := ⟨b, off, none⟩) hb).trans hcell
      have hcW2 := fun o => (((Below.refl _ w).alloc (Nat.le_refl _) (.cells #[.int .u8 0, .bool false, .int .u32 0] 25)).alloc (by simp) o).cell (p := ⟨b, off, none⟩) hb |>.trans hcell
      go_region_held3 (fun w' => w'.cell? ⟨b, off, none⟩ = some (.int .u8 (x : Int))) (first | exact hcW | exact hcW2 _) (first | fail)
      clear hwa hwb hwc hcW hcW2
      go_wp2_with (go_at_call 34; refine (rcheck_any q m k _ (by omega) (by omega)).mono ?_; rintro e w1 ⟨rfl, hb1⟩; rw [HE.out]; obtain ⟨hbk1, hbk2, hbb⟩ := rget_pre hb1; have r0 := hbk1.cell 0; have r1 := hbk1.cell 1; have r2 := hbk1.cell 2; have f0 := hbk1.free 0; have f1 := hbk1.free 1; have f2 := hbk1.free 2; have q0 := hbk2.cell 0; have q1 := hbk2.cell 1; have q2' := hbk2.cell 2; have hsz := hbk2.lt; simp only [List.getElem?_cons_zero, List.getElem?_cons_succ] at r0 r1 r2 q0 q1 q2'; have HB1 := Lib.hid hbb; have HBk1 := Lib.hid hbk1; clear hb1 hbk1 hbk2 hbb)
      have HS := Lib.hid (set3 (a' := .int .u8 (q : Int)) (b' := .bool k) (c' := .int .u32 (m : Int)) HBk1.out)
      have s0 := HS.out.cell 0
      have s1 := HS.out.cell 1
      have s2 := HS.out.cell 2
      simp only [List.getElem?_cons_zero, List.getElem?_cons_succ] at s0 s1 s2
      refine bodyPost_ret (v := .tuple #[tagV q m k, .int .i64 1, .int .i64 0]) (by simp [results, Try.results75, go_sem, s0, s1, s2]) rfl ⟨?_, below3 HB1.out (Nat.le_refl _)⟩
      rw [HZ.out, rdT, if_neg (by rw [HE.out]; omega)]
      rfl
    · have hez1 : ((e0 : Int) != 0) = true := by rw [bne_iff_ne]; omega
      go_enter Try.func75, Try.ntmps75
      go_wp2_with fail
      have hcW := (((Below.refl w.heap.size w).alloc (Nat.le_refl _) (.cells #[.int .u8 0, .bool false, .int .u32 0] 25)).cell (p := ⟨b, off, none⟩) hb).trans hcell
      have hcW2 := fun o => (((Below.refl _ w).alloc (Nat.le_refl _) (.cells #[.int .u8 0, .bool false, .int .u32 0] 25)).alloc (by simp) o).cell (p := ⟨b, off, none⟩) hb |>.trans hcell
      go_region_held3 (fun w' => w'.cell? ⟨b, off, none⟩ = some (.int .u8 (x : Int))) (first | exact hcW | exact hcW2 _) (first | fail)
      clear hwa hwb hwc hcW hcW2
      go_wp2_with (go_at_call 34; refine (rcheck_any q m k _ (by omega) (by omega)).mono ?_; rintro e w1 ⟨rfl, hb1⟩; rw [HE.out]; obtain ⟨hbk1, hbk2, hbb⟩ := rget_pre hb1; have r0 := hbk1.cell 0; have r1 := hbk1.cell 1; have r2 := hbk1.cell 2; have f0 := hbk1.free 0; have f1 := hbk1.free 1; have f2 := hbk1.free 2; have q0 := hbk2.cell 0; have q1 := hbk2.cell 1; have q2' := hbk2.cell 2; have hsz := hbk2.lt; simp only [List.getElem?_cons_zero, List.getElem?_cons_succ] at r0 r1 r2 q0 q1 q2'; have HB1 := Lib.hid hbb; have HBk1 := Lib.hid hbk1; clear hb1 hbk1 hbk2 hbb)
      have HS := Lib.hid (set3 (a' := .int .u8 0) (b' := .bool false) (c' := .int .u32 0) HBk1.out)
      have s0 := HS.out.cell 0
      have s1 := HS.out.cell 1
      have s2 := HS.out.cell 2
      simp only [List.getElem?_cons_zero, List.getElem?_cons_succ] at s0 s1 s2
      refine bodyPost_ret (v := .tuple #[tagV 0 0 false, .int .i64 0, .int .i64 (e0 : Int)]) (by simp [results, Try.results75, go_sem, s0, s1, s2]) rfl ⟨?_, below3 HB1.out (Nat.le_refl _)⟩
      rw [HZ.out, rdT, if_pos (by rw [HE.out]; omega), HE.out]
      rfl

theorem rget_any (A : Option Addr) (l : List Nat) (c : Nat) (w : World) (hn : l.length ≤ c) (hcm : c ≤ maxLen) (h : Rb w A l) :
    Calls Try.prog 75 #[.slice A l.length c] w (GiveT w (rdL l)) := by
  cases l with
  | nil => exact rget_nil A c w
  | cons x r => exact rget_cons A x r c w hn hcm h
end Go.Proofs.Ytgdjgahmnnjeeaa
