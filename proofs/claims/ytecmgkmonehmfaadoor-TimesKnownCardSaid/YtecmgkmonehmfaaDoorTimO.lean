/-
  Layer 10: write.
  Conditions: the layout is short, no field is negative.
-/
import Derived.Test.YtecmgkmonehmfaaDoorTimN
namespace Go.Proofs.YtecmgkmonehmfaaDoor.Tim
open Go.RowKit
attribute [local go_sem] Oper.semAt_some

set_option linter.unusedSimpArgs false in
/-- '[]byte(s)'. -/
theorem conv_m (w : World) (l : List Nat) (h : All8 l) (hl : l.length ≤ 1000000) :
    ∃ c w', (convert 9 34 (.string (bstr l))).run Tryd.prog w = .ok (.slice (some ⟨w.heap.size, 0, none⟩) l.length c) w' ∧ Bm w' w.heap.size (l ++ List.replicate (c - l.length) 0) ∧ Below w.heap.size w w' ∧ l.length ≤ c ∧ c ≤ maxLen ∧ w'.heap.size = w.heap.size + 1 := by
  have hsz : (bstr l).size = l.length := bstr_size l
  have hrun := Lib.run_convert_string_bytes (P := Tryd.prog) w 9 34 5 (bstr l) Tryd.underlying9 Tryd.underlying34 Tryd.underlying5
  rw [hsz] at hrun
  refine ⟨_, _, hrun, ?_, ⟨rfl, rfl, rfl, by rw [Lib.bytesWorld_size]; omega, fun k hk => Lib.bytesWorld_at_old w _ _ k hk⟩, grownCap_ge .., grownCap_le_maxLen _ _ _ _ (by unfold maxLen; omega), Lib.bytesWorld_size _ _ _⟩
  have e : Lib.bytesCells w 5 (bstr l) = (cs8 (l ++ List.replicate (grownCap w l.length 0 5 - l.length) 0)).toArray := by
    unfold Lib.bytesCells
    rw [hsz]
    apply Array.toList_inj.1
    unfold cs8
    rw [Array.toList_append, Array.toList_map, Array.toList_replicate, List.map_append, List.map_replicate]
    unfold bstr
    simp only [List.map_map]
    congr 1
    apply List.map_congr_left
    intro x hx
    have hx8 := h x hx
    simp only [Function.comp, by8, UInt8.toNat_ofNat']
    rw [Nat.mod_eq_of_lt (by omega)]
  unfold Bm
  rw [Lib.bytesWorld_at_new, e]
  simp [cs8]
theorem clipB_s (b n c : Nat) (w : World) (h : n ≤ c) (_hc : c ≤ maxLen) : Calls Tryd.prog 48 #[.slice (some ⟨b, 0, none⟩) n c] w fun e w' => e = .returned (.slice (some ⟨b, 0, none⟩) n n) ∧ w = w' := by
  unfold maxLen at _hc
  have h1 : (n : Int) ≤ (c : Int) := by omega
  go_enter Tryd.func48, Tryd.ntmps48
  go_wp2_with fail
  go_ret
  exact ⟨rfl, rfl⟩
/-- What write makes of a layout. -/
def wrT (L : List Nat) (y m d h mi s : Nat) : List Nat := putD L 115 L.length s (putD L 109 L.length mi (putD L 104 L.length h (putD L 68 L.length d (putD L 77 L.length m (putD L 89 L.length y L)))))
theorem wrT_len (L : List Nat) (y m d h mi s : Nat) : (wrT L y m d h mi s).length = L.length := by unfold wrT; simp only [putD_len]
set_option linter.unusedSimpArgs false in
set_option linter.unusedVariables false in
set_option maxHeartbeats 8000000 in
set_option maxRecDepth 100000 in
theorem write_any (L : List Nat) (h8 : All8 L) (hl : L.length ≤ 100) (y m d h mi s : Nat) (hy : y ≤ 1000000) (hm : m ≤ 1000000) (hd : d ≤ 1000000) (hh : h ≤ 1000000) (hmi : mi ≤ 1000000) (hs : s ≤ 1000000) (w : World) :
    Calls Tryd.prog 35 #[.string (bstr L), tV y m d h mi s] w fun e w' => ∃ gb, w.heap.size ≤ gb ∧ e = .returned (.slice (some ⟨gb, 0, none⟩) L.length L.length) ∧ Rd w' (some ⟨gb, 0, none⟩) (cs8 (wrT L y m d h mi s)) ∧ Below w.heap.size w w' := by
  obtain ⟨g, hg⟩ : ∃ g, w.heap.size = g := ⟨_, rfl⟩
  obtain ⟨g2, hg2⟩ : ∃ g2, g + 1 = g2 := ⟨_, rfl⟩
  obtain ⟨S, hS⟩ : ∃ S, bstr L = S := ⟨_, rfl⟩
  obtain ⟨w1, hw1⟩ : ∃ w1, (w.alloc (.cells #[.string S] 9)).alloc (.cells #[.int .i64 (y : Int), .int .i64 (m : Int), .int .i64 (d : Int), .int .i64 (h : Int), .int .i64 (mi : Int), .int .i64 (s : Int)] 23) = w1 := ⟨_, rfl⟩
  have B1 : Hid (Below w.heap.size w w1) := Lib.hid (by rw [← hw1]; exact (bel1 w _).alloc (by simp) _)
  have K1 : Hid (Bk w1 g 9 [.string S]) := Lib.hid (by rw [← hw1, ← hg]; exact (Bk.new w _ [.string S]).alloc _)
  have R1 : Hid (Bk w1 g2 23 (tL y m d h mi s)) := Lib.hid (by
    rw [← hw1, ← hg2, ← hg]
    have := Bk.new (w.alloc (.cells #[.string S] 9)) 23 (tL y m d h mi s)
    rwa [World.size_alloc] at this)
  obtain ⟨C, w2, hrun, hbm, hb2, hNC, hCm, hz2⟩ := conv_m w1 L h8 (by omega)
  rw [hS] at hrun
  obtain ⟨gb, hgb⟩ : ∃ gb, w1.heap.size = gb := ⟨_, rfl⟩
  obtain ⟨g5, hg5⟩ : ∃ g5, w2.heap.size = g5 := ⟨_, rfl⟩
  obtain ⟨N, hN⟩ : ∃ N, L.length = N := ⟨_, rfl⟩
  rw [hgb, hN] at hrun hbm
  rw [hN] at hNC hl
  obtain ⟨w3, hw3⟩ : ∃ w3, w2.alloc (.cells #[.slice (some ⟨gb, 0, none⟩) N C] 34) = w3 := ⟨_, rfl⟩
  have hg1 := K1.out.lt
  have hg21 := R1.out.lt
  have B2 := bt B1 (Lib.hid hb2)
  have B3 : Hid (Below w.heap.size w w3) := Lib.hid (by rw [← hw3]; exact B2.out.alloc B2.out.size _)
  have K3 : Hid (Bk w3 g 9 [.string S]) := Lib.hid (by rw [← hw3]; exact (kt K1 (Lib.hid hb2)).out.alloc _)
  have R3 : Hid (Bk w3 g2 23 (tL y m d h mi s)) := Lib.hid (by rw [← hw3]; exact (kt R1 (Lib.hid hb2)).out.alloc _)
  have S3 : Hid (Bk w3 g5 34 [.slice (some ⟨gb, 0, none⟩) N C]) := Lib.hid (by rw [← hw3, ← hg5]; exact Bk.new w2 _ [.slice (some ⟨gb, 0, none⟩) N C])
  have M3 : Hid (Bm w3 gb (L ++ List.replicate (C - N) 0)) := Lib.hid (by
    rw [← hw3]
    exact (Below.heap_alloc w2 _ gb hbm.lt).trans hbm)
  have hwgb : w.heap.size ≤ gb := by have := B1.out.size; omega
  have CP : Hid (∀ (c n : Nat) (bs : List Nat) (W : World), c < 256 → n ≤ 1000000 → bs.length = C → Bm W gb bs → w3.grownBy W (some gb) → Calls Tryd.prog 47 #[.int .u8 (c : Int), .int .i64 (n : Int), .pointer (some ⟨g, 0, none⟩), .pointer (some ⟨g5, 0, none⟩)] W fun e w' => e = .returned (.tuple #[]) ∧ Bm w' gb (putD L c N n bs) ∧ w3.grownBy w' (some gb)) := Lib.hid (fun c n bs W hc hn hbs hW hgr => by
    have e1 : g ≠ gb := by omega
    have e2 : g5 ≠ gb := by omega
    have k1 := K3.out.only hgr (fun e => e1 (by injection e))
    have k2 := S3.out.only hgr (fun e => e2 (by injection e))
    refine (put_any L h8 N hN hl c n hc hn bs C C hbs (by omega) g g5 gb W (by rw [k1.cell, hS]; rfl) k1.lt e1 (by rw [k2.cell]; rfl) k2.lt e2 hW).mono ?_
    rintro e w' ⟨h1, h2, h3⟩
    exact ⟨h1, h2, only_trans hgr h3⟩)
  have hz : (L ++ List.replicate (C - N) 0).length = C := by rw [List.length_append, List.length_replicate, hN]; omega
  have hgg2 : g2 ≠ gb := by omega
  have hgg5 : g5 ≠ gb := by omega
  have HRun := Lib.hid hrun
  have HW1 := Lib.hid hw1
  have HW3 := Lib.hid hw3
  have HG := Lib.hid hg
  have HG2 := Lib.hid hg2
  have HG5 := Lib.hid hg5
  have HS := Lib.hid hS
  have HN := Lib.hid hN
  have HZ := Lib.hid hz
  have HCL := Lib.hid (fun W => clipB_s gb N C W hNC hCm)
  have c1s : w1.cell? ⟨g, 0, none⟩ = some (.string S) := by rw [K1.out.cell]; rfl
  have GR0 : Hid (w3.grownBy w3 (some gb)) := Lib.hid (World.grownBy.refl _ _)
  rw [hN]
  obtain ⟨T, hT⟩ : ∃ T, wrT L y m d h mi s = T := ⟨_, rfl⟩
  have HT := Lib.hid hT
  rw [hT]
  have HZ2 := Lib.hid hz2
  clear hz2 hw1 hw3 hg hg2 hg5 hS hz hrun hbm hb2 hgb hT h8 B1 B2 R1
  rw [HS.out]
  go_enter Tryd.func35, Tryd.ntmps35
  go_upto_region 1 with fail
  rw [HW1.out, HG.out, HG2.out]
  have hrun := HRun.out
  go_upto_region 2 with fail
  rw [HW3.out, HG5.out]
  clear HW1 HW3 HRun hrun c1s K1 K3 HG5 HZ2 HG2
  have t0 : w3.cell? ⟨g2, 0, none⟩ = some (.int .i64 (y : Int)) := by rw [R3.out.cell]; rfl
  go_wp2_with fail
  refine (CP.out 89 y (L ++ List.replicate (C - N) 0) w3 (by decide) hy HZ.out M3.out GR0.out).mono ?_
  rintro e w4 ⟨rfl, h1, h2⟩
  have R4 : Hid (Bk w4 g2 23 (tL y m d h mi s)) := Lib.hid (R3.out.only h2 (fun e => hgg2 (by injection e)))
  obtain ⟨b4, hb4⟩ : ∃ b, putD L 89 N y (L ++ List.replicate (C - N) 0) = b := ⟨_, rfl⟩
  rw [hb4] at h1
  have E4 := Lib.hid hb4
  have Z4 : Hid (b4.length = C) := Lib.hid (by rw [← hb4, putD_len]; exact HZ.out)
  have M4 := Lib.hid h1
  have GR1 := Lib.hid h2
  clear h1 h2 t0 hb4
  have t1 : w4.cell? ⟨g2, 1, none⟩ = some (.int .i64 (m : Int)) := by rw [R4.out.cell]; rfl
  go_wp2_with fail
  refine (CP.out 77 m b4 w4 (by decide) hm Z4.out M4.out GR1.out).mono ?_
  rintro e w5 ⟨rfl, h1, h2⟩
  have R5 : Hid (Bk w5 g2 23 (tL y m d h mi s)) := Lib.hid (R3.out.only h2 (fun e => hgg2 (by injection e)))
  obtain ⟨b5, hb5⟩ : ∃ b, putD L 77 N m b4 = b := ⟨_, rfl⟩
  rw [hb5] at h1
  have E5 := Lib.hid hb5
  have Z5 : Hid (b5.length = C) := Lib.hid (by rw [← hb5, putD_len]; exact Z4.out)
  have M5 := Lib.hid h1
  have GR2 := Lib.hid h2
  clear h1 h2 t1 hb5 R4
  have t2 : w5.cell? ⟨g2, 2, none⟩ = some (.int .i64 (d : Int)) := by rw [R5.out.cell]; rfl
  go_wp2_with fail
  refine (CP.out 68 d b5 w5 (by decide) hd Z5.out M5.out GR2.out).mono ?_
  rintro e w6 ⟨rfl, h1, h2⟩
  have R6 : Hid (Bk w6 g2 23 (tL y m d h mi s)) := Lib.hid (R3.out.only h2 (fun e => hgg2 (by injection e)))
  obtain ⟨b6, hb6⟩ : ∃ b, putD L 68 N d b5 = b := ⟨_, rfl⟩
  rw [hb6] at h1
  have E6 := Lib.hid hb6
  have Z6 : Hid (b6.length = C) := Lib.hid (by rw [← hb6, putD_len]; exact Z5.out)
  have M6 := Lib.hid h1
  have GR3 := Lib.hid h2
  clear h1 h2 t2 hb6 R5
  have t3 : w6.cell? ⟨g2, 3, none⟩ = some (.int .i64 (h : Int)) := by rw [R6.out.cell]; rfl
  go_wp2_with fail
  refine (CP.out 104 h b6 w6 (by decide) hh Z6.out M6.out GR3.out).mono ?_
  rintro e w7 ⟨rfl, h1, h2⟩
  have R7 : Hid (Bk w7 g2 23 (tL y m d h mi s)) := Lib.hid (R3.out.only h2 (fun e => hgg2 (by injection e)))
  obtain ⟨b7, hb7⟩ : ∃ b, putD L 104 N h b6 = b := ⟨_, rfl⟩
  rw [hb7] at h1
  have E7 := Lib.hid hb7
  have Z7 : Hid (b7.length = C) := Lib.hid (by rw [← hb7, putD_len]; exact Z6.out)
  have M7 := Lib.hid h1
  have GR4 := Lib.hid h2
  clear h1 h2 t3 hb7 R6
  have t4 : w7.cell? ⟨g2, 4, none⟩ = some (.int .i64 (mi : Int)) := by rw [R7.out.cell]; rfl
  go_wp2_with fail
  refine (CP.out 109 mi b7 w7 (by decide) hmi Z7.out M7.out GR4.out).mono ?_
  rintro e w8 ⟨rfl, h1, h2⟩
  have R8 : Hid (Bk w8 g2 23 (tL y m d h mi s)) := Lib.hid (R3.out.only h2 (fun e => hgg2 (by injection e)))
  obtain ⟨b8, hb8⟩ : ∃ b, putD L 109 N mi b7 = b := ⟨_, rfl⟩
  rw [hb8] at h1
  have E8 := Lib.hid hb8
  have Z8 : Hid (b8.length = C) := Lib.hid (by rw [← hb8, putD_len]; exact Z7.out)
  have M8 := Lib.hid h1
  have GR5 := Lib.hid h2
  clear h1 h2 t4 hb8 R7
  have t5 : w8.cell? ⟨g2, 5, none⟩ = some (.int .i64 (s : Int)) := by rw [R8.out.cell]; rfl
  go_wp2_with fail
  refine (CP.out 115 s b8 w8 (by decide) hs Z8.out M8.out GR5.out).mono ?_
  rintro e w9 ⟨rfl, h1, h2⟩
  have R9 : Hid (Bk w9 g2 23 (tL y m d h mi s)) := Lib.hid (R3.out.only h2 (fun e => hgg2 (by injection e)))
  obtain ⟨b9, hb9⟩ : ∃ b, putD L 115 N s b8 = b := ⟨_, rfl⟩
  rw [hb9] at h1
  have E9 := Lib.hid hb9
  have Z9 : Hid (b9.length = C) := Lib.hid (by rw [← hb9, putD_len]; exact Z8.out)
  have M9 := Lib.hid h1
  have GR6 := Lib.hid h2
  clear h1 h2 t5 hb9 R8
  have s5 : w9.cell? ⟨g5, 0, none⟩ = some (.slice (some ⟨gb, 0, none⟩) N C) := by rw [(S3.out.only GR6.out (fun e => hgg5 (by injection e))).cell]; rfl
  go_wp2_with fail
  refine (HCL.out _).mono ?_
  rintro e w' ⟨rfl, rfl⟩
  go_wp2_with fail
  go_ret
  refine ⟨gb, hwgb, rfl, fun _ => ⟨gb, 0, rfl, M9.out.lt, fun j u hu => ?_⟩, B3.out.grown GR6.out B3.out.size (fun k e => by injection e with e; omega)⟩
  have e9 : b9 = T ++ List.replicate (C - N) 0 := by
    rw [← E9.out, ← E8.out, ← E7.out, ← E6.out, ← E5.out, ← E4.out, ← HT.out]
    unfold wrT
    rw [HN.out]
    have hNl : N ≤ L.length := by rw [HN.out]; exact Nat.le_refl _
    rw [putD_app _ _ _ _ _ _ hNl, putD_app _ _ _ _ _ _ (by simp only [putD_len]; exact hNl), putD_app _ _ _ _ _ _ (by simp only [putD_len]; exact hNl), putD_app _ _ _ _ _ _ (by simp only [putD_len]; exact hNl), putD_app _ _ _ _ _ _ (by simp only [putD_len]; exact hNl), putD_app _ _ _ _ _ _ (by simp only [putD_len]; exact hNl)]
  rw [Nat.zero_add, M9.out.cell, e9]
  obtain ⟨hj, _⟩ := List.getElem?_eq_some_iff.1 hu
  rw [show cs8 (T ++ List.replicate (C - N) 0) = cs8 T ++ cs8 (List.replicate (C - N) 0) by unfold cs8; rw [List.map_append], List.getElem?_append_left hj]
  exact hu
end Go.Proofs.YtecmgkmonehmfaaDoor.Tim
