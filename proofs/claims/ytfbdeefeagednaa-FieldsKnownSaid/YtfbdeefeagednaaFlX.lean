/-
  Layer 12: the law's Same, where the two are equal.
  Conditions: none beyond that values read as what they are.
-/
import Derived.Test.YtfbdeefeagednaaFlO
import Derived.Laws.BytesString
import Derived.Laws.Strings
namespace Go.Proofs.Ytfbdeefeagednaa.Fl
open Go.RowKit

theorem foldl_push (l : List Nat) (s : ByteArray) : (l.map Int.ofNat).foldl (fun r n => r.push (UInt8.ofNat n.toNat)) s = ⟨s.data ++ (l.map UInt8.ofNat).toArray⟩ := by
  induction l generalizing s with
  | nil => simp
  | cons x l ih =>
    simp only [List.map_cons, List.foldl_cons, ih]
    apply ByteArray.ext
    simp [ByteArray.push]
/-- 'string(b)'. -/
theorem run_str {P : Program} {w : World} {A : Option Addr} {l : List Nat} {src dst e : TypeId} (hs : P.underlying src = some (.slice e)) (he : P.underlying e = some (.int .u8)) (hd : P.underlying dst = some .string) (h : Rb w A l) (c : Nat) :
    (convert src dst (.slice A l.length c)).run P w = .ok (.string (bstr l)) w := by
  rw [run_convert_bytes_string w src dst e A l.length c hs he hd]
  cases l with
  | nil =>
    cases A with
    | none => rfl
    | some a => rfl
  | cons x l =>
    obtain ⟨b, off, rfl, hb, hc⟩ := h.1.all_ (by simp [cs8])
    have h1 := run_loadCells_list (P := P) (w := w) ⟨b, off, none⟩ (((x :: l).map Int.ofNat).map (Value.int .u8)) (fun j v hv => by
      obtain ⟨hj1, hj2⟩ := List.getElem?_eq_some_iff.1 hv
      rw [addr_add, hc j (by simpa [cs8] using hj1), ← hj2]
      simp only [cs8, List.getElem_map, by8]
      rfl)
    rw [List.length_map, List.length_map] at h1
    rw [run_bytesToString w _ _ _ _ h1, foldl_push]
    congr 3
    simp
theorem run_str8 {w : World} {A : Option Addr} {l : List Nat} (h : Rb w A l) (c : Nat) : (convert 26 9 (.slice A l.length c)).run Try.prog w = .ok (.string (bstr l)) w :=
  run_str Try.underlying26 Try.underlying5 Try.underlying9 h c
theorem bstr_self (s : ByteArray) : (s.toList == s.toList) = true := by rw [beq_iff_eq]
set_option maxHeartbeats 1000000 in
set_option maxRecDepth 100000 in
theorem same_eq {x y : Bool} {S T : Nat → Prop} (e : El) : ∀ (v v' : Value) (w : World), RdE x S w e v → RdE y T w e v' →
    Calls Try.prog 17 #[v, v'] w fun e' w' => e' = .returned (.int .i64 1) ∧ Below w.heap.size w w' := by
  refine El.ind (P := fun e => ∀ (v v' : Value) (w : World), RdE x S w e v → RdE y T w e v' →
    Calls Try.prog 17 #[v, v'] w fun e' w' => e' = .returned (.int .i64 1) ∧ Below w.heap.size w w') ?_ e
  clear e
  intro c n k bs ss ih v v' w h h'
  obtain ⟨h1, h2, h3, A, ca, B, cb, rfl, h5, h6, h7, h8, h9, h10, h11⟩ := h
  obtain ⟨_, _, _, A', ca', B', cb', rfl, h5', h6', h7', h8', h9', h10', h11'⟩ := h'
  have hlen : ss.length ≤ 9223372036854775807 := by unfold maxLen at h9; omega
  have s0 := run_str8 (w := (w.alloc (.cells #[.int .u8 (c : Int), .bool k, .int .u32 (n : Int), .slice A bs.length ca, .slice B ss.length cb] 29)).alloc (.cells #[.int .u8 (c : Int), .bool k, .int .u32 (n : Int), .slice A' bs.length ca', .slice B' ss.length cb'] 29)) (A := A) (l := bs) ⟨(h5.rd.below ((Below.refl _ _).alloc (Nat.le_refl _) _)).below ((Below.refl _ _).alloc (Nat.le_refl _) _), h3⟩ ca
  have s1 := run_str8 (w := (w.alloc (.cells #[.int .u8 (c : Int), .bool k, .int .u32 (n : Int), .slice A bs.length ca, .slice B ss.length cb] 29)).alloc (.cells #[.int .u8 (c : Int), .bool k, .int .u32 (n : Int), .slice A' bs.length ca', .slice B' ss.length cb'] 29)) (A := A') (l := bs) ⟨(h5'.rd.below ((Below.refl _ _).alloc (Nat.le_refl _) _)).below ((Below.refl _ _).alloc (Nat.le_refl _) _), h3⟩ ca'
  clear h5 h5' h6 h7 h8 h9 h10 h6' h7' h8' h9' h10'
  generalize bstr bs = Z at *
  go_enter Try.func17, Try.ntmps17
  go_wp2_with fail
  have HA := Lib.hid (bel2 w (.cells #[.int .u8 (c : Int), .bool k, .int .u32 (n : Int), .slice A bs.length ca, .slice B ss.length cb] 29) (.cells #[.int .u8 (c : Int), .bool k, .int .u32 (n : Int), .slice A' bs.length ca', .slice B' ss.length cb'] 29))
  have HK1 := Lib.hid ((Bk.new w 29 [.int .u8 (c : Int), .bool k, .int .u32 (n : Int), .slice A bs.length ca, .slice B ss.length cb]).alloc (.cells #[.int .u8 (c : Int), .bool k, .int .u32 (n : Int), .slice A' bs.length ca', .slice B' ss.length cb'] 29))
  have HK2 := Lib.hid (Bk.new (w.alloc (.cells #[.int .u8 (c : Int), .bool k, .int .u32 (n : Int), .slice A bs.length ca, .slice B ss.length cb] 29)) 29 [.int .u8 (c : Int), .bool k, .int .u32 (n : Int), .slice A' bs.length ca', .slice B' ss.length cb'])
  clear s0 s1
  go_loopw [5] (fun i wr => ∃ (p : Nat), p ≤ ss.length ∧ i = .int .i64 (p : Int) ∧ Bk wr w.heap.size 29 [.int .u8 (c : Int), .bool k, .int .u32 (n : Int), .slice A bs.length ca, .slice B ss.length cb] ∧ Bk wr (w.heap.size + 1) 29 [.int .u8 (c : Int), .bool k, .int .u32 (n : Int), .slice A' bs.length ca', .slice B' ss.length cb'] ∧ Below w.heap.size w wr) (fun i _ => ss.length - (intOf i).toNat)
  case atStart =>
    exact ⟨0, Nat.zero_le _, rfl, HK1.out, by have := HK2.out; rwa [World.size_alloc] at this, HA.out⟩
  case round =>
    obtain ⟨p, hp, rfl, hbk, hbk', hbel⟩ := hrel
    obtain ⟨e0, e1, e2, e3, e4, hsz⟩ := hbk.five
    obtain ⟨e0', e1', e2', e3', e4', hsz'⟩ := hbk'.five
    have H11 := Lib.hid (h11.stay hbel)
    have H11' := Lib.hid (h11'.stay hbel)
    have HIH := Lib.hid ih
    have HK := Lib.hid hbk
    have HK' := Lib.hid hbk'
    have HB := Lib.hid hbel
    clear ih hbk hbk' hbel h11 h11' HA HK1 HK2
    by_cases hlt : p < ss.length
    · obtain ⟨b, off, c1, n1, k1, u, v, rfl, hb, hS, f0, f1, f2, f3, f4, hE⟩ := H11.out.five hlt
      obtain ⟨b', off', c1', n1', k1', u', v', rfl, hb', hS', f0', f1', f2', f3', f4', hE'⟩ := H11'.out.five hlt
      have hpi : (p : Int) < (ss.length : Int) := by omega
      have hp0 : (0 : Int) ≤ (p : Int) := by omega
      have HE := Lib.hid hE
      have HE' := Lib.hid hE'
      have b1 := Below.refl wr.heap.size wr
      clear hE hS hE' hS' e0 e1 e2 e3 e0' e1' e2' e3'
      go_wp2_with fail
      go_region_held3 (fun w' => w'.cell? ⟨w.heap.size, 4, none⟩ = some (.slice (some ⟨b, off, none⟩) ss.length cb) ∧ w'.cell? ⟨w.heap.size + 1, 4, none⟩ = some (.slice (some ⟨b', off', none⟩) ss.length cb') ∧
          w'.cell? ⟨b, off + p * 5, none⟩ = some (.int .u8 (c1 : Int)) ∧ w'.cell? ⟨b, off + p * 5 + 1, none⟩ = some (.bool k1) ∧ w'.cell? ⟨b, off + p * 5 + 2, none⟩ = some (.int .u32 (n1 : Int)) ∧ w'.cell? ⟨b, off + p * 5 + 3, none⟩ = some u ∧ w'.cell? ⟨b, off + p * 5 + 4, none⟩ = some v ∧
          w'.cell? ⟨b', off' + p * 5, none⟩ = some (.int .u8 (c1' : Int)) ∧ w'.cell? ⟨b', off' + p * 5 + 1, none⟩ = some (.bool k1') ∧ w'.cell? ⟨b', off' + p * 5 + 2, none⟩ = some (.int .u32 (n1' : Int)) ∧ w'.cell? ⟨b', off' + p * 5 + 3, none⟩ = some u' ∧ w'.cell? ⟨b', off' + p * 5 + 4, none⟩ = some v')
        (first | exact ⟨e4, e4', f0, f1, f2, f3, f4, f0', f1', f2', f3', f4'⟩ | exact ⟨(hb1.cell (p := ⟨w.heap.size, 4, none⟩) hsz).trans e4, (hb1.cell (p := ⟨w.heap.size + 1, 4, none⟩) hsz').trans e4', (hb1.cell (p := ⟨b, off + p * 5, none⟩) hb).trans f0, (hb1.cell (p := ⟨b, off + p * 5 + 1, none⟩) hb).trans f1, (hb1.cell (p := ⟨b, off + p * 5 + 2, none⟩) hb).trans f2, (hb1.cell (p := ⟨b, off + p * 5 + 3, none⟩) hb).trans f3, (hb1.cell (p := ⟨b, off + p * 5 + 4, none⟩) hb).trans f4, (hb1.cell (p := ⟨b', off' + p * 5, none⟩) hb').trans f0', (hb1.cell (p := ⟨b', off' + p * 5 + 1, none⟩) hb').trans f1', (hb1.cell (p := ⟨b', off' + p * 5 + 2, none⟩) hb').trans f2', (hb1.cell (p := ⟨b', off' + p * 5 + 3, none⟩) hb').trans f3', (hb1.cell (p := ⟨b', off' + p * 5 + 4, none⟩) hb').trans f4'⟩)
        (first | (go_at_call 17; refine (HIH.out _ (List.getElem_mem hlt) _ _ _ (HE.out.stay b1.drew) (HE'.out.stay b1.drew)).mono ?_; rintro e w1 ⟨rfl, hb1⟩))
      have HB1 := Lib.hid (b1.drew.trans (hb1.mono b1.drew.size))
      clear hb1
      go_wp2_with fail
      exact ⟨⟨p + 1, by omega, by go_num, HK.out.below HB1.out hsz, HK'.out.below HB1.out hsz', HB.out.trans (HB1.out.mono HB.out.size)⟩, by simp [intOf]; omega⟩
    · go_wp2_with fail
      go_ret
      exact ⟨rfl, HB.out⟩
end Go.Proofs.Ytfbdeefeagednaa.Fl
