/- Lists of passes: the draws. -/
import Derived.Test.YtjbmlebaaehjjaaDoorLawA
import Derived.Test.YtjbmlebaaehjjaaDoorRow
import Derived.Test.YtjbmlebaaehjjaaDoorPas6
namespace Go.Proofs.YtjbmlebaaehjjaaDoor
open Go.RowKit
set_option linter.unusedVariables false

/-- A reader, and what is older than the base is as it was. -/
structure DSt (g : Nat) (a0 : Option Addr) (len cap : Nat) (b w : World) : Prop where
  rd : Rd g a0 len cap w
  below : Below b.heap.size b w
  ge : b.heap.size ≤ g
theorem DSt.lt {g : Nat} {a0 : Option Addr} {len cap : Nat} {b w : World} (h : DSt g a0 len cap b w) : g < w.heap.size := h.rd.1
theorem DSt.alloc {g : Nat} {a0 : Option Addr} {len cap : Nat} {b w : World} (h : DSt g a0 len cap b w) (o : Obj) : DSt g a0 len cap b (w.alloc o) :=
  ⟨h.rd.alloc o, h.below.alloc h.below.size o, h.ge⟩
theorem DSt.draw {g : Nat} {a0 : Option Addr} {len cap : Nat} {b w w' : World} (h : DSt g a0 len cap b w) (r : Rd g a0 len cap w') (k : w.grownBy w' (some g)) : DSt g a0 len cap b w' :=
  ⟨r, h.below.grown k h.below.size (fun q hq => by cases hq; exact h.ge), h.ge⟩
theorem DSt.other {g : Nat} {a0 : Option Addr} {len cap : Nat} {b w w' : World} (h : DSt g a0 len cap b w) (hb : Below b.heap.size b w') (hz : w.heap.size ≤ w'.heap.size) (k : ∀ i, i ≤ g → w'.heap[i]? = w.heap[i]?) : DSt g a0 len cap b w' := by
  obtain ⟨⟨hg, hl, hc, p, hp, hbk⟩, hbel, hge⟩ := h
  refine ⟨⟨by omega, hl, ?_, p, hp, by rw [k g (Nat.le_refl _)]; exact hbk⟩, hb, hge⟩
  rcases hc with h | ⟨b, off, ha, hb, hc⟩
  · exact .inl h
  · refine .inr ⟨b, off, ha, hb, fun i hi => ?_⟩
    obtain ⟨n, h0, h1, h2⟩ := hc i hi
    exact ⟨n, h0, h1, by rw [cell_blk (k b (by omega))]; exact h2⟩
theorem DSt.push {g : Nat} {a0 : Option Addr} {len cap : Nat} {b w w' : World} {r : Option Nat} (h : DSt g a0 len cap b w) (k : w.grownBy w' r) (hr : ∀ q, r = some q → g < q) : DSt g a0 len cap b w' :=
  h.other (h.below.grown k h.below.size (fun q hq => by have := hr q hq; have := h.ge; omega)) k.size (fun i hi => k.block i (by have := h.lt; omega) (fun e => by have := hr i e.symm; omega))
theorem DSt.keep {g : Nat} {a0 : Option Addr} {len cap : Nat} {b w w' : World} (h : DSt g a0 len cap b w) (k : Below w.heap.size w w') : DSt g a0 len cap b w' :=
  h.other (h.below.trans (k.mono h.below.size)) k.size (fun i hi => k.block i (by have := h.lt; omega))
theorem Row.draw {w w' : World} {base g : Nat} {v : Value} {l : List Int} (h : Row w base v l) (k : w.grownBy w' (some g)) (hg : g < base) : Row w' base v l :=
  h.block fun q hq hlt => k.block q hlt (by intro e; have := (h.ge hq).1; cases e; omega)
set_option maxHeartbeats 4000000 in
theorem passes_any (g : Nat) (a0 : Option Addr) (len cap : Nat) (most : Nat) (b w : World) (h : DSt g a0 len cap b w) (hm : most ≤ 100) :
    Calls Tryd.prog 19 #[.pointer (some ⟨g, 0, none⟩), .int .i64 (most : Int)] w fun e w' => ∃ v l, e = .returned v ∧ Row w' w.heap.size v l ∧ l.length ≤ 200 ∧ DSt g a0 len cap b w' := by
  have hgw := h.lt
  have R0 := Row.lit w w.heap.size (Nat.le_refl _)
  have D0 := h.alloc (.cells #[] 2)
  go_enter Tryd.func19, Tryd.ntmps19
  go_wp2_with fail
  refine (below_any g a0 len cap _ _ D0.rd).mono ?_
  rintro e w1 ⟨n1, rfl, hn0, hn1, hr1, hg1⟩
  obtain ⟨k1, rfl⟩ : ∃ k1 : Nat, n1 = k1 := ⟨n1.toNat, by omega⟩
  have hk1 : k1 ≤ most := by omega
  have R1 : Hid (Row w1 w.heap.size (.slice (some ⟨w.heap.size, 0, none⟩) 0 0) []) := R0.draw hg1 hgw
  have D1 : Hid (DSt g a0 len cap b w1) := D0.draw hr1 hg1
  have hz1 : w.heap.size ≤ w1.heap.size := by have := hg1.size; simp at this; omega
  clear hn0 hn1 hr1 hg1 R0 D0 h
  go_wp2_with fail
  go_loopw [5, 6] (fun st i wr => ∃ (k : Nat) (l : List Int), l.length + k ≤ 100 ∧ i = .int .i64 k ∧ Hid (Row wr w.heap.size st l) ∧ Hid (DSt g a0 len cap b wr) ∧ w.heap.size ≤ wr.heap.size) (fun _ i _ => (intOf i).toNat)
  case atStart => exact ⟨k1, [], by simp; omega, rfl, R1, D1, hz1⟩
  case round =>
    obtain ⟨k, l, hkl, rfl, HR, HD, hz⟩ := hrel
    clear R1 D1
    obtain ⟨ta, tc, rfl⟩ := HR.out.slice
    by_cases hk0 : 0 < k
    · have hk0' : (0 : Int) < (k : Int) := by omega
      go_wp2_with fail
      refine (below_any g a0 len cap _ _ HD.out.rd).mono ?_
      rintro e w2 ⟨n2, rfl, hn0, hn1, hr2, hg2⟩
      have hn9 : n2 ≤ 8 := by omega
      have HR2 : Hid (Row w2 w.heap.size (.slice ta l.length tc) l) := HR.out.draw hg2 hgw
      have HD2 : Hid (DSt g a0 len cap b w2) := HD.out.draw hr2 hg2
      have hz2 : w.heap.size ≤ w2.heap.size := Nat.le_trans hz hg2.size
      clear hn1 hr2 hg2 HR HD
      go_wp2_with (at_builtin; refine push_int rfl _ _ rfl w.heap.size (.slice ta l.length tc) l rfl (HR2.out.alloc _) (1 + n2) _ 1 rfl (by exact one_cell_at (by simp)) (by omega) (by simp; omega) ?_; intro v5 w5 ho5 hg5; have HR5 : Hid _ := ho5; have hz5 : w.heap.size ≤ w5.heap.size := (by have := hg5.size; simp at this; omega); have HD5 : Hid (DSt g a0 len cap b w5) := (HD2.out.alloc _).push hg5 (fun q hq => by have := (HR2.out.ge hq).1; omega); clear ho5 hg5)
      go_roundw
      case rel => exact ⟨k - 1, l ++ [1 + n2], by simp; omega, by go_num, HR5, HD5, hz5⟩
      case measure => simp [intOf]; omega
    · have hk0' : ¬ (0 : Int) < (k : Int) := by omega
      go_wp2_with fail
      refine (once_any g a0 len cap _ _ HD.out.rd (by omega)).mono ?_
      rintro e w2 ⟨b2, rfl, hr2, hg2⟩
      have HR2 : Hid (Row w2 w.heap.size (.slice ta l.length tc) l) := HR.out.draw hg2 hgw
      have HD2 : Hid (DSt g a0 len cap b w2) := HD.out.draw hr2 hg2
      have hz2 : w.heap.size ≤ w2.heap.size := Nat.le_trans hz hg2.size
      clear hr2 hg2 HR HD
      cases b2 with
      | false =>
        go_wp2_with fail
        go_ret
        exact ⟨_, l, rfl, HR2.out, by omega, HD2.out⟩
      | true =>
        go_wp2_with fail
        refine (off_any g a0 len cap _ _ _ HD2.out.rd (by omega) (by omega) (by omega)).mono ?_
        rintro e w3 ⟨n3, rfl, hn0, hn1, hr3, hg3⟩
        have HR3 : Hid (Row w3 w.heap.size (.slice ta l.length tc) l) := HR2.out.draw hg3 hgw
        have HD3 : Hid (DSt g a0 len cap b w3) := HD2.out.draw hr3 hg3
        have hz3 : w.heap.size ≤ w3.heap.size := Nat.le_trans hz2 hg3.size
        clear hr3 hg3 HR2 HD2
        go_wp2_with (at_builtin; refine push_int rfl _ _ rfl w.heap.size (.slice ta l.length tc) l rfl (HR3.out.alloc _) n3 _ 1 rfl (by exact one_cell_at (by simp)) (by omega) (by simp; omega) ?_; intro v5 w5 ho5 hg5; have HR5 : Hid _ := ho5; have HD5 : Hid (DSt g a0 len cap b w5) := (HD3.out.alloc _).push hg5 (fun q hq => by have := (HR3.out.ge hq).1; omega); clear ho5 hg5)
        go_ret
        exact ⟨_, l ++ [n3], rfl, HR5.out, by simp; omega, HD5.out⟩
end Go.Proofs.YtjbmlebaaehjjaaDoor
