/- What is carried past writing: for the laws over a function whose answer is a list of numbers. -/
import Derived.Test.YtikhepfbljhaaaaMrk2
import Derived.Test.YtikhepfbljhaaaaCntW
namespace Go.Proofs.Ytikhepfbljhaaaa
open Go.RowKit

theorem below_hdr {B lo hi : Nat} {w a b : World} (h : Below B w a) (k : Hdr lo hi a b) (hB : B ≤ lo) (hz : B ≤ a.heap.size) : Below B w b :=
  ⟨k.os.trans h.os, k.tape.trans h.tape, k.output.trans h.output, Nat.le_trans h.size k.size, fun g hg => (k.out g (.inl (by omega)) (by omega)).trans (h.block g hg)⟩
theorem below_only {B g : Nat} {w a b : World} (h : Below B w a) (k : Only g a b) (hB : B ≤ g) : Below B w b :=
  ⟨k.os.trans h.os, k.tape.trans h.tape, k.output.trans h.output, by rw [k.size]; exact h.size, fun i hi => (k.other i (by omega)).trans (h.block i hi)⟩
theorem row_own {w : World} {base : Nat} {v : Value} {l : List Int} (hm : l.length ≤ 1048576) (h : w.ownsRow base 2 1 v l.length (l.map (Value.int .i64))) : ∃ u c, v = .slice u l.length c ∧ OI w base u l := by
  rcases h.2 with ⟨hv, hn⟩ | ⟨g, cap, cur, hv, hb, hg, hnc, _, hcs, htk⟩
  · exact ⟨none, 0, by rw [hv, hn], by omega, .inl (List.length_eq_zero_iff.1 hn)⟩
  · refine ⟨_, cap, hv, by omega, .inr ⟨g, cur, rfl, hb, hg, fun i hi => ?_⟩⟩
    have e : (cur.toList.take (l.length * 1))[i]? = (l.map (Value.int .i64))[i]? := by rw [htk]
    rw [List.getElem?_take, if_pos (by omega)] at e
    simp [hi] at e
    simpa [List.getD, hi] using e
theorem hdr_below {lo hi : Nat} {w w' : World} (h : Below w.heap.size w w') : Hdr lo hi w w' :=
  ⟨h.os, h.tape, h.output, h.size, fun g _ hg => h.block g hg, fun g cur _ hc => ⟨cur, (h.block g (Array.getElem?_eq_some_iff.1 hc).1).trans hc, Cur.refl _⟩⟩
theorem agree_hdr {lo' lo hi : Nat} {a b c : World} (h : Agree lo' a b) (k : Hdr lo hi b c) (hz : a.heap.size ≤ lo) : Agree lo' a c :=
  ⟨Nat.le_trans h.1 k.size, fun g hg hl => (k.out g (.inl (by omega)) (Nat.lt_of_lt_of_le hl h.1)).trans (h.2 g hg hl)⟩
theorem agree_only {lo' g : Nat} {a b c : World} (h : Agree lo' a b) (k : Only g b c) (hz : a.heap.size ≤ g) : Agree lo' a c :=
  ⟨by rw [k.size]; exact h.1, fun i hi hl => (k.other i (by omega)).trans (h.2 i hi hl)⟩
theorem agree_below {lo' : Nat} {a b c : World} (h : Agree lo' a b) (k : Below b.heap.size b c) : Agree lo' a c := h.trans (agree_of_below k _)
/-- What numbers written into a list of the call's own leave. -/
theorem mark_own (lo : Nat) (a : Option Addr) (c : Nat) (l : List Int) (w : World) (hl : l.length ≤ 1048576) (hv : OI w lo a l) :
    Calls Try.prog 11 #[.slice a l.length c, .int .i64 1] w fun e w' => e = .returned (.int .i64 (1 + l.length)) ∧ OI w' lo a (marks 1 l.length) ∧ ∃ g, lo ≤ g ∧ Only g w w' := by
  rcases hv.2 with h | ⟨g, cur, rfl, hlo, hb, hc⟩
  · subst h
    refine (markZero a c 1 w).mono ?_
    rintro e w1 ⟨rfl, rfl⟩
    exact ⟨by simp, ⟨by simp [marks], .inl (by simp [marks])⟩, lo, Nat.le_refl _, Only.refl _ _⟩
  · refine (markVals g c l.length 1 cur w hl (by omega) (by omega) hb (fun i hi => ⟨_, hc i hi⟩)).mono ?_
    rintro e w1 ⟨rfl, ho, cur', hb', _, hd⟩
    exact ⟨rfl, ⟨by rw [marks_len]; omega, .inr ⟨g, cur', rfl, hlo, hb', fun i hi => by rw [marks_len] at hi; rw [hd i hi, marks_at 1 hi]⟩⟩, g, hlo, ho⟩

end Go.Proofs.Ytikhepfbljhaaaa
