/- What is carried past writing: for the laws over an instruction whose answer is a list of numbers. -/
import Derived.Test.YtjmoonbpfieifaaGreatDoorMrk
namespace Go.Proofs.YtjmoonbpfieifaaGreatDoor
open Go.RowKit

theorem below_hdr {B lo hi : Nat} {w a b : World} (h : Below B w a) (k : Hdr lo hi a b) (hB : B ≤ lo) (hz : B ≤ a.heap.size) : Below B w b :=
  ⟨k.os.trans h.os, k.tape.trans h.tape, k.output.trans h.output, Nat.le_trans h.size k.size, fun g hg => (k.out g (.inl (by omega)) (by omega)).trans (h.block g hg)⟩
theorem below_only {B g : Nat} {w a b : World} (h : Below B w a) (k : Only g a b) (hB : B ≤ g) : Below B w b :=
  ⟨k.os.trans h.os, k.tape.trans h.tape, k.output.trans h.output, by rw [k.size]; exact h.size, fun i hi => (k.other i (by omega)).trans (h.block i hi)⟩
theorem hdr_below {lo hi : Nat} {w w' : World} (h : Below w.heap.size w w') : Hdr lo hi w w' :=
  ⟨h.os, h.tape, h.output, h.size, fun g _ hg => h.block g hg, fun g cur _ hc => ⟨cur, (h.block g (Array.getElem?_eq_some_iff.1 hc).1).trans hc, Cur.refl _⟩⟩
theorem agree_hdr {lo' lo hi : Nat} {a b c : World} (h : Agree lo' a b) (k : Hdr lo hi b c) (hz : a.heap.size ≤ lo) : Agree lo' a c :=
  ⟨Nat.le_trans h.1 k.size, fun g hg hl => (k.out g (.inl (by omega)) (Nat.lt_of_lt_of_le hl h.1)).trans (h.2 g hg hl)⟩
theorem agree_only {lo' g : Nat} {a b c : World} (h : Agree lo' a b) (k : Only g b c) (hz : a.heap.size ≤ g) : Agree lo' a c :=
  ⟨by rw [k.size]; exact h.1, fun i hi hl => (k.other i (by omega)).trans (h.2 i hi hl)⟩
theorem agree_below {lo' : Nat} {a b c : World} (h : Agree lo' a b) (k : Below b.heap.size b c) : Agree lo' a c := h.trans (agree_of_below k _)
theorem SI.keep2 {w w' : World} {lo hi : Nat} {a : Option Addr} {n : Nat} (h : SI w lo hi a n) (k : Agree lo w w') : SI w' lo hi a n := by
  rcases h with h | ⟨g, cur, ha, hl, hh, hb, hc⟩
  · exact .inl h
  · exact .inr ⟨g, cur, ha, hl, hh, (k.2 g hl (Array.getElem?_eq_some_iff.1 hb).1).trans hb, hc⟩
theorem mark_both (lo hi : Nat) (u : Option Addr) (c : Nat) (l : List Int) (w : World) (hs : l.length ≤ 1048576) (hh : SI w lo hi u l.length) :
    Calls Tryz.prog 33 #[.slice u l.length c, .int .i64 1] w fun e w' => e = .returned (.int .i64 (1 + l.length)) ∧ OI w' lo u (marks 1 l.length) ∧ Hdr lo hi w w' := by
  rcases hh with h | ⟨g, cur, rfl, hl, hhi, hb, hc⟩
  · rw [h]
    refine (markZero u c 1 w).mono ?_
    rintro e w1 ⟨rfl, rfl⟩
    exact ⟨by simp, ⟨by simp [marks], .inl (by simp [marks])⟩, Hdr.refl _ _ _⟩
  · refine (markVals g c l.length 1 cur w hs (by omega) (by omega) hb hc).mono ?_
    rintro e w1 ⟨rfl, ho, cur', hb', hcu, hd⟩
    exact ⟨rfl, ⟨by rw [marks_len]; omega, .inr ⟨g, cur', rfl, hl, hb', fun i hi => by rw [marks_len] at hi; rw [hd i hi, marks_at 1 hi]⟩⟩, only_hdr ho hb hb' hcu hl hhi⟩
/-- A boxed instruction. -/
def Box7 (w : World) (B : Nat) (d : InstD) (u : Option Addr) (c : Nat) : Prop :=
  B < w.heap.size ∧ w.cell? ⟨B, 0, none⟩ = some (.int .i64 d.op) ∧ w.cell? ⟨B, 1, none⟩ = some (.int .i64 d.w) ∧ w.cell? ⟨B, 2, none⟩ = some (.int .i64 d.a) ∧ w.cell? ⟨B, 3, none⟩ = some (.int .i64 d.b) ∧ w.cell? ⟨B, 4, none⟩ = some (.int .i64 d.c) ∧ w.cell? ⟨B, 5, none⟩ = some (.int .i64 d.imm) ∧ w.cell? ⟨B, 6, none⟩ = some (.slice u d.args.length c)
theorem Box7.new (w : World) (d : InstD) (u : Option Addr) (c : Nat) (T : TypeId) : Box7 (w.alloc (.cells #[.int .i64 d.op, .int .i64 d.w, .int .i64 d.a, .int .i64 d.b, .int .i64 d.c, .int .i64 d.imm, .slice u d.args.length c] T)) w.heap.size d u c := by
  have hb := heap_alloc_last w (.cells #[.int .i64 d.op, .int .i64 d.w, .int .i64 d.a, .int .i64 d.b, .int .i64 d.c, .int .i64 d.imm, .slice u d.args.length c] T)
  exact ⟨by simp, (cell_of_heap hb).trans rfl, (cell_of_heap hb).trans rfl, (cell_of_heap hb).trans rfl, (cell_of_heap hb).trans rfl, (cell_of_heap hb).trans rfl, (cell_of_heap hb).trans rfl, (cell_of_heap hb).trans rfl⟩
theorem Box7.keep {w w' : World} {B : Nat} {d : InstD} {u : Option Addr} {c : Nat} (h : Box7 w B d u c) (hz : w.heap.size ≤ w'.heap.size) (k : w'.heap[B]? = w.heap[B]?) : Box7 w' B d u c :=
  ⟨Nat.lt_of_lt_of_le h.1 hz, (cell_block k).trans h.2.1, (cell_block k).trans h.2.2.1, (cell_block k).trans h.2.2.2.1, (cell_block k).trans h.2.2.2.2.1, (cell_block k).trans h.2.2.2.2.2.1, (cell_block k).trans h.2.2.2.2.2.2.1, (cell_block k).trans h.2.2.2.2.2.2.2⟩
theorem Box7.below {w w' : World} {B : Nat} {d : InstD} {u : Option Addr} {c : Nat} (h : Box7 w B d u c) (k : Below w.heap.size w w') : Box7 w' B d u c := h.keep k.size (k.block _ h.1)
theorem Box7.alloc {w : World} {B : Nat} {d : InstD} {u : Option Addr} {c : Nat} (h : Box7 w B d u c) (o : Obj) : Box7 (w.alloc o) B d u c := h.keep (by simp) (Below.heap_alloc w o B h.1)
theorem bel_drew {w w' : World} (h : Below w.drew.heap.size w.drew w') : Below w.heap.size w w' := ⟨h.os, h.tape, h.output, h.size, h.block⟩
theorem markInst1 (lo hi : Nat) (d : InstD) (u : Option Addr) (c : Nat) (w : World) (hs : d.args.length ≤ 1048576) (hh : SI w lo hi u d.args.length) :
    Calls Tryz.prog 14 #[.agg #[.int .i64 d.op, .int .i64 d.w, .int .i64 d.a, .int .i64 d.b, .int .i64 d.c, .int .i64 d.imm, .slice u d.args.length c], .int .i64 1] w fun e w' => e = .returned (.int .i64 (1 + d.args.length)) ∧ Hdr lo hi w w' := by
  have K := mark_both lo hi u c d.args _ hs (hh.keep (Hdr.alloc _ _ w (.cells #[.int .i64 d.op, .int .i64 d.w, .int .i64 d.a, .int .i64 d.b, .int .i64 d.c, .int .i64 d.imm, .slice u d.args.length c] 26)))
  go_enter Tryz.func14, Tryz.ntmps14
  go_wp2_with fail
  refine K.mono ?_
  rintro e w1 ⟨rfl, _, hd⟩
  go_wp2_with fail
  go_ret
  exact ⟨rfl, (Hdr.alloc _ _ _ _).trans hd⟩
end Go.Proofs.YtjmoonbpfieifaaGreatDoor
