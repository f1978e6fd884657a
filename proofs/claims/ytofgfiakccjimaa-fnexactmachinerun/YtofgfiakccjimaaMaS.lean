/- A machine: the model's, in its memory. -/
import Derived.Test.YtofgfiakccjimaaMaM
namespace Go.Proofs.Ytofgfiakccjimaa
open Go.RowKit
set_option linter.unusedVariables false
set_option linter.unusedSimpArgs false

/-- Below B all but three blocks are as they were. -/
structure Keep3 (X G Y B : Nat) (w w' : World) : Prop where
  os : w'.os = w.os
  tape : w'.tape = w.tape
  output : w'.output = w.output
  size : w.heap.size ≤ w'.heap.size
  block : ∀ k, k < B → k ≠ X → k ≠ G → k ≠ Y → w'.heap[k]? = w.heap[k]?
theorem Keep3.refl (X G Y B : Nat) (w : World) : Keep3 X G Y B w w := ⟨rfl, rfl, rfl, Nat.le_refl _, fun _ _ _ _ _ => rfl⟩
theorem Keep3.trans {X G Y B : Nat} {a b c : World} (h : Keep3 X G Y B a b) (k : Keep3 X G Y B b c) : Keep3 X G Y B a c :=
  ⟨k.os.trans h.os, k.tape.trans h.tape, k.output.trans h.output, Nat.le_trans h.size k.size, fun i hi n1 n2 n3 => (k.block i hi n1 n2 n3).trans (h.block i hi n1 n2 n3)⟩
theorem Keep3.of_below {X G Y B : Nat} {a b : World} (h : Below a.heap.size a b) (k : B ≤ a.heap.size) : Keep3 X G Y B a b := ⟨h.os, h.tape, h.output, h.size, fun i hi _ _ _ => h.block i (Nat.lt_of_lt_of_le hi k)⟩
theorem Keep3.set {X G Y B : Nat} {a b : World} (h : Keep3 X G Y B a b) (g o : Nat) (v : Value) (hg : g = X ∨ g = G ∨ g = Y) : Keep3 X G Y B a (b.setCell ⟨g, o, none⟩ v) :=
  ⟨h.os, h.tape, h.output, by have := h.size; simp [World.setCell]; omega, fun k hk n1 n2 n3 => (Below.heap_setCell _ _ _ _ (by show k ≠ g; omega)).trans (h.block k hk n1 n2 n3)⟩
/-- What the model's machine stands in: X itself, G its registers, Y its memory; what it told lies from B on. -/
structure XAt (w : World) (X G Y B R q : Nat) (s : MSt) (vl cd : Int) (dn : Bool) : Prop where
  x : X < B
  g : G < B
  y : Y < B
  xg : X ≠ G
  xy : X ≠ Y
  gy : G ≠ Y
  b : B ≤ w.heap.size
  hx : ∃ p0 p1 p2 p3 ov, w.heap[X]? = some (.cells #[p0, p1, p2, p3, .slice (some ⟨G, 0, none⟩) R R, .slice (some ⟨Y, 0, none⟩) 32 q, ov, .int .i64 s.pc, .int .i64 vl, .int .i64 cd, .bool dn] 69 (0, 0)) ∧ w.ownsRow B 2 1 ov s.out.length (s.out.map (Value.int .i64))
  hg : ∃ cur, w.heap[G]? = some (.cells cur 2 (0, 0)) ∧ cur.size = R ∧ ∀ i, i < R → cur[i]? = some (.int .i64 (s.regs i))
  hy : ∃ cur fz, w.heap[Y]? = some (.cells cur 5 fz) ∧ 32 ≤ cur.size ∧ 32 ≤ fz.1 ∧ ∀ i, i < 32 → cur[i]? = some (.int .u8 (s.mem i))
theorem own_apart3 {w w' : World} {B : Nat} {v : Value} {n : Nat} {xs : List Value} {T : TypeId} {g o : Nat} {u : Value} (h : w.ownsRow B T 1 v n xs) (hg : g < B) : (w.setCell ⟨g, o, none⟩ u).ownsRow B T 1 v n xs :=
  ownsRow_at h fun k hk _ => Below.heap_setCell _ _ _ _ (by show k ≠ g; have := ownsRow_ge h hk; omega)
theorem XAt.below {w w' : World} {X G Y B R q : Nat} {s : MSt} {vl cd : Int} {dn : Bool} (h : XAt w X G Y B R q s vl cd dn) (k : Below w.heap.size w w') : XAt w' X G Y B R q s vl cd dn := by
  obtain ⟨p0, p1, p2, p3, ov, hx, ho⟩ := h.hx
  obtain ⟨cg, hg, r⟩ := h.hg
  obtain ⟨cy, fz, hy, r2⟩ := h.hy
  exact ⟨h.x, h.g, h.y, h.xg, h.xy, h.gy, Nat.le_trans h.b k.size, ⟨p0, p1, p2, p3, ov, row_below hx k, ownsRow_at ho fun g _ hz => k.block g hz⟩, ⟨cg, row_below hg k, r⟩, ⟨cy, fz, row_below hy k, r2⟩⟩
theorem XAt.setPc {w : World} {X G Y B R q : Nat} {s : MSt} {vl cd : Int} {dn : Bool} (h : XAt w X G Y B R q s vl cd dn) (v : Int) : XAt (w.setCell ⟨X, 7, none⟩ (.int .i64 v)) X G Y B R q { s with pc := v } vl cd dn := by
  obtain ⟨p0, p1, p2, p3, ov, hx, ho⟩ := h.hx
  obtain ⟨cg, hg, r⟩ := h.hg
  obtain ⟨cy, fz, hy, r2⟩ := h.hy
  exact ⟨h.x, h.g, h.y, h.xg, h.xy, h.gy, by simpa [World.setCell] using h.b, ⟨p0, p1, p2, p3, ov, heap_set hx, own_apart3 (w' := w) ho h.x⟩, ⟨cg, heap_other (Ne.symm h.xg) hg, r⟩, ⟨cy, fz, heap_other (Ne.symm h.xy) hy, r2⟩⟩
theorem XAt.setVal {w : World} {X G Y B R q : Nat} {s : MSt} {vl cd : Int} {dn : Bool} (h : XAt w X G Y B R q s vl cd dn) (v : Int) : XAt (w.setCell ⟨X, 8, none⟩ (.int .i64 v)) X G Y B R q s v cd dn := by
  obtain ⟨p0, p1, p2, p3, ov, hx, ho⟩ := h.hx
  obtain ⟨cg, hg, r⟩ := h.hg
  obtain ⟨cy, fz, hy, r2⟩ := h.hy
  exact ⟨h.x, h.g, h.y, h.xg, h.xy, h.gy, by simpa [World.setCell] using h.b, ⟨p0, p1, p2, p3, ov, heap_set hx, own_apart3 (w' := w) ho h.x⟩, ⟨cg, heap_other (Ne.symm h.xg) hg, r⟩, ⟨cy, fz, heap_other (Ne.symm h.xy) hy, r2⟩⟩
theorem XAt.setCode {w : World} {X G Y B R q : Nat} {s : MSt} {vl cd : Int} {dn : Bool} (h : XAt w X G Y B R q s vl cd dn) (v : Int) : XAt (w.setCell ⟨X, 9, none⟩ (.int .i64 v)) X G Y B R q s vl v dn := by
  obtain ⟨p0, p1, p2, p3, ov, hx, ho⟩ := h.hx
  obtain ⟨cg, hg, r⟩ := h.hg
  obtain ⟨cy, fz, hy, r2⟩ := h.hy
  exact ⟨h.x, h.g, h.y, h.xg, h.xy, h.gy, by simpa [World.setCell] using h.b, ⟨p0, p1, p2, p3, ov, heap_set hx, own_apart3 (w' := w) ho h.x⟩, ⟨cg, heap_other (Ne.symm h.xg) hg, r⟩, ⟨cy, fz, heap_other (Ne.symm h.xy) hy, r2⟩⟩
theorem XAt.setDone {w : World} {X G Y B R q : Nat} {s : MSt} {vl cd : Int} {dn : Bool} (h : XAt w X G Y B R q s vl cd dn) (v : Bool) : XAt (w.setCell ⟨X, 10, none⟩ (.bool v)) X G Y B R q s vl cd v := by
  obtain ⟨p0, p1, p2, p3, ov, hx, ho⟩ := h.hx
  obtain ⟨cg, hg, r⟩ := h.hg
  obtain ⟨cy, fz, hy, r2⟩ := h.hy
  exact ⟨h.x, h.g, h.y, h.xg, h.xy, h.gy, by simpa [World.setCell] using h.b, ⟨p0, p1, p2, p3, ov, heap_set hx, own_apart3 (w' := w) ho h.x⟩, ⟨cg, heap_other (Ne.symm h.xg) hg, r⟩, ⟨cy, fz, heap_other (Ne.symm h.xy) hy, r2⟩⟩
theorem XAt.setReg {w : World} {X G Y B R q : Nat} {s : MSt} {vl cd : Int} {dn : Bool} (h : XAt w X G Y B R q s vl cd dn) (d : Nat) (v : Int) (hd : d < R) : XAt (w.setCell ⟨G, d, none⟩ (.int .i64 v)) X G Y B R q { s with regs := upF s.regs d v } vl cd dn := by
  obtain ⟨p0, p1, p2, p3, ov, hx, ho⟩ := h.hx
  obtain ⟨cg, hg, r, r1⟩ := h.hg
  obtain ⟨cy, fz, hy, r2⟩ := h.hy
  refine ⟨h.x, h.g, h.y, h.xg, h.xy, h.gy, by simpa [World.setCell] using h.b, ⟨p0, p1, p2, p3, ov, heap_other h.xg hx, own_apart3 (w' := w) ho h.g⟩, ⟨_, heap_set hg, by simpa using r, fun i hi => ?_⟩, ⟨cy, fz, heap_other (Ne.symm h.gy) hy, r2⟩⟩
  by_cases e : i = d
  · subst e; rw [setI_same (by omega)]; simp [upF]
  · rw [setI_other (by omega), r1 i hi]; simp [upF, e]
theorem heap_setF {w : World} {g o : Nat} {cur : Array Value} {t : TypeId} {fz : Nat × Nat} {v : Value} (h : w.heap[g]? = some (.cells cur t fz)) : (w.setCell ⟨g, o, none⟩ v).heap[g]? = some (.cells (cur.setIfInBounds o v) t fz) := by
  show (w.heap.modify g _)[g]? = _
  rw [Array.getElem?_modify, if_pos rfl, h]
  rfl
theorem XAt.setMem {w : World} {X G Y B R q : Nat} {s : MSt} {vl cd : Int} {dn : Bool} (h : XAt w X G Y B R q s vl cd dn) (d : Nat) (v : Int) (hd : d < 32) : XAt (w.setCell ⟨Y, d, none⟩ (.int .u8 v)) X G Y B R q { s with mem := upF s.mem d v } vl cd dn := by
  obtain ⟨p0, p1, p2, p3, ov, hx, ho⟩ := h.hx
  obtain ⟨cg, hg, r⟩ := h.hg
  obtain ⟨cy, fz, hy, r2, r3, r4⟩ := h.hy
  refine ⟨h.x, h.g, h.y, h.xg, h.xy, h.gy, by simpa [World.setCell] using h.b, ⟨p0, p1, p2, p3, ov, heap_other h.xy hx, own_apart3 (w' := w) ho h.y⟩, ⟨cg, heap_other h.gy hg, r⟩, ⟨_, fz, heap_setF hy, by simpa using r2, r3, fun i hi => ?_⟩⟩
  by_cases e : i = d
  · subst e; rw [setI_same (by omega)]; simp [upF]
  · rw [setI_other (by omega), r4 i hi]; simp [upF, e]
/-- What the walk asks of it. -/
theorem XAt.cell4 {w : World} {X G Y B R q : Nat} {s : MSt} {vl cd : Int} {dn : Bool} (h : XAt w X G Y B R q s vl cd dn) : w.cell? ⟨X, 4, none⟩ = some (.slice (some ⟨G, 0, none⟩) R R) := by
  obtain ⟨p0, p1, p2, p3, ov, hx, ho⟩ := h.hx
  exact (cell_of_heap (o := 4) hx).trans rfl
theorem XAt.cell5 {w : World} {X G Y B R q : Nat} {s : MSt} {vl cd : Int} {dn : Bool} (h : XAt w X G Y B R q s vl cd dn) : w.cell? ⟨X, 5, none⟩ = some (.slice (some ⟨Y, 0, none⟩) 32 q) := by
  obtain ⟨p0, p1, p2, p3, ov, hx, ho⟩ := h.hx
  exact (cell_of_heap (o := 5) hx).trans rfl
theorem XAt.cell7 {w : World} {X G Y B R q : Nat} {s : MSt} {vl cd : Int} {dn : Bool} (h : XAt w X G Y B R q s vl cd dn) : w.cell? ⟨X, 7, none⟩ = some (.int .i64 s.pc) := by
  obtain ⟨p0, p1, p2, p3, ov, hx, ho⟩ := h.hx
  exact (cell_of_heap (o := 7) hx).trans rfl
theorem XAt.cell8 {w : World} {X G Y B R q : Nat} {s : MSt} {vl cd : Int} {dn : Bool} (h : XAt w X G Y B R q s vl cd dn) : w.cell? ⟨X, 8, none⟩ = some (.int .i64 vl) := by
  obtain ⟨p0, p1, p2, p3, ov, hx, ho⟩ := h.hx
  exact (cell_of_heap (o := 8) hx).trans rfl
theorem XAt.cell9 {w : World} {X G Y B R q : Nat} {s : MSt} {vl cd : Int} {dn : Bool} (h : XAt w X G Y B R q s vl cd dn) : w.cell? ⟨X, 9, none⟩ = some (.int .i64 cd) := by
  obtain ⟨p0, p1, p2, p3, ov, hx, ho⟩ := h.hx
  exact (cell_of_heap (o := 9) hx).trans rfl
theorem XAt.cell10 {w : World} {X G Y B R q : Nat} {s : MSt} {vl cd : Int} {dn : Bool} (h : XAt w X G Y B R q s vl cd dn) : w.cell? ⟨X, 10, none⟩ = some (.bool dn) := by
  obtain ⟨p0, p1, p2, p3, ov, hx, ho⟩ := h.hx
  exact (cell_of_heap (o := 10) hx).trans rfl
theorem XAt.froz {w : World} {X G Y B R q : Nat} {s : MSt} {vl cd : Int} {dn : Bool} (h : XAt w X G Y B R q s vl cd dn) (o : Nat) : w.frozen? ⟨X, o, none⟩ = false := by
  obtain ⟨p0, p1, p2, p3, ov, hx, ho⟩ := h.hx
  exact froz_of_heap hx
theorem XAt.frozG {w : World} {X G Y B R q : Nat} {s : MSt} {vl cd : Int} {dn : Bool} (h : XAt w X G Y B R q s vl cd dn) (o : Nat) : w.frozen? ⟨G, o, none⟩ = false := by
  obtain ⟨cur, hg, _⟩ := h.hg
  exact froz_of_heap hg
theorem XAt.frozY {w : World} {X G Y B R q : Nat} {s : MSt} {vl cd : Int} {dn : Bool} (h : XAt w X G Y B R q s vl cd dn) (o : Nat) (ho : o < 32) : w.frozen? ⟨Y, o, none⟩ = false := by
  obtain ⟨cur, fz, hy, _, hz, _⟩ := h.hy
  unfold World.frozen?
  rw [hy]
  simp
  omega
theorem XAt.reg {w : World} {X G Y B R q : Nat} {s : MSt} {vl cd : Int} {dn : Bool} (h : XAt w X G Y B R q s vl cd dn) (o : Nat) (ho : o < R) : w.cell? ⟨G, o, none⟩ = some (.int .i64 (s.regs o)) := by
  obtain ⟨cur, hg, _, r⟩ := h.hg
  exact (cell_of_heap hg).trans (r o ho)
theorem cell_of_heapF {w : World} {g o : Nat} {cur : Array Value} {t : TypeId} {fz : Nat × Nat} (h : w.heap[g]? = some (.cells cur t fz)) : w.cell? ⟨g, o, none⟩ = cur[o]? := by
  unfold World.cell?
  rw [h]
  rfl
theorem XAt.mm {w : World} {X G Y B R q : Nat} {s : MSt} {vl cd : Int} {dn : Bool} (h : XAt w X G Y B R q s vl cd dn) (o : Nat) (ho : o < 32) : w.cell? ⟨Y, o, none⟩ = some (.int .u8 (s.mem o)) := by
  obtain ⟨cur, fz, hy, _, _, r⟩ := h.hy
  exact (cell_of_heapF hy).trans (r o ho)
set_option maxHeartbeats 1000000 in
theorem failS (w : World) (X G Y B R q : Nat) (s : MSt) (vl cd : Int) (dn : Bool) (k : Int) (h : XAt w X G Y B R q s vl cd dn) :
    Calls Try.prog 37 #[.pointer (some ⟨X, 0, none⟩), .int .i64 k] w fun e w' => (∃ v, e = .returned v) ∧ XAt w' X G Y B R q s vl k true ∧ Keep3 X G Y B w w' := by
  have y9 := h.cell9
  have y10 := h.cell10
  have f9 := h.froz 9
  have f10 := h.froz 10
  have HH : Hid (XAt w X G Y B R q s vl cd dn) := h
  clear h
  go_enter Try.func37, Try.ntmps37
  go_wp2_with fail
  exact bodyPost_end (results_none Try.results37 _ _ _) rfl ⟨⟨_, rfl⟩, (HH.out.setCode k).setDone true, ((Keep3.refl _ _ _ _ _).set X 9 _ (.inl rfl)).set X 10 _ (.inl rfl)⟩
end Go.Proofs.Ytofgfiakccjimaa
