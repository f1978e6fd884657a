/- A machine: the contracts of its work. -/
import Derived.Test.YtofgfiakccjimaaMaC
import Derived.Deep.RegionHeld2
namespace Go.Proofs.Ytofgfiakccjimaa
open Go.RowKit
set_option linter.unusedVariables false
set_option linter.unusedSimpArgs false

theorem grown_trans {a b c : World} {r : Option Nat} (h : a.grownBy b r) (k : b.grownBy c r) : a.grownBy c r :=
  ⟨k.os.trans h.os, k.tape.trans h.tape, k.output.trans h.output, Nat.le_trans h.size k.size, fun i hi hn => (k.block i (Nat.lt_of_lt_of_le hi h.size) hn).trans (h.block i hi hn)⟩
theorem grown_drew {a b : World} {r : Option Nat} (h : a.drew.grownBy b r) : a.grownBy b r := ⟨h.os, h.tape, h.output, h.size, h.block⟩
set_option maxHeartbeats 2000000 in
theorem workI_none (M : Nat) (cur : Array Value) (T : TypeId) (op w0 d a b c imm k : Int) (w : World) (hb : w.heap[M]? = some (.cells cur T (0, 0))) (n1 : ¬ op = 24) (n2 : ¬ op = 25) (hk : ¬ k = 0)
    (G : Calls Try.prog 82 #[.pointer (some ⟨M, 0, none⟩), .agg #[.int .i64 op, .int .i64 w0, .int .i64 d, .int .i64 a, .int .i64 b, .int .i64 c, .int .i64 imm]] (w.alloc (.cells #[.int .i64 op, .int .i64 w0, .int .i64 d, .int .i64 a, .int .i64 b, .int .i64 c, .int .i64 imm] 50)) fun e w' => e = .returned (.tuple #[.int .i64 0, .int .i64 k]) ∧ Below (w.alloc (.cells #[.int .i64 op, .int .i64 w0, .int .i64 d, .int .i64 a, .int .i64 b, .int .i64 c, .int .i64 imm] 50)).heap.size (w.alloc (.cells #[.int .i64 op, .int .i64 w0, .int .i64 d, .int .i64 a, .int .i64 b, .int .i64 c, .int .i64 imm] 50)) w') :
    Calls Try.prog 69 #[.pointer (some ⟨M, 0, none⟩), .agg #[.int .i64 op, .int .i64 w0, .int .i64 d, .int .i64 a, .int .i64 b, .int .i64 c, .int .i64 imm]] w fun e w' => e = .returned (.int .i64 k) ∧ Below w.heap.size w w' := by
  have B1 : Below w.heap.size w (w.alloc (.cells #[.int .i64 op, .int .i64 w0, .int .i64 d, .int .i64 a, .int .i64 b, .int .i64 c, .int .i64 imm] 50)) := (Below.refl _ _).alloc (Nat.le_refl _) _
  have X1 := BoxI.new w op w0 d a b c imm 50
  have H1 := row_below hb B1
  clear hb X1 H1
  go_enter Try.func69, Try.ntmps69
  go_wp2_with (go_at_call 82; refine G.mono ?_; rintro e w2 ⟨rfl, hb2⟩)
  go_ret
  exact ⟨rfl, B1.trans (hb2.mono B1.size)⟩
set_option maxHeartbeats 2000000 in
set_option maxRecDepth 100000 in
theorem workI_some (M : Nat) (cur : Array Value) (T : TypeId) (op w0 a b c imm v z : Int) (d : Nat) (w : World) (hb : w.heap[M]? = some (.cells cur T (0, 0))) (n1 : ¬ op = 24) (n2 : ¬ op = 25) (hd : d < 130) (hz : cur[36 + d]? = some (.int .i64 z))
    (G : Calls Try.prog 82 #[.pointer (some ⟨M, 0, none⟩), .agg #[.int .i64 op, .int .i64 w0, .int .i64 d, .int .i64 a, .int .i64 b, .int .i64 c, .int .i64 imm]] (w.alloc (.cells #[.int .i64 op, .int .i64 w0, .int .i64 d, .int .i64 a, .int .i64 b, .int .i64 c, .int .i64 imm] 50)) fun e w' => e = .returned (.tuple #[.int .i64 v, .int .i64 0]) ∧ Below (w.alloc (.cells #[.int .i64 op, .int .i64 w0, .int .i64 d, .int .i64 a, .int .i64 b, .int .i64 c, .int .i64 imm] 50)).heap.size (w.alloc (.cells #[.int .i64 op, .int .i64 w0, .int .i64 d, .int .i64 a, .int .i64 b, .int .i64 c, .int .i64 imm] 50)) w') :
    Calls Try.prog 69 #[.pointer (some ⟨M, 0, none⟩), .agg #[.int .i64 op, .int .i64 w0, .int .i64 d, .int .i64 a, .int .i64 b, .int .i64 c, .int .i64 imm]] w fun e w' => e = .returned (.int .i64 0) ∧ w'.heap[M]? = some (.cells (cur.setIfInBounds (36 + d) (.int .i64 v)) T (0, 0)) ∧ w.grownBy w' (some M) := by
  have B1 : Below w.heap.size w (w.alloc (.cells #[.int .i64 op, .int .i64 w0, .int .i64 d, .int .i64 a, .int .i64 b, .int .i64 c, .int .i64 imm] 50)) := (Below.refl _ _).alloc (Nat.le_refl _) _
  have X1 := BoxI.new w op w0 d a b c imm 50
  have H1 := row_below hb B1
  have hd2 : (d : Int) < 130 := by omega
  have HB : Hid (w.heap[M]? = some (.cells cur T (0, 0))) := hb
  clear hb
  go_enter Try.func69, Try.ntmps69
  go_wp2_with (go_at_call 82; refine G.mono ?_; rintro e w2 ⟨rfl, hb2⟩; have X2 := X1.below hb2; obtain ⟨_, x0, x1, x2, x3, x4, x5, x6⟩ := X2; have H2 := row_below H1 hb2; have y := (cell_of_heap (o := 36 + d) H2).trans hz; have f : w2.frozen? ⟨M, 36 + d, none⟩ = false := froz_of_heap H2; have HH2 : Hid (w2.heap[M]? = some (.cells cur T (0, 0))) := H2; clear H2 H1 X1)
  go_region
  go_wp2_with fail
  go_ret
  have g := grown_set (grown_below (M := M) (B1.trans (hb2.mono B1.size))) (36 + d) (.int .i64 v)
  exact ⟨rfl, heap_set HH2.out, ⟨g.os, g.tape, g.output, g.size, g.block⟩⟩
set_option maxHeartbeats 2000000 in
theorem workI_24n (M : Nat) (cur : Array Value) (T : TypeId) (w0 d c imm y x : Int) (a b : Nat) (w : World) (hb : w.heap[M]? = some (.cells cur T (0, 0))) (ha : a < 130) (hbb : b < 130) (hx : cur[36 + a]? = some (.int .i64 x)) (hy : cur[36 + b]? = some (.int .i64 y)) (h32 : 32 ≤ x) :
    Calls Try.prog 69 #[.pointer (some ⟨M, 0, none⟩), .agg #[.int .i64 24, .int .i64 w0, .int .i64 d, .int .i64 a, .int .i64 b, .int .i64 c, .int .i64 imm]] w fun e w' => e = .returned (.int .i64 2) ∧ Below w.heap.size w w' := by
  have B1 : Below w.heap.size w (w.alloc (.cells #[.int .i64 24, .int .i64 w0, .int .i64 d, .int .i64 a, .int .i64 b, .int .i64 c, .int .i64 imm] 50)) := (Below.refl _ _).alloc (Nat.le_refl _) _
  have X1 := BoxI.new w 24 w0 d a b c imm 50
  have H1 := row_below hb B1
  have ha2 : (a : Int) < 130 := by omega
  have hb2 : (b : Int) < 130 := by omega
  obtain ⟨_, x0, x1, x2, x3, x4, x5, x6⟩ := X1
  have r1 := (cell_of_heap (o := 36 + a) H1).trans hx
  have r2 := (cell_of_heap (o := 36 + b) H1).trans hy
  have HH1 : Hid ((w.alloc (.cells #[.int .i64 24, .int .i64 w0, .int .i64 d, .int .i64 a, .int .i64 b, .int .i64 c, .int .i64 imm] 50)).heap[M]? = some (.cells cur T (0, 0))) := H1
  have hMw : M < w.heap.size := (Array.getElem?_eq_some_iff.1 hb).1
  clear hb H1
  go_enter Try.func69, Try.ntmps69
  go_wp2_with fail
  generalize hW0 : w.alloc (.cells #[.int .i64 24, .int .i64 w0, .int .i64 d, .int .i64 a, .int .i64 b, .int .i64 c, .int .i64 imm] 50) = w1 at B1 x0 x1 x2 x3 x4 x5 x6 r1 r2 HH1 ⊢
  have hz1 : w.heap.size < w1.heap.size := by rw [← hW0]; simp
  have d3 : w1.drew.cell? ⟨w.heap.size, 3, none⟩ = _ := x3
  have d4 : w1.drew.cell? ⟨w.heap.size, 4, none⟩ = _ := x4
  have e1 : w1.drew.cell? ⟨M, 36 + a, none⟩ = _ := r1
  have e2 : w1.drew.cell? ⟨M, 36 + b, none⟩ = _ := r2
  clear hW0
  go_region_held2 (fun w' => w'.cell? ⟨w.heap.size, 3, none⟩ = some (.int .i64 (a : Nat)) ∧ w'.cell? ⟨w.heap.size, 4, none⟩ = some (.int .i64 (b : Nat)) ∧ w'.cell? ⟨M, 36 + a, none⟩ = some (.int .i64 x) ∧ w'.cell? ⟨M, 36 + b, none⟩ = some (.int .i64 y)) (first | with_reducible exact ⟨d3, d4, e1, e2⟩ | with_reducible exact ⟨p3, p4, q1, q2⟩) ((go_at_call 80; refine (storeI_no M x y _ h32).mono ?_; rintro e w3 ⟨rfl, h9⟩; have p3 : w3.cell? ⟨w.heap.size, 3, none⟩ = some (.int .i64 (a : Nat)) := (by rw [h9]; exact x3); have p4 : w3.cell? ⟨w.heap.size, 4, none⟩ = some (.int .i64 (b : Nat)) := (by rw [h9]; exact x4); have q1 : w3.cell? ⟨M, 36 + a, none⟩ = some (.int .i64 x) := (by rw [h9]; exact r1); have q2 : w3.cell? ⟨M, 36 + b, none⟩ = some (.int .i64 y) := (by rw [h9]; exact r2); have H9 : Hid (w3 = w1.drew) := h9; clear h9))
  all_goals
    go_wp2_with fail
    go_ret
    refine ⟨rfl, ?_⟩
    rw [H9.out]
    exact drew_below B1
set_option maxHeartbeats 2000000 in
theorem workI_24y (M : Nat) (cur : Array Value) (T : TypeId) (w0 d c imm y : Int) (a b x : Nat) (w : World) (hb : w.heap[M]? = some (.cells cur T (0, 0))) (ha : a < 130) (hbb : b < 130) (hx : cur[36 + a]? = some (.int .i64 (x : Nat))) (hy : cur[36 + b]? = some (.int .i64 y)) (h32 : x < 32) (t : Int) (ht : cur[x]? = some (.int .u8 t)) :
    Calls Try.prog 69 #[.pointer (some ⟨M, 0, none⟩), .agg #[.int .i64 24, .int .i64 w0, .int .i64 d, .int .i64 a, .int .i64 b, .int .i64 c, .int .i64 imm]] w fun e w' => e = .returned (.int .i64 0) ∧ w'.heap[M]? = some (.cells (cur.setIfInBounds x (.int .u8 (y % 256))) T (0, 0)) ∧ w.grownBy w' (some M) := by
  have B1 : Below w.heap.size w (w.alloc (.cells #[.int .i64 24, .int .i64 w0, .int .i64 d, .int .i64 a, .int .i64 b, .int .i64 c, .int .i64 imm] 50)) := (Below.refl _ _).alloc (Nat.le_refl _) _
  have X1 := BoxI.new w 24 w0 d a b c imm 50
  have H1 := row_below hb B1
  have ha2 : (a : Int) < 130 := by omega
  have hb2 : (b : Int) < 130 := by omega
  obtain ⟨_, x0, x1, x2, x3, x4, x5, x6⟩ := X1
  have r1 := (cell_of_heap (o := 36 + a) H1).trans hx
  have r2 := (cell_of_heap (o := 36 + b) H1).trans hy
  have HH1 : Hid ((w.alloc (.cells #[.int .i64 24, .int .i64 w0, .int .i64 d, .int .i64 a, .int .i64 b, .int .i64 c, .int .i64 imm] 50)).heap[M]? = some (.cells cur T (0, 0))) := H1
  have hMw : M < w.heap.size := (Array.getElem?_eq_some_iff.1 hb).1
  clear hb H1
  go_enter Try.func69, Try.ntmps69
  go_wp2_with fail
  generalize hW0 : w.alloc (.cells #[.int .i64 24, .int .i64 w0, .int .i64 d, .int .i64 a, .int .i64 b, .int .i64 c, .int .i64 imm] 50) = w1 at B1 x0 x1 x2 x3 x4 x5 x6 r1 r2 HH1 ⊢
  have hz1 : w.heap.size < w1.heap.size := by rw [← hW0]; simp
  have d3 : w1.drew.cell? ⟨w.heap.size, 3, none⟩ = _ := x3
  have d4 : w1.drew.cell? ⟨w.heap.size, 4, none⟩ = _ := x4
  have e1 : w1.drew.cell? ⟨M, 36 + a, none⟩ = _ := r1
  have e2 : w1.drew.cell? ⟨M, 36 + b, none⟩ = _ := r2
  clear hW0
  go_region_held2 (fun w' => w'.cell? ⟨w.heap.size, 3, none⟩ = some (.int .i64 (a : Nat)) ∧ w'.cell? ⟨w.heap.size, 4, none⟩ = some (.int .i64 (b : Nat)) ∧ w'.cell? ⟨M, 36 + a, none⟩ = some (.int .i64 (x : Nat)) ∧ w'.cell? ⟨M, 36 + b, none⟩ = some (.int .i64 y)) (first | with_reducible exact ⟨d3, d4, e1, e2⟩ | with_reducible exact ⟨p3, p4, q1, q2⟩) ((go_at_call 80; refine (storeI_ok M cur T x t y _ (by exact HH1.out) h32 ht).mono ?_; rintro e w3 ⟨rfl, hr3, hg3⟩; have p3 : w3.cell? ⟨w.heap.size, 3, none⟩ = some (.int .i64 (a : Nat)) := ((cell_block (hg3.block w.heap.size hz1 (by simp; omega))).trans x3); have p4 : w3.cell? ⟨w.heap.size, 4, none⟩ = some (.int .i64 (b : Nat)) := ((cell_block (hg3.block w.heap.size hz1 (by simp; omega))).trans x4); have q1 : w3.cell? ⟨M, 36 + a, none⟩ = some (.int .i64 (x : Nat)) := (((cell_of_heap hr3).trans (setI_other (by omega))).trans hx); have q2 : w3.cell? ⟨M, 36 + b, none⟩ = some (.int .i64 y) := (((cell_of_heap hr3).trans (setI_other (by omega))).trans hy)))
  all_goals
    go_wp2_with fail
    go_ret
    exact ⟨rfl, hr3, grown_trans (grown_below B1) (grown_drew hg3)⟩
set_option maxHeartbeats 2000000 in
theorem workI_25n (M : Nat) (cur : Array Value) (T : TypeId) (w0 d b c imm x : Int) (a : Nat) (u : Option Addr) (q : Nat) (w : World) (hb : w.heap[M]? = some (.cells cur T (0, 0))) (ha : a < 130) (hx : cur[36 + a]? = some (.int .i64 x)) (h2 : cur[32]? = some (.slice u 30 q)) :
    Calls Try.prog 69 #[.pointer (some ⟨M, 0, none⟩), .agg #[.int .i64 25, .int .i64 w0, .int .i64 d, .int .i64 a, .int .i64 b, .int .i64 c, .int .i64 imm]] w fun e w' => e = .returned (.int .i64 7) ∧ Below w.heap.size w w' := by
  have B1 : Below w.heap.size w (w.alloc (.cells #[.int .i64 25, .int .i64 w0, .int .i64 d, .int .i64 a, .int .i64 b, .int .i64 c, .int .i64 imm] 50)) := (Below.refl _ _).alloc (Nat.le_refl _) _
  have X1 := BoxI.new w 25 w0 d a b c imm 50
  have H1 := row_below hb B1
  have ha2 : (a : Int) < 130 := by omega
  obtain ⟨_, x0, x1, x2, x3, x4, x5, x6⟩ := X1
  have r1 := (cell_of_heap (o := 36 + a) H1).trans hx
  have HH1 : Hid ((w.alloc (.cells #[.int .i64 25, .int .i64 w0, .int .i64 d, .int .i64 a, .int .i64 b, .int .i64 c, .int .i64 imm] 50)).heap[M]? = some (.cells cur T (0, 0))) := H1
  have hMw : M < w.heap.size := (Array.getElem?_eq_some_iff.1 hb).1
  clear hb H1
  go_enter Try.func69, Try.ntmps69
  go_wp2_with fail
  generalize hW0 : w.alloc (.cells #[.int .i64 25, .int .i64 w0, .int .i64 d, .int .i64 a, .int .i64 b, .int .i64 c, .int .i64 imm] 50) = w1 at B1 x0 x1 x2 x3 x4 x5 x6 r1 HH1 ⊢
  have hz1 : w.heap.size < w1.heap.size := by rw [← hW0]; simp
  have d3 : w1.drew.cell? ⟨w.heap.size, 3, none⟩ = _ := x3
  have e1 : w1.drew.cell? ⟨M, 36 + a, none⟩ = _ := r1
  clear hW0
  go_region_held2 (fun w' => w'.cell? ⟨w.heap.size, 3, none⟩ = some (.int .i64 (a : Nat)) ∧ w'.cell? ⟨M, 36 + a, none⟩ = some (.int .i64 x)) (first | with_reducible exact ⟨d3, e1⟩ | with_reducible exact ⟨p3, q1⟩) ((go_at_call 81; refine (tellI_no M cur T u q x _ (by exact HH1.out) h2).mono ?_; rintro e w3 ⟨rfl, h9⟩; have p3 : w3.cell? ⟨w.heap.size, 3, none⟩ = some (.int .i64 (a : Nat)) := (by rw [h9]; exact x3); have q1 : w3.cell? ⟨M, 36 + a, none⟩ = some (.int .i64 x) := (by rw [h9]; exact r1); have H9 : Hid (w3 = w1.drew) := h9; clear h9))
  all_goals
    go_wp2_with fail
    go_ret
    refine ⟨rfl, ?_⟩
    rw [H9.out]
    exact drew_below B1
set_option maxHeartbeats 2000000 in
theorem workI_25y (M : Nat) (cur : Array Value) (T : TypeId) (w0 d b c imm x : Int) (a : Nat) (B : Nat) (v : Value) (out : List Int) (w : World) (hb : w.heap[M]? = some (.cells cur T (0, 0))) (ha : a < 130) (hx : cur[36 + a]? = some (.int .i64 x)) (h2 : cur[32]? = some v) (hM : M < B) (hB : B ≤ w.heap.size) (ho : w.ownsRow B 2 1 v out.length (out.map (Value.int .i64))) (hl : out.length < 30) :
    Calls Try.prog 69 #[.pointer (some ⟨M, 0, none⟩), .agg #[.int .i64 25, .int .i64 w0, .int .i64 d, .int .i64 a, .int .i64 b, .int .i64 c, .int .i64 imm]] w fun e w' => e = .returned (.int .i64 0) ∧ ∃ v', w'.heap[M]? = some (.cells (cur.setIfInBounds 32 v') T (0, 0)) ∧ w'.ownsRow B 2 1 v' (out ++ [x]).length ((out ++ [x]).map (Value.int .i64)) ∧ Keeps M B w w' := by
  have B1 : Below w.heap.size w (w.alloc (.cells #[.int .i64 25, .int .i64 w0, .int .i64 d, .int .i64 a, .int .i64 b, .int .i64 c, .int .i64 imm] 50)) := (Below.refl _ _).alloc (Nat.le_refl _) _
  have X1 := BoxI.new w 25 w0 d a b c imm 50
  have H1 := row_below hb B1
  have ha2 : (a : Int) < 130 := by omega
  obtain ⟨_, x0, x1, x2, x3, x4, x5, x6⟩ := X1
  have r1 := (cell_of_heap (o := 36 + a) H1).trans hx
  have HH1 : Hid ((w.alloc (.cells #[.int .i64 25, .int .i64 w0, .int .i64 d, .int .i64 a, .int .i64 b, .int .i64 c, .int .i64 imm] 50)).heap[M]? = some (.cells cur T (0, 0))) := H1
  have hMw : M < w.heap.size := (Array.getElem?_eq_some_iff.1 hb).1
  clear hb H1
  go_enter Try.func69, Try.ntmps69
  go_wp2_with fail
  generalize hW0 : w.alloc (.cells #[.int .i64 25, .int .i64 w0, .int .i64 d, .int .i64 a, .int .i64 b, .int .i64 c, .int .i64 imm] 50) = w1 at B1 x0 x1 x2 x3 x4 x5 x6 r1 HH1 ⊢
  have hz1 : w.heap.size < w1.heap.size := by rw [← hW0]; simp
  have d3 : w1.drew.cell? ⟨w.heap.size, 3, none⟩ = _ := x3
  have e1 : w1.drew.cell? ⟨M, 36 + a, none⟩ = _ := r1
  have hBz : B ≤ w1.drew.heap.size := (by show B ≤ w1.heap.size; omega)
  have HO : Hid (w1.drew.ownsRow B 2 1 v out.length (out.map (Value.int .i64))) := ownsRow_at ho fun g _ hg => B1.block g hg
  have hng : some w.heap.size ≠ v.ownBlock := fun e => by have := ownsRow_ge ho e.symm; omega
  clear hW0
  go_region_held2 (fun w' => w'.cell? ⟨w.heap.size, 3, none⟩ = some (.int .i64 (a : Nat)) ∧ w'.cell? ⟨M, 36 + a, none⟩ = some (.int .i64 x)) (first | with_reducible exact ⟨d3, e1⟩ | with_reducible exact ⟨p3, q1⟩) ((go_at_call 81; refine (tellI_ok M B cur T v out x _ (by exact HH1.out) h2 hM (by exact hBz) (by exact HO.out) hl).mono ?_; rintro e w3 ⟨rfl, v3, hr3, ho3, hk3, hf3⟩; have p3 : w3.cell? ⟨w.heap.size, 3, none⟩ = some (.int .i64 (a : Nat)) := ((cell_block (hf3 w.heap.size hz1 (by omega) hng)).trans x3); have q1 : w3.cell? ⟨M, 36 + a, none⟩ = some (.int .i64 x) := (((cell_of_heap hr3).trans (setI_other (by omega))).trans hx)))
  all_goals
    go_wp2_with fail
    go_ret
    exact ⟨rfl, v3, hr3, ho3, (Keeps.of_below B1 hB).trans ⟨hk3.os, hk3.tape, hk3.output, hk3.size, hk3.block⟩⟩
end Go.Proofs.Ytofgfiakccjimaa
