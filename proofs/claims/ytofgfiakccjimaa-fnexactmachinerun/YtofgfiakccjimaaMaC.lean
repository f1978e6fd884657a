/- A machine: what an instruction gives. -/
import Derived.Test.YtofgfiakccjimaaMaB
import Derived.Test.YtofgfiakccjimaaAbv
import Derived.Test.YtofgfiakccjimaaBinI
import Derived.Test.YtofgfiakccjimaaPgC
namespace Go.Proofs.Ytofgfiakccjimaa
open Go.RowKit
set_option linter.unusedVariables false
set_option linter.unusedSimpArgs false

/-- An instruction in a box. -/
def BoxI (w : World) (B : Nat) (op w0 d a b c imm : Int) : Prop := B < w.heap.size ∧ w.cell? ⟨B, 0, none⟩ = some (.int .i64 op) ∧ w.cell? ⟨B, 1, none⟩ = some (.int .i64 w0) ∧ w.cell? ⟨B, 2, none⟩ = some (.int .i64 d) ∧ w.cell? ⟨B, 3, none⟩ = some (.int .i64 a) ∧ w.cell? ⟨B, 4, none⟩ = some (.int .i64 b) ∧ w.cell? ⟨B, 5, none⟩ = some (.int .i64 c) ∧ w.cell? ⟨B, 6, none⟩ = some (.int .i64 imm)
theorem BoxI.new (w : World) (op w0 d a b c imm : Int) (T : TypeId) : BoxI (w.alloc (.cells #[.int .i64 op, .int .i64 w0, .int .i64 d, .int .i64 a, .int .i64 b, .int .i64 c, .int .i64 imm] T)) w.heap.size op w0 d a b c imm :=
  ⟨by simp, (cell_of_heap (heap_alloc_at _ _)).trans rfl, (cell_of_heap (heap_alloc_at _ _)).trans rfl, (cell_of_heap (heap_alloc_at _ _)).trans rfl, (cell_of_heap (heap_alloc_at _ _)).trans rfl, (cell_of_heap (heap_alloc_at _ _)).trans rfl, (cell_of_heap (heap_alloc_at _ _)).trans rfl, (cell_of_heap (heap_alloc_at _ _)).trans rfl⟩
theorem BoxI.below {w w' : World} {B : Nat} {op w0 d a b c imm : Int} (h : BoxI w B op w0 d a b c imm) (k : Below w.heap.size w w') : BoxI w' B op w0 d a b c imm :=
  ⟨Nat.lt_of_lt_of_le h.1 k.size, (cell_block (k.block _ h.1)).trans h.2.1, (cell_block (k.block _ h.1)).trans h.2.2.1, (cell_block (k.block _ h.1)).trans h.2.2.2.1, (cell_block (k.block _ h.1)).trans h.2.2.2.2.1, (cell_block (k.block _ h.1)).trans h.2.2.2.2.2.1, (cell_block (k.block _ h.1)).trans h.2.2.2.2.2.2.1, (cell_block (k.block _ h.1)).trans h.2.2.2.2.2.2.2⟩
theorem row_below {w w' : World} {M : Nat} {o : Obj} (hb : w.heap[M]? = some o) (k : Below w.heap.size w w') : w'.heap[M]? = some o := (k.block M (Array.getElem?_eq_some_iff.1 hb).1).trans hb
theorem cut_abv {w1 : World} {M : Nat} {cur : Array Value} {T : TypeId} (hb : w1.heap[M]? = some (.cells cur T (0, 0))) (r : Nat) (a x : Int) (hr : r < 130) (hx : cur[36 + r]? = some (.int .i64 x)) (y : Abv (fun v => Below w1.heap.size w1 v)) :
    Calls Try.prog 68 #[.pointer (some ⟨M, 0, none⟩), .int .i64 a, .int .i64 r] y.v fun e w' => e = .returned (.int .i64 (maskZ a x)) ∧ Below y.v.heap.size y.v w' :=
  (cutI M cur T r a x y.v (row_below hb y.ok) hr hx).mono fun _ _ ⟨he, hw⟩ => ⟨he, hw ▸ Below.refl _ _⟩
set_option maxHeartbeats 2000000 in
theorem givenI_cast (M : Nat) (cur : Array Value) (T : TypeId) (op w0 d b c imm x : Int) (a : Nat) (w : World) (hb : w.heap[M]? = some (.cells cur T (0, 0))) (hk : castOpB op = true) (ha : a < 130) (hx : cur[36 + a]? = some (.int .i64 x)) :
    Calls Try.prog 82 #[.pointer (some ⟨M, 0, none⟩), .agg #[.int .i64 op, .int .i64 w0, .int .i64 d, .int .i64 a, .int .i64 b, .int .i64 c, .int .i64 imm]] w fun e w' => e = .returned (.tuple #[.int .i64 (castZ op c w0 (maskZ c x)), .int .i64 0]) ∧ Below w.heap.size w w' := by
  have B1 : Below w.heap.size w (w.alloc (.cells #[.int .i64 op, .int .i64 w0, .int .i64 d, .int .i64 a, .int .i64 b, .int .i64 c, .int .i64 imm] 50)) := (Below.refl _ _).alloc (Nat.le_refl _) _
  have X1 := BoxI.new w op w0 d a b c imm 50
  have H1 := row_below hb B1
  have HB : Hid (w.heap[M]? = some (.cells cur T (0, 0))) := hb
  clear hb
  go_enter Try.func82, Try.ntmps82
  go_wp2_with (go_at_call 72; refine (castOpI _ _).mono ?_; rintro e w9 ⟨rfl, h9⟩; have h8 := h9.symm; clear h9; subst h8)
  generalize hW0 : w.alloc (.cells #[.int .i64 op, .int .i64 w0, .int .i64 d, .int .i64 a, .int .i64 b, .int .i64 c, .int .i64 imm] 50) = w1 at B1 X1 H1 ⊢
  clear hW0
  refine wp_region_abv (fun v => Below w1.heap.size w1 v) (by kernel_rfl) (by kernel_rfl) (drew_below (Below.refl _ _)) ?_
  have hne : Nonempty (Abv (fun v => Below w1.heap.size w1 v)) := abv_ne (Below.refl _ _)
  have z0 := fun x : Abv (fun v => Below w1.heap.size w1 v) => (X1.below x.ok).2.1
  have z1 := fun x : Abv (fun v => Below w1.heap.size w1 v) => (X1.below x.ok).2.2.1
  have z2 := fun x : Abv (fun v => Below w1.heap.size w1 v) => (X1.below x.ok).2.2.2.1
  have z3 := fun x : Abv (fun v => Below w1.heap.size w1 v) => (X1.below x.ok).2.2.2.2.1
  have z4 := fun x : Abv (fun v => Below w1.heap.size w1 v) => (X1.below x.ok).2.2.2.2.2.1
  have z5 := fun x : Abv (fun v => Below w1.heap.size w1 v) => (X1.below x.ok).2.2.2.2.2.2.1
  have z6 := fun x : Abv (fun v => Below w1.heap.size w1 v) => (X1.below x.ok).2.2.2.2.2.2.2
  repeat (go_big_quiet_step ((first | (go_at_call 68; with_reducible exact abv_call _ (cut_abv H1 _ _ _ ha hx _)) | (go_at_call 73; with_reducible exact abv_call _ ((castI _ _ _ _ _).mono fun _ _ ⟨he, hw⟩ => ⟨he, hw ▸ Below.refl _ _⟩)))))
  refine wpQuiet_nil ?_
  rintro w9 ⟨⟨w9, h9⟩, rfl⟩
  clear z0 z1 z2 z3 z4 z5 z6
  go_wp2_with fail
  go_ret2
  exact ⟨rfl, B1.trans (h9.mono B1.size)⟩
set_option maxHeartbeats 2000000 in
theorem givenI_21 (M : Nat) (cur : Array Value) (T : TypeId) (w0 d a b c imm : Int) (w : World) (hb : w.heap[M]? = some (.cells cur T (0, 0))) :
    Calls Try.prog 82 #[.pointer (some ⟨M, 0, none⟩), .agg #[.int .i64 21, .int .i64 w0, .int .i64 d, .int .i64 a, .int .i64 b, .int .i64 c, .int .i64 imm]] w fun e w' => e = .returned (.tuple #[.int .i64 imm, .int .i64 0]) ∧ Below w.heap.size w w' := by
  have B1 : Below w.heap.size w (w.alloc (.cells #[.int .i64 21, .int .i64 w0, .int .i64 d, .int .i64 a, .int .i64 b, .int .i64 c, .int .i64 imm] 50)) := (Below.refl _ _).alloc (Nat.le_refl _) _
  have X1 := BoxI.new w 21 w0 d a b c imm 50
  have H1 := row_below hb B1
  have HB : Hid (w.heap[M]? = some (.cells cur T (0, 0))) := hb
  clear hb
  have k0 : castOpB 21 = false := rfl
  go_enter Try.func82, Try.ntmps82
  go_wp2_with (go_at_call 72; refine (castOpI _ _).mono ?_; rintro e w9 ⟨rfl, h9⟩; have h8 := h9.symm; clear h9; subst h8)
  go_ret2
  exact ⟨rfl, B1⟩
set_option maxHeartbeats 2000000 in
theorem givenI_35 (M : Nat) (cur : Array Value) (T : TypeId) (w0 d b c imm x : Int) (a : Nat) (w : World) (hb : w.heap[M]? = some (.cells cur T (0, 0))) (ha : a < 130) (hx : cur[36 + a]? = some (.int .i64 x)) :
    Calls Try.prog 82 #[.pointer (some ⟨M, 0, none⟩), .agg #[.int .i64 35, .int .i64 w0, .int .i64 d, .int .i64 a, .int .i64 b, .int .i64 c, .int .i64 imm]] w fun e w' => e = .returned (.tuple #[.int .i64 (maskZ w0 x), .int .i64 0]) ∧ Below w.heap.size w w' := by
  have B1 : Below w.heap.size w (w.alloc (.cells #[.int .i64 35, .int .i64 w0, .int .i64 d, .int .i64 a, .int .i64 b, .int .i64 c, .int .i64 imm] 50)) := (Below.refl _ _).alloc (Nat.le_refl _) _
  have X1 := BoxI.new w 35 w0 d a b c imm 50
  have H1 := row_below hb B1
  have HB : Hid (w.heap[M]? = some (.cells cur T (0, 0))) := hb
  clear hb
  have k0 : castOpB 35 = false := rfl
  go_enter Try.func82, Try.ntmps82
  go_wp2_with (first | (go_at_call 72; refine (castOpI _ _).mono ?_; rintro e w9 ⟨rfl, h9⟩; have h8 := h9.symm; clear h9; subst h8) | (go_at_call 68; refine (cutI M cur T a w0 x _ H1 ha hx).mono ?_; rintro e w9 ⟨rfl, h9⟩; have h8 := h9.symm; clear h9; subst h8))
  go_ret2
  exact ⟨rfl, B1⟩
set_option maxHeartbeats 2000000 in
theorem givenI_22t (M : Nat) (cur : Array Value) (T : TypeId) (w0 d imm x y z : Int) (a b c : Nat) (w : World) (hb : w.heap[M]? = some (.cells cur T (0, 0))) (ha : a < 130) (hbb : b < 130) (hc : c < 130) (x0 : 0 ≤ x) (ho : (x % 2 == 1) = true) (hx : cur[36 + a]? = some (.int .i64 x)) (hy : cur[36 + b]? = some (.int .i64 y)) (hz : cur[36 + c]? = some (.int .i64 z)) :
    Calls Try.prog 82 #[.pointer (some ⟨M, 0, none⟩), .agg #[.int .i64 22, .int .i64 w0, .int .i64 d, .int .i64 a, .int .i64 b, .int .i64 c, .int .i64 imm]] w fun e w' => e = .returned (.tuple #[.int .i64 (maskZ w0 y), .int .i64 0]) ∧ Below w.heap.size w w' := by
  have B1 : Below w.heap.size w (w.alloc (.cells #[.int .i64 22, .int .i64 w0, .int .i64 d, .int .i64 a, .int .i64 b, .int .i64 c, .int .i64 imm] 50)) := (Below.refl _ _).alloc (Nat.le_refl _) _
  have X1 := BoxI.new w 22 w0 d a b c imm 50
  have H1 := row_below hb B1
  have HB : Hid (w.heap[M]? = some (.cells cur T (0, 0))) := hb
  clear hb
  have k0 : castOpB 22 = false := rfl
  have OD := oddI M cur T a x _ H1 ha hx x0
  rw [ho] at OD
  go_enter Try.func82, Try.ntmps82
  go_wp2_with (first | (go_at_call 72; refine (castOpI _ _).mono ?_; rintro e w9 ⟨rfl, h9⟩; have h8 := h9.symm; clear h9; subst h8) | (go_at_call 67; refine OD.mono ?_; rintro e w9 ⟨rfl, h9⟩; have h8 := h9.symm; clear h9; subst h8) | (go_at_call 68; refine (cutI M cur T b w0 y _ H1 hbb hy).mono ?_; rintro e w9 ⟨rfl, h9⟩; have h8 := h9.symm; clear h9; subst h8))
  go_ret2
  exact ⟨rfl, B1⟩
set_option maxHeartbeats 2000000 in
theorem givenI_22f (M : Nat) (cur : Array Value) (T : TypeId) (w0 d imm x y z : Int) (a b c : Nat) (w : World) (hb : w.heap[M]? = some (.cells cur T (0, 0))) (ha : a < 130) (hbb : b < 130) (hc : c < 130) (x0 : 0 ≤ x) (ho : (x % 2 == 1) = false) (hx : cur[36 + a]? = some (.int .i64 x)) (hy : cur[36 + b]? = some (.int .i64 y)) (hz : cur[36 + c]? = some (.int .i64 z)) :
    Calls Try.prog 82 #[.pointer (some ⟨M, 0, none⟩), .agg #[.int .i64 22, .int .i64 w0, .int .i64 d, .int .i64 a, .int .i64 b, .int .i64 c, .int .i64 imm]] w fun e w' => e = .returned (.tuple #[.int .i64 (maskZ w0 z), .int .i64 0]) ∧ Below w.heap.size w w' := by
  have B1 : Below w.heap.size w (w.alloc (.cells #[.int .i64 22, .int .i64 w0, .int .i64 d, .int .i64 a, .int .i64 b, .int .i64 c, .int .i64 imm] 50)) := (Below.refl _ _).alloc (Nat.le_refl _) _
  have X1 := BoxI.new w 22 w0 d a b c imm 50
  have H1 := row_below hb B1
  have HB : Hid (w.heap[M]? = some (.cells cur T (0, 0))) := hb
  clear hb
  have k0 : castOpB 22 = false := rfl
  have OD := oddI M cur T a x _ H1 ha hx x0
  rw [ho] at OD
  go_enter Try.func82, Try.ntmps82
  go_wp2_with (first | (go_at_call 72; refine (castOpI _ _).mono ?_; rintro e w9 ⟨rfl, h9⟩; have h8 := h9.symm; clear h9; subst h8) | (go_at_call 67; refine OD.mono ?_; rintro e w9 ⟨rfl, h9⟩; have h8 := h9.symm; clear h9; subst h8) | (go_at_call 68; refine (cutI M cur T c w0 z _ H1 hc hz).mono ?_; rintro e w9 ⟨rfl, h9⟩; have h8 := h9.symm; clear h9; subst h8))
  go_ret2
  exact ⟨rfl, B1⟩
set_option maxHeartbeats 2000000 in
theorem givenI_23n (M : Nat) (cur : Array Value) (T : TypeId) (w0 d b c imm x : Int) (a : Nat) (w : World) (hb : w.heap[M]? = some (.cells cur T (0, 0))) (ha : a < 130) (h32 : 32 ≤ x) (hx : cur[36 + a]? = some (.int .i64 x)) :
    Calls Try.prog 82 #[.pointer (some ⟨M, 0, none⟩), .agg #[.int .i64 23, .int .i64 w0, .int .i64 d, .int .i64 a, .int .i64 b, .int .i64 c, .int .i64 imm]] w fun e w' => e = .returned (.tuple #[.int .i64 0, .int .i64 2]) ∧ Below w.heap.size w w' := by
  have B1 : Below w.heap.size w (w.alloc (.cells #[.int .i64 23, .int .i64 w0, .int .i64 d, .int .i64 a, .int .i64 b, .int .i64 c, .int .i64 imm] 50)) := (Below.refl _ _).alloc (Nat.le_refl _) _
  have X1 := BoxI.new w 23 w0 d a b c imm 50
  have H1 := row_below hb B1
  have HB : Hid (w.heap[M]? = some (.cells cur T (0, 0))) := hb
  clear hb
  have k0 : castOpB 23 = false := rfl
  have ha2 : (a : Int) < 130 := by omega
  go_enter Try.func82, Try.ntmps82
  go_wp2_with (go_at_call 72; refine (castOpI _ _).mono ?_; rintro e w9 ⟨rfl, h9⟩; have h8 := h9.symm; clear h9; subst h8)
  generalize hW0 : w.alloc (.cells #[.int .i64 23, .int .i64 w0, .int .i64 d, .int .i64 a, .int .i64 b, .int .i64 c, .int .i64 imm] 50) = w1 at B1 X1 H1 ⊢
  clear hW0
  have y0 := fun x : Abv (fun v => Below w1.heap.size w1 v) => (cell_of_heap (o := 36 + a) (row_below H1 x.ok)).trans hx
  refine wp_region_abv (fun v => Below w1.heap.size w1 v) (by kernel_rfl) (by kernel_rfl) (drew_below (Below.refl _ _)) ?_
  have hne : Nonempty (Abv (fun v => Below w1.heap.size w1 v)) := abv_ne (Below.refl _ _)
  have z0 := fun x : Abv (fun v => Below w1.heap.size w1 v) => (X1.below x.ok).2.1
  have z1 := fun x : Abv (fun v => Below w1.heap.size w1 v) => (X1.below x.ok).2.2.1
  have z2 := fun x : Abv (fun v => Below w1.heap.size w1 v) => (X1.below x.ok).2.2.2.1
  have z3 := fun x : Abv (fun v => Below w1.heap.size w1 v) => (X1.below x.ok).2.2.2.2.1
  have z4 := fun x : Abv (fun v => Below w1.heap.size w1 v) => (X1.below x.ok).2.2.2.2.2.1
  have z5 := fun x : Abv (fun v => Below w1.heap.size w1 v) => (X1.below x.ok).2.2.2.2.2.2.1
  have z6 := fun x : Abv (fun v => Below w1.heap.size w1 v) => (X1.below x.ok).2.2.2.2.2.2.2
  repeat (go_big_quiet_step ((go_at_call 88; with_reducible exact abv_call _ ((loadI_no M x _ h32).mono fun _ _ ⟨he, hw⟩ => ⟨he, hw ▸ Below.refl _ _⟩))))
  refine wpQuiet_nil ?_
  rintro w9 ⟨⟨w9, h9⟩, rfl⟩
  clear z0 z1 z2 z3 z4 z5 z6
  go_wp2_with fail
  go_ret2
  exact ⟨rfl, B1.trans (h9.mono B1.size)⟩
set_option maxHeartbeats 2000000 in
theorem givenI_23y (M : Nat) (cur : Array Value) (T : TypeId) (w0 d b c imm y : Int) (a x : Nat) (w : World) (hb : w.heap[M]? = some (.cells cur T (0, 0))) (ha : a < 130) (h32 : x < 32) (hx : cur[36 + a]? = some (.int .i64 x)) (hy : cur[x]? = some (.int .u8 y)) (y0 : 0 ≤ y) (y1 : y ≤ 255) :
    Calls Try.prog 82 #[.pointer (some ⟨M, 0, none⟩), .agg #[.int .i64 23, .int .i64 w0, .int .i64 d, .int .i64 a, .int .i64 b, .int .i64 c, .int .i64 imm]] w fun e w' => e = .returned (.tuple #[.int .i64 y, .int .i64 0]) ∧ Below w.heap.size w w' := by
  have B1 : Below w.heap.size w (w.alloc (.cells #[.int .i64 23, .int .i64 w0, .int .i64 d, .int .i64 a, .int .i64 b, .int .i64 c, .int .i64 imm] 50)) := (Below.refl _ _).alloc (Nat.le_refl _) _
  have X1 := BoxI.new w 23 w0 d a b c imm 50
  have H1 := row_below hb B1
  have HB : Hid (w.heap[M]? = some (.cells cur T (0, 0))) := hb
  clear hb
  have k0 : castOpB 23 = false := rfl
  have ha2 : (a : Int) < 130 := by omega
  go_enter Try.func82, Try.ntmps82
  go_wp2_with (go_at_call 72; refine (castOpI _ _).mono ?_; rintro e w9 ⟨rfl, h9⟩; have h8 := h9.symm; clear h9; subst h8)
  generalize hW0 : w.alloc (.cells #[.int .i64 23, .int .i64 w0, .int .i64 d, .int .i64 a, .int .i64 b, .int .i64 c, .int .i64 imm] 50) = w1 at B1 X1 H1 ⊢
  clear hW0
  have yy := fun x : Abv (fun v => Below w1.heap.size w1 v) => (cell_of_heap (o := 36 + a) (row_below H1 x.ok)).trans hx
  refine wp_region_abv (fun v => Below w1.heap.size w1 v) (by kernel_rfl) (by kernel_rfl) (drew_below (Below.refl _ _)) ?_
  have hne : Nonempty (Abv (fun v => Below w1.heap.size w1 v)) := abv_ne (Below.refl _ _)
  have z0 := fun x : Abv (fun v => Below w1.heap.size w1 v) => (X1.below x.ok).2.1
  have z1 := fun x : Abv (fun v => Below w1.heap.size w1 v) => (X1.below x.ok).2.2.1
  have z2 := fun x : Abv (fun v => Below w1.heap.size w1 v) => (X1.below x.ok).2.2.2.1
  have z3 := fun x : Abv (fun v => Below w1.heap.size w1 v) => (X1.below x.ok).2.2.2.2.1
  have z4 := fun x : Abv (fun v => Below w1.heap.size w1 v) => (X1.below x.ok).2.2.2.2.2.1
  have z5 := fun x : Abv (fun v => Below w1.heap.size w1 v) => (X1.below x.ok).2.2.2.2.2.2.1
  have z6 := fun x : Abv (fun v => Below w1.heap.size w1 v) => (X1.below x.ok).2.2.2.2.2.2.2
  repeat (go_big_quiet_step ((go_at_call 88; with_reducible exact abv_call _ ((loadI_ok M cur T x y _ (row_below H1 (Abv.ok _)) h32 hy y0 y1).mono fun _ _ ⟨he, hw⟩ => ⟨he, hw ▸ Below.refl _ _⟩))))
  refine wpQuiet_nil ?_
  rintro w9 ⟨⟨w9, h9⟩, rfl⟩
  clear z0 z1 z2 z3 z4 z5 z6
  go_wp2_with fail
  go_ret2
  exact ⟨rfl, B1.trans (h9.mono B1.size)⟩
set_option maxHeartbeats 2000000 in
theorem givenI_bin0 (M : Nat) (cur : Array Value) (T : TypeId) (op w0 d c imm x y : Int) (a b : Nat) (w : World) (hb : w.heap[M]? = some (.cells cur T (0, 0))) (k0 : castOpB op = false) (n1 : ¬ op = 21) (n2 : ¬ op = 22) (n3 : ¬ op = 23) (n4 : ¬ op = 35) (ha : a < 130) (hbb : b < 130) (hx : cur[36 + a]? = some (.int .i64 x)) (hy : cur[36 + b]? = some (.int .i64 y)) (hc : binC op w0 (maskZ w0 x) (maskZ w0 y) = 0) :
    Calls Try.prog 82 #[.pointer (some ⟨M, 0, none⟩), .agg #[.int .i64 op, .int .i64 w0, .int .i64 d, .int .i64 a, .int .i64 b, .int .i64 c, .int .i64 imm]] w fun e w' => e = .returned (.tuple #[.int .i64 (binZ op w0 (maskZ w0 x) (maskZ w0 y)), .int .i64 0]) ∧ Below w.heap.size w w' := by
  have B1 : Below w.heap.size w (w.alloc (.cells #[.int .i64 op, .int .i64 w0, .int .i64 d, .int .i64 a, .int .i64 b, .int .i64 c, .int .i64 imm] 50)) := (Below.refl _ _).alloc (Nat.le_refl _) _
  have X1 := BoxI.new w op w0 d a b c imm 50
  have H1 := row_below hb B1
  have HB : Hid (w.heap[M]? = some (.cells cur T (0, 0))) := hb
  clear hb
  have BI : ∀ v : World, Calls Try.prog 89 #[.int .i64 op, .int .i64 w0, .int .i64 (maskZ w0 x), .int .i64 (maskZ w0 y)] v fun e w' => e = .returned (.tuple #[.int .i64 (binZ op w0 (maskZ w0 x) (maskZ w0 y)), .int .i64 (binC op w0 (maskZ w0 x) (maskZ w0 y))]) ∧ Below v.heap.size v w' := fun v => (binI op w0 (maskZ w0 x) (maskZ w0 y) v).mono fun _ _ h => ⟨h.1, h.2.1⟩
  go_enter Try.func82, Try.ntmps82
  go_wp2_with (go_at_call 72; refine (castOpI _ _).mono ?_; rintro e w9 ⟨rfl, h9⟩; have h8 := h9.symm; clear h9; subst h8)
  generalize hW0 : w.alloc (.cells #[.int .i64 op, .int .i64 w0, .int .i64 d, .int .i64 a, .int .i64 b, .int .i64 c, .int .i64 imm] 50) = w1 at B1 X1 H1 ⊢
  clear hW0
  refine wp_region_abv (fun v => Below w1.heap.size w1 v) (by kernel_rfl) (by kernel_rfl) (drew_below (Below.refl _ _)) ?_
  have hne : Nonempty (Abv (fun v => Below w1.heap.size w1 v)) := abv_ne (Below.refl _ _)
  have z0 := fun x : Abv (fun v => Below w1.heap.size w1 v) => (X1.below x.ok).2.1
  have z1 := fun x : Abv (fun v => Below w1.heap.size w1 v) => (X1.below x.ok).2.2.1
  have z2 := fun x : Abv (fun v => Below w1.heap.size w1 v) => (X1.below x.ok).2.2.2.1
  have z3 := fun x : Abv (fun v => Below w1.heap.size w1 v) => (X1.below x.ok).2.2.2.2.1
  have z4 := fun x : Abv (fun v => Below w1.heap.size w1 v) => (X1.below x.ok).2.2.2.2.2.1
  have z5 := fun x : Abv (fun v => Below w1.heap.size w1 v) => (X1.below x.ok).2.2.2.2.2.2.1
  have z6 := fun x : Abv (fun v => Below w1.heap.size w1 v) => (X1.below x.ok).2.2.2.2.2.2.2
  repeat (go_big_quiet_step ((first | (go_at_call 68; with_reducible exact abv_call _ (cut_abv H1 _ _ _ (by assumption) (by assumption) _)) | (go_at_call 89; with_reducible exact abv_call _ (BI _)))))
  refine wpQuiet_nil ?_
  rintro w9 ⟨⟨w9, h9⟩, rfl⟩
  clear z0 z1 z2 z3 z4 z5 z6
  go_wp2_with fail
  go_ret2
  exact ⟨rfl, B1.trans (h9.mono B1.size)⟩
set_option maxHeartbeats 2000000 in
theorem givenI_bin1 (M : Nat) (cur : Array Value) (T : TypeId) (op w0 d c imm x y : Int) (a b : Nat) (w : World) (hb : w.heap[M]? = some (.cells cur T (0, 0))) (k0 : castOpB op = false) (n1 : ¬ op = 21) (n2 : ¬ op = 22) (n3 : ¬ op = 23) (n4 : ¬ op = 35) (ha : a < 130) (hbb : b < 130) (hx : cur[36 + a]? = some (.int .i64 x)) (hy : cur[36 + b]? = some (.int .i64 y)) (hc : ¬ binC op w0 (maskZ w0 x) (maskZ w0 y) = 0) :
    Calls Try.prog 82 #[.pointer (some ⟨M, 0, none⟩), .agg #[.int .i64 op, .int .i64 w0, .int .i64 d, .int .i64 a, .int .i64 b, .int .i64 c, .int .i64 imm]] w fun e w' => e = .returned (.tuple #[.int .i64 0, .int .i64 1]) ∧ Below w.heap.size w w' := by
  have B1 : Below w.heap.size w (w.alloc (.cells #[.int .i64 op, .int .i64 w0, .int .i64 d, .int .i64 a, .int .i64 b, .int .i64 c, .int .i64 imm] 50)) := (Below.refl _ _).alloc (Nat.le_refl _) _
  have X1 := BoxI.new w op w0 d a b c imm 50
  have H1 := row_below hb B1
  have HB : Hid (w.heap[M]? = some (.cells cur T (0, 0))) := hb
  clear hb
  have BI : ∀ v : World, Calls Try.prog 89 #[.int .i64 op, .int .i64 w0, .int .i64 (maskZ w0 x), .int .i64 (maskZ w0 y)] v fun e w' => e = .returned (.tuple #[.int .i64 (binZ op w0 (maskZ w0 x) (maskZ w0 y)), .int .i64 (binC op w0 (maskZ w0 x) (maskZ w0 y))]) ∧ Below v.heap.size v w' := fun v => (binI op w0 (maskZ w0 x) (maskZ w0 y) v).mono fun _ _ h => ⟨h.1, h.2.1⟩
  go_enter Try.func82, Try.ntmps82
  go_wp2_with (go_at_call 72; refine (castOpI _ _).mono ?_; rintro e w9 ⟨rfl, h9⟩; have h8 := h9.symm; clear h9; subst h8)
  generalize hW0 : w.alloc (.cells #[.int .i64 op, .int .i64 w0, .int .i64 d, .int .i64 a, .int .i64 b, .int .i64 c, .int .i64 imm] 50) = w1 at B1 X1 H1 ⊢
  clear hW0
  refine wp_region_abv (fun v => Below w1.heap.size w1 v) (by kernel_rfl) (by kernel_rfl) (drew_below (Below.refl _ _)) ?_
  have hne : Nonempty (Abv (fun v => Below w1.heap.size w1 v)) := abv_ne (Below.refl _ _)
  have z0 := fun x : Abv (fun v => Below w1.heap.size w1 v) => (X1.below x.ok).2.1
  have z1 := fun x : Abv (fun v => Below w1.heap.size w1 v) => (X1.below x.ok).2.2.1
  have z2 := fun x : Abv (fun v => Below w1.heap.size w1 v) => (X1.below x.ok).2.2.2.1
  have z3 := fun x : Abv (fun v => Below w1.heap.size w1 v) => (X1.below x.ok).2.2.2.2.1
  have z4 := fun x : Abv (fun v => Below w1.heap.size w1 v) => (X1.below x.ok).2.2.2.2.2.1
  have z5 := fun x : Abv (fun v => Below w1.heap.size w1 v) => (X1.below x.ok).2.2.2.2.2.2.1
  have z6 := fun x : Abv (fun v => Below w1.heap.size w1 v) => (X1.below x.ok).2.2.2.2.2.2.2
  repeat (go_big_quiet_step ((first | (go_at_call 68; with_reducible exact abv_call _ (cut_abv H1 _ _ _ (by assumption) (by assumption) _)) | (go_at_call 89; with_reducible exact abv_call _ (BI _)))))
  refine wpQuiet_nil ?_
  rintro w9 ⟨⟨w9, h9⟩, rfl⟩
  clear z0 z1 z2 z3 z4 z5 z6
  go_wp2_with fail
  go_ret2
  exact ⟨rfl, B1.trans (h9.mono B1.size)⟩
end Go.Proofs.Ytofgfiakccjimaa
