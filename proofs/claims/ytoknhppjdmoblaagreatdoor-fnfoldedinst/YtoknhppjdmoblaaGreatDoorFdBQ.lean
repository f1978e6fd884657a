import Derived.Test.YtoknhppjdmoblaaGreatDoorFdAQ
import Derived.Test.YtoknhppjdmoblaaGreatDoorFmGQ
import Derived.Test.YtoknhppjdmoblaaGreatDoorRulQ
import Derived.Laws.EntriesVeiled
import Derived.Laws.Tables
namespace Go.Proofs.YtoknhppjdmoblaaGreatDoor
set_option linter.unusedVariables false
set_option linter.unusedSimpArgs false
open Go.RowKit
structure ISm (i : InstD) : Prop where
 a : i.a ≤ 9223372036854775807
 b : i.b ≤ 9223372036854775807
 c : i.c ≤ 9223372036854775807
structure FoBox (d : FuncD) (i : InstD) (u0 : Option Addr) (c0 : Nat) (u2 : Option Addr) (c2 : Nat) (ua : Option Addr) (qa : Nat) (w w1 : World) : Prop where
 a0 : w1.cell? ⟨w.heap.size, 0, none⟩ = some (.slice u0 d.params.length c0)
 a1 : w1.cell? ⟨w.heap.size, 1, none⟩ = some (.int .i64 d.ret)
 a2 : w1.cell? ⟨w.heap.size, 2, none⟩ = some (.slice u2 d.blocks.length c2)
 a3 : w1.cell? ⟨w.heap.size, 3, none⟩ = some (.int .i64 i.op)
 a4 : w1.cell? ⟨w.heap.size, 4, none⟩ = some (.int .i64 i.w)
 a5 : w1.cell? ⟨w.heap.size, 5, none⟩ = some (.int .i64 i.a)
 a6 : w1.cell? ⟨w.heap.size, 6, none⟩ = some (.int .i64 i.b)
 a7 : w1.cell? ⟨w.heap.size, 7, none⟩ = some (.int .i64 i.c)
 a8 : w1.cell? ⟨w.heap.size, 8, none⟩ = some (.int .i64 i.imm)
 a9 : w1.cell? ⟨w.heap.size, 9, none⟩ = some (.slice ua i.args.length qa)
 below : Below w.heap.size w w1
 size : w.heap.size + 1 ≤ w1.heap.size
theorem FoBox.keep {d : FuncD} {i : InstD} {u0 u2 ua : Option Addr} {c0 c2 qa : Nat} {w w1 w2 : World} (h : FoBox d i u0 c0 u2 c2 ua qa w w1) (k : Below w1.heap.size w1 w2) : FoBox d i u0 c0 u2 c2 ua qa w w2 := by
 have hz := h.size
 have hb : w2.heap[w.heap.size]? = w1.heap[w.heap.size]? := k.block _ (by omega)
 exact ⟨(cell_block hb).trans h.a0, (cell_block hb).trans h.a1, (cell_block hb).trans h.a2, (cell_block hb).trans h.a3, (cell_block hb).trans h.a4, (cell_block hb).trans h.a5, (cell_block hb).trans h.a6, (cell_block hb).trans h.a7, (cell_block hb).trans h.a8, (cell_block hb).trans h.a9, h.below.trans (k.mono (by omega)), Nat.le_trans hz k.size⟩
theorem FoBox.start {d : FuncD} {i : InstD} {u0 u2 ua : Option Addr} {c0 c2 qa : Nat} {w : World} {T : TypeId} : FoBox d i u0 c0 u2 c2 ua qa w (w.alloc (.cells #[.slice u0 d.params.length c0, .int .i64 d.ret, .slice u2 d.blocks.length c2, .int .i64 i.op, .int .i64 i.w, .int .i64 i.a, .int .i64 i.b, .int .i64 i.c, .int .i64 i.imm, .slice ua i.args.length qa] T)) := by
 have hb := heap_alloc_last w (.cells #[.slice u0 d.params.length c0, .int .i64 d.ret, .slice u2 d.blocks.length c2, .int .i64 i.op, .int .i64 i.w, .int .i64 i.a, .int .i64 i.b, .int .i64 i.c, .int .i64 i.imm, .slice ua i.args.length qa] T)
 exact ⟨(cell_of_heap hb).trans rfl, (cell_of_heap hb).trans rfl, (cell_of_heap hb).trans rfl, (cell_of_heap hb).trans rfl, (cell_of_heap hb).trans rfl, (cell_of_heap hb).trans rfl, (cell_of_heap hb).trans rfl, (cell_of_heap hb).trans rfl, (cell_of_heap hb).trans rfl, (cell_of_heap hb).trans rfl, (Below.refl _ _).alloc (Nat.le_refl _) _, by simp⟩
theorem heap_two2 (w : World) (o p : Obj) : ((w.alloc o).alloc p).heap[w.heap.size + 1]? = some p := by
 have h := heap_alloc_last (w.alloc o) p
 have e : (w.alloc o).heap.size = w.heap.size + 1 := by simp
 rw [e] at h
 exact h
structure Fo2 (d : FuncD) (i : InstD) (u0 : Option Addr) (c0 : Nat) (u2 : Option Addr) (c2 : Nat) (ua : Option Addr) (qa : Nat) (w w1 : World) : Prop where
 f : FoBox d i u0 c0 u2 c2 ua qa w w1
 r : w1.heap[w.heap.size + 1]? = some (.cells #[.int .i64 0, .int .i64 0, .int .i64 0, .int .i64 0, .int .i64 0, .int .i64 0, .slice none 0 0] 29 (0, 0))
theorem Fo2.keep {d : FuncD} {i : InstD} {u0 u2 ua : Option Addr} {c0 c2 qa : Nat} {w w1 w2 : World} (h : Fo2 d i u0 c0 u2 c2 ua qa w w1) (k : Below w1.heap.size w1 w2) : Fo2 d i u0 c0 u2 c2 ua qa w w2 :=
 ⟨h.f.keep k, (k.block _ (Array.getElem?_eq_some_iff.1 h.r).1).trans h.r⟩
theorem Fo2.start {d : FuncD} {i : InstD} {u0 u2 ua : Option Addr} {c0 c2 qa : Nat} {w : World} : Fo2 d i u0 c0 u2 c2 ua qa w ((w.alloc (.cells #[.slice u0 d.params.length c0, .int .i64 d.ret, .slice u2 d.blocks.length c2, .int .i64 i.op, .int .i64 i.w, .int .i64 i.a, .int .i64 i.b, .int .i64 i.c, .int .i64 i.imm, .slice ua i.args.length qa] 73)).alloc (.cells #[.int .i64 0, .int .i64 0, .int .i64 0, .int .i64 0, .int .i64 0, .int .i64 0, .slice none 0 0] 29)) :=
 ⟨FoBox.start.keep ((Below.refl _ _).alloc (Nat.le_refl _) _), heap_two2 _ _ _⟩
theorem Fo2.froz {d : FuncD} {i : InstD} {u0 u2 ua : Option Addr} {c0 c2 qa : Nat} {w w1 : World} (h : Fo2 d i u0 c0 u2 c2 ua qa w w1) (o : Nat) : w1.frozen? ⟨w.heap.size + 1, o, none⟩ = false := froz_of_heap h.r
theorem Fo2.cell {d : FuncD} {i : InstD} {u0 u2 ua : Option Addr} {c0 c2 qa : Nat} {w w1 : World} (h : Fo2 d i u0 c0 u2 c2 ua qa w w1) :
  w1.cell? ⟨w.heap.size + 1, 0, none⟩ = some (.int .i64 0) ∧ w1.cell? ⟨w.heap.size + 1, 1, none⟩ = some (.int .i64 0) ∧ w1.cell? ⟨w.heap.size + 1, 2, none⟩ = some (.int .i64 0) ∧ w1.cell? ⟨w.heap.size + 1, 3, none⟩ = some (.int .i64 0) ∧ w1.cell? ⟨w.heap.size + 1, 4, none⟩ = some (.int .i64 0) ∧ w1.cell? ⟨w.heap.size + 1, 5, none⟩ = some (.int .i64 0) ∧ w1.cell? ⟨w.heap.size + 1, 6, none⟩ = some (.slice none 0 0) :=
 ⟨(cell_of_heap h.r).trans rfl, (cell_of_heap h.r).trans rfl, (cell_of_heap h.r).trans rfl, (cell_of_heap h.r).trans rfl, (cell_of_heap h.r).trans rfl, (cell_of_heap h.r).trans rfl, (cell_of_heap h.r).trans rfl⟩
set_option maxHeartbeats 4000000 in
set_option maxRecDepth 100000 in
theorem isI (lo : Nat) (d : FuncD) (i : InstD) (u0 : Option Addr) (c0 : Nat) (u2 : Option Addr) (c2 : Nat) (ua : Option Addr) (qa : Nat) (id v : Int) (w : World) (hs : SmFunc d) (k2 : BlocksAt w lo u2 d.blocks) (hid : id ≤ 9223372036854775807) :
  Calls Tryz.prog 101 #[.agg #[.slice u0 d.params.length c0, .int .i64 d.ret, .slice u2 d.blocks.length c2, .int .i64 i.op, .int .i64 i.w, .int .i64 i.a, .int .i64 i.b, .int .i64 i.c, .int .i64 i.imm, .slice ua i.args.length qa], .int .i64 id, .int .i64 v] w fun e w' => e = .returned (.bool (isC d id v)) ∧ Below w.heap.size w w' := by
 have F0 := FoBox.start (d := d) (i := i) (u0 := u0) (u2 := u2) (ua := ua) (c0 := c0) (c2 := c2) (qa := qa) (w := w) (T := 73)
 have P := constI_any lo d u0 c0 u2 c2 id _ hs (k2.keep (agree_of_below F0.below lo)) hid
 have x0 := F0.a0
 have x1 := F0.a1
 have x2 := F0.a2
 have HF0 : Hid (FoBox d i u0 c0 u2 c2 ua qa w _) := F0
 clear F0 hs k2
 go_enter Tryz.func101, Tryz.ntmps101
 go_wp2_with fail
 refine P.mono ?_
 rintro e w1 ⟨h1, b1⟩
 have HB : Hid (Below w.heap.size w w1) := (HF0.out.keep b1).below
 cases hc : constF d id with
 | none =>
  rw [hc] at h1
  have h2 : e = .returned (.tuple #[.int .i64 0, .bool false]) := h1
  subst h2
  have E : Hid (false = isC d id v) := by show _ = _; unfold isC; rw [hc]; rfl
  go_wp2_with fail
  go_ret
  exact ⟨ret_bool E.out, HB.out⟩
 | some x =>
  rw [hc] at h1
  have h2 : e = .returned (.tuple #[.int .i64 x, .bool true]) := h1
  subst h2
  have E : Hid ((x == v) = isC d id v) := by show _ = _; unfold isC; rw [hc]; rfl
  go_wp2_with fail
  go_ret
  exact ⟨ret_bool E.out, HB.out⟩
set_option maxHeartbeats 4000000 in
set_option maxRecDepth 100000 in
theorem constI (d : FuncD) (i : InstD) (u0 : Option Addr) (c0 : Nat) (u2 : Option Addr) (c2 : Nat) (ua : Option Addr) (qa : Nat) (v : Int) (w : World) :
  Calls Tryz.prog 99 #[.agg #[.slice u0 d.params.length c0, .int .i64 d.ret, .slice u2 d.blocks.length c2, .int .i64 i.op, .int .i64 i.w, .int .i64 i.a, .int .i64 i.b, .int .i64 i.c, .int .i64 i.imm, .slice ua i.args.length qa], .int .i64 v] w fun e w' => e = .returned (.agg #[.int .i64 21, .int .i64 (instW i), .int .i64 0, .int .i64 0, .int .i64 0, .int .i64 v, .slice none 0 0]) ∧ Below w.heap.size w w' := by
 have F0 := Fo2.start (d := d) (i := i) (u0 := u0) (u2 := u2) (ua := ua) (c0 := c0) (c2 := c2) (qa := qa) (w := w)
 have x3 := F0.f.a3
 have x4 := F0.f.a4
 have x5 := F0.f.a5
 have x6 := F0.f.a6
 have x7 := F0.f.a7
 have x8 := F0.f.a8
 have x9 := F0.f.a9
 have HF0 : Hid (Fo2 d i u0 c0 u2 c2 ua qa w _) := F0
 clear F0
 go_enter Tryz.func99, Tryz.ntmps99
 go_wp2_with fail
 refine (instI_any i ua qa _).mono ?_
 rintro e w1 ⟨rfl, b1⟩
 have F1 := HF0.out.keep b1
 obtain ⟨r0, r1, r2, r3, r4, r5, r6⟩ := F1.cell
 have rf := F1.froz
 have HF1 : Hid (Fo2 d i u0 c0 u2 c2 ua qa w w1) := F1
 clear F1 b1
 go_wp2_with fail
 have hr := (heap_set (o := 6) (v := .slice none 0 0) (heap_set (o := 5) (v := .int .i64 v) (heap_set (o := 4) (v := .int .i64 0) (heap_set (o := 3) (v := .int .i64 0) (heap_set (o := 2) (v := .int .i64 0) (heap_set (o := 1) (v := .int .i64 (instW i)) (heap_set (o := 0) (v := .int .i64 21) HF1.out.r)))))))
 refine bodyPost_ret (v := .agg #[.int .i64 21, .int .i64 (instW i), .int .i64 0, .int .i64 0, .int .i64 0, .int .i64 v, .slice none 0 0]) ((results_cell_row Tryz.results99 _ _ (w.heap.size + 1) 29 _ (0, 0) _ rfl hr Tryz.underlying29 rfl (by kernel_rfl)).trans (by rfl)) rfl ⟨rfl, ?_⟩
 exact (by repeat (first | refine Below.setCell ?_ (by dsimp only; omega) _ | exact HF1.out.f.below))
set_option maxHeartbeats 4000000 in
set_option maxRecDepth 100000 in
theorem copyOfI (d : FuncD) (i : InstD) (u0 : Option Addr) (c0 : Nat) (u2 : Option Addr) (c2 : Nat) (ua : Option Addr) (qa : Nat) (v : Int) (w : World) :
  Calls Tryz.prog 103 #[.agg #[.slice u0 d.params.length c0, .int .i64 d.ret, .slice u2 d.blocks.length c2, .int .i64 i.op, .int .i64 i.w, .int .i64 i.a, .int .i64 i.b, .int .i64 i.c, .int .i64 i.imm, .slice ua i.args.length qa], .int .i64 v] w fun e w' => e = .returned (.agg #[.int .i64 27, .int .i64 (instW i), .int .i64 v, .int .i64 0, .int .i64 0, .int .i64 0, .slice none 0 0]) ∧ Below w.heap.size w w' := by
 have F0 := Fo2.start (d := d) (i := i) (u0 := u0) (u2 := u2) (ua := ua) (c0 := c0) (c2 := c2) (qa := qa) (w := w)
 have x3 := F0.f.a3
 have x4 := F0.f.a4
 have x5 := F0.f.a5
 have x6 := F0.f.a6
 have x7 := F0.f.a7
 have x8 := F0.f.a8
 have x9 := F0.f.a9
 have HF0 : Hid (Fo2 d i u0 c0 u2 c2 ua qa w _) := F0
 clear F0
 go_enter Tryz.func103, Tryz.ntmps103
 go_wp2_with fail
 refine (instI_any i ua qa _).mono ?_
 rintro e w1 ⟨rfl, b1⟩
 have F1 := HF0.out.keep b1
 obtain ⟨r0, r1, r2, r3, r4, r5, r6⟩ := F1.cell
 have rf := F1.froz
 have HF1 : Hid (Fo2 d i u0 c0 u2 c2 ua qa w w1) := F1
 clear F1 b1
 go_wp2_with fail
 have hr := (heap_set (o := 6) (v := .slice none 0 0) (heap_set (o := 5) (v := .int .i64 0) (heap_set (o := 4) (v := .int .i64 0) (heap_set (o := 3) (v := .int .i64 0) (heap_set (o := 2) (v := .int .i64 v) (heap_set (o := 1) (v := .int .i64 (instW i)) (heap_set (o := 0) (v := .int .i64 27) HF1.out.r)))))))
 refine bodyPost_ret (v := .agg #[.int .i64 27, .int .i64 (instW i), .int .i64 v, .int .i64 0, .int .i64 0, .int .i64 0, .slice none 0 0]) ((results_cell_row Tryz.results103 _ _ (w.heap.size + 1) 29 _ (0, 0) _ rfl hr Tryz.underlying29 rfl (by kernel_rfl)).trans (by rfl)) rfl ⟨rfl, ?_⟩
 exact (by repeat (first | refine Below.setCell ?_ (by dsimp only; omega) _ | exact HF1.out.f.below))
theorem told_none {w : World} {lo : Nat} {e : Ending} {o : Option InstD} (h : o = none) (he : e = .returned (.tuple #[.agg #[.int .i64 0, .int .i64 0, .int .i64 0, .int .i64 0, .int .i64 0, .int .i64 0, .slice none 0 0], .bool false])) : InstTold w lo o e := by subst h; exact he
theorem told_some {w : World} {lo : Nat} {e : Ending} {o : Option InstD} {r : InstD} {u : Option Addr} {q : Nat} (h : o = some r) (hu : IntsAt w lo u r.args) (he : e = .returned (.tuple #[.agg #[.int .i64 r.op, .int .i64 r.w, .int .i64 r.a, .int .i64 r.b, .int .i64 r.c, .int .i64 r.imm, .slice u r.args.length q], .bool true])) : InstTold w lo o e := by subst h; exact ⟨u, q, he, hu⟩
theorem ints_none (w : World) (lo : Nat) : IntsAt w lo none [] := ⟨by simp, .inl rfl⟩
def neuC (la lb : Bool) : Nat := if la then 1 else if lb then 2 else 0
def nouC (d : FuncD) (i : InstD) : Nat := if isC d i.a 0 || isC d i.b 0 then 3 else 0
set_option maxHeartbeats 4000000 in
set_option maxRecDepth 100000 in
theorem neutralI (lo : Nat) (d : FuncD) (i : InstD) (u0 : Option Addr) (c0 : Nat) (u2 : Option Addr) (c2 : Nat) (ua : Option Addr) (qa : Nat) (la lb : Bool) (w : World) :
  Calls Tryz.prog 100 #[.agg #[.slice u0 d.params.length c0, .int .i64 d.ret, .slice u2 d.blocks.length c2, .int .i64 i.op, .int .i64 i.w, .int .i64 i.a, .int .i64 i.b, .int .i64 i.c, .int .i64 i.imm, .slice ua i.args.length qa], .bool la, .bool lb] w fun e w' => InstTold w lo (ruleN i (neuC la lb)) e ∧ Below w.heap.size w w' := by
 have F0 := Fo2.start (d := d) (i := i) (u0 := u0) (u2 := u2) (ua := ua) (c0 := c0) (c2 := c2) (qa := qa) (w := w)
 have x0 := F0.f.a0
 have x1 := F0.f.a1
 have x2 := F0.f.a2
 have x3 := F0.f.a3
 have x4 := F0.f.a4
 have x5 := F0.f.a5
 have x6 := F0.f.a6
 have x7 := F0.f.a7
 have x8 := F0.f.a8
 have x9 := F0.f.a9
 obtain ⟨r0, r1, r2, r3, r4, r5, r6⟩ := F0.cell
 have rf := F0.froz
 have HF0 : Hid (Fo2 d i u0 c0 u2 c2 ua qa w _) := F0
 clear F0
 cases la with
 | true =>
  go_enter Tryz.func100, Tryz.ntmps100
  go_wp2_with fail
  refine (copyOfI d i u0 c0 u2 c2 ua qa i.a _).mono ?_
  rintro e w1 ⟨rfl, b1⟩
  have F1 := HF0.out.keep b1
  clear r0 r1 r2 r3 r4 r5 r6 rf
  obtain ⟨r0, r1, r2, r3, r4, r5, r6⟩ := F1.cell
  have rf := F1.froz
  have HF1 : Hid (Fo2 d i u0 c0 u2 c2 ua qa w w1) := F1
  clear F1 b1
  go_wp2_with fail
  have hr := (heap_set (o := 6) (v := .slice none 0 0) (heap_set (o := 5) (v := .int .i64 0) (heap_set (o := 4) (v := .int .i64 0) (heap_set (o := 3) (v := .int .i64 0) (heap_set (o := 2) (v := .int .i64 i.a) (heap_set (o := 1) (v := .int .i64 (instW i)) (heap_set (o := 0) (v := .int .i64 27) HF1.out.r)))))))
  refine bodyPost_ret (v := .tuple #[.agg #[.int .i64 27, .int .i64 (instW i), .int .i64 i.a, .int .i64 0, .int .i64 0, .int .i64 0, .slice none 0 0], .bool true]) ((results_cell_row_tmp Tryz.results100 _ _ (w.heap.size + 1) _ rfl (run_loadVar_row _ _ 29 _ _ (0, 0) _ hr Tryz.underlying29 rfl (by kernel_rfl))).trans (by rfl)) rfl ⟨told_some (r := copyD (instW i) i.a) (u := none) (q := 0) rfl (ints_none _ _) rfl, ?_⟩
  exact (by repeat (first | refine Below.setCell ?_ (by dsimp only; omega) _ | exact HF1.out.f.below))
 | false =>
  cases lb with
  | true =>
   go_enter Tryz.func100, Tryz.ntmps100
   go_wp2_with fail
   refine (copyOfI d i u0 c0 u2 c2 ua qa i.b _).mono ?_
   rintro e w1 ⟨rfl, b1⟩
   have F1 := HF0.out.keep b1
   clear r0 r1 r2 r3 r4 r5 r6 rf
   obtain ⟨r0, r1, r2, r3, r4, r5, r6⟩ := F1.cell
   have rf := F1.froz
   have HF1 : Hid (Fo2 d i u0 c0 u2 c2 ua qa w w1) := F1
   clear F1 b1
   go_wp2_with fail
   have hr := (heap_set (o := 6) (v := .slice none 0 0) (heap_set (o := 5) (v := .int .i64 0) (heap_set (o := 4) (v := .int .i64 0) (heap_set (o := 3) (v := .int .i64 0) (heap_set (o := 2) (v := .int .i64 i.b) (heap_set (o := 1) (v := .int .i64 (instW i)) (heap_set (o := 0) (v := .int .i64 27) HF1.out.r)))))))
   refine bodyPost_ret (v := .tuple #[.agg #[.int .i64 27, .int .i64 (instW i), .int .i64 i.b, .int .i64 0, .int .i64 0, .int .i64 0, .slice none 0 0], .bool true]) ((results_cell_row_tmp Tryz.results100 _ _ (w.heap.size + 1) _ rfl (run_loadVar_row _ _ 29 _ _ (0, 0) _ hr Tryz.underlying29 rfl (by kernel_rfl))).trans (by rfl)) rfl ⟨told_some (r := copyD (instW i) i.b) (u := none) (q := 0) rfl (ints_none _ _) rfl, ?_⟩
   exact (by repeat (first | refine Below.setCell ?_ (by dsimp only; omega) _ | exact HF1.out.f.below))
  | false =>
   go_enter Tryz.func100, Tryz.ntmps100
   go_wp2_with fail
   refine bodyPost_ret (v := .tuple #[.agg #[.int .i64 0, .int .i64 0, .int .i64 0, .int .i64 0, .int .i64 0, .int .i64 0, .slice none 0 0], .bool false]) ((results_cell_row_tmp Tryz.results100 _ _ (w.heap.size + 1) _ rfl (run_loadVar_row _ _ 29 _ _ (0, 0) _ HF0.out.r Tryz.underlying29 rfl (by kernel_rfl))).trans (by rfl)) rfl ⟨told_none rfl rfl, HF0.out.f.below⟩
set_option maxHeartbeats 4000000 in
set_option maxRecDepth 100000 in
theorem noughtI (lo : Nat) (d : FuncD) (i : InstD) (u0 : Option Addr) (c0 : Nat) (u2 : Option Addr) (c2 : Nat) (ua : Option Addr) (qa : Nat) (w : World) (hs : SmFunc d) (k2 : BlocksAt w lo u2 d.blocks) (hi : ISm i) :
  Calls Tryz.prog 102 #[.agg #[.slice u0 d.params.length c0, .int .i64 d.ret, .slice u2 d.blocks.length c2, .int .i64 i.op, .int .i64 i.w, .int .i64 i.a, .int .i64 i.b, .int .i64 i.c, .int .i64 i.imm, .slice ua i.args.length qa]] w fun e w' => InstTold w lo (ruleN i (nouC d i)) e ∧ Below w.heap.size w w' := by
 have F0 := Fo2.start (d := d) (i := i) (u0 := u0) (u2 := u2) (ua := ua) (c0 := c0) (c2 := c2) (qa := qa) (w := w)
 have IS := fun (id : Int) W (k : Below w.heap.size w W) (h : id ≤ 9223372036854775807) => isI lo d i u0 c0 u2 c2 ua qa id 0 W hs (k2.keep (agree_of_below k lo)) h
 have x0 := F0.f.a0
 have x1 := F0.f.a1
 have x2 := F0.f.a2
 have x3 := F0.f.a3
 have x4 := F0.f.a4
 have x5 := F0.f.a5
 have x6 := F0.f.a6
 have x7 := F0.f.a7
 have x8 := F0.f.a8
 have x9 := F0.f.a9
 have HF0 : Hid (Fo2 d i u0 c0 u2 c2 ua qa w _) := F0
 clear F0 hs k2
 go_enter Tryz.func102, Tryz.ntmps102
 go_wp2_with fail
 refine (IS i.a _ HF0.out.f.below hi.a).mono ?_
 rintro e w1 ⟨rfl, b1⟩
 have HF1 : Hid (Fo2 d i u0 c0 u2 c2 ua qa w w1) := HF0.out.keep b1
 clear x0 x1 x2 x3 x4 x5 x6 x7 x8 x9 b1 HF0
 have x0 := HF1.out.f.a0
 have x1 := HF1.out.f.a1
 have x2 := HF1.out.f.a2
 have x3 := HF1.out.f.a3
 have x4 := HF1.out.f.a4
 have x5 := HF1.out.f.a5
 have x6 := HF1.out.f.a6
 have x7 := HF1.out.f.a7
 have x8 := HF1.out.f.a8
 have x9 := HF1.out.f.a9
 cases h1 : isC d i.a 0 with
 | true =>
  go_wp2_with fail
  refine (constI d i u0 c0 u2 c2 ua qa 0 _).mono ?_
  rintro e w9 ⟨rfl, b9⟩
  have F9 := HF1.out.keep b9
  obtain ⟨r0, r1, r2, r3, r4, r5, r6⟩ := F9.cell
  have rf := F9.froz
  have HF9 : Hid (Fo2 d i u0 c0 u2 c2 ua qa w w9) := F9
  clear F9 b9
  go_wp2_with fail
  have hr := (heap_set (o := 6) (v := .slice none 0 0) (heap_set (o := 5) (v := .int .i64 0) (heap_set (o := 4) (v := .int .i64 0) (heap_set (o := 3) (v := .int .i64 0) (heap_set (o := 2) (v := .int .i64 0) (heap_set (o := 1) (v := .int .i64 (instW i)) (heap_set (o := 0) (v := .int .i64 21) HF9.out.r)))))))
  refine bodyPost_ret (v := .tuple #[.agg #[.int .i64 21, .int .i64 (instW i), .int .i64 0, .int .i64 0, .int .i64 0, .int .i64 0, .slice none 0 0], .bool true]) ((results_cell_row_tmp Tryz.results102 _ _ (w.heap.size + 1) _ rfl (run_loadVar_row _ _ 29 _ _ (0, 0) _ hr Tryz.underlying29 rfl (by kernel_rfl))).trans (by rfl)) rfl ⟨told_some (r := constD (instW i) 0) (u := none) (q := 0) (by unfold nouC; rw [h1, Bool.true_or]; rfl) (ints_none _ _) rfl, ?_⟩
  exact (by repeat (first | refine Below.setCell ?_ (by dsimp only; omega) _ | exact HF9.out.f.below))
 | false =>
  go_wp2_with fail
  refine (IS i.b _ HF1.out.f.below hi.b).mono ?_
  rintro e w2 ⟨rfl, b2⟩
  have HF2 : Hid (Fo2 d i u0 c0 u2 c2 ua qa w w2) := HF1.out.keep b2
  clear x0 x1 x2 x3 x4 x5 x6 x7 x8 x9 b2 HF1
  have x0 := HF2.out.f.a0
  have x1 := HF2.out.f.a1
  have x2 := HF2.out.f.a2
  have x3 := HF2.out.f.a3
  have x4 := HF2.out.f.a4
  have x5 := HF2.out.f.a5
  have x6 := HF2.out.f.a6
  have x7 := HF2.out.f.a7
  have x8 := HF2.out.f.a8
  have x9 := HF2.out.f.a9
  obtain ⟨r0, r1, r2, r3, r4, r5, r6⟩ := HF2.out.cell
  have rf := HF2.out.froz
  cases h2 : isC d i.b 0 with
  | true =>
   clear r0 r1 r2 r3 r4 r5 r6 rf
   go_wp2_with fail
   refine (constI d i u0 c0 u2 c2 ua qa 0 _).mono ?_
   rintro e w9 ⟨rfl, b9⟩
   have F9 := HF2.out.keep b9
   obtain ⟨r0, r1, r2, r3, r4, r5, r6⟩ := F9.cell
   have rf := F9.froz
   have HF9 : Hid (Fo2 d i u0 c0 u2 c2 ua qa w w9) := F9
   clear F9 b9
   go_wp2_with fail
   have hr := (heap_set (o := 6) (v := .slice none 0 0) (heap_set (o := 5) (v := .int .i64 0) (heap_set (o := 4) (v := .int .i64 0) (heap_set (o := 3) (v := .int .i64 0) (heap_set (o := 2) (v := .int .i64 0) (heap_set (o := 1) (v := .int .i64 (instW i)) (heap_set (o := 0) (v := .int .i64 21) HF9.out.r)))))))
   refine bodyPost_ret (v := .tuple #[.agg #[.int .i64 21, .int .i64 (instW i), .int .i64 0, .int .i64 0, .int .i64 0, .int .i64 0, .slice none 0 0], .bool true]) ((results_cell_row_tmp Tryz.results102 _ _ (w.heap.size + 1) _ rfl (run_loadVar_row _ _ 29 _ _ (0, 0) _ hr Tryz.underlying29 rfl (by kernel_rfl))).trans (by rfl)) rfl ⟨told_some (r := constD (instW i) 0) (u := none) (q := 0) (by unfold nouC; rw [h1, h2, Bool.false_or]; rfl) (ints_none _ _) rfl, ?_⟩
   exact (by repeat (first | refine Below.setCell ?_ (by dsimp only; omega) _ | exact HF9.out.f.below))
  | false =>
   go_wp2_with fail
   have hr := (heap_set (o := 6) (v := .slice none 0 0) (heap_set (o := 5) (v := .int .i64 0) (heap_set (o := 4) (v := .int .i64 0) (heap_set (o := 3) (v := .int .i64 0) (heap_set (o := 2) (v := .int .i64 0) (heap_set (o := 1) (v := .int .i64 0) (heap_set (o := 0) (v := .int .i64 0) HF2.out.r)))))))
   refine bodyPost_ret (v := .tuple #[.agg #[.int .i64 0, .int .i64 0, .int .i64 0, .int .i64 0, .int .i64 0, .int .i64 0, .slice none 0 0], .bool false]) ((results_cell_row_tmp Tryz.results102 _ _ (w.heap.size + 1) _ rfl (run_loadVar_row _ _ 29 _ _ (0, 0) _ hr Tryz.underlying29 rfl (by kernel_rfl))).trans (by rfl)) rfl ⟨told_none (by unfold nouC; rw [h1, h2]; rfl) rfl, ?_⟩
   exact (by repeat (first | refine Below.setCell ?_ (by dsimp only; omega) _ | exact HF2.out.f.below))
end Go.Proofs.YtoknhppjdmoblaaGreatDoor
namespace Go.Proofs.YtoknhppjdmoblaaGreatDoor
set_option linter.unusedVariables false
set_option linter.unusedSimpArgs false
open Go.RowKit
def fnv (n : Nat) : Value := .func (.func n) #[] #[]
def rulesA : Array Value := #[.nilFunc, fnv 144, fnv 145, fnv 146, fnv 147, fnv 148, fnv 149, fnv 150, fnv 151, fnv 152, fnv 153, fnv 154, fnv 155, fnv 156, fnv 157, fnv 158, fnv 159, fnv 160]
theorem heap_new (w : World) (o : Obj) : (w.alloc o).heap[w.heap.size]? = some o := by
 show (w.heap.push o)[w.heap.size]? = _
 simp
theorem heap_new2 (w : World) (o p : Obj) : ((w.alloc o).alloc p).heap[w.heap.size + 1]? = some p := by
 have h := heap_new (w.alloc o) p
 have e : (w.alloc o).heap.size = w.heap.size + 1 := by simp
 rw [e] at h
 exact h
theorem setRow_new (w : World) (old new : Array Value) (t : TypeId) : (w.alloc (.cells old t)).setRow w.heap.size new = w.alloc (.cells new t) := by
 unfold World.setRow World.alloc
 congr 1
 apply Array.ext
 ·simp
 ·intro k h1 h2
  simp only [Array.getElem_modify, Array.getElem_push]
  split
  ·rename_i hk; subst hk; simp
  ·rename_i hk
   have : k < w.heap.size := by simp at h2; omega
   simp [this]
theorem setRow_new2 (w : World) (o : Obj) (old new : Array Value) (t : TypeId) : ((w.alloc o).alloc (.cells old t)).setRow (w.heap.size + 1) new = (w.alloc o).alloc (.cells new t) := by
 have h := setRow_new (w.alloc o) old new t
 have e : (w.alloc o).heap.size = w.heap.size + 1 := by simp
 rw [e] at h
 exact h
theorem cell_rule (w : World) (o : Obj) (k n : Nat) (h : rulesA[k]? = some (.func (.func n) #[] #[])) : ((w.alloc o).alloc (.cells rulesA 173)).cell? ⟨w.heap.size + 1, k, none⟩ = some (.func (.func n) #[] #[]) := by
 have g := heap_new2 w o (.cells rulesA 173)
 unfold World.cell?
 rw [g]
 exact h
set_option maxHeartbeats 400000 in
theorem rulesI (w : World) : Calls Tryz.prog 132 #[] w fun e w' => e = .returned (.agg rulesA) ∧ w' = w.alloc (.cells rulesA 173) := by
 go_enter Tryz.func132, Tryz.ntmps132
 go_wp2_with (refine wpList_store_row rfl 173 _ _ rfl w.heap.size rulesA rfl rfl 173 _ (heap_new _ _) (by kernel_rfl) rfl (by kernel_rfl) ?_)
 rw [setRow_new]
 exact bodyPost_ret (v := .agg rulesA) (results_cell_row Tryz.results132 _ _ w.heap.size 173 rulesA (0, 0) _ rfl (heap_new _ _) Tryz.underlying173 rfl (by kernel_rfl)) rfl ⟨rfl, rfl⟩
theorem two_new (w : World) (c d : Array Value) (s t : TypeId) : Below w.heap.size w ((w.alloc (.cells c s)).alloc (.cells d t)) ∧ Grown w ((w.alloc (.cells c s)).alloc (.cells d t)) :=
 ⟨((Below.refl _ _).alloc (Nat.le_refl _) _).alloc (by simp) _, ((Grown.refl _).alloc _ _).alloc _ _⟩
end Go.Proofs.YtoknhppjdmoblaaGreatDoor
