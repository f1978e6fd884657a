/- The draws of functions and ids. -/
import Derived.Test.YtiflkkkggidhbaaGnZ
import Derived.Laws.ResultCell
namespace Go.Proofs.Ytiflkkkggidhbaa
open Go.RowKit Go.Deep
set_option linter.unusedVariables false

theorem results_pair {P : Program} {fn : Func} {p u : Tmp} {ty : TypeId} (h : fn.results = #[.cell p ty, .tmp u]) (tmps : Array Value) (w : World) (g : Nat) (cs : Array Value)
    (hp : tmps.getD p undef = .pointer (some ⟨g, 0, none⟩)) (hl : (loadVar ty ⟨g, 0, none⟩).run P w = .ok (.agg cs) w) :
    (results fn tmps).run P w = .ok (.tuple #[.agg cs, tmps.getD u undef]) w := by
  have hp' : tmps[p]?.getD undef = .pointer (some ⟨g, 0, none⟩) := by simpa using hp
  rw [results_cell_tmp h]
  simp [hp', asAddr, hl, Result.andThen]
theorem field_mod (u : Option Addr) (n c : Nat) (w : World) : (Instr.field 55 (.agg #[.slice u n c]) 0).run Try.prog w = .ok (.slice u n c) w := by
  simp [Instr.field, go_sem, asAgg]
set_option maxHeartbeats 2000000 in
set_option maxRecDepth 100000 in
theorem drawTypeOf (a0 : Option Addr) (len cap : Nat) (w : World) (hl : len ≤ 1048576) (hc : Code a0 len w.heap.size w) :
    Calls Try.prog 28 #[.slice a0 len cap] w fun e w' => ∃ (d : FuncD) (up ub : Option Addr) (cp cb : Nat) (n : Int), e = .returned (.tuple #[.agg #[.slice up d.params.length cp, .int .i64 d.ret, .slice ub d.blocks.length cb], .int .i64 n]) ∧ -9223372036854775808 ≤ n ∧ n ≤ 9223372036854775807 ∧ SmFunc d ∧ 1 ≤ d.blocks.length ∧ IntsAt w' w.heap.size up d.params ∧ BlocksAt w' w.heap.size ub d.blocks ∧ Below w.heap.size w w' := by
  have hb0 : Below w.heap.size w (w.alloc (.cells #[.slice none 0 0, .int .i64 0, .slice none 0 0] 27)) := (Below.refl _ _).alloc (Nat.le_refl _) _
  have hrd := rd_open (cap := cap) hl (hc.below hb0)
  have PM := module_any _ a0 len cap _ hrd
  have hsz : (w.alloc (.cells #[.slice none 0 0, .int .i64 0, .slice none 0 0] 27)).heap.size = w.heap.size + 1 := by simp
  go_enter Try.func28, Try.ntmps28
  rw [hsz] at PM
  go_wp2_with (first | (go_at_call 32; refine (open_any _ _ _ _).mono ?_; rintro e w0 ⟨rfl, rfl⟩; simp only [hsz]) | (go_at_call 33; refine PM.mono ?_; rintro e w2 ⟨gm, n, cm, rfl, hn1, d, up, ub, cp, cb, r0, r1, r2, hsm, hone, hin, hbl, hrd2, hold, hs2, o1, o2, o3⟩; have hi0 : (0 : Int) < (n : Int) := (by omega); have hfld := field_mod (some ⟨gm, 0, none⟩) n cm w2))
  have hz2 : w.heap.size + 2 ≤ w2.heap.size := by have := hs2; simp at this; omega
  have hRb : w2.heap[w.heap.size]? = some (.cells #[.slice none 0 0, .int .i64 0, .slice none 0 0] 27 (0, 0)) := (hold w.heap.size (by simp; omega) (by omega)).trans (heap_alloc2_old _ _ _)
  have hW2 : ∀ b, b < w.heap.size → w2.heap[b]? = w.heap[b]? := fun b hb => (hold b (by simp; omega) (by omega)).trans ((Below.heap_alloc _ _ _ (by simp; omega)).trans (Below.heap_alloc _ _ _ hb))
  have hTR : w2.heap.size ≠ w.heap.size := by omega
  obtain ⟨wT, hwT⟩ : ∃ wT, wT = w2.alloc (.cells #[.slice up d.params.length cp, .int .i64 d.ret, .slice ub d.blocks.length cb] 27) := ⟨_, rfl⟩
  have hT : wT.heap[w2.heap.size]? = some (.cells #[.slice up d.params.length cp, .int .i64 d.ret, .slice ub d.blocks.length cb] 27 (0, 0)) := by rw [hwT]; exact heap_alloc_last _ _
  have hBT : Below w2.heap.size w2 wT := by rw [hwT]; exact (Below.refl _ _).alloc (Nat.le_refl _) _
  have hrdT : Rd (w.heap.size + 1) a0 len cap wT.drew := rd_keep hrd2 hBT.size fun b hb => hBT.block b (by omega)
  have hsT : wT.heap.size = w2.heap.size + 1 := by rw [hwT]; simp
  rw [← hwT]
  have d0 : wT.drew.cell? ⟨w2.heap.size, 0, none⟩ = some (.slice up d.params.length cp) := (cell_of_heap hT).trans rfl
  have d1 : wT.drew.cell? ⟨w2.heap.size, 1, none⟩ = some (.int .i64 d.ret) := (cell_of_heap hT).trans rfl
  have d2 : wT.drew.cell? ⟨w2.heap.size, 2, none⟩ = some (.slice ub d.blocks.length cb) := (cell_of_heap hT).trans rfl
  have hlo : (((w.alloc (.cells #[.slice none 0 0, .int .i64 0, .slice none 0 0] 27)).alloc (.cells #[.slice a0 len cap, .int .i64 0] 79))).heap.size = w.heap.size + 2 := by simp
  rw [hlo] at hin hbl
  have HI := hin.keep (agree_of_below hBT (w.heap.size + 2))
  have HB := hbl.keep (agree_of_below hBT (w.heap.size + 2))
  clear hwT PM hrd hfld r0 r1 r2 hin hbl
  go_region_held2 (fun w' => w'.cell? ⟨w2.heap.size, 0, none⟩ = some (.slice up d.params.length cp) ∧ w'.cell? ⟨w2.heap.size, 1, none⟩ = some (.int .i64 d.ret) ∧ w'.cell? ⟨w2.heap.size, 2, none⟩ = some (.slice ub d.blocks.length cb)) (first | with_reducible exact ⟨d0, d1, d2⟩ | with_reducible exact ⟨c0, c1, c2⟩ | with_reducible exact ⟨(cell_apart hTR).trans ((cell_apart hTR).trans ((cell_apart hTR).trans c0)), (cell_apart hTR).trans ((cell_apart hTR).trans ((cell_apart hTR).trans c1)), (cell_apart hTR).trans ((cell_apart hTR).trans ((cell_apart hTR).trans c2))⟩) ((go_at_call 34; refine (off_any (w.heap.size + 1) a0 len cap 0 20 _ (by exact hrdT) (by omega) (by omega) (by omega)).mono ?_; rintro e w4 ⟨n4, rfl, hn2, hn3, hr4, hg4⟩; have kT : w4.heap[w2.heap.size]? = _ := (hg4.block w2.heap.size (by show _ < wT.heap.size; omega) (by simp; omega)).trans hT; have kR : w4.heap[w.heap.size]? = _ := (hg4.block w.heap.size (by show _ < wT.heap.size; omega) (by simp)).trans ((hBT.block w.heap.size (by omega)).trans hRb); have c0 : w4.cell? ⟨w2.heap.size, 0, none⟩ = some (.slice up d.params.length cp) := (cell_of_heap kT).trans rfl; have c1 : w4.cell? ⟨w2.heap.size, 1, none⟩ = some (.int .i64 d.ret) := (cell_of_heap kT).trans rfl; have c2 : w4.cell? ⟨w2.heap.size, 2, none⟩ = some (.slice ub d.blocks.length cb) := (cell_of_heap kT).trans rfl; have m0 : w4.cell? ⟨w.heap.size, 0, none⟩ = some (.slice none 0 0) := (cell_of_heap kR).trans rfl; have m1 : w4.cell? ⟨w.heap.size, 1, none⟩ = some (.int .i64 0) := (cell_of_heap kR).trans rfl; have m2 : w4.cell? ⟨w.heap.size, 2, none⟩ = some (.slice none 0 0) := (cell_of_heap kR).trans rfl; have z0 : w4.frozen? ⟨w.heap.size, 0, none⟩ = false := (by simp [World.frozen?, kR]); have z1 : w4.frozen? ⟨w.heap.size, 1, none⟩ = false := (by simp [World.frozen?, kR]); have z2 : w4.frozen? ⟨w.heap.size, 2, none⟩ = false := (by simp [World.frozen?, kR])))
  all_goals
    have hr := heap_set (o := 2) (v := .slice ub d.blocks.length cb) (heap_set (o := 1) (v := .int .i64 d.ret) (heap_set (o := 0) (v := .slice up d.params.length cp) kR))
    go_wp2_with fail
    have hs4 : wT.heap.size ≤ w4.heap.size := hg4.size
    have hset : ∀ b, b ≠ w.heap.size → (((w4.setCell ⟨w.heap.size, 0, none⟩ (.slice up d.params.length cp)).setCell ⟨w.heap.size, 1, none⟩ (.int .i64 d.ret)).setCell ⟨w.heap.size, 2, none⟩ (.slice ub d.blocks.length cb)).heap[b]? = w4.heap[b]? := fun b hb => by rw [Below.heap_setCell _ _ _ _ hb, Below.heap_setCell _ _ _ _ hb, Below.heap_setCell _ _ _ _ hb]
    have hkeep : ∀ b, b < wT.heap.size → b ≠ w.heap.size → b ≠ w.heap.size + 1 → (((w4.setCell ⟨w.heap.size, 0, none⟩ (.slice up d.params.length cp)).setCell ⟨w.heap.size, 1, none⟩ (.int .i64 d.ret)).setCell ⟨w.heap.size, 2, none⟩ (.slice ub d.blocks.length cb)).heap[b]? = wT.heap[b]? := fun b h1 h2 h3 => (hset b h2).trans (hg4.block b h1 (by simpa using h3))
    have hag : Agree (w.heap.size + 2) wT (((w4.setCell ⟨w.heap.size, 0, none⟩ (.slice up d.params.length cp)).setCell ⟨w.heap.size, 1, none⟩ (.int .i64 d.ret)).setCell ⟨w.heap.size, 2, none⟩ (.slice ub d.blocks.length cb)) := ⟨by simp only [World.size_setCell]; exact hs4, fun b h1 h2 => hkeep b h2 (by omega) (by omega)⟩
    refine bodyPost_ret (v := .tuple #[.agg #[.slice up d.params.length cp, .int .i64 d.ret, .slice ub d.blocks.length cb], .int .i64 n4]) ((results_pair Try.results28 _ _ w.heap.size _ rfl (run_loadVar_row _ _ 27 _ _ (0, 0) _ hr Try.underlying27 rfl (by kernel_rfl))).trans (by rfl)) rfl ⟨d, up, ub, cp, cb, n4, rfl, hn2, hn3, hsm, hone, (HI.keep hag).low (by omega), (HB.keep hag).low (by omega), ?_⟩
    refine ⟨(set_os _ _ _).trans ((set_os _ _ _).trans ((set_os _ _ _).trans (hg4.os.trans (hBT.os.trans o1)))), (set_tape _ _ _).trans ((set_tape _ _ _).trans ((set_tape _ _ _).trans (hg4.tape.trans (hBT.tape.trans o2)))), (set_output _ _ _).trans ((set_output _ _ _).trans ((set_output _ _ _).trans (hg4.output.trans (hBT.output.trans o3)))), by simp only [World.size_setCell]; omega, fun b hb => ?_⟩
    exact (hkeep b (by omega) (by omega) (by omega)).trans ((hBT.block b (by omega)).trans (hW2 b hb))
set_option maxHeartbeats 1000000 in
theorem drawPlaceOf (a0 : Option Addr) (len cap : Nat) (w : World) (hl : len ≤ 1048576) (hc : Code a0 len w.heap.size w) :
    Calls Try.prog 7 #[.slice a0 len cap] w fun e w' => ∃ (d : FuncD) (up ub : Option Addr) (cp cb : Nat) (n : Int), e = .returned (.tuple #[.agg #[.slice up d.params.length cp, .int .i64 d.ret, .slice ub d.blocks.length cb], .int .i64 n]) ∧ -9223372036854775808 ≤ n ∧ n ≤ 9223372036854775807 ∧ SmFunc d ∧ 1 ≤ d.blocks.length ∧ IntsAt w' w.heap.size up d.params ∧ BlocksAt w' w.heap.size ub d.blocks ∧ Below w.heap.size w w' := by
  have hb0 : Below w.heap.size w (w.alloc (.cells #[.slice none 0 0, .int .i64 0, .slice none 0 0] 27)) := (Below.refl _ _).alloc (Nat.le_refl _) _
  have PD := drawTypeOf a0 len cap _ hl (hc.below hb0)
  go_enter Try.func7, Try.ntmps7
  go_wp2_with (first | (go_at_call 28; refine PD.mono ?_; rintro e w1 ⟨d, up, ub, cp, cb, n, rfl, hn1, hn2, hsm, hone, hin, hbl, hb1⟩; have hcc := bcell hb1; have hff := bfroz hb1))
  have hR : w1.heap[w.heap.size]? = some (.cells #[.slice none 0 0, .int .i64 0, .slice none 0 0] 27 (0, 0)) := (hb1.block w.heap.size (by simp)).trans (heap_alloc_last _ _)
  have hr := heap_set (o := 2) (v := .slice ub d.blocks.length cb) (heap_set (o := 1) (v := .int .i64 d.ret) (heap_set (o := 0) (v := .slice up d.params.length cp) hR))
  have hsz : (w.alloc (.cells #[.slice none 0 0, .int .i64 0, .slice none 0 0] 27)).heap.size = w.heap.size + 1 := by simp
  rw [hsz] at hin hbl
  have hset : ∀ b, b ≠ w.heap.size → (((w1.setCell ⟨w.heap.size, 0, none⟩ (.slice up d.params.length cp)).setCell ⟨w.heap.size, 1, none⟩ (.int .i64 d.ret)).setCell ⟨w.heap.size, 2, none⟩ (.slice ub d.blocks.length cb)).heap[b]? = w1.heap[b]? := fun b hb => by rw [Below.heap_setCell _ _ _ _ hb, Below.heap_setCell _ _ _ _ hb, Below.heap_setCell _ _ _ _ hb]
  have hag : Agree (w.heap.size + 1) w1 (((w1.setCell ⟨w.heap.size, 0, none⟩ (.slice up d.params.length cp)).setCell ⟨w.heap.size, 1, none⟩ (.int .i64 d.ret)).setCell ⟨w.heap.size, 2, none⟩ (.slice ub d.blocks.length cb)) := ⟨by simp only [World.size_setCell]; exact Nat.le_refl _, fun b h1 h2 => hset b (by omega)⟩
  have hB1 : Below w.heap.size w w1 := hb0.trans (hb1.mono (by omega))
  refine bodyPost_ret (v := .tuple #[.agg #[.slice up d.params.length cp, .int .i64 d.ret, .slice ub d.blocks.length cb], .int .i64 n]) ((results_pair Try.results7 _ _ w.heap.size _ rfl (run_loadVar_row _ _ 27 _ _ (0, 0) _ hr Try.underlying27 rfl (by kernel_rfl))).trans (by rfl)) rfl ⟨d, up, ub, cp, cb, n, rfl, hn1, hn2, hsm, hone, (hin.keep hag).low (by omega), (hbl.keep hag).low (by omega), ?_⟩
  exact ((hB1.setCell (Nat.le_refl _) _).setCell (Nat.le_refl _) _).setCell (Nat.le_refl _) _
end Go.Proofs.Ytiflkkkggidhbaa
namespace Go.Proofs.Ytiflkkkggidhbaa
open Go.RowKit Go.Deep
set_option linter.unusedVariables false

set_option maxHeartbeats 2000000 in
set_option maxRecDepth 100000 in
theorem drawSuccsOf (a0 : Option Addr) (len cap : Nat) (w : World) (hl : len ≤ 1048576) (hc : Code a0 len w.heap.size w) :
    Calls Try.prog 14 #[.slice a0 len cap] w fun e w' => ∃ (d : FuncD) (up ub : Option Addr) (cp cb : Nat) (n : Int), e = .returned (.tuple #[.agg #[.slice up d.params.length cp, .int .i64 d.ret, .slice ub d.blocks.length cb], .int .i64 n]) ∧ -9223372036854775808 ≤ n ∧ n ≤ 9223372036854775807 ∧ SmFunc d ∧ 1 ≤ d.blocks.length ∧ IntsAt w' w.heap.size up d.params ∧ BlocksAt w' w.heap.size ub d.blocks ∧ Below w.heap.size w w' := by
  have hb0 : Below w.heap.size w (w.alloc (.cells #[.slice none 0 0, .int .i64 0, .slice none 0 0] 27)) := (Below.refl _ _).alloc (Nat.le_refl _) _
  have hrd := rd_open (cap := cap) hl (hc.below hb0)
  have PM := module_any _ a0 len cap _ hrd
  have hsz : (w.alloc (.cells #[.slice none 0 0, .int .i64 0, .slice none 0 0] 27)).heap.size = w.heap.size + 1 := by simp
  go_enter Try.func14, Try.ntmps14
  rw [hsz] at PM
  go_wp2_with (first | (go_at_call 32; refine (open_any _ _ _ _).mono ?_; rintro e w0 ⟨rfl, rfl⟩; simp only [hsz]) | (go_at_call 33; refine PM.mono ?_; rintro e w2 ⟨gm, n, cm, rfl, hn1, d, up, ub, cp, cb, r0, r1, r2, hsm, hone, hin, hbl, hrd2, hold, hs2, o1, o2, o3⟩; have hi0 : (0 : Int) < (n : Int) := (by omega); have hfld := field_mod (some ⟨gm, 0, none⟩) n cm w2))
  have hz2 : w.heap.size + 2 ≤ w2.heap.size := by have := hs2; simp at this; omega
  have hRb : w2.heap[w.heap.size]? = some (.cells #[.slice none 0 0, .int .i64 0, .slice none 0 0] 27 (0, 0)) := (hold w.heap.size (by simp; omega) (by omega)).trans (heap_alloc2_old _ _ _)
  have hW2 : ∀ b, b < w.heap.size → w2.heap[b]? = w.heap[b]? := fun b hb => (hold b (by simp; omega) (by omega)).trans ((Below.heap_alloc _ _ _ (by simp; omega)).trans (Below.heap_alloc _ _ _ hb))
  have hTR : w2.heap.size ≠ w.heap.size := by omega
  obtain ⟨wT, hwT⟩ : ∃ wT, wT = w2.alloc (.cells #[.slice up d.params.length cp, .int .i64 d.ret, .slice ub d.blocks.length cb] 27) := ⟨_, rfl⟩
  have hT : wT.heap[w2.heap.size]? = some (.cells #[.slice up d.params.length cp, .int .i64 d.ret, .slice ub d.blocks.length cb] 27 (0, 0)) := by rw [hwT]; exact heap_alloc_last _ _
  have hBT : Below w2.heap.size w2 wT := by rw [hwT]; exact (Below.refl _ _).alloc (Nat.le_refl _) _
  have hrdT : Rd (w.heap.size + 1) a0 len cap wT.drew := rd_keep hrd2 hBT.size fun b hb => hBT.block b (by omega)
  have hsT : wT.heap.size = w2.heap.size + 1 := by rw [hwT]; simp
  rw [← hwT]
  have d0 : wT.drew.cell? ⟨w2.heap.size, 0, none⟩ = some (.slice up d.params.length cp) := (cell_of_heap hT).trans rfl
  have d1 : wT.drew.cell? ⟨w2.heap.size, 1, none⟩ = some (.int .i64 d.ret) := (cell_of_heap hT).trans rfl
  have d2 : wT.drew.cell? ⟨w2.heap.size, 2, none⟩ = some (.slice ub d.blocks.length cb) := (cell_of_heap hT).trans rfl
  have hlo : (((w.alloc (.cells #[.slice none 0 0, .int .i64 0, .slice none 0 0] 27)).alloc (.cells #[.slice a0 len cap, .int .i64 0] 79))).heap.size = w.heap.size + 2 := by simp
  rw [hlo] at hin hbl
  have HI := hin.keep (agree_of_below hBT (w.heap.size + 2))
  have HB := hbl.keep (agree_of_below hBT (w.heap.size + 2))
  have hbl2 := hsm.2.1
  have x1 : IntKind.i64.wrap ((d.blocks.length : Int) - 1) = (d.blocks.length : Int) - 1 := by rw [IntKind.wrap_i64]; omega
  clear hwT PM hrd hfld r0 r1 r2 hin hbl
  go_region_held2 (fun w' => w'.cell? ⟨w2.heap.size, 0, none⟩ = some (.slice up d.params.length cp) ∧ w'.cell? ⟨w2.heap.size, 1, none⟩ = some (.int .i64 d.ret) ∧ w'.cell? ⟨w2.heap.size, 2, none⟩ = some (.slice ub d.blocks.length cb)) (first | with_reducible exact ⟨d0, d1, d2⟩ | with_reducible exact ⟨c0, c1, c2⟩ | with_reducible exact ⟨(cell_apart hTR).trans ((cell_apart hTR).trans ((cell_apart hTR).trans c0)), (cell_apart hTR).trans ((cell_apart hTR).trans ((cell_apart hTR).trans c1)), (cell_apart hTR).trans ((cell_apart hTR).trans ((cell_apart hTR).trans c2))⟩) ((go_at_call 34; refine (off_any (w.heap.size + 1) a0 len cap 0 ((d.blocks.length : Int) - 1) _ (by exact hrdT) (by omega) (by omega) (by omega)).mono ?_; rintro e w4 ⟨n4, rfl, hn2, hn3, hr4, hg4⟩; have kT : w4.heap[w2.heap.size]? = _ := (hg4.block w2.heap.size (by show _ < wT.heap.size; omega) (by simp; omega)).trans hT; have kR : w4.heap[w.heap.size]? = _ := (hg4.block w.heap.size (by show _ < wT.heap.size; omega) (by simp)).trans ((hBT.block w.heap.size (by omega)).trans hRb); have c0 : w4.cell? ⟨w2.heap.size, 0, none⟩ = some (.slice up d.params.length cp) := (cell_of_heap kT).trans rfl; have c1 : w4.cell? ⟨w2.heap.size, 1, none⟩ = some (.int .i64 d.ret) := (cell_of_heap kT).trans rfl; have c2 : w4.cell? ⟨w2.heap.size, 2, none⟩ = some (.slice ub d.blocks.length cb) := (cell_of_heap kT).trans rfl; have m0 : w4.cell? ⟨w.heap.size, 0, none⟩ = some (.slice none 0 0) := (cell_of_heap kR).trans rfl; have m1 : w4.cell? ⟨w.heap.size, 1, none⟩ = some (.int .i64 0) := (cell_of_heap kR).trans rfl; have m2 : w4.cell? ⟨w.heap.size, 2, none⟩ = some (.slice none 0 0) := (cell_of_heap kR).trans rfl; have z0 : w4.frozen? ⟨w.heap.size, 0, none⟩ = false := (by simp [World.frozen?, kR]); have z1 : w4.frozen? ⟨w.heap.size, 1, none⟩ = false := (by simp [World.frozen?, kR]); have z2 : w4.frozen? ⟨w.heap.size, 2, none⟩ = false := (by simp [World.frozen?, kR])))
  all_goals
    have hr := heap_set (o := 2) (v := .slice ub d.blocks.length cb) (heap_set (o := 1) (v := .int .i64 d.ret) (heap_set (o := 0) (v := .slice up d.params.length cp) kR))
    go_wp2_with fail
    have hs4 : wT.heap.size ≤ w4.heap.size := hg4.size
    have hset : ∀ b, b ≠ w.heap.size → (((w4.setCell ⟨w.heap.size, 0, none⟩ (.slice up d.params.length cp)).setCell ⟨w.heap.size, 1, none⟩ (.int .i64 d.ret)).setCell ⟨w.heap.size, 2, none⟩ (.slice ub d.blocks.length cb)).heap[b]? = w4.heap[b]? := fun b hb => by rw [Below.heap_setCell _ _ _ _ hb, Below.heap_setCell _ _ _ _ hb, Below.heap_setCell _ _ _ _ hb]
    have hkeep : ∀ b, b < wT.heap.size → b ≠ w.heap.size → b ≠ w.heap.size + 1 → (((w4.setCell ⟨w.heap.size, 0, none⟩ (.slice up d.params.length cp)).setCell ⟨w.heap.size, 1, none⟩ (.int .i64 d.ret)).setCell ⟨w.heap.size, 2, none⟩ (.slice ub d.blocks.length cb)).heap[b]? = wT.heap[b]? := fun b h1 h2 h3 => (hset b h2).trans (hg4.block b h1 (by simpa using h3))
    have hag : Agree (w.heap.size + 2) wT (((w4.setCell ⟨w.heap.size, 0, none⟩ (.slice up d.params.length cp)).setCell ⟨w.heap.size, 1, none⟩ (.int .i64 d.ret)).setCell ⟨w.heap.size, 2, none⟩ (.slice ub d.blocks.length cb)) := ⟨by simp only [World.size_setCell]; exact hs4, fun b h1 h2 => hkeep b h2 (by omega) (by omega)⟩
    refine bodyPost_ret (v := .tuple #[.agg #[.slice up d.params.length cp, .int .i64 d.ret, .slice ub d.blocks.length cb], .int .i64 n4]) ((results_pair Try.results14 _ _ w.heap.size _ rfl (run_loadVar_row _ _ 27 _ _ (0, 0) _ hr Try.underlying27 rfl (by kernel_rfl))).trans (by rfl)) rfl ⟨d, up, ub, cp, cb, n4, rfl, hn2, hn3, hsm, hone, (HI.keep hag).low (by omega), (HB.keep hag).low (by omega), ?_⟩
    refine ⟨(set_os _ _ _).trans ((set_os _ _ _).trans ((set_os _ _ _).trans (hg4.os.trans (hBT.os.trans o1)))), (set_tape _ _ _).trans ((set_tape _ _ _).trans ((set_tape _ _ _).trans (hg4.tape.trans (hBT.tape.trans o2)))), (set_output _ _ _).trans ((set_output _ _ _).trans ((set_output _ _ _).trans (hg4.output.trans (hBT.output.trans o3)))), by simp only [World.size_setCell]; omega, fun b hb => ?_⟩
    exact (hkeep b (by omega) (by omega) (by omega)).trans ((hBT.block b (by omega)).trans (hW2 b hb))
end Go.Proofs.Ytiflkkkggidhbaa
