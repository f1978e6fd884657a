/- Instructions of a machine: what one uses; the contracts of the program. -/
import Derived.Test.YtpmanjkaiknlhaaDoorPgD
import Derived.Test.YtpmanjkaiknlhaaDoorTo1
import Derived.BigRegion
import Derived.Laws.Rows
import Derived.Laws.ResultCell
namespace Go.Proofs.YtpmanjkaiknlhaaDoor
open Go.RowKit
set_option linter.unusedVariables false
set_option linter.unusedSimpArgs false

set_option maxHeartbeats 4000000 in
set_option maxRecDepth 100000 in
theorem usedI_23  (w0 d a b c imm : Int) (w : World) : Calls Tryd.prog 58 #[.agg #[.int .i64 23, .int .i64 w0, .int .i64 d, .int .i64 a, .int .i64 b, .int .i64 c, .int .i64 imm]] w fun e w' => e = .returned (usedV ⟨23, w0, d, a, b, c, imm⟩) ∧ Below w.heap.size w w' := by
  have b1 : opB 23 = false := rfl
  have b2 : castOpB 23 = false := rfl
  have EV : Hid (Value.tuple #[.agg #[.int .i64 23, .int .i64 w0, .int .i64 d, .int .i64 a, .int .i64 0, .int .i64 0, .int .i64 0], .bool true] = usedV ⟨23, w0, d, a, b, c, imm⟩) := by show _ = _; simp_all [usedV, usedD, okU, mins0]
  go_enter Tryd.func58, Tryd.ntmps58
  go_wp2_with (first | (go_at_call 62; refine (opI _ _).mono ?_; rintro e w' ⟨rfl, rfl⟩) | (go_at_call 59; refine (castOpI _ _).mono ?_; rintro e w' ⟨rfl, rfl⟩))
  go_region
  go_wp2_with fail
  refine bodyPost_ret (v := .tuple #[.agg #[.int .i64 23, .int .i64 w0, .int .i64 d, .int .i64 a, .int .i64 0, .int .i64 0, .int .i64 0], .bool true]) ((resPair Tryd.results58 _ _ (w.heap.size + 1) _ rfl (run_loadVar_row _ _ 38 _ _ (0, 0) _ (heap_midD _ _ _ _) Tryd.underlying38 rfl (by kernel_rfl))).trans (by rfl)) rfl ⟨by rw [EV.out], ?_⟩
  first | exact ((((Below.refl w.heap.size w).alloc (Nat.le_refl _) _).alloc (by first | (simp; done) | (simp; omega)) _).alloc (by first | (simp; done) | (simp; omega)) _).drew | exact ((((Below.refl w.heap.size w).alloc (Nat.le_refl _) _).alloc (by first | (simp; done) | (simp; omega)) _).alloc (by first | (simp; done) | (simp; omega)) _)
set_option maxHeartbeats 4000000 in
set_option maxRecDepth 100000 in
theorem usedI_35  (w0 d a b c imm : Int) (w : World) : Calls Tryd.prog 58 #[.agg #[.int .i64 35, .int .i64 w0, .int .i64 d, .int .i64 a, .int .i64 b, .int .i64 c, .int .i64 imm]] w fun e w' => e = .returned (usedV ⟨35, w0, d, a, b, c, imm⟩) ∧ Below w.heap.size w w' := by
  have b1 : opB 35 = false := rfl
  have b2 : castOpB 35 = false := rfl
  have EV : Hid (Value.tuple #[.agg #[.int .i64 35, .int .i64 w0, .int .i64 d, .int .i64 a, .int .i64 0, .int .i64 0, .int .i64 0], .bool true] = usedV ⟨35, w0, d, a, b, c, imm⟩) := by show _ = _; simp_all [usedV, usedD, okU, mins0]
  go_enter Tryd.func58, Tryd.ntmps58
  go_wp2_with (first | (go_at_call 62; refine (opI _ _).mono ?_; rintro e w' ⟨rfl, rfl⟩) | (go_at_call 59; refine (castOpI _ _).mono ?_; rintro e w' ⟨rfl, rfl⟩))
  go_region
  go_wp2_with fail
  refine bodyPost_ret (v := .tuple #[.agg #[.int .i64 35, .int .i64 w0, .int .i64 d, .int .i64 a, .int .i64 0, .int .i64 0, .int .i64 0], .bool true]) ((resPair Tryd.results58 _ _ (w.heap.size + 1) _ rfl (run_loadVar_row _ _ 38 _ _ (0, 0) _ (heap_midD _ _ _ _) Tryd.underlying38 rfl (by kernel_rfl))).trans (by rfl)) rfl ⟨by rw [EV.out], ?_⟩
  first | exact ((((Below.refl w.heap.size w).alloc (Nat.le_refl _) _).alloc (by first | (simp; done) | (simp; omega)) _).alloc (by first | (simp; done) | (simp; omega)) _).drew | exact ((((Below.refl w.heap.size w).alloc (Nat.le_refl _) _).alloc (by first | (simp; done) | (simp; omega)) _).alloc (by first | (simp; done) | (simp; omega)) _)
set_option maxHeartbeats 4000000 in
set_option maxRecDepth 100000 in
theorem usedI_32  (w0 d a b c imm : Int) (w : World) : Calls Tryd.prog 58 #[.agg #[.int .i64 32, .int .i64 w0, .int .i64 d, .int .i64 a, .int .i64 b, .int .i64 c, .int .i64 imm]] w fun e w' => e = .returned (usedV ⟨32, w0, d, a, b, c, imm⟩) ∧ Below w.heap.size w w' := by
  have b1 : opB 32 = false := rfl
  have b2 : castOpB 32 = false := rfl
  have EV : Hid (Value.tuple #[.agg #[.int .i64 32, .int .i64 0, .int .i64 0, .int .i64 a, .int .i64 0, .int .i64 0, .int .i64 imm], .bool true] = usedV ⟨32, w0, d, a, b, c, imm⟩) := by show _ = _; simp_all [usedV, usedD, okU, mins0]
  go_enter Tryd.func58, Tryd.ntmps58
  go_wp2_with (first | (go_at_call 62; refine (opI _ _).mono ?_; rintro e w' ⟨rfl, rfl⟩) | (go_at_call 59; refine (castOpI _ _).mono ?_; rintro e w' ⟨rfl, rfl⟩))
  go_region
  go_wp2_with fail
  refine bodyPost_ret (v := .tuple #[.agg #[.int .i64 32, .int .i64 0, .int .i64 0, .int .i64 a, .int .i64 0, .int .i64 0, .int .i64 imm], .bool true]) ((resPair Tryd.results58 _ _ (w.heap.size + 1) _ rfl (run_loadVar_row _ _ 38 _ _ (0, 0) _ (heap_midD _ _ _ _) Tryd.underlying38 rfl (by kernel_rfl))).trans (by rfl)) rfl ⟨by rw [EV.out], ?_⟩
  first | exact ((((Below.refl w.heap.size w).alloc (Nat.le_refl _) _).alloc (by first | (simp; done) | (simp; omega)) _).alloc (by first | (simp; done) | (simp; omega)) _).drew | exact ((((Below.refl w.heap.size w).alloc (Nat.le_refl _) _).alloc (by first | (simp; done) | (simp; omega)) _).alloc (by first | (simp; done) | (simp; omega)) _)
set_option maxHeartbeats 4000000 in
set_option maxRecDepth 100000 in
theorem usedI_33  (w0 d a b c imm : Int) (w : World) : Calls Tryd.prog 58 #[.agg #[.int .i64 33, .int .i64 w0, .int .i64 d, .int .i64 a, .int .i64 b, .int .i64 c, .int .i64 imm]] w fun e w' => e = .returned (usedV ⟨33, w0, d, a, b, c, imm⟩) ∧ Below w.heap.size w w' := by
  have b1 : opB 33 = false := rfl
  have b2 : castOpB 33 = false := rfl
  have EV : Hid (Value.tuple #[.agg #[.int .i64 33, .int .i64 w0, .int .i64 0, .int .i64 a, .int .i64 0, .int .i64 0, .int .i64 0], .bool true] = usedV ⟨33, w0, d, a, b, c, imm⟩) := by show _ = _; simp_all [usedV, usedD, okU, mins0]
  go_enter Tryd.func58, Tryd.ntmps58
  go_wp2_with (first | (go_at_call 62; refine (opI _ _).mono ?_; rintro e w' ⟨rfl, rfl⟩) | (go_at_call 59; refine (castOpI _ _).mono ?_; rintro e w' ⟨rfl, rfl⟩))
  go_region
  go_wp2_with fail
  refine bodyPost_ret (v := .tuple #[.agg #[.int .i64 33, .int .i64 w0, .int .i64 0, .int .i64 a, .int .i64 0, .int .i64 0, .int .i64 0], .bool true]) ((resPair Tryd.results58 _ _ (w.heap.size + 1) _ rfl (run_loadVar_row _ _ 38 _ _ (0, 0) _ (heap_midD _ _ _ _) Tryd.underlying38 rfl (by kernel_rfl))).trans (by rfl)) rfl ⟨by rw [EV.out], ?_⟩
  first | exact ((((Below.refl w.heap.size w).alloc (Nat.le_refl _) _).alloc (by first | (simp; done) | (simp; omega)) _).alloc (by first | (simp; done) | (simp; omega)) _).drew | exact ((((Below.refl w.heap.size w).alloc (Nat.le_refl _) _).alloc (by first | (simp; done) | (simp; omega)) _).alloc (by first | (simp; done) | (simp; omega)) _)
set_option maxHeartbeats 4000000 in
set_option maxRecDepth 100000 in
theorem usedI_34  (w0 d a b c imm : Int) (w : World) : Calls Tryd.prog 58 #[.agg #[.int .i64 34, .int .i64 w0, .int .i64 d, .int .i64 a, .int .i64 b, .int .i64 c, .int .i64 imm]] w fun e w' => e = .returned (usedV ⟨34, w0, d, a, b, c, imm⟩) ∧ Below w.heap.size w w' := by
  have b1 : opB 34 = false := rfl
  have b2 : castOpB 34 = false := rfl
  have EV : Hid (Value.tuple #[.agg #[.int .i64 34, .int .i64 0, .int .i64 0, .int .i64 0, .int .i64 0, .int .i64 0, .int .i64 0], .bool true] = usedV ⟨34, w0, d, a, b, c, imm⟩) := by show _ = _; simp_all [usedV, usedD, okU, mins0]
  go_enter Tryd.func58, Tryd.ntmps58
  go_wp2_with (first | (go_at_call 62; refine (opI _ _).mono ?_; rintro e w' ⟨rfl, rfl⟩) | (go_at_call 59; refine (castOpI _ _).mono ?_; rintro e w' ⟨rfl, rfl⟩))
  refine bodyPost_ret (v := .tuple #[.agg #[.int .i64 34, .int .i64 0, .int .i64 0, .int .i64 0, .int .i64 0, .int .i64 0, .int .i64 0], .bool true]) ((resPair Tryd.results58 _ _ (w.heap.size + 1) _ rfl (run_loadVar_row _ _ 38 _ _ (0, 0) _ (heap_mid _ _ _ _) Tryd.underlying38 rfl (by kernel_rfl))).trans (by rfl)) rfl ⟨by rw [EV.out], ?_⟩
  first | exact ((((Below.refl w.heap.size w).alloc (Nat.le_refl _) _).alloc (by first | (simp; done) | (simp; omega)) _).alloc (by first | (simp; done) | (simp; omega)) _).drew | exact ((((Below.refl w.heap.size w).alloc (Nat.le_refl _) _).alloc (by first | (simp; done) | (simp; omega)) _).alloc (by first | (simp; done) | (simp; omega)) _)
end Go.Proofs.YtpmanjkaiknlhaaDoor
