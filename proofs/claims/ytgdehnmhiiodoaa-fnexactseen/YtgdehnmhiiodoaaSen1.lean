/- The copying function of results: a copy of the call's own. -/
import Derived.Test.YtgdehnmhiiodoaaSen
import Derived.Deep.RegionHeld2
namespace Go.Proofs.Ytgdehnmhiiodoaa
open Go.RowKit
set_option maxHeartbeats 2000000 in
theorem toRes_own (lo : Nat) (d : ResD) (u : Option Addr) (c : Nat) (w : World) (hs : d.out.length ≤ 1048576) (k : IntsAt w lo u d.out) :
    Calls Try.prog 6 #[resV d u c] w fun e w' => ∃ v q, e = .returned (resV d v q) ∧ OI w' w.heap.size v d.out ∧ Below w.heap.size w w' := by
  unfold resV
  go_enter Try.func6, Try.ntmps6
  go_wp2_with fail
  refine (toInts_own lo _ _ _ _ hs (k.keep (((agree_alloc _ _ _).trans (agree_alloc _ _ _)).trans (agree_alloc _ _ _)))).mono ?_
  rintro e w1 ⟨v, q, rfl, hu, hb1⟩
  have hcc := bcell hb1
  have hff := bfroz hb1
  have hB : Below w.heap.size w w1 := ((((Below.refl w.heap.size w).alloc (Nat.le_refl _) _).alloc (by first | (simp; done) | (simp; omega)) _).alloc (by first | (simp; done) | (simp; omega)) _).trans (hb1.mono (by first | (simp; done) | (simp; omega)))
  have hu3 := hu.low (lo' := w.heap.size + 3) (by first | (simp; done) | (simp; omega))
  have hz : w.heap.size + 3 ≤ w1.heap.size := by have := hb1.size; simp at this; omega
  have hm := (hb1.block (w.heap.size + 1) (by simp)).trans (heap_mid _ _ _ _)
  clear hb1
  go_wp2_with fail
  have hr := (heap_set (o := 4) (v := .int .i64 d.steps) (heap_set (o := 3) (v := .string d.mem) (heap_set (o := 2) (v := .slice v d.out.length q) (heap_set (o := 1) (v := .int .i64 d.value) (heap_set (o := 0) (v := .int .i64 d.code) (heap_other (g := w.heap.size + 1) (p := ⟨w.heap.size + 1 + 1, 4, none⟩) (v := .int .i64 d.steps) (by simp) (heap_other (g := w.heap.size + 1) (p := ⟨w.heap.size + 1 + 1, 3, none⟩) (v := .string d.mem) (by simp) (heap_other (g := w.heap.size + 1) (p := ⟨w.heap.size + 1 + 1, 2, none⟩) (v := .slice v d.out.length q) (by simp) hm))))))))
  refine bodyPost_ret (v := .agg #[.int .i64 d.code, .int .i64 d.value, .slice v d.out.length q, .string d.mem, .int .i64 d.steps]) ((results_cell_row Try.results6 _ _ (w.heap.size + 1) 26 _ (0, 0) _ rfl hr Try.underlying26 rfl (by kernel_rfl)).trans (by rfl)) rfl ⟨v, q, rfl, ?_, ?_⟩
  · exact (hu3.keep (by repeat (first | refine Agree.trans ?_ (agree_setCell _ _ _ _ _ (by omega)) | exact Agree.refl _ _))).low (by omega)
  · exact (by repeat (first | refine Below.setCell ?_ (by dsimp only; omega) _ | exact hB))
end Go.Proofs.Ytgdehnmhiiodoaa
