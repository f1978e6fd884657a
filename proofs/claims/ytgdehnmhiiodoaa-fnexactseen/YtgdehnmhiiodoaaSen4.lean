/- What is seen of a run: the model's side. -/
import Derived.Test.YtgdehnmhiiodoaaSen3
import Derived.Deep.RegionHeld2
import Derived.Deep.AppendLies
namespace Go.Proofs.Ytgdehnmhiiodoaa
open Go.RowKit
theorem own_oi {w : World} {lo : Nat} {a : Option Addr} {l : List Int} (h : OwnAt w lo a l) : OI w lo a l := h
theorem seen_ends {w w1 : World} {d : ResD} {v : Option Addr} {q : Nat} {u : Option Addr} {c : Nat} (hx : Boxed d u c w w1) (ho : OI w1 (w.heap.size + 2) v d.out) : (((((w1.setCell ⟨w.heap.size + 1, 0, none⟩ (.int .i64 d.code)).setCell ⟨w.heap.size + 1, 1, none⟩ (.int .i64 d.value)).setCell ⟨w.heap.size + 1, 2, none⟩ (.slice v d.out.length q)).setCell ⟨w.heap.size + 1, 3, none⟩ (.string d.mem)).setCell ⟨w.heap.size + 1, 4, none⟩ (.int .i64 0)).heap[w.heap.size + 1]? = some (.cells #[.int .i64 d.code, .int .i64 d.value, .slice v d.out.length q, .string d.mem, .int .i64 0] 26 (0, 0)) ∧ OI (((((w1.setCell ⟨w.heap.size + 1, 0, none⟩ (.int .i64 d.code)).setCell ⟨w.heap.size + 1, 1, none⟩ (.int .i64 d.value)).setCell ⟨w.heap.size + 1, 2, none⟩ (.slice v d.out.length q)).setCell ⟨w.heap.size + 1, 3, none⟩ (.string d.mem)).setCell ⟨w.heap.size + 1, 4, none⟩ (.int .i64 0)) w.heap.size v d.out ∧ Below w.heap.size w (((((w1.setCell ⟨w.heap.size + 1, 0, none⟩ (.int .i64 d.code)).setCell ⟨w.heap.size + 1, 1, none⟩ (.int .i64 d.value)).setCell ⟨w.heap.size + 1, 2, none⟩ (.slice v d.out.length q)).setCell ⟨w.heap.size + 1, 3, none⟩ (.string d.mem)).setCell ⟨w.heap.size + 1, 4, none⟩ (.int .i64 0)) := by
  refine ⟨heap_set (heap_set (heap_set (heap_set (heap_set hx.last)))), ?_, ?_⟩
  · exact (ho.keep (((((agree_setCell _ _ _ _ _ (by omega)).trans (agree_setCell _ _ _ _ _ (by omega))).trans (agree_setCell _ _ _ _ _ (by omega))).trans (agree_setCell _ _ _ _ _ (by omega))).trans (agree_setCell _ _ _ _ _ (by omega)))).low (by omega)
  · exact ((((hx.below.setCell (by dsimp only; omega) _).setCell (by dsimp only; omega) _).setCell (by dsimp only; omega) _).setCell (by dsimp only; omega) _).setCell (by dsimp only; omega) _
set_option maxHeartbeats 400000 in
theorem seenS (lo : Nat) (d : ResD) (u : Option Addr) (c : Nat) (w : World) (hs : d.out.length ≤ 1048576) (k : IntsAt w lo u d.out) :
    Calls Try.prog 5 #[resV d u c] w fun e w' => ∃ v q, e = .returned (resV (seenD d) v q) ∧ OI w' w.heap.size v d.out ∧ Below w.heap.size w w' := by
  have K := ints_boxes (c := c) k
  have HX := boxes_at d u c w
  unfold resV seenD
  go_enter Try.func5, Try.ntmps5
  go_wp2_with fail
  change Code.wp _ _ _ _ (boxes0 d u c w)
  generalize boxes0 d u c w = W at K HX ⊢
  clear k
  have a0 := (HX.keep (Below.refl _ _).drew).a0
  have a1 := (HX.keep (Below.refl _ _).drew).a1
  have a2 := (HX.keep (Below.refl _ _).drew).a2
  have a3 := (HX.keep (Below.refl _ _).drew).a3
  go_region_held2 (fun w' => w'.cell? ⟨w.heap.size, 0, none⟩ = some (.int .i64 d.code) ∧ w'.cell? ⟨w.heap.size, 1, none⟩ = some (.int .i64 d.value) ∧ w'.cell? ⟨w.heap.size, 2, none⟩ = some (.slice u d.out.length c) ∧ w'.cell? ⟨w.heap.size, 3, none⟩ = some (.string d.mem)) (first | with_reducible exact ⟨a0, a1, a2, a3⟩ | with_reducible exact ⟨c0, c1, c2, c3⟩ | with_reducible exact ⟨cell_far (Nat.lt_succ_self _) (cell_far (Nat.lt_succ_self _) (cell_far (Nat.lt_succ_self _) (cell_far (Nat.lt_succ_self _) (cell_far (Nat.lt_succ_self _) c0)))), cell_far (Nat.lt_succ_self _) (cell_far (Nat.lt_succ_self _) (cell_far (Nat.lt_succ_self _) (cell_far (Nat.lt_succ_self _) (cell_far (Nat.lt_succ_self _) c1)))), cell_far (Nat.lt_succ_self _) (cell_far (Nat.lt_succ_self _) (cell_far (Nat.lt_succ_self _) (cell_far (Nat.lt_succ_self _) (cell_far (Nat.lt_succ_self _) c2)))), cell_far (Nat.lt_succ_self _) (cell_far (Nat.lt_succ_self _) (cell_far (Nat.lt_succ_self _) (cell_far (Nat.lt_succ_self _) (cell_far (Nat.lt_succ_self _) c3))))⟩) ((go_at_call 12; refine (copyS_any lo _ _ _ _ hs (by exact K)).mono ?_; rintro e w1 ⟨v, q, rfl, ho, hb1⟩; have hx := HX.keep (below_drew hb1); have ho := (own_oi ho).low HX.size; have c0 := hx.a0; have c1 := hx.a1; have c2 := hx.a2; have c3 := hx.a3; obtain ⟨⟨m0, f0⟩, ⟨m1, f1⟩, ⟨m2, f2⟩, ⟨m3, f3⟩, m4, f4⟩ := hx.told; clear hb1))
  all_goals
    obtain ⟨hr, ho2, hB⟩ := seen_ends (q := q) hx ho
    clear m0 f0 m1 f1 m2 f2 m3 f3 m4 f4
    go_wp2_with fail
    exact bodyPost_ret (v := .agg #[.int .i64 d.code, .int .i64 d.value, .slice v d.out.length q, .string d.mem, .int .i64 0]) ((results_cell_row Try.results5 _ _ (w.heap.size + 1) 26 _ (0, 0) _ rfl hr Try.underlying26 rfl (by kernel_rfl)).trans (by rfl)) rfl ⟨v, q, rfl, ho2, hB⟩
end Go.Proofs.Ytgdehnmhiiodoaa
