/- Folding an instruction: the model's two new instructions. -/
import Derived.Test.YtoknhppjdmoblaaGreatDoorFdNQ
namespace Go.Proofs.YtoknhppjdmoblaaGreatDoor
open Go.RowKit
set_option linter.unusedVariables false

/-- An instruction that was told, to be read only. -/
def InstGot (w : World) (base : Nat) (r : InstD) (e : Ending) : Prop := ∃ (ru : Option Addr) (rq : Nat), e = .returned (.agg #[.int .i64 r.op, .int .i64 r.w, .int .i64 r.a, .int .i64 r.b, .int .i64 r.c, .int .i64 r.imm, .slice ru r.args.length rq]) ∧ IntsAt w base ru r.args
theorem ints_nil {w : World} {base : Nat} {u : Option Addr} : IntsAt w base u [] := ⟨by simp, .inl rfl⟩
structure IBo9 (d : InstD) (u : Option Addr) (q : Nat) (w w1 : World) : Prop where
  c0 : w1.cell? ⟨w.heap.size, 0, none⟩ = some (.int .i64 d.op)
  c1 : w1.cell? ⟨w.heap.size, 1, none⟩ = some (.int .i64 d.w)
  c2 : w1.cell? ⟨w.heap.size, 2, none⟩ = some (.int .i64 d.a)
  c3 : w1.cell? ⟨w.heap.size, 3, none⟩ = some (.int .i64 d.b)
  c4 : w1.cell? ⟨w.heap.size, 4, none⟩ = some (.int .i64 d.c)
  c5 : w1.cell? ⟨w.heap.size, 5, none⟩ = some (.int .i64 d.imm)
  c6 : w1.cell? ⟨w.heap.size, 6, none⟩ = some (.slice u d.args.length q)
  below : Below w.heap.size w w1
  size : w.heap.size + 1 ≤ w1.heap.size
theorem IBo9.start {d : InstD} {u : Option Addr} {q : Nat} {w : World} {T : TypeId} : IBo9 d u q w (w.alloc (.cells #[.int .i64 d.op, .int .i64 d.w, .int .i64 d.a, .int .i64 d.b, .int .i64 d.c, .int .i64 d.imm, .slice u d.args.length q] T)) := by
  have hb := heap_alloc_last w (.cells #[.int .i64 d.op, .int .i64 d.w, .int .i64 d.a, .int .i64 d.b, .int .i64 d.c, .int .i64 d.imm, .slice u d.args.length q] T)
  exact ⟨(cell_of_heap hb).trans rfl, (cell_of_heap hb).trans rfl, (cell_of_heap hb).trans rfl, (cell_of_heap hb).trans rfl, (cell_of_heap hb).trans rfl, (cell_of_heap hb).trans rfl, (cell_of_heap hb).trans rfl, (Below.refl _ _).alloc (Nat.le_refl _) _, by simp⟩
theorem IBo9.keep {d : InstD} {u : Option Addr} {q : Nat} {w w1 w2 : World} (h : IBo9 d u q w w1) (k : Below (w.heap.size + 1) w1 w2) : IBo9 d u q w w2 := by
  have e : ∀ o, w2.cell? ⟨w.heap.size, o, none⟩ = w1.cell? ⟨w.heap.size, o, none⟩ := fun o => cell_block (k.block _ (by omega))
  exact ⟨(e 0).trans h.c0, (e 1).trans h.c1, (e 2).trans h.c2, (e 3).trans h.c3, (e 4).trans h.c4, (e 5).trans h.c5, (e 6).trans h.c6, h.below.trans (k.mono (by omega)), Nat.le_trans h.size k.size⟩
set_option maxHeartbeats 1000000 in
theorem copy9S (lo : Nat) (d : InstD) (u : Option Addr) (q : Nat) (w : World) (hm : d.args.length ≤ 1048576) (hk : IntsAt w lo u d.args) :
    Calls Tryz.prog 76 #[.agg #[.int .i64 d.op, .int .i64 d.w, .int .i64 d.a, .int .i64 d.b, .int .i64 d.c, .int .i64 d.imm, .slice u d.args.length q]] w fun e w' => InstGot w' w.heap.size d e ∧ Below w.heap.size w w' := by
  have hl : ∀ o p : Obj, ((w.alloc o).alloc p).heap[w.heap.size + 1]? = some p := fun o p => by
    rw [← show (w.alloc o).heap.size = w.heap.size + 1 from by simp]; exact heap_alloc_last _ _
  have B0 : IBo9 d u q w _ := IBo9.start (T := 29)
  go_enter Tryz.func76, Tryz.ntmps76
  go_wp2_with (go_at_call 109; refine (copyS_any lo _ _ _ _ hm (hk.keep ((agree_alloc _ _ _).trans (agree_alloc _ _ _)))).mono ?_; rintro e w1 ⟨v, c, rfl, hu, hb1⟩; have hcc := bcell hb1; have hff := bfroz hb1; have I1 := (B0.keep ((Below.refl _ _).alloc B0.size (.cells #[.int .i64 0, .int .i64 0, .int .i64 0, .int .i64 0, .int .i64 0, .int .i64 0, .slice none 0 0] 29))).keep (hb1.mono (by simp)); have y6 := I1.c6)
  have hB : Below w.heap.size w w1 := (((Below.refl w.heap.size w).alloc (Nat.le_refl _) _).alloc (by first | (simp; done) | (simp; omega)) _).trans (hb1.mono (by first | (simp; done) | (simp; omega)))
  have hu3 := hu.ints.low (lo' := w.heap.size + 2) (by first | (simp; done) | (simp; omega))
  have hr := (heap_set (o := 6) (v := .slice v d.args.length c) (heap_set (o := 5) (v := .int .i64 d.imm) (heap_set (o := 4) (v := .int .i64 d.c) (heap_set (o := 3) (v := .int .i64 d.b) (heap_set (o := 2) (v := .int .i64 d.a) (heap_set (o := 1) (v := .int .i64 d.w) (heap_set (o := 0) (v := .int .i64 d.op) (heap_other (g := w.heap.size + 1) (p := ⟨w.heap.size, 6, none⟩) (v := .slice v d.args.length c) (by simp) ((hb1.block (w.heap.size + 1) (by simp)).trans (hl _ _))))))))))
  refine bodyPost_ret (v := .agg #[.int .i64 d.op, .int .i64 d.w, .int .i64 d.a, .int .i64 d.b, .int .i64 d.c, .int .i64 d.imm, .slice v d.args.length c]) ((results_cell_row Tryz.results76 _ _ (w.heap.size + 1) 29 _ (0, 0) _ rfl hr Tryz.underlying29 rfl (by kernel_rfl)).trans (by rfl)) rfl ⟨⟨v, c, rfl, ?_⟩, ?_⟩
  · exact (hu3.keep (by repeat (first | refine Agree.trans ?_ (agree_setCell _ _ _ _ _ (by omega)) | exact Agree.refl _ _))).low (by omega)
  · exact (by repeat (first | refine Below.setCell ?_ (by dsimp only; omega) _ | exact hB))
set_option maxHeartbeats 1000000 in
theorem const9S (wd v : Int) (w : World) : Calls Tryz.prog 74 #[.int .i64 wd, .int .i64 v] w fun e w' => InstGot w' w.heap.size (constD wd v) e ∧ Below w.heap.size w w' := by
  go_enter Tryz.func74, Tryz.ntmps74
  go_wp2_with fail
  have hr := heap_alloc_last w (.cells #[.int .i64 21, .int .i64 wd, .int .i64 0, .int .i64 0, .int .i64 0, .int .i64 v, .slice none 0 0] 29)
  refine bodyPost_ret (v := .agg #[.int .i64 21, .int .i64 wd, .int .i64 0, .int .i64 0, .int .i64 0, .int .i64 v, .slice none 0 0]) ((results_cell_row Tryz.results74 _ _ (w.heap.size) 29 _ (0, 0) _ rfl hr Tryz.underlying29 rfl (by kernel_rfl)).trans (by rfl)) rfl ⟨⟨none, 0, rfl, ints_nil⟩, (Below.refl _ _).alloc (Nat.le_refl _) _⟩
set_option maxHeartbeats 1000000 in
theorem same9S (wd v : Int) (w : World) : Calls Tryz.prog 80 #[.int .i64 wd, .int .i64 v] w fun e w' => InstGot w' w.heap.size (copyD wd v) e ∧ Below w.heap.size w w' := by
  go_enter Tryz.func80, Tryz.ntmps80
  go_wp2_with fail
  have hr := heap_alloc_last w (.cells #[.int .i64 27, .int .i64 wd, .int .i64 v, .int .i64 0, .int .i64 0, .int .i64 0, .slice none 0 0] 29)
  refine bodyPost_ret (v := .agg #[.int .i64 27, .int .i64 wd, .int .i64 v, .int .i64 0, .int .i64 0, .int .i64 0, .slice none 0 0]) ((results_cell_row Tryz.results80 _ _ (w.heap.size) 29 _ (0, 0) _ rfl hr Tryz.underlying29 rfl (by kernel_rfl)).trans (by rfl)) rfl ⟨⟨none, 0, rfl, ints_nil⟩, (Below.refl _ _).alloc (Nat.le_refl _) _⟩
end Go.Proofs.YtoknhppjdmoblaaGreatDoor
