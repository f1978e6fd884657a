/- A function that grows: its end. -/
import Derived.Test.YtiflkkkggidhbaaGnM
namespace Go.Proofs.Ytiflkkkggidhbaa
open Go.RowKit Go.Deep
set_option linter.unusedVariables false

/-- What no step turns. -/
def Kept (S S' : GRec) : Prop := S'.pv = S.pv ∧ S'.np = S.np ∧ S'.rv = S.rv ∧ S'.nr = S.nr ∧ S'.sv = S.sv ∧ S'.ret = S.ret
theorem Kept.refl (S : GRec) : Kept S S := ⟨rfl, rfl, rfl, rfl, rfl, rfl⟩
theorem Kept.trans {A B C : GRec} (h : Kept A B) (k : Kept B C) : Kept A C := ⟨k.1.trans h.1, k.2.1.trans h.2.1, k.2.2.1.trans h.2.2.1, k.2.2.2.1.trans h.2.2.2.1, k.2.2.2.2.1.trans h.2.2.2.2.1, k.2.2.2.2.2.trans h.2.2.2.2.2⟩
theorem Same.kept {S S' : GRec} (h : Same S S') : Kept S S' := ⟨h.1, h.2.1, h.2.2.2.2.2.2.1, h.2.2.2.2.2.2.2.1, h.2.2.2.2.2.2.2.2.1, h.2.2.2.2.2.2.2.2.2⟩
theorem closed_kept (S : GRec) (s' : Value) : Kept S (Closed S s') := ⟨rfl, rfl, rfl, rfl, rfl, rfl⟩
set_option maxHeartbeats 1000000 in
set_option maxRecDepth 100000 in
theorem ends_any (base g G : Nat) (a0 : Option Addr) (len cap : Nat) (M : Tmap) (N : Nat) (S : GRec) (v : World) (h : Gok base g G a0 len cap M N S v) (hN : N + 3 ≤ 10000) (hw : S.ret = 1 ∨ S.ret = 8 ∨ S.ret = 16 ∨ S.ret = 32) :
    Calls Try.prog 67 #[.pointer (some ⟨G, 0, none⟩)] v fun e v' => (∃ r, e = .returned r) ∧ ∃ M' S', Gok base g G a0 len cap M' (N + 3) S' v' ∧ Kept S S' ∧ Mv g G M M' v v' ∧ 1 ≤ S'.nb := by
  have c0 : v.cell? ⟨G, 0, none⟩ = some (.pointer (some ⟨g, 0, none⟩)) := (gcell h.cells 0).1.trans rfl
  go_enter Try.func67, Try.ntmps67
  go_wp2_with (first | (go_at_call 42; refine (once_any g a0 len cap _ _ h.rd (by omega)).mono ?_; rintro e w1 ⟨bb, rfl, hr1, hg1⟩; obtain ⟨H1, V1⟩ := h.read hr1 hg1; have d2 : w1.cell? ⟨G, 2, none⟩ = some (.int .i64 S.ret) := (gcell H1.cells 2).1.trans rfl; clear hr1 hg1) | (go_at_call 71; refine (pick_any base g G a0 len cap M N S S.ret w1 H1 (by omega) hw).mono ?_; rintro e w2 ⟨n2, rfl, M2, S2, H2, hS2, V2⟩) | (go_at_call 73; refine (close_any base g G a0 len cap _ _ _ _ _ _ _ _ H2 (by omega)).mono ?_; rintro e w3 ⟨⟨r, rfl⟩, M3, s3, H3, V3⟩) | (go_at_call 73; refine (close_any base g G a0 len cap _ _ _ _ _ _ _ _ H1 (by omega)).mono ?_; rintro e w3 ⟨⟨r, rfl⟩, M3, s3, H3, V3⟩))
  all_goals first
    | exact bodyPost_end (results_none Try.results67 _ _ _) rfl ⟨⟨_, rfl⟩, M3, _, H3.mono (by omega) hN, hS2.kept.trans (closed_kept _ _), (V1.mv.trans V2.mv).trans V3, Nat.le_add_left 1 _⟩
    | exact bodyPost_ret (results_none Try.results67 _ _ _) rfl ⟨⟨_, rfl⟩, M3, _, H3.mono (by omega) hN, closed_kept _ _, V1.mv.trans V3, Nat.le_add_left 1 _⟩
end Go.Proofs.Ytiflkkkggidhbaa
