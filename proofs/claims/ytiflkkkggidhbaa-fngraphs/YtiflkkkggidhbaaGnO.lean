/- A function that grows over blocks: how far it is, each step in those words. -/
import Derived.Test.YtiflkkkggidhbaaGnN
namespace Go.Proofs.Ytiflkkkggidhbaa
open Go.RowKit Go.Deep
set_option linter.unusedVariables false

/-- So far, over blocks. -/
def Sb (base g G : Nat) (a0 : Option Addr) (len cap : Nat) (M : Tmap) (N : Nat) (S : GRec) (v : World) (j : Nat) (M' : Tmap) (S' : GRec) (w : World) : Prop := Gok base g G a0 len cap M' (N + j) S' w ∧ Kept S S' ∧ Mv g G M M' v w
variable {base g G len cap N j : Nat} {a0 : Option Addr} {M M' : Tmap} {S S' : GRec} {v w : World}
theorem Gok.sb (h : Gok base g G a0 len cap M N S v) : Sb base g G a0 len cap M N S v 0 M S v := ⟨h, Kept.refl _, Mv.refl _ _ _ _⟩
theorem Sb.cell0 (h : Sb base g G a0 len cap M N S v j M' S' w) : w.cell? ⟨G, 0, none⟩ = some (.pointer (some ⟨g, 0, none⟩)) := (gcell h.1.cells 0).1.trans rfl
theorem Sb.mono {i : Nat} (h : Sb base g G a0 len cap M N S v j M' S' w) (hj : j ≤ i) (hN : N + i ≤ 10000) : Sb base g G a0 len cap M N S v i M' S' w := ⟨h.1.mono (by omega) hN, h.2⟩
theorem Sb.below {w' : World} (h : Sb base g G a0 len cap M N S v j M' S' w) (k : Below w.heap.size w w') : Sb base g G a0 len cap M N S v j M' S' w' :=
  ⟨(h.1.below k).1, h.2.1, h.2.2.trans (h.1.below k).2.mv⟩
theorem Sb.read {w' : World} (h : Sb base g G a0 len cap M N S v j M' S' w) (hr : Rd g a0 len cap w') (k : w.grownBy w' (some g)) : Sb base g G a0 len cap M N S v j M' S' w' :=
  ⟨(h.1.read hr k).1, h.2.1, h.2.2.trans (h.1.read hr k).2.mv⟩
theorem ParW.mv {v' : World} (h : ParW M S v) (hS : Kept S S') (k : Mv g G M M' v v') : ParW M' S' v' := fun hn => by
  obtain ⟨s1, s2, s7, s8, s9, s10⟩ := hS
  rw [s8] at hn
  obtain ⟨gs, cs, ms, e1, e2, e3⟩ := h hn
  obtain ⟨f1, f2⟩ := k.hold gs _ _ e2 (.inr rfl)
  refine ⟨gs, cs, ms, by rw [s9, s8]; exact e1, f2, fun j hj => ?_⟩
  rw [s8] at hj
  obtain ⟨u, n, c, g1, g2, g3⟩ := e3 j hj
  refine ⟨u, n, c, (cell_blk f1).trans g1, g2, fun hp => ?_⟩
  obtain ⟨gp, mp, r1, r2, r3⟩ := g3 hp
  obtain ⟨t1, t2⟩ := k.hold gp _ _ r2 (.inl rfl)
  refine ⟨gp, mp, r1, t2, fun i hi => ?_⟩
  obtain ⟨x, x1, x2⟩ := r3 i hi
  exact ⟨x, (cell_blk t1).trans x1, x2⟩
theorem pick_sb (h : Sb base g G a0 len cap M N S v j M' S' w) (x : Int) (hx : x = 1 ∨ x = 8 ∨ x = 16 ∨ x = 32) (hN : N + j + 2 ≤ 10000) :
    Calls Try.prog 71 #[.pointer (some ⟨G, 0, none⟩), .int .i64 x] w fun e w' => ∃ n : Int, e = .returned (.int .i64 n) ∧ ∃ M2 S2, Sb base g G a0 len cap M N S v (j + 2) M2 S2 w' ∧ Same S' S2 ∧ Mov g G M' M2 w w' := by
  refine (pick_any base g G a0 len cap M' (N + j) S' x w h.1 hN hx).mono ?_
  rintro e w' ⟨n, rfl, M2, S2, H2, hS2, V2⟩
  exact ⟨n, rfl, M2, S2, ⟨H2, h.2.1.trans hS2.kept, h.2.2.trans V2.mv⟩, hS2, V2⟩
theorem put_sb (h : Sb base g G a0 len cap M N S v j M' S' w) (op iw a b c imm : Int) (hN : N + j + 2 ≤ 10000) :
    Calls Try.prog 69 #[.pointer (some ⟨G, 0, none⟩), .agg #[.int .i64 op, .int .i64 iw, .int .i64 a, .int .i64 b, .int .i64 c, .int .i64 imm, .slice none 0 0]] w fun e w' => ∃ n : Int, e = .returned (.int .i64 n) ∧ ∃ M2 S2, Sb base g G a0 len cap M N S v (j + 2) M2 S2 w' ∧ Same S' S2 ∧ Mov g G M' M2 w w' := by
  refine (put_any base g G a0 len cap M' (N + j) S' op iw a b c imm none 0 0 w h.1 hN ⟨none, 0, rfl, .inl rfl⟩ (by omega)).mono ?_
  rintro e w' ⟨n, rfl, M2, S2, H2, hS2, _, V2⟩
  exact ⟨n, rfl, M2, S2, ⟨H2, h.2.1.trans hS2.kept, h.2.2.trans V2.mv⟩, hS2, V2⟩
theorem phi_sb (h : Sb base g G a0 len cap M N S v j M' S' w) (x : Int) (u : Option Addr) (na q : Nat) (hav : SlN M' 2 (.slice u na q) na) (hna : na ≤ N + j) (hN : N + j + 2 ≤ 10000) :
    Calls Try.prog 74 #[.pointer (some ⟨G, 0, none⟩), .int .i64 x, .slice u na q] w fun e w' => ∃ n : Int, e = .returned (.int .i64 n) ∧ ∃ M2 S2, Sb base g G a0 len cap M N S v (j + 2) M2 S2 w' ∧ S2.bv = S'.bv ∧ S2.nb = S'.nb ∧ S2.nph = S'.nph + 1 ∧ Mv g G M' M2 w w' := by
  refine (phi_any base g G a0 len cap M' (N + j) S' x u na q w h.1 hN hav hna).mono ?_
  rintro e w' ⟨n, rfl, M2, S2, H2, ⟨s', hS2⟩, V2⟩
  refine ⟨n, rfl, M2, S2, ⟨H2, h.2.1.trans ?_, h.2.2.trans V2⟩, ?_, ?_, ?_, V2⟩
  · rw [hS2]; exact ⟨rfl, rfl, rfl, rfl, rfl, rfl⟩
  all_goals rw [hS2]
theorem close_sb (h : Sb base g G a0 len cap M N S v j M' S' w) (kd ta tx ty : Int) (hN : N + j + 1 ≤ 10000) :
    Calls Try.prog 73 #[.pointer (some ⟨G, 0, none⟩), .agg #[.int .i64 kd, .int .i64 ta, .int .i64 tx, .int .i64 ty]] w fun e w' => (∃ r, e = .returned r) ∧ ∃ M2 s', Sb base g G a0 len cap M N S v (j + 1) M2 (Closed S' s') w' ∧ Mv g G M' M2 w w' := by
  refine (close_any base g G a0 len cap M' (N + j) S' kd ta tx ty w h.1 hN).mono ?_
  rintro e w' ⟨hr, M2, s', H2, V2⟩
  exact ⟨hr, M2, s', ⟨H2, h.2.1.trans (closed_kept _ _), h.2.2.trans V2⟩, V2⟩
end Go.Proofs.Ytiflkkkggidhbaa
