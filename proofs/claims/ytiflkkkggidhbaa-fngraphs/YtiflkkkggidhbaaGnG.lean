/- A function that grows: a list that becomes one of its own; what stands ahead takes widths. -/
import Derived.Test.YtiflkkkggidhbaaGnF
namespace Go.Proofs.Ytiflkkkggidhbaa
open Go.RowKit Go.Deep
set_option linter.unusedVariables false

theorem el_int {M : Tmap} {N : Nat} {z : Int} {c : Nat → Option Value} (h : c 0 = some (.int .i64 z)) : ElOk M N 2 c :=
  ⟨fun _ => ⟨z, h⟩, fun q => absurd q (by decide), fun q => absurd q (by decide), fun q => absurd q (by decide), fun q => absurd q (by decide)⟩
/-- A list of numbers that stands by itself becomes one of the function's. -/
theorem Gok.adopted {base g G len cap N b n : Nat} {a0 : Option Addr} {M : Tmap} {S : GRec} {v : World} {cur : Array Value} (h : Gok base g G a0 len cap M N S v) (hb : base ≤ b) (hbG : b ≠ G) (hM : M b = none) (hc : v.heap[b]? = some (.cells cur 2 (0, 0))) (he : ∀ i, i < n → ∃ z : Int, cur[i]? = some (.int .i64 z)) :
    Gok base g G a0 len cap (put M b 2 n) N S v ∧ Ext M (put M b 2 n) ∧ SlN (put M b 2 n) 2 (.slice (some ⟨b, 0, none⟩) n n) n := by
  have hext : Ext M (put M b 2 n) := put_ext (.inl hM)
  have hrow : ∀ {T : TypeId} {s : Value} {k : Nat}, Row base M T s k v → Row base (put M b 2 n) T s k v := fun {T s k} r => by
    rcases r with r | ⟨q, c, cu, hv, hq, hq2, hr⟩
    · exact .inl r
    · refine .inr ⟨q, c, cu, hv, hq, ?_, hr⟩
      have hqb : q ≠ b := fun e => by rw [e, hM] at hq2; cases hq2
      simp [put, hqb, hq2]
  have hth : TH base (put M b 2 n) N v := h.th.put (Nat.le_refl _) hb (.inl hM) hc (fun _ _ _ => rfl) fun i hi => by
    obtain ⟨z, hz⟩ := he i hi
    exact el_int (z := z) (by simpa [szT] using hz)
  refine ⟨⟨h.rd, h.gb, h.bv, by simp [put, Ne.symm hbG, h.mG], h.nG, h.cells, hth, hrow h.p, hrow h.b, hrow h.ph, hrow h.i, ?_, h.rets.ext hext, h.pars.ext hext, h.bn⟩, hext, ⟨_, n, rfl, .inr ⟨b, n, rfl, by simp [put], Nat.le_refl _⟩⟩⟩
  rcases h.ids with e | ⟨e1, e2, e3⟩
  · exact .inl e
  · exact .inr ⟨e1, e2.ext hext, e3.ext hext⟩
/-- What stands ahead: the parameters' widths of each function. -/
def ParW (M : Tmap) (S : GRec) (v : World) : Prop := 0 < S.nr → ∃ gs cs ms, S.sv = .slice (some ⟨gs, 0, none⟩) S.nr cs ∧ M gs = some (24, ms) ∧ ∀ k, k < S.nr → ∃ u n c, v.cell? ⟨gs, k, none⟩ = some (.slice u n c) ∧ n ≤ 2 ∧ (0 < n → ∃ gp mp, u = some ⟨gp, 0, none⟩ ∧ M gp = some (2, mp) ∧ ∀ i, i < n → ∃ x : Int, v.cell? ⟨gp, i, none⟩ = some (.int .i64 x) ∧ (x = 1 ∨ x = 8 ∨ x = 16 ∨ x = 32))
theorem ParW.mov {g G : Nat} {M M' : Tmap} {S S' : GRec} {v v' : World} (h : ParW M S v) (hS : Same S S') (k : Mov g G M M' v v') : ParW M' S' v' := fun hn => by
  obtain ⟨s1, s2, s3, s4, s5, s6, s7, s8, s9, s10⟩ := hS
  rw [s8] at hn
  obtain ⟨gs, cs, ms, e1, e2, e3⟩ := h hn
  obtain ⟨f1, f2⟩ := k.hold gs _ _ e2 (by decide)
  refine ⟨gs, cs, ms, by rw [s9, s8]; exact e1, f2, fun j hj => ?_⟩
  rw [s8] at hj
  obtain ⟨u, n, c, g1, g2, g3⟩ := e3 j hj
  refine ⟨u, n, c, (cell_blk f1).trans g1, g2, fun hp => ?_⟩
  obtain ⟨gp, mp, r1, r2, r3⟩ := g3 hp
  obtain ⟨t1, t2⟩ := k.hold gp _ _ r2 (by decide)
  refine ⟨gp, mp, r1, t2, fun i hi => ?_⟩
  obtain ⟨x, x1, x2⟩ := r3 i hi
  exact ⟨x, (cell_blk t1).trans x1, x2⟩
end Go.Proofs.Ytiflkkkggidhbaa
