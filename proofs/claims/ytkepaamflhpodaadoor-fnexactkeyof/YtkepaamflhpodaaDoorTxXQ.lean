/- What the listed tables of words and of powers hold. -/
import Derived.Test.YtkepaamflhpodaaDoorTxt
import Derived.Test.YtkepaamflhpodaaDoorRows
import Derived.ProofKit
import Derived.OpenShut
import Derived.LaidMore
import Derived.LaidLaws
import Derived.Lay
namespace Go.Proofs.YtkepaamflhpodaaDoor
open Go.ChangeShapes Go.WideShapes Go.RowKit
set_option linter.unusedVariables false

theorem gOps : Tryd.prog.globalNamed "loop.example/g00457/impl.opWords" = some 0 := by kernel_rfl
theorem tOps : (Tryd.prog.globals[0]?).map (·.type) = some 76 := by kernel_rfl
theorem tPow : (Tryd.prog.globals[1]?).map (·.type) = some 144 := by kernel_rfl
theorem opsDt : (Rows.laid_loop_example_g00457_impl_opWords : DataW Unit) = .agg (opWL.map fun b => .lit (.string b)) := by rfl
theorem powDt : (Rows.laid_internal_strconv_uint64pow10 : DataW Unit) = Lib.tabData .u64 Lib.pow10Tab := by rfl
theorem ops_of_var {W : World} {cs : Array Value} {fuel : Nat} {p : List MemPlace} (hv : W.var? Tryd.prog "loop.example/g00457/impl.opWords" = some cs)
    (hd : DataW.trod (fun _ => ()) Tryd.prog W 0 (fun _ => true) false fuel 76 cs.toList = some (Rows.laid_loop_example_g00457_impl_opWords, p)) : OpsAt W := by
  have hcell : ∀ r, r < 28 → W.cell? ⟨0, r, none⟩ = some (.string (opW r)) := by
    intro r hr
    obtain ⟨xs, m, _, ex, _, hl, hel⟩ := DataW.trod_array Tryd.underlying76 hd
    have c5 : Tryd.prog.cellsOf 9 = 1 := by kernel_rfl
    have hE := hel r hr
    rw [c5, Nat.mul_one, List.getElem?_eq_getElem (by omega)] at hE
    obtain ⟨s, e1, e2, _⟩ := DataW.trod_string Tryd.underlying9 hE
    have hlen : opWL.length = 28 := rfl
    rw [opsDt] at ex
    have e3 : (xs.map (·.1)) = opWL.map fun b => .lit (.string b) := (DataW.agg.inj (Prod.mk.inj ex).1).symm
    have e4 : (xs.map (·.1))[r]? = (opWL.map fun b => (DataW.lit (.string b) : DataW Unit))[r]? := by rw [e3]
    rw [List.getElem?_map, List.getElem?_map, List.getElem?_eq_getElem (by omega : r < xs.length), List.getElem?_eq_getElem (by omega : r < opWL.length), e2] at e4
    have hz : s = opW r := by
      simp only [Option.map_some, Option.some.injEq, DataW.lit.injEq, Lit.string.injEq] at e4
      unfold opW bs
      rw [List.getD, List.getElem?_eq_getElem (by omega : r < opWL.length)]
      refine ByteArray.ext (Array.toList_inj.1 ?_)
      simpa using e4
    rw [World.var?_cell gOps hv r, ← hz]
    have : cs.toList[r]? = some (.string s) := by
      have h0 : ((cs.toList.drop r).take 1)[0]? = some (.string s) := by rw [e1]; rfl
      simpa using h0
    simpa using this
  refine ⟨?_, hcell⟩
  rcases Nat.lt_or_ge 0 W.heap.size with h | h
  · exact h
  · have := hcell 0 (by omega)
    simp [World.cell?, Array.getElem?_eq_none h] at this
theorem pow_of_var {W : World} {cs : Array Value} {fuel : Nat} {p : List MemPlace} (hv : W.var? Tryd.prog "internal/strconv.uint64pow10" = some cs)
    (hd : DataW.trod (fun _ => ()) Tryd.prog W 0 (fun _ => true) false fuel 144 cs.toList = some (Rows.laid_internal_strconv_uint64pow10, p)) : PowAt W := by
  rw [powDt] at hd
  unfold PowAt Lib.TabIs
  rw [hv, ← Lib.cells_of_tab Tryd.underlying144 Tryd.underlying131 (by kernel_rfl) (by kernel_rfl) hd]
theorem one_var {H : Type} {enc : TypeId × Value → H} {P : Program} {W : World} {sp : Nat → Bool} {n : String} {gs : List (DataW H)} {q : List MemPlace} (h : DataW.TrodVars enc P W sp [n] gs q) : ∃ g, gs = [g] := by
  match gs, h with
  | [g], _ => exact ⟨g, rfl⟩
  | g :: x :: r, h => obtain ⟨_, _, _, _, _, _, _, _, _, _, h, _⟩ := h; exact h.elim
theorem tabs_of_laid {W : World} (h : laidMetH Tryd.prog Rows.fnExactInstTextRow.laid W) : OpsAt W ∧ PowAt W := by
  rw [MakeChecks.laidMetH_plain _ _ _ (by kernel_rfl)] at h
  obtain ⟨ps, ⟨g0, t0, cs0, f0, p0, q0, _, _, _, _, ⟨g1, t1, cs1, f1, p1, q1, _, _, _, _, ⟨g2, t2, cs2, f2, p2, q2, hg2, ht2, hv2, hd2, ⟨g, t, cs, fuel, p, q, hg, ht, hv, hd, _, _⟩, _⟩, _⟩, _⟩, _, _⟩ := h
  obtain rfl := Option.some.inj (gOps.symm.trans hg)
  obtain rfl := Option.some.inj (tOps.symm.trans ht)
  obtain rfl := Option.some.inj (gPow.symm.trans hg2)
  obtain rfl := Option.some.inj (tPow.symm.trans ht2)
  exact ⟨ops_of_var hv hd, pow_of_var hv2 hd2⟩
theorem tabs_met (os : Os) (args : Array Value) : laidMetH Tryd.prog Rows.fnExactInstTextRow.laid ((World.laidAll Tryd.prog os Rows.fnExactInstTextRow.laid).forCall (fun _ _ => 0) ⟨#[], args, []⟩).memory := by
  rw [MakeChecks.laidMetH_plain _ _ _ (by kernel_rfl)]
  exact laidMet_laidAll _ (by kernel_rfl) (by kernel_rfl)
end Go.Proofs.YtkepaamflhpodaaDoor
namespace Go.Proofs.YtkepaamflhpodaaDoor
open Go.ChangeShapes Go.WideShapes Go.RowKit
set_option linter.unusedVariables false

theorem laid_same : Rows.fnExactKeyOfRow.laid = Rows.fnExactInstTextRow.laid := rfl
theorem tabs_of_laid2 {W : World} (h : laidMetH Tryd.prog Rows.fnExactKeyOfRow.laid W) : OpsAt W ∧ PowAt W := tabs_of_laid (laid_same ▸ h)
theorem tabs_met2 (os : Os) (args : Array Value) : laidMetH Tryd.prog Rows.fnExactKeyOfRow.laid ((World.laidAll Tryd.prog os Rows.fnExactKeyOfRow.laid).forCall (fun _ _ => 0) ⟨#[], args, []⟩).memory := by
  rw [MakeChecks.laidMetH_plain _ _ _ (by kernel_rfl)]
  exact laidMet_laidAll _ (by kernel_rfl) (by kernel_rfl)
end Go.Proofs.YtkepaamflhpodaaDoor
