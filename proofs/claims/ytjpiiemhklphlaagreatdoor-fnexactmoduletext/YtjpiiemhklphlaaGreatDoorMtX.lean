/- What the listed tables of words and of powers hold. -/
import Derived.Test.YtjpiiemhklphlaaGreatDoorMtR
import Derived.Test.YtjpiiemhklphlaaGreatDoorRows
import Derived.ProofKit
import Derived.OpenShut
import Derived.LaidMore
import Derived.LaidLaws
import Derived.Lay
namespace Go.Proofs.YtjpiiemhklphlaaGreatDoor
open Go.ChangeShapes Go.WideShapes Go.RowKit
set_option linter.unusedVariables false

theorem gOps : Tryz.prog.globalNamed "loop.example/g00457/impl.opWords" = some 1 := by kernel_rfl
theorem tOps : (Tryz.prog.globals[1]?).map (·.type) = some 113 := by kernel_rfl
theorem tPow : (Tryz.prog.globals[2]?).map (·.type) = some 136 := by kernel_rfl
theorem gTms : Tryz.prog.globalNamed "loop.example/g00457/impl.termWords" = some 0 := by kernel_rfl
theorem tTms : (Tryz.prog.globals[0]?).map (·.type) = some 96 := by kernel_rfl
theorem tmsDt : (Rows.laid_loop_example_g00457_impl_termWords : DataW Unit) = .agg (tmWL.map fun b => .lit (.string b)) := by rfl
theorem opsDt : (Rows.laid_loop_example_g00457_impl_opWords : DataW Unit) = .agg (opWL.map fun b => .lit (.string b)) := by rfl
theorem powDt : (Rows.laid_internal_strconv_uint64pow10 : DataW Unit) = Lib.tabData .u64 Lib.pow10Tab := by rfl
theorem ops_of_var {W : World} {cs : Array Value} {fuel : Nat} {p : List MemPlace} (hv : W.var? Tryz.prog "loop.example/g00457/impl.opWords" = some cs)
    (hd : DataW.trod (fun _ => ()) Tryz.prog W 0 (fun _ => true) false fuel 113 cs.toList = some (Rows.laid_loop_example_g00457_impl_opWords, p)) : OpsAt W := by
  have hcell : ∀ r, r < 28 → W.cell? ⟨1, r, none⟩ = some (.string (opW r)) := by
    intro r hr
    obtain ⟨xs, m, _, ex, _, hl, hel⟩ := DataW.trod_array Tryz.underlying113 hd
    have c5 : Tryz.prog.cellsOf 9 = 1 := by kernel_rfl
    have hE := hel r hr
    rw [c5, Nat.mul_one, List.getElem?_eq_getElem (by omega)] at hE
    obtain ⟨s, e1, e2, _⟩ := DataW.trod_string Tryz.underlying9 hE
    have hlen : opWL.length = 28 := rfl
    rw [opsDt] at ex
    have e3 : (xs.map (·.1)) = opWL.map fun b => .lit (.string b) := (DataW.agg.inj (Prod.mk.inj ex).1).symm
    have e4 : (xs.map (·.1))[r]? = (opWL.map fun b => (DataW.lit (.string b) : DataW Unit))[r]? := by rw [e3]
    rw [List.getElem?_map, List.getElem?_map, List.getElem?_eq_getElem (by omega : r < xs.length), List.getElem?_eq_getElem (by omega : r < opWL.length), e2] at e4
    have hz : s = opW r := by
      simp only [Option.map_some, Option.some.injEq, DataW.lit.injEq, Lit.string.injEq] at e4
      unfold opW bs
      rw [List.getD, List.getElem?_eq_getElem (by omega : r < opWL.length)]
      refine ByteArray.ext (Array.toList_inj.1 ?_)
      simpa using e4
    rw [World.var?_cell gOps hv r, ← hz]
    have : cs.toList[r]? = some (.string s) := by
      have h0 : ((cs.toList.drop r).take 1)[0]? = some (.string s) := by rw [e1]; rfl
      simpa using h0
    simpa using this
  refine ⟨?_, hcell⟩
  rcases Nat.lt_or_ge 1 W.heap.size with h | h
  · exact h
  · have := hcell 0 (by omega)
    simp [World.cell?, Array.getElem?_eq_none h] at this
theorem tms_of_var {W : World} {cs : Array Value} {fuel : Nat} {p : List MemPlace} (hv : W.var? Tryz.prog "loop.example/g00457/impl.termWords" = some cs)
    (hd : DataW.trod (fun _ => ()) Tryz.prog W 0 (fun _ => true) false fuel 96 cs.toList = some (Rows.laid_loop_example_g00457_impl_termWords, p)) : TmsAt W := by
  have hcell : ∀ r, r < 5 → W.cell? ⟨0, r, none⟩ = some (.string (tmW r)) := by
    intro r hr
    obtain ⟨xs, m, _, ex, _, hl, hel⟩ := DataW.trod_array Tryz.underlying96 hd
    have c5 : Tryz.prog.cellsOf 9 = 1 := by kernel_rfl
    have hE := hel r hr
    rw [c5, Nat.mul_one, List.getElem?_eq_getElem (by omega)] at hE
    obtain ⟨s, e1, e2, _⟩ := DataW.trod_string Tryz.underlying9 hE
    have hlen : tmWL.length = 5 := rfl
    rw [tmsDt] at ex
    have e3 : (xs.map (·.1)) = tmWL.map fun b => .lit (.string b) := (DataW.agg.inj (Prod.mk.inj ex).1).symm
    have e4 : (xs.map (·.1))[r]? = (tmWL.map fun b => (DataW.lit (.string b) : DataW Unit))[r]? := by rw [e3]
    rw [List.getElem?_map, List.getElem?_map, List.getElem?_eq_getElem (by omega : r < xs.length), List.getElem?_eq_getElem (by omega : r < tmWL.length), e2] at e4
    have hz : s = tmW r := by
      simp only [Option.map_some, Option.some.injEq, DataW.lit.injEq, Lit.string.injEq] at e4
      unfold tmW bs
      rw [List.getD, List.getElem?_eq_getElem (by omega : r < tmWL.length)]
      refine ByteArray.ext (Array.toList_inj.1 ?_)
      simpa using e4
    rw [World.var?_cell gTms hv r, ← hz]
    have : cs.toList[r]? = some (.string s) := by
      have h0 : ((cs.toList.drop r).take 1)[0]? = some (.string s) := by rw [e1]; rfl
      simpa using h0
    simpa using this
  refine ⟨?_, hcell⟩
  rcases Nat.lt_or_ge 0 W.heap.size with h | h
  · exact h
  · have := hcell 0 (by omega)
    simp [World.cell?, Array.getElem?_eq_none h] at this
theorem pow_of_var {W : World} {cs : Array Value} {fuel : Nat} {p : List MemPlace} (hv : W.var? Tryz.prog "internal/strconv.uint64pow10" = some cs)
    (hd : DataW.trod (fun _ => ()) Tryz.prog W 0 (fun _ => true) false fuel 136 cs.toList = some (Rows.laid_internal_strconv_uint64pow10, p)) : PowAt W := by
  rw [powDt] at hd
  unfold PowAt Lib.TabIs
  rw [hv, ← Lib.cells_of_tab Tryz.underlying136 Tryz.underlying116 (by kernel_rfl) (by kernel_rfl) hd]
theorem one_var {H : Type} {enc : TypeId × Value → H} {P : Program} {W : World} {sp : Nat → Bool} {n : String} {gs : List (DataW H)} {q : List MemPlace} (h : DataW.TrodVars enc P W sp [n] gs q) : ∃ g, gs = [g] := by
  match gs, h with
  | [g], _ => exact ⟨g, rfl⟩
  | g :: x :: r, h => obtain ⟨_, _, _, _, _, _, _, _, _, _, h, _⟩ := h; exact h.elim
theorem two_vars {H : Type} {enc : TypeId × Value → H} {P : Program} {W : World} {sp : Nat → Bool} {n m : String} {gs : List (DataW H)} {q : List MemPlace} (h : DataW.TrodVars enc P W sp [n, m] gs q) : ∃ g1 g2, gs = [g1, g2] := by
  match gs, h with
  | [g], h => obtain ⟨_, _, _, _, _, _, _, _, _, _, h, _⟩ := h; exact h.elim
  | [g1, g2], _ => exact ⟨g1, g2, rfl⟩
  | g1 :: g2 :: x :: r, h =>
    obtain ⟨_, _, _, _, _, _, _, _, _, _, h, _⟩ := h
    obtain ⟨_, _, _, _, _, _, _, _, _, _, h, _⟩ := h
    exact h.elim
theorem tabs_of_laid {W : World} (h : laidMetH Tryz.prog Rows.fnExactModuleTextRow.laid W) : OpsAt W ∧ TmsAt W ∧ PowAt W := by
  rw [MakeChecks.laidMetH_plain _ _ _ (by kernel_rfl)] at h
  obtain ⟨ps, ⟨g0, t0, cs0, f0, p0, q0, _, _, _, _, ⟨g1, t1, cs1, f1, p1, q1, _, _, _, _, ⟨g2, t2, cs2, f2, p2, q2, hg2, ht2, hv2, hd2, ⟨g, t, cs, fuel, p, q, hg, ht, hv, hd, ⟨g4, t4, cs4, f4, p4, q4, hg4, ht4, hv4, hd4, _, _⟩, _⟩, _⟩, _⟩, _⟩, _, _⟩ := h
  obtain rfl := Option.some.inj (gOps.symm.trans hg)
  obtain rfl := Option.some.inj (tOps.symm.trans ht)
  obtain rfl := Option.some.inj (gPow.symm.trans hg2)
  obtain rfl := Option.some.inj (tPow.symm.trans ht2)
  obtain rfl := Option.some.inj (gTms.symm.trans hg4)
  obtain rfl := Option.some.inj (tTms.symm.trans ht4)
  exact ⟨ops_of_var hv hd, tms_of_var hv4 hd4, pow_of_var hv2 hd2⟩
theorem tabs_met (os : Os) (args : Array Value) : laidMetH Tryz.prog Rows.fnExactModuleTextRow.laid ((World.laidAll Tryz.prog os Rows.fnExactModuleTextRow.laid).forCall (fun _ _ => 0) ⟨#[], args, []⟩).memory := by
  rw [MakeChecks.laidMetH_plain _ _ _ (by kernel_rfl)]
  exact laidMet_laidAll _ (by kernel_rfl) (by kernel_rfl)
end Go.Proofs.YtjpiiemhklphlaaGreatDoor
