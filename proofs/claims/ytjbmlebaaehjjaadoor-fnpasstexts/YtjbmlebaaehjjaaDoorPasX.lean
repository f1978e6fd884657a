/- What the listed table of words holds. -/
import Derived.Test.YtjbmlebaaehjjaaDoorPas
import Derived.Test.YtjbmlebaaehjjaaDoorRows
import Derived.ProofKit
import Derived.OpenShut
import Derived.LaidMore
import Derived.LaidLaws
import Derived.Lay
namespace Go.Proofs.YtjbmlebaaehjjaaDoor
open Go.ChangeShapes Go.WideShapes Go.RowKit
set_option linter.unusedVariables false

theorem gWords : Tryd.prog.globalNamed "loop.example/g00457/impl.passWords" = some 0 := by kernel_rfl
theorem tWords : (Tryd.prog.globals[0]?).map (·.type) = some 39 := by kernel_rfl
theorem wordsD : (Rows.laid_loop_example_g00457_impl_passWords : DataW Unit) = .agg (wordL.map fun b => .lit (.string b.data.toList)) := by rfl
theorem words_of_var {W : World} {cs : Array Value} {fuel : Nat} {p : List MemPlace} (hv : W.var? Tryd.prog "loop.example/g00457/impl.passWords" = some cs)
    (hd : DataW.trod (fun _ => ()) Tryd.prog W 0 (fun _ => true) false fuel 39 cs.toList = some (Rows.laid_loop_example_g00457_impl_passWords, p)) : WordsAt W := by
  have hcell : ∀ r, r < 10 → W.cell? ⟨0, r, none⟩ = some (.string (wordL.getD r ⟨#[]⟩)) := by
    intro r hr
    obtain ⟨xs, m, _, ex, _, hl, hel⟩ := DataW.trod_array Tryd.underlying39 hd
    have c5 : Tryd.prog.cellsOf 9 = 1 := by kernel_rfl
    have hE := hel r hr
    rw [c5, Nat.mul_one, List.getElem?_eq_getElem (by omega)] at hE
    obtain ⟨s, e1, e2, _⟩ := DataW.trod_string Tryd.underlying9 hE
    have hlen : wordL.length = 10 := rfl
    rw [wordsD] at ex
    have e3 : (xs.map (·.1)) = wordL.map fun b => .lit (.string b.data.toList) := (DataW.agg.inj (Prod.mk.inj ex).1).symm
    have e4 : (xs.map (·.1))[r]? = (wordL.map fun b => (DataW.lit (.string b.data.toList) : DataW Unit))[r]? := by rw [e3]
    rw [List.getElem?_map, List.getElem?_map, List.getElem?_eq_getElem (by omega : r < xs.length), List.getElem?_eq_getElem (by omega : r < wordL.length), e2] at e4
    have hz : s = wordL.getD r ⟨#[]⟩ := by
      simp only [Option.map_some, Option.some.injEq, DataW.lit.injEq, Lit.string.injEq] at e4
      rw [List.getD, List.getElem?_eq_getElem (by omega : r < wordL.length)]
      exact ByteArray.ext (Array.toList_inj.1 e4)
    rw [World.var?_cell gWords hv r, ← hz]
    have : cs.toList[r]? = some (.string s) := by
      have h0 : ((cs.toList.drop r).take 1)[0]? = some (.string s) := by rw [e1]; rfl
      simpa using h0
    simpa using this
  refine ⟨?_, hcell⟩
  rcases Nat.lt_or_ge 0 W.heap.size with h | h
  · exact h
  · have := hcell 0 (by omega)
    simp [World.cell?, Array.getElem?_eq_none h] at this
theorem one_var {H : Type} {enc : TypeId × Value → H} {P : Program} {W : World} {sp : Nat → Bool} {n : String} {gs : List (DataW H)} {q : List MemPlace} (h : DataW.TrodVars enc P W sp [n] gs q) : ∃ g, gs = [g] := by
  match gs, h with
  | [g], _ => exact ⟨g, rfl⟩
  | g :: x :: r, h => obtain ⟨_, _, _, _, _, _, _, _, _, _, h, _⟩ := h; exact h.elim
theorem words_of_laid1 {W : World} (h : laidMetH Tryd.prog Rows.fnExactPassTextRow.laid W) : WordsAt W := by
  rw [MakeChecks.laidMetH_plain _ _ _ (by kernel_rfl)] at h
  obtain ⟨ps, ⟨g, t, cs, fuel, p, q, hg, ht, hv, hd, _, _⟩, _, _⟩ := h
  obtain rfl := Option.some.inj (gWords.symm.trans hg)
  obtain rfl := Option.some.inj (tWords.symm.trans ht)
  exact words_of_var hv hd
theorem words_of_laid3 {W : World} (h : laidMetH Tryd.prog Rows.fnExactPassesOfRow.laid W) : WordsAt W := by
  rw [MakeChecks.laidMetH_plain _ _ _ (by kernel_rfl)] at h
  obtain ⟨ps, ⟨g0, t0, cs0, f0, p0, q0, hg0, ht0, hv0, hd0, ⟨g, t, cs, fuel, p, q, hg, ht, hv, hd, _, _⟩, _⟩, _, _⟩ := h
  obtain rfl := Option.some.inj (gWords.symm.trans hg)
  obtain rfl := Option.some.inj (tWords.symm.trans ht)
  exact words_of_var hv hd
theorem door_met1 (os : Os) (args : Array Value) : laidMetH Tryd.prog Rows.fnExactPassTextRow.laid ((World.doorLaid Tryd.prog 200 os).forCall (fun _ _ => 0) ⟨#[], args, []⟩).memory := by
  rw [MakeChecks.laidMetH_plain _ _ _ (by kernel_rfl)]
  exact laidMet_of_run' 8 (by kernel_rfl) (by kernel_rfl)
theorem all_met3 (os : Os) (args : Array Value) : laidMetH Tryd.prog Rows.fnExactPassesOfRow.laid ((World.laidAll Tryd.prog os Rows.fnExactPassesOfRow.laid).forCall (fun _ _ => 0) ⟨#[], args, []⟩).memory := by
  rw [MakeChecks.laidMetH_plain _ _ _ (by kernel_rfl)]
  exact laidMet_laidAll _ (by kernel_rfl) (by kernel_rfl)
end Go.Proofs.YtjbmlebaaehjjaaDoor
