/- What the listed variable holds: the error errUnread; a world that meets it. -/
import Derived.Test.YtojhakjkfkmklaaGreatDoorObA
import Derived.Test.YtojhakjkfkmklaaGreatDoorRows
import Derived.RowKitTokens
import Derived.LaidLaws
import Derived.LaidHandle
import Derived.LaidMore
import Derived.Stop.LaidErr
import Derived.Stop.ErrReads
import Derived.Stop.Joined
import Derived.Lay
namespace Go.Proofs.YtojhakjkfkmklaaGreatDoor
open Go.ChangeShapes Go.WideShapes Go.RowKit
set_option linter.unusedVariables false

theorem gC : Tryz.prog.globalNamed "loop.example/g00457/impl.errUnread" = some 0 := by kernel_rfl
theorem tC : (Tryz.prog.globals[0]?).map (·.type) = some 66 := by kernel_rfl
theorem lcES : Tryz.prog.cellsOf 195 = 1 := by kernel_rfl
theorem lcS : Tryz.prog.cellsOf 9 = 1 := by kernel_rfl
theorem lstar : "*" ++ "errors.errorString" = "*errors.errorString" := by decide
theorem lrow (u : TypeId) (h : Tryz.prog.typeName? 3 u = some "*errors.errorString") : u = 181 :=
  typeName_ptr_named (nm := "errors.errorString") (by rw [lstar]; kernel_rfl) (by kernel_rfl) (by decide) u (by rw [lstar]; exact h)
theorem var_below {W W' : World} {n : String} {g : Nat} {cs : Array Value} (hg : Tryz.prog.globalNamed n = some g) (h : W.var? Tryz.prog n = some cs) (k : Below W.heap.size W W') : W'.var? Tryz.prog n = some cs := by
  unfold World.var? at h ⊢
  simp only [hg, Option.bind_some] at h ⊢
  have hlt : g < W.heap.size := by
    rcases Nat.lt_or_ge g W.heap.size with h' | h'
    · exact h'
    · simp [Array.getElem?_eq_none h'] at h
  rw [k.block g hlt]
  exact h
theorem vars_cons {H : Type} (enc : TypeId × Value → H) {W : World} {n : String} {g : Nat} {x : Value} {ns : List String} {ds : List (DataW H)} {qs : List MemPlace} {sp : Nat → Bool}
    (hg : Tryz.prog.globalNamed n = some g) (ht : (Tryz.prog.globals[g]?).map (·.type) = some 66) (h : W.var? Tryz.prog n = some #[x]) (ix : IsIface x) (r : DataW.TrodVars enc Tryz.prog W sp ns ds qs) :
    DataW.TrodVars enc Tryz.prog W sp (n :: ns) (tok enc x :: ds) (.cell g 0 :: qs) :=
  ⟨g, 66, #[x], 1, [], qs, hg, ht, h, trod_held Tryz.underlying66 ix 0, r, rfl⟩

/-- The variable. -/
structure LaidC (W : World) (aC : Addr) : Prop where
  c : W.var? Tryz.prog "loop.example/g00457/impl.errUnread" = some #[errV aC]
theorem LaidC.keep {W W' : World} {aC : Addr} (h : LaidC W aC) (k : Below W.heap.size W W') : LaidC W' aC := ⟨var_below gC h.c k⟩
theorem LaidC.read {H : Type} (enc : TypeId × Value → H) {W : World} {aC : Addr} (h : LaidC W aC) (sp : Nat → Bool) :
    DataW.TrodVars enc Tryz.prog W sp ["loop.example/g00457/impl.errUnread"] [tok enc (errV aC)] [.cell 0 0] :=
  vars_cons enc gC tC h.c trivial rfl
set_option maxHeartbeats 4000000 in
set_option maxRecDepth 100000 in
theorem cnt_of_laid {W : World} (h : laidMetH Tryz.prog [("loop.example/g00457/impl.errUnread", Rows.laid_loop_example_g00457_impl_errUnread)] W) : ∃ aC, LaidC W aC := by
  rw [MakeChecks.laidMetH_plain _ _ _ (by kernel_rfl)] at h
  obtain ⟨ps, ⟨g0, t0, cs0, f0, p0, q0, hg0, ht0, hv0, hd0, hq0, e0⟩, hnd, hrows⟩ := h
  obtain rfl := Option.some.inj (gC.symm.trans hg0)
  obtain rfl := Option.some.inj (tC.symm.trans ht0)
  have hq0' : q0 = [] := hq0
  subst hq0'
  subst e0
  obtain ⟨l0⟩ := cs0
  have ok0 : ∀ u v, l0 = [.iface u v] → Value.okWide Tryz.prog W .any 0 u v := fun u v e => by
    subst e
    exact (hrows 0 0 (by simp [MemPlace.row])).2 u v (by simpa using World.var?_cell hg0 hv0 0)
  obtain ⟨a0, s0, rfl, hc0, hs0, hz0, rfl⟩ := errorString_of_trod Tryz.underlying66 lrow Tryz.underlying181 Tryz.underlying195 rfl rfl Tryz.underlying9 lcES lcS hd0 ok0
  exact ⟨a0, ⟨hv0⟩⟩
theorem door_metC (os : Os) (args : Array Value) : laidMetH Tryz.prog [("loop.example/g00457/impl.errUnread", Rows.laid_loop_example_g00457_impl_errUnread)] ((World.doorLaid Tryz.prog 28 os).forCall (fun _ _ => 0) ⟨#[], args, []⟩).memory := by
  rw [MakeChecks.laidMetH_plain _ _ _ (by kernel_rfl)]
  exact laidMet_of_run' 8 (by kernel_rfl) (by kernel_rfl)
theorem gv_of {W : World} {n : String} {g : Nat} {x : Value} (hg : Tryz.prog.globalNamed n = some g) (h : W.var? Tryz.prog n = some #[x]) : Gv W g x := by
  have hc : W.cell? ⟨g, 0, none⟩ = some x := by rw [World.var?_cell hg h 0]; rfl
  refine ⟨hc, ?_⟩
  rcases Nat.lt_or_ge g W.heap.size with h | h
  · exact h
  · simp [World.cell?, Array.getElem?_eq_none h] at hc
theorem LaidC.gv {W : World} {aC : Addr} (h : LaidC W aC) : Gv W 0 (errV aC) := gv_of gC h.c
end Go.Proofs.YtojhakjkfkmklaaGreatDoor
