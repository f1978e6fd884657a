/- Reading a module's text answers as the model says, at every string; its answer owns its memory: in worlds in which the words and errors of the program, and the tables and errors of strconv, math/bits and unicode/utf8 on its road, hold what the program's own text lays there. -/
import Derived.Test.YtkpmiikafconmaaGreatDoorRows
import Derived.Test.YtkpmiikafconmaaGreatDoorCards
import Derived.Test.YtkpmiikafconmaaGreatDoorTie
import Derived.WalkKit
import Derived.ProofKit
import Derived.OpenShut
import Derived.ShutString
import Derived.ChangeOld
import Derived.Below
import Derived.OpenVars
import Derived.JoinedOf
import Derived.SevenTiedAt
import Derived.LaidMore
import Derived.Lay
import Derived.Stop.Joined
import Derived.Test.YtkpmiikafconmaaGreatDoorReTV
namespace Go.Proofs.YtkpmiikafconmaaGreatDoor.fnExactReadModule
open Go.ChangeShapes Go.WideShapes Go.ChangeAt Go.RowKit
open Go.ChangeMaps (open_string shut_string)
set_option linter.unusedVariables false

theorem own : ownKnob Tryz.prog.godebug = none := by kernel_rfl
theorem laidOut : laidOutB Tryz.prog = true := by kernel_rfl

set_option maxHeartbeats 2000000 in
set_option maxRecDepth 100000 in
theorem lifted (os : Os) (started : os.Started) (H : Type) (enc : TypeId × Value → H) :
    ReturnsInHanded {} Tryz.checked os 4 .any (fun w args => (Rows.fnExactReadModuleSpec.pre enc Tryz.prog Tryz.f4 [] false w args ∧ laidMetH Tryz.prog Rows.fnExactReadModuleRow.laid w) ∧ sizedMet enc Tryz.prog Tryz.f4 (OpenSpec.ofChange Rows.fnExactReadModuleSpec) false w args) (Rows.fnExactReadModuleSpec.post enc Tryz.prog Tryz.f4 false true false false) := by
  refine returnsInHanded_of_change_and (C := Tryz.checked) (X := fun w _ => laidMetH Tryz.prog Rows.fnExactReadModuleRow.laid w) (fun _ _ _ hh h => h.of_heap hh) own started (by kernel_rfl) Tryz.func4
    (ChangeSpec.witness_shaped (enc := enc) (C := Tryz.checked) (os := os) (X := fun w _ => laidMetH Tryz.prog Rows.fnExactReadModuleRow.laid w) false (World.laidAll Tryz.prog os Rows.fnExactReadModuleRow.laid) #[.string ByteArray.empty] 8 (World.laidAll_os _ _ _) (World.shaped_of_RefB (by kernel_rfl) (by kernel_rfl)) (by kernel_rfl) (by kernel_rfl) (by kernel_rfl) (read_met os _)) ?_
  intro W base args ds gs before hval0 hW _ _ hL _
  have hval : ∀ (j : Nat) t v, Tryz.f4.params[j]? = some t → args[j]? = some v → Value.okWide Tryz.prog W .any base t v := hval0
  have hW' := hW
  obtain ⟨p, q, hA0, hV, rfl, hfz, hnd⟩ := hW
  have hA : DataW.TrodAll enc Tryz.prog W 0 (fun _ => true) true Tryz.f4.params.toList args.toList ds p := hA0
  rw [Tryz.params4] at hA hval
  obtain ⟨v0, vs0, d0, ds0, p0, q0, hargs, rfl, rfl, h0, r0⟩ := trodAll_cons hA
  obtain ⟨rfl, rfl, rfl⟩ := trodAll_nil r0
  obtain rfl : args = #[v0] := by cases args; simp_all
  obtain ⟨a0, rfl, rfl, rfl, w0⟩ := open_string Tryz.underlying9 (hval 0 9 v0 rfl rfl) h0
  obtain ⟨aC, hC⟩ := read_of_laid hL
  have hV1 : DataW.TrodVars enc Tryz.prog W (fun _ => true) ["loop.example/g00457/impl.errUnread", "loop.example/g00457/impl.opWords", "loop.example/g00457/impl.termWords"] gs q := hV
  obtain ⟨g1, g2, g3, rfl⟩ := three_vars hV1
  have hV2 := hV1
  obtain ⟨_, _, _, _, _, q2, _, _, _, _, r0, _⟩ := hV2
  obtain ⟨hgs, rfl⟩ := hV1.unique (vars_cons enc gC tC hC.c trivial r0)
  cases hgs
  clear hA0 hval0
  refine (fnExactReadModule_core aC a0 W hC.tabs).mono fun e W' ⟨he, bel⟩ => ?_
  subst he
  exact ⟨_, rfl, _, _, _, [], _, _, hW', trodAll_mk1 (shut_bool Tryz.underlying4 _), (trodAll_cons_mk (shut_string Tryz.underlying9 w0) trodAll_mk0), vars_cons enc gC tC (var_below gC hC.c bel) trivial (Below.trodVars laidOut bel (by kernel_rfl) r0), bel.frame _, fun h => by cases h⟩

theorem over : Rows.fnExactReadModuleRow.holds Tryz.pinned (OpenSpec.ofChange Rows.fnExactReadModuleSpec) :=
  OpenClaim.holds_of_wide 4 Tryz.f4 rfl rfl rfl rfl rfl rfl rfl ⟨rfl, rfl, rfl, rfl, rfl⟩ rfl rfl rfl rfl rfl (by kernel_rfl) Tryz.func4 (by kernel_rfl)
    (of_decide_eq_true (by kernel_rfl)) (by unfold Func.isWrapper; first | (rw [if_pos (by decide +kernel)]; kernel_rfl) | (rw [if_neg (by decide +kernel)]; exact ⟨rfl, rfl⟩))
    (fun os started H enc _ => lifted os started H enc)

theorem card : Claim7.holds Tryz.pinned (.plain (OpenSpec.ofChange Rows.fnExactReadModuleSpec)) Rows.fnExactReadModuleCard :=
  Claim7.holds_tied_plain_at .later [] [.data, .data, .data, .data, .sentinel, .sentinel, .data, .data, .sentinel, .pinned] true (true, "33ce37c51864ab1e29e5f56fa7acbb778075ed1fd6c7140c558fafb73a26db5f") true
    over (fun _ h => by cases h) (by kernel_rfl) (fun _ h => by cases h) fnExactReadModule_row_tie rfl ⟨rfl, rfl⟩ (by kernel_rfl) rfl
    (fun f fn hf hfn => by
      obtain rfl : f = 4 := Option.some.inj ((show Tryz.prog.funcNamed "loop.example/g00457/laws.FnExactReadModule" = some 4 by kernel_rfl).symm.trans hf) |>.symm
      obtain rfl : fn = Tryz.f4 := (Option.some.inj (Tryz.func4.symm.trans hfn)).symm
      exact ⟨by kernel_rfl, fun j t ht => by
        rw [Tryz.params4] at ht
        have hm : t ∈ [9] := by simpa using Array.mem_of_getElem? ht
        have hall : ([9].all fun u => !Tryz.prog.wantsStandIn u) = true := by kernel_rfl
        exact (show Tryz.prog.wantsStandIn t = false by simpa using List.all_eq_true.1 hall t hm)⟩)
    (by kernel_rfl)
end Go.Proofs.YtkpmiikafconmaaGreatDoor.fnExactReadModule

namespace Go.Proofs.YtkpmiikafconmaaGreatDoor
theorem fnExactReadModule_holds : Rows.FnExactReadModuleCardSaid := fnExactReadModule.card
#print axioms fnExactReadModule_holds
end Go.Proofs.YtkpmiikafconmaaGreatDoor
