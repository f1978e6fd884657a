/- The law FnExactFuncChecked: the tied card. -/
import Derived.Test.YthcaagkkajopiaaGreatDoorRows
import Derived.Test.YthcaagkkajopiaaGreatDoorCards
import Derived.Test.YthcaagkkajopiaaGreatDoorTie
import Derived.WalkKit
import Derived.ProofKit
import Derived.OpenShut
import Derived.ShutString
import Derived.ChangeOld
import Derived.Below
import Derived.JoinedOf
import Derived.SevenTiedAt
import Derived.Stop.Joined
import Derived.Test.YthcaagkkajopiaaGreatDoorChWQ
import Derived.Test.YthcaagkkajopiaaGreatDoorToMQ
import Derived.Test.YthcaagkkajopiaaGreatDoorOpnQ
namespace Go.Proofs.YthcaagkkajopiaaGreatDoor.fnExactFuncChecked
open Go.ChangeShapes Go.WideShapes Go.ChangeAt Go.RowKit
set_option linter.unusedVariables false

theorem own : ownKnob Tryz.prog.godebug = none := by kernel_rfl
theorem laidOut : laidOutB Tryz.prog = true := by kernel_rfl

set_option maxRecDepth 100000 in
theorem lifted (os : Os) (started : os.Started) (H : Type) (enc : TypeId × Value → H) :
    ReturnsInHanded {} Tryz.checked os 3 .any (fun w args => (Rows.fnExactFuncCheckedSpec.pre enc Tryz.prog Tryz.f3 [] false w args ∧ laidMetH Tryz.prog Rows.fnExactFuncCheckedRow.laid w) ∧ sizedMet enc Tryz.prog Tryz.f3 (OpenSpec.ofChange Rows.fnExactFuncCheckedSpec) false w args) (Rows.fnExactFuncCheckedSpec.post enc Tryz.prog Tryz.f3 false true false false) := by
  refine returnsInHanded_of_change_and (C := Tryz.checked) (X := fun w _ => laidMetH Tryz.prog Rows.fnExactFuncCheckedRow.laid w) (fun _ _ _ hh h => h.of_heap hh) own started (by kernel_rfl) Tryz.func3
    (ChangeSpec.witness_shaped (enc := enc) (C := Tryz.checked) (os := os) (X := fun w _ => laidMetH Tryz.prog Rows.fnExactFuncCheckedRow.laid w) false (World.doorLaid Tryz.prog 130 os) #[.agg #[.slice none 0 0], .int .i64 0] 8 rfl (World.shaped_of_RefB (by kernel_rfl) (by kernel_rfl)) (by kernel_rfl) (by kernel_rfl) (by kernel_rfl) (door_met os _)) ?_
  intro W base args ds gs before hval0 hW _ _ hL _
  have hval : ∀ (j : Nat) t v, Tryz.f3.params[j]? = some t → args[j]? = some v → Value.okWide Tryz.prog W .any base t v := hval0
  have hW' := hW
  obtain ⟨p, q, hA0, hV0, rfl, hfz, hnd⟩ := hW
  have hA : DataW.TrodAll enc Tryz.prog W 0 (fun _ => true) true Tryz.f3.params.toList args.toList ds p := hA0
  have hV : DataW.TrodVars enc Tryz.prog W (fun _ => true) Rows.fnExactFuncCheckedSpec.vars gs q := hV0
  rw [Tryz.params3] at hA hval
  obtain ⟨v0, vs0, d0, ds0, p0, q0, hargs, rfl, rfl, h0, r0⟩ := trodAll_cons hA
  obtain ⟨v1, vs1, d1, ds1, p1, q1, rfl, rfl, rfl, h1, r1⟩ := trodAll_cons r0
  obtain ⟨rfl, rfl, rfl⟩ := trodAll_nil r1
  obtain rfl : args = #[v0, v1] := by cases args; simp_all
  obtain ⟨cs, rfl, hsz⟩ := okWide_struct Tryz.underlying24 (hval 0 24 v0 rfl rfl)
  have kk := h0
  have ltk : ∀ x ∈ p0, x.block < W.heap.size := by obtain ⟨m, hm⟩ := kk; exact DataW.trod_lt m _ _ _ hm
  obtain ⟨fuel, hf⟩ := h0
  obtain ⟨d, u0, q0, hcs, m0⟩ := ofModule (cs := cs.toList) (by simpa [Value.cells] using hf)
  have hcs2 : cs = #[.slice u0 d.length q0] := by rw [← Array.toArray_toList (xs := cs), hcs]
  subst hcs2
  obtain ⟨a1, rfl, rfl, rfl, w1⟩ := open_int Tryz.underlying2 (hval 1 2 v1 rfl rfl) h1
  have hT := errT_of_laid hL
  obtain ⟨aF, aN, aE, aC, aW, aU, h6, hO⟩ := six_of_laid hL
  obtain ⟨rfl, rfl⟩ := hV.unique (h6.readF enc _)
  clear hA0 hV0 hval0
  refine (fnExactFuncChecked_core 0 d u0 q0 a1 aF aN aE aC aW aU W m0 h6.errs hT).mono fun e W' ⟨he, bel⟩ => ?_
  subst he
  exact ⟨_, rfl, _, _, _, [], _, _, hW', trodAll_mk1 (shut_bool Tryz.underlying4 _), trodAll_cons_mk (Below.trod laidOut (by kernel_rfl) (of_decide_eq_true (by kernel_rfl)) kk bel ltk) (trodAll_cons_mk (shut_int Tryz.underlying2 w1) trodAll_mk0), (h6.keep bel).readF enc _, bel.frame _, fun h => by cases h⟩

theorem over : Rows.fnExactFuncCheckedRow.holds Tryz.pinned (OpenSpec.ofChange Rows.fnExactFuncCheckedSpec) :=
  OpenClaim.holds_of_wide 3 Tryz.f3 rfl rfl rfl rfl rfl rfl rfl ⟨rfl, rfl, rfl, rfl, rfl⟩ rfl rfl rfl rfl rfl (by kernel_rfl) Tryz.func3 (by kernel_rfl)
    (of_decide_eq_true (by kernel_rfl)) (by unfold Func.isWrapper; first | (rw [if_pos (by decide +kernel)]; kernel_rfl) | (rw [if_neg (by decide +kernel)]; exact ⟨rfl, rfl⟩))
    (fun os started H enc _ => lifted os started H enc)

theorem card : Claim7.holds Tryz.pinned (.plain (OpenSpec.ofChange Rows.fnExactFuncCheckedSpec)) Rows.fnExactFuncCheckedCard :=
  Claim7.holds_tied_plain_at .later [] [.handle, .sentinel, .sentinel, .sentinel, .sentinel, .sentinel, .sentinel] true (true, "f55cfc82ce5bf0504c8d93f7184d027c0dcf1125e25381872d396cbff03f4daf") true
    over (fun _ h => by cases h) (by kernel_rfl) (fun _ h => by cases h) fnExactFuncChecked_row_tie rfl ⟨rfl, rfl⟩ (by kernel_rfl) rfl
    (fun f fn hf hfn => by
      obtain rfl : f = 3 := Option.some.inj ((show Tryz.prog.funcNamed "loop.example/g00457/laws.FnExactFuncChecked" = some 3 by kernel_rfl).symm.trans hf) |>.symm
      obtain rfl : fn = Tryz.f3 := (Option.some.inj (Tryz.func3.symm.trans hfn)).symm
      exact ⟨by kernel_rfl, fun j t ht => by
        rw [Tryz.params3] at ht
        have hm : t ∈ [24, 2] := by simpa using Array.mem_of_getElem? ht
        have hall : ([24, 2].all fun u => !Tryz.prog.wantsStandIn u) = true := by kernel_rfl
        exact (show Tryz.prog.wantsStandIn t = false by simpa using List.all_eq_true.1 hall t hm)⟩)
    (by kernel_rfl)
end Go.Proofs.YthcaagkkajopiaaGreatDoor.fnExactFuncChecked

namespace Go.Proofs.YthcaagkkajopiaaGreatDoor
theorem fnExactFuncChecked_holds : Rows.FnExactFuncCheckedCardSaid := fnExactFuncChecked.card
#print axioms fnExactFuncChecked_holds
end Go.Proofs.YthcaagkkajopiaaGreatDoor
