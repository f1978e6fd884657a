/- The law FnExactProgramBytes returns true at every program: its bytes are the model's. -/
import Derived.Test.YtoekogfbmnjeiaaRows
import Derived.WalkKit
import Derived.ProofKit
import Derived.OpenShut
import Derived.ShutString
import Derived.ChangeOld
import Derived.Below
import Derived.Test.YtoekogfbmnjeiaaPbK
import Derived.Test.YtoekogfbmnjeiaaPgO
namespace Go.Proofs.Ytoekogfbmnjeiaa.fnExactProgramBytes
open Go.ChangeShapes Go.WideShapes Go.ChangeAt Go.RowKit
open Go.ChangeMaps (open_string shut_string)
set_option linter.unusedVariables false

theorem own : ownKnob Try.prog.godebug = none := by kernel_rfl
theorem laidOut : laidOutB Try.prog = true := by kernel_rfl

set_option maxHeartbeats 2000000 in
set_option maxRecDepth 100000 in
theorem lifted (os : Os) (started : os.Started) (H : Type) (enc : TypeId × Value → H) :
    ReturnsInHanded {} Try.checked os 3 .any (Rows.fnExactProgramBytesSpec.pre6 enc Try.prog Try.f3 Rows.fnExactProgramBytesRow.domain false) (Rows.fnExactProgramBytesSpec.post enc Try.prog Try.f3 false true false false) := by
  refine returnsInHanded_of_change (C := Try.checked) own started (by kernel_rfl) Try.func3
    (ChangeSpec.witness6 (enc := enc) (C := Try.checked) false ⟨#[], #[.agg #[.int .i64 0, .slice none 0 0, .slice none 0 0, .slice none 0 0]], []⟩ 8 (by kernel_rfl) (by kernel_rfl) (by kernel_rfl) (by kernel_rfl)) ?_
  intro W base args ds gs before hval0 hW hcnd _
  have hval : ∀ (j : Nat) t v, Try.f3.params[j]? = some t → args[j]? = some v → Value.okWide Try.prog W .any base t v := hval0
  have hW' := hW
  obtain ⟨p, q, hA0, hV, rfl, hfz, hnd⟩ := hW
  have hA : DataW.TrodAll enc Try.prog W 0 (fun _ => true) true Try.f3.params.toList args.toList ds p := hA0
  rw [Try.params3] at hA hval
  obtain ⟨v0, vs0, d0, ds0, p0, q0, hargs, rfl, rfl, h0, r0⟩ := trodAll_cons hA
  obtain ⟨rfl, rfl, rfl⟩ := trodAll_nil r0
  obtain rfl : args = #[v0] := by cases args; simp_all
  obtain ⟨rfl, rfl⟩ := trodVars_none hV
  obtain ⟨cs, rfl, hsz⟩ := okWide_struct Try.underlying25 (hval 0 25 v0 rfl rfl)
  have kk := h0
  have ltk : ∀ x ∈ p0, x.block < W.heap.size := by obtain ⟨m, hm⟩ := kk; exact DataW.trod_lt m _ _ _ hm
  obtain ⟨fuel, hf⟩ := h0
  obtain ⟨d, u1, q1, u2, q2, u3, q3, hcs, m1, m2, m3⟩ := ofProgram (cs := cs.toList) (by simpa [Value.cells] using hf)
  have hcs2 : cs = #[.int .i64 d.regs, .slice u1 d.params.length q1, .slice u2 d.widths.length q2, .slice u3 d.code.length q3] := by rw [← Array.toArray_toList (xs := cs), hcs]
  subst hcs2
  clear hA0 hval0
  refine (fnExactProgramBytes_core 0 d u1 q1 u2 q2 u3 q3 W m1 m2 m3).mono fun e W' ⟨he, bel⟩ => ?_
  subst he
  exact ⟨_, rfl, _, _, _, [], _, [], hW', trodAll_mk1 (shut_bool Try.underlying4 _), (trodAll_cons_mk (Below.trod laidOut (by kernel_rfl) (of_decide_eq_true (by kernel_rfl)) kk bel ltk) trodAll_mk0), rfl, bel.frame _, fun h => by cases h⟩

theorem over : Rows.fnExactProgramBytesRow.holds Try.pinned (OpenSpec.ofChange Rows.fnExactProgramBytesSpec) :=
  OpenClaim.holds_of_wide 3 Try.f3 rfl rfl rfl rfl rfl rfl rfl ⟨rfl, rfl, rfl, rfl, rfl⟩ rfl rfl rfl rfl rfl (by kernel_rfl) Try.func3 (by kernel_rfl)
    (of_decide_eq_true (by kernel_rfl)) (by unfold Func.isWrapper; first | (rw [if_pos (by decide +kernel)]; kernel_rfl) | (rw [if_neg (by decide +kernel)]; exact ⟨rfl, rfl⟩))
    (fun os started H enc _ => lifted os started H enc)
end Go.Proofs.Ytoekogfbmnjeiaa.fnExactProgramBytes

namespace Go.Proofs.Ytoekogfbmnjeiaa
theorem fnExactProgramBytes_holds : Rows.FnExactProgramBytesSaid := fnExactProgramBytes.over
#print axioms fnExactProgramBytes_holds
end Go.Proofs.Ytoekogfbmnjeiaa
