/- What is folded of an instruction of a function is what the model says, at every argument; it writes into no argument, and its answer owns its memory: in worlds in which the error errUnread holds what the program's own text lays there. -/
import Derived.Test.YtoknhppjdmoblaaGreatDoorRows
import Derived.Test.YtoknhppjdmoblaaGreatDoorCards
import Derived.Test.YtoknhppjdmoblaaGreatDoorTie
import Derived.WalkKit
import Derived.ProofKit
import Derived.OpenShut
import Derived.ShutString
import Derived.ChangeOld
import Derived.Below
import Derived.OpenVars
import Derived.JoinedOf
import Derived.SevenTiedAt
import Derived.LaidMore
import Derived.Lay
import Derived.Stop.Joined
import Derived.Test.YtoknhppjdmoblaaGreatDoorFxWQ
import Derived.Test.YtoknhppjdmoblaaGreatDoorOpnQ
import Derived.Test.YtoknhppjdmoblaaGreatDoorFyXQ
namespace Go.Proofs.YtoknhppjdmoblaaGreatDoor.fnExactFoldedInst
open Go.ChangeShapes Go.WideShapes Go.ChangeAt Go.RowKit
open Go.ChangeMaps (open_string shut_string)
set_option linter.unusedVariables false

theorem own : ownKnob Tryz.prog.godebug = none := by kernel_rfl
theorem laidOut : laidOutB Tryz.prog = true := by kernel_rfl

set_option maxHeartbeats 2000000 in
set_option maxRecDepth 100000 in
theorem lifted (os : Os) (started : os.Started) (H : Type) (enc : TypeId × Value → H) :
    ReturnsInHanded {} Tryz.checked os 4 .any (fun w args => (Rows.fnExactFoldedInstSpec.pre enc Tryz.prog Tryz.f4 [] false w args ∧ laidMetH Tryz.prog Rows.fnExactFoldedInstRow.laid w) ∧ sizedMet enc Tryz.prog Tryz.f4 (OpenSpec.ofChange Rows.fnExactFoldedInstSpec) false w args) (Rows.fnExactFoldedInstSpec.post enc Tryz.prog Tryz.f4 false true false false) := by
  refine returnsInHanded_of_change_and (C := Tryz.checked) (X := fun w _ => laidMetH Tryz.prog Rows.fnExactFoldedInstRow.laid w) (fun _ _ _ hh h => h.of_heap hh) own started (by kernel_rfl) Tryz.func4
    (ChangeSpec.witness_shaped (enc := enc) (C := Tryz.checked) (os := os) (X := fun w _ => laidMetH Tryz.prog Rows.fnExactFoldedInstRow.laid w) false (World.doorLaid Tryz.prog 28 os) #[.agg #[.slice none 0 0, .int .i64 0, .slice none 0 0], .agg #[.int .i64 0, .int .i64 0, .int .i64 0, .int .i64 0, .int .i64 0, .int .i64 0, .slice none 0 0]] 8 rfl (World.shaped_of_RefB (by kernel_rfl) (by kernel_rfl)) (by kernel_rfl) (by kernel_rfl) (by kernel_rfl) (door_metC os _)) ?_
  intro W base args ds gs before hval0 hW _ _ hL _
  have hval : ∀ (j : Nat) t v, Tryz.f4.params[j]? = some t → args[j]? = some v → Value.okWide Tryz.prog W .any base t v := hval0
  have hW' := hW
  obtain ⟨p, q, hA0, hV, rfl, hfz, hnd⟩ := hW
  have hA : DataW.TrodAll enc Tryz.prog W 0 (fun _ => true) true Tryz.f4.params.toList args.toList ds p := hA0
  rw [Tryz.params4] at hA hval
  obtain ⟨v0, vs0, d0, ds0, p0, q0, hargs, rfl, rfl, h0, r0⟩ := trodAll_cons hA
  obtain ⟨v1, vs1, d1, ds1, p1, q1, rfl, rfl, rfl, h1, r1⟩ := trodAll_cons r0
  obtain ⟨rfl, rfl, rfl⟩ := trodAll_nil r1
  obtain rfl : args = #[v0, v1] := by cases args; simp_all
  obtain ⟨cs, rfl, hsz⟩ := okWide_struct Tryz.underlying40 (hval 0 40 v0 rfl rfl)
  have kk := h0
  have ltk : ∀ x ∈ p0, x.block < W.heap.size := by obtain ⟨m, hm⟩ := kk; exact DataW.trod_lt m _ _ _ hm
  obtain ⟨fuel, hf⟩ := h0
  obtain ⟨d, u0, q0, u2, q2, hcs, m0, m2⟩ := ofFunc (cs := cs.toList) (by simpa [Value.cells] using hf)
  have hcs2 : cs = #[.slice u0 d.params.length q0, .int .i64 d.ret, .slice u2 d.blocks.length q2] := by rw [← Array.toArray_toList (xs := cs), hcs]
  subst hcs2
  obtain ⟨cs_1, rfl, hsz_1⟩ := okWide_struct Tryz.underlying41 (hval 1 41 v1 rfl rfl)
  have kk_1 := h1
  have ltk_1 : ∀ x ∈ p1, x.block < W.heap.size := by obtain ⟨m, hm⟩ := kk_1; exact DataW.trod_lt m _ _ _ hm
  obtain ⟨fuel_1, hf_1⟩ := h1
  obtain ⟨d_1, u6, q6, hcs_1, m6⟩ := ofInst (cs := cs_1.toList) (by simpa [Value.cells] using hf_1)
  have hcs2_1 : cs_1 = #[.int .i64 d_1.op, .int .i64 d_1.w, .int .i64 d_1.a, .int .i64 d_1.b, .int .i64 d_1.c, .int .i64 d_1.imm, .slice u6 d_1.args.length q6] := by rw [← Array.toArray_toList (xs := cs_1), hcs_1]
  subst hcs2_1
  obtain ⟨aC, hC⟩ := cnt_of_laid hL
  have hV1 : DataW.TrodVars enc Tryz.prog W (fun _ => true) ["loop.example/g00457/impl.errUnread"] gs q := hV
  obtain ⟨rfl, rfl⟩ := hV1.unique (hC.read enc _)
  clear hA0 hval0
  refine (fnExactFoldedInst_core 0 d d_1 u0 q0 u2 q2 u6 q6 W m0 m2 m6).mono fun e W' ⟨he, bel⟩ => ?_
  subst he
  exact ⟨_, rfl, _, _, _, [], _, _, hW', trodAll_mk1 (shut_bool Tryz.underlying4 _), (trodAll_cons_mk (Below.trod laidOut (by kernel_rfl) (of_decide_eq_true (by kernel_rfl)) kk bel ltk) (trodAll_cons_mk (Below.trod laidOut (by kernel_rfl) (of_decide_eq_true (by kernel_rfl)) kk_1 bel ltk_1) trodAll_mk0)), (hC.keep bel).read enc _, bel.frame _, fun h => by cases h⟩

theorem over : Rows.fnExactFoldedInstRow.holds Tryz.pinned (OpenSpec.ofChange Rows.fnExactFoldedInstSpec) :=
  OpenClaim.holds_of_wide 4 Tryz.f4 rfl rfl rfl rfl rfl rfl rfl ⟨rfl, rfl, rfl, rfl, rfl⟩ rfl rfl rfl rfl rfl (by kernel_rfl) Tryz.func4 (by kernel_rfl)
    (of_decide_eq_true (by kernel_rfl)) (by unfold Func.isWrapper; first | (rw [if_pos (by decide +kernel)]; kernel_rfl) | (rw [if_neg (by decide +kernel)]; exact ⟨rfl, rfl⟩))
    (fun os started H enc _ => lifted os started H enc)

theorem card : Claim7.holds Tryz.pinned (.plain (OpenSpec.ofChange Rows.fnExactFoldedInstSpec)) Rows.fnExactFoldedInstCard :=
  Claim7.holds_tied_plain_at .later [] [.sentinel] true (true, "26f4cef2a4ddac88d0e58066df2af07afb9786ce595fb2fe98f7b7dd63813369") true
    over (fun _ h => by cases h) (by kernel_rfl) (fun _ h => by cases h) fnExactFoldedInst_row_tie rfl ⟨rfl, rfl⟩ (by kernel_rfl) rfl
    (fun f fn hf hfn => by
      obtain rfl : f = 4 := Option.some.inj ((show Tryz.prog.funcNamed "loop.example/g00457/laws.FnExactFoldedInst" = some 4 by kernel_rfl).symm.trans hf) |>.symm
      obtain rfl : fn = Tryz.f4 := (Option.some.inj (Tryz.func4.symm.trans hfn)).symm
      exact ⟨by kernel_rfl, fun j t ht => by
        rw [Tryz.params4] at ht
        have hm : t ∈ [40, 41] := by simpa using Array.mem_of_getElem? ht
        have hall : ([40, 41].all fun u => !Tryz.prog.wantsStandIn u) = true := by kernel_rfl
        exact (show Tryz.prog.wantsStandIn t = false by simpa using List.all_eq_true.1 hall t hm)⟩)
    (by kernel_rfl)
end Go.Proofs.YtoknhppjdmoblaaGreatDoor.fnExactFoldedInst

namespace Go.Proofs.YtoknhppjdmoblaaGreatDoor
theorem fnExactFoldedInst_holds : Rows.FnExactFoldedInstCardSaid := fnExactFoldedInst.card
#print axioms fnExactFoldedInst_holds
end Go.Proofs.YtoknhppjdmoblaaGreatDoor
