/- At every argument Substituted answers as the specification, field by field, writes into no argument and owns its answer; where the program's error errUnread holds what the program's own text lays there. -/
import Derived.Test.YtenbodghkpbghaaDoorRows
import Derived.Test.YtenbodghkpbghaaDoorCards
import Derived.Test.YtenbodghkpbghaaDoorTie
import Derived.WalkKit
import Derived.ProofKit
import Derived.OpenShut
import Derived.ShutString
import Derived.ChangeOld
import Derived.Below
import Derived.OpenVars
import Derived.JoinedOf
import Derived.SevenTiedAt
import Derived.LaidMore
import Derived.Lay
import Derived.Stop.Joined
import Derived.Test.YtenbodghkpbghaaDoorSbOQ
import Derived.Test.YtenbodghkpbghaaDoorOpnQ
namespace Go.Proofs.YtenbodghkpbghaaDoor.fnExactSubstituted
open Go.ChangeShapes Go.WideShapes Go.ChangeAt Go.RowKit
open Go.ChangeMaps (open_string shut_string)
set_option linter.unusedVariables false

theorem own : ownKnob Tryd.prog.godebug = none := by kernel_rfl
theorem laidOut : laidOutB Tryd.prog = true := by kernel_rfl

set_option maxHeartbeats 2000000 in
set_option maxRecDepth 100000 in
theorem lifted (os : Os) (started : os.Started) (H : Type) (enc : TypeId × Value → H) :
    ReturnsInHanded {} Tryd.checked os 4 .any (fun w args => (Rows.fnExactSubstitutedSpec.pre enc Tryd.prog Tryd.f4 [] false w args ∧ laidMetH Tryd.prog Rows.fnExactSubstitutedRow.laid w) ∧ sizedMet enc Tryd.prog Tryd.f4 (OpenSpec.ofChange Rows.fnExactSubstitutedSpec) false w args) (Rows.fnExactSubstitutedSpec.post enc Tryd.prog Tryd.f4 false true false false) := by
  refine returnsInHanded_of_change_and (C := Tryd.checked) (X := fun w _ => laidMetH Tryd.prog Rows.fnExactSubstitutedRow.laid w) (fun _ _ _ hh h => h.of_heap hh) own started (by kernel_rfl) Tryd.func4
    (ChangeSpec.witness_shaped (enc := enc) (C := Tryd.checked) (os := os) (X := fun w _ => laidMetH Tryd.prog Rows.fnExactSubstitutedRow.laid w) false (World.doorLaid Tryd.prog 28 os) #[.agg #[.slice none 0 0, .int .i64 0, .slice none 0 0], .slice none 0 0] 8 rfl (World.shaped_of_RefB (by kernel_rfl) (by kernel_rfl)) (by kernel_rfl) (by kernel_rfl) (by kernel_rfl) (door_metC os _)) ?_
  intro W base args ds gs before hval0 hW _ _ hL _
  have hval : ∀ (j : Nat) t v, Tryd.f4.params[j]? = some t → args[j]? = some v → Value.okWide Tryd.prog W .any base t v := hval0
  have hW' := hW
  obtain ⟨p, q, hA0, hV, rfl, hfz, hnd⟩ := hW
  have hA : DataW.TrodAll enc Tryd.prog W 0 (fun _ => true) true Tryd.f4.params.toList args.toList ds p := hA0
  rw [Tryd.params4] at hA hval
  obtain ⟨v0, vs0, d0, ds0, p0, q0, hargs, rfl, rfl, h0, r0⟩ := trodAll_cons hA
  obtain ⟨v1, vs1, d1, ds1, p1, q1, rfl, rfl, rfl, h1, r1⟩ := trodAll_cons r0
  obtain ⟨rfl, rfl, rfl⟩ := trodAll_nil r1
  obtain rfl : args = #[v0, v1] := by cases args; simp_all
  obtain ⟨cs, rfl, hsz⟩ := okWide_struct Tryd.underlying47 (hval 0 47 v0 rfl rfl)
  have kk := h0
  have ltk : ∀ x ∈ p0, x.block < W.heap.size := by obtain ⟨m, hm⟩ := kk; exact DataW.trod_lt m _ _ _ hm
  obtain ⟨fuel, hf⟩ := h0
  obtain ⟨d, u0, q0, u2, q2, hcs, m0, m2⟩ := ofFunc (cs := cs.toList) (by simpa [Value.cells] using hf)
  have hcs2 : cs = #[.slice u0 d.params.length q0, .int .i64 d.ret, .slice u2 d.blocks.length q2] := by rw [← Array.toArray_toList (xs := cs), hcs]
  subst hcs2
  obtain ⟨sa1, sn1, sc1, rfl⟩ := okWide_slice Tryd.underlying24 (hval 1 24 v1 rfl rfl)
  have kk1 := h1
  have ltk1 : ∀ x ∈ p1, x.block < W.heap.size := by obtain ⟨m, hm⟩ := kk1; exact DataW.trod_lt m _ _ _ hm
  obtain ⟨fuel1, hf1⟩ := h1
  obtain ⟨ua1, al1, qa1, hc1, ma1⟩ := ints_of (c := .slice sa1 sn1 sc1) (by simpa [Value.cells] using hf1)
  simp only [Value.slice.injEq] at hc1
  obtain ⟨rfl, rfl, rfl⟩ := hc1
  obtain ⟨aC, hC⟩ := cnt_of_laid hL
  have hV1 : DataW.TrodVars enc Tryd.prog W (fun _ => true) ["loop.example/g00457/impl.errUnread"] gs q := hV
  obtain ⟨rfl, rfl⟩ := hV1.unique (hC.read enc _)
  clear hA0 hval0
  refine (fnExactSubstituted_core 0 0 d u0 q0 u2 q2 al1 sa1 sc1 W m0 m2 ma1).mono fun e W' ⟨he, bel⟩ => ?_
  subst he
  exact ⟨_, rfl, _, _, _, [], _, _, hW', trodAll_mk1 (shut_bool Tryd.underlying4 _), (trodAll_cons_mk (Below.trod laidOut (by kernel_rfl) (of_decide_eq_true (by kernel_rfl)) kk bel ltk) (trodAll_cons_mk (Below.trod laidOut (by kernel_rfl) (of_decide_eq_true (by kernel_rfl)) kk1 bel ltk1) trodAll_mk0)), (hC.keep bel).read enc _, bel.frame _, fun h => by cases h⟩

theorem over : Rows.fnExactSubstitutedRow.holds Tryd.pinned (OpenSpec.ofChange Rows.fnExactSubstitutedSpec) :=
  OpenClaim.holds_of_wide 4 Tryd.f4 rfl rfl rfl rfl rfl rfl rfl ⟨rfl, rfl, rfl, rfl, rfl⟩ rfl rfl rfl rfl rfl (by kernel_rfl) Tryd.func4 (by kernel_rfl)
    (of_decide_eq_true (by kernel_rfl)) (by unfold Func.isWrapper; first | (rw [if_pos (by decide +kernel)]; kernel_rfl) | (rw [if_neg (by decide +kernel)]; exact ⟨rfl, rfl⟩))
    (fun os started H enc _ => lifted os started H enc)

theorem card : Claim7.holds Tryd.pinned (.plain (OpenSpec.ofChange Rows.fnExactSubstitutedSpec)) Rows.fnExactSubstitutedCard :=
  Claim7.holds_tied_plain_at .later [] [.sentinel] true (true, "b8d4bd325c9d1cea839ee4bb293d2b224ba7e41c68941e7826997f3ab995967d") true
    over (fun _ h => by cases h) (by kernel_rfl) (fun _ h => by cases h) fnExactSubstituted_row_tie rfl ⟨rfl, rfl⟩ (by kernel_rfl) rfl
    (fun f fn hf hfn => by
      obtain rfl : f = 4 := Option.some.inj ((show Tryd.prog.funcNamed "loop.example/g00457/laws.FnExactSubstituted" = some 4 by kernel_rfl).symm.trans hf) |>.symm
      obtain rfl : fn = Tryd.f4 := (Option.some.inj (Tryd.func4.symm.trans hfn)).symm
      exact ⟨by kernel_rfl, fun j t ht => by
        rw [Tryd.params4] at ht
        have hm : t ∈ [47, 24] := by simpa using Array.mem_of_getElem? ht
        have hall : ([47, 24].all fun u => !Tryd.prog.wantsStandIn u) = true := by kernel_rfl
        exact (show Tryd.prog.wantsStandIn t = false by simpa using List.all_eq_true.1 hall t hm)⟩)
    (by kernel_rfl)
end Go.Proofs.YtenbodghkpbghaaDoor.fnExactSubstituted

namespace Go.Proofs.YtenbodghkpbghaaDoor
theorem fnExactSubstituted_holds : Rows.FnExactSubstitutedCardSaid := fnExactSubstituted.card
#print axioms fnExactSubstituted_holds
end Go.Proofs.YtenbodghkpbghaaDoor
