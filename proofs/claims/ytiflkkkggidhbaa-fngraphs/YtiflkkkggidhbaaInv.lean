/- A region that draws its order, by what holds whatever has come up so far. -/
import Derived.Test.YtiflkkkggidhbaaGnI
namespace Go.Proofs.Ytiflkkkggidhbaa
open Go.RowKit Go.Deep
set_option linter.unusedVariables false

theorem wpAny_inv {P : Program} {md : Region.Mode} {ops : Array Oper} {Q : Exit → Act → World → Prop} (J : Array Bool → Act → World → Prop)
    (hend : ∀ listed a w, listed.size = ops.size → Region.ready md ops listed = [] → J listed a w → Q .normal a w)
    (hstep : ∀ listed i a w, listed.size = ops.size → i ∈ Region.ready md ops listed → J listed a w → wpOp P ops Q i (J (listed.setIfInBounds i true)) a w) :
    ∀ (fuel : Nat) (listed : Array Bool) (a : Act) (w : World), listed.size = ops.size → listed.toList.count false ≤ fuel → J listed a w → wpAny P md ops Q fuel listed a w := by
  have key : ∀ (listed : Array Bool) (i : Nat), i ∈ Region.ready md ops listed → ∃ h : i < listed.toList.length, listed.toList[i] = false := fun listed i hi => by
    have h1 := (mem_ready.1 hi)
    have h2 : listed.getD i true = false := by simp_all
    by_cases h3 : i < listed.size
    · refine ⟨by simpa using h3, ?_⟩
      simpa [Array.getD, h3] using h2
    · simp [Array.getD, h3] at h2
  intro fuel
  induction fuel with
  | zero =>
    intro listed a w hs hc hJ
    have h0 : Region.ready md ops listed = [] := by
      refine List.eq_nil_iff_forall_not_mem.2 fun i hi => ?_
      obtain ⟨h1, h2⟩ := key listed i hi
      have h3 : false ∈ listed.toList := h2 ▸ List.getElem_mem h1
      have := List.count_pos_iff.2 h3
      omega
    exact ⟨h0, hend _ _ _ hs h0 hJ⟩
  | succ fuel ih =>
    intro listed a w hs hc hJ
    refine ⟨fun h0 => hend _ _ _ hs h0 hJ, fun i hi => wpOp_mono (fun a' w' hJ' => ih _ _ _ (by simpa using hs) ?_ hJ') (hstep listed i a w hs hi hJ)⟩
    obtain ⟨h1, h2⟩ := key listed i hi
    have h3 : false ∈ listed.toList := h2 ▸ List.getElem_mem h1
    have h4 := List.count_pos_iff.2 h3
    rw [Array.toList_setIfInBounds, List.count_set h1, h2]
    generalize listed.toList.count false = n at hc h4 ⊢
    simp
    omega
/-- The same for a whole region. -/
theorem wp_region_inv {P : Program} {id : Nat} {ops : Array Oper} {Q : Exit → Act → World → Prop} {a : Act} {w : World} (hm : P.follows .mixedOrders = true) (J : Array Bool → Act → World → Prop)
    (h0 : J (Array.replicate ops.size false) a w.drew)
    (hend : ∀ listed a w, listed.size = ops.size → Region.ready .any ops listed = [] → J listed a w → Q .normal a w)
    (hstep : ∀ listed i a w, listed.size = ops.size → i ∈ Region.ready .any ops listed → J listed a w → wpOp P ops Q i (J (listed.setIfInBounds i true)) a w) : (Code.region id ops true).wp P Q a w :=
  wp_region_any hm (wpAny_inv J hend hstep ops.size _ a _ (by simp) (by rw [Array.toList_replicate, List.count_replicate_self]; exact Nat.le_refl _) h0)
end Go.Proofs.Ytiflkkkggidhbaa
