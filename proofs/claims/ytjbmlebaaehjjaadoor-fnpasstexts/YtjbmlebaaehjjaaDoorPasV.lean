/- The core of the law FnExactPassesOf. -/
import Derived.Test.YtjbmlebaaehjjaaDoorPas6
import Derived.Test.YtjbmlebaaehjjaaDoorMrA
import Derived.Test.YtjbmlebaaehjjaaDoorEq
import Derived.Deep.RegionWith
namespace Go.Proofs.YtjbmlebaaehjjaaDoor
open Go.RowKit
set_option linter.unusedVariables false

def listO (o : Option (List Int)) : List Int := o.getD []
theorem told_parts {w : World} {base : Nat} {o : Option (List Int)} {e : Ending} (h : PassesTold w base o e) (hl : (listO o).length ≤ 1048576) : ∃ u c, e = .returned (.tuple #[.slice u (listO o).length c, .bool o.isSome]) ∧ OI w base u (listO o) := by
  cases o with
  | none => exact ⟨none, 0, h, by simp [listO], .inl rfl⟩
  | some l =>
    obtain ⟨v, rfl, hr⟩ := h
    obtain ⟨u, c, rfl, ho⟩ := row_own hl hr
    exact ⟨u, c, rfl, ho⟩
theorem list_len (s : ByteArray) : (listO (passesD s)).length ≤ 12 := by
  unfold passesD listO
  split
  · simp
  · split
    · rename_i h
      simp [okL] at h
      simpa using h.1
    · simp
set_option maxHeartbeats 4000000 in
theorem fnExactPassesOf_core (s : ByteArray) (w : World) (hmx : s.size ≤ maxLen) (hW : WordsAt w) :
    Calls Tryd.prog 4 #[.string s] w fun e w' => e = .returned (.bool true) ∧ Below w.heap.size w w' := by
  unfold maxLen at hmx
  by_cases hs : s.size ≤ 1048576
  · have h12 := list_len s
    have P1 := passesOfS s w hs
    have PI := fun w h => passesOfI s w hs h
    generalize passesD s = o at h12 P1 PI
    have HP : Hid (∀ w, WordsAt w → Calls Tryd.prog 9 #[.string s] w fun e w' => PassesTold w' w.heap.size o e ∧ Below w.heap.size w w') := PI
    clear PI
    go_enter Tryd.func4, Tryd.ntmps4
    go_wp2_with fail
    refine P1.mono ?_
    rintro e w1 ⟨ht1, b1⟩
    obtain ⟨u1, c1, rfl, o1⟩ := told_parts ht1 (by omega)
    have n1 : IntsAt w1 w.heap.size u1 (listO o) := o1.at
    clear ht1 o1 P1
    have HP2 : Hid (∀ w, WordsAt w → Calls Tryd.prog 9 #[.string s] w fun e w' => (∃ u c, e = .returned (.tuple #[.slice u (listO o).length c, .bool o.isSome]) ∧ OI w' w.heap.size u (listO o)) ∧ Below w.heap.size w w') := fun w h => (HP.out w h).mono fun e w' hh => ⟨told_parts hh.1 (by omega), hh.2⟩
    clear HP
    have hb : ∀ f : Bool, (f != f) = false := fun f => by cases f <;> rfl
    have hbf := hb o.isSome
    clear hb
    generalize o.isSome = f at *
    generalize listO o = L at *
    have hrn : ¬ (1 : Int) + L.length < 0 := by omega
    go_wp2_with fail
    refine (HP2.out _ (hW.keep b1)).mono ?_
    rintro e w2 ⟨⟨u2, c2, rfl, o2⟩, b2⟩
    have B2 := b1.trans (b2.mono b1.size)
    have A2 : Agree w.heap.size w1 w2 := agree_of_below b2 _
    have z12 := b2.size
    go_wp2_with fail
    refine (eqInts_any _ _ _ _ _ _ L _ o2.at (n1.keep A2)).mono ?_
    rintro e w3 ⟨rfl, b3⟩
    have B3 := B2.trans (b3.mono B2.size)
    have A3 := agree_below A2 b3
    have o3 := o2.keep (agree_of_below b3 _)
    have z23 := b3.size
    clear o2 b2 b3 B2 A2
    go_wp2_with fail
    refine (mark_own w1.heap.size _ _ L _ (by omega) o3).mono ?_
    rintro e w4 ⟨rfl, o4, g, hg, only⟩
    have B4 := below_only B3 only (by have := b1.size; omega)
    have A4 := agree_only A3 only hg
    have z34 := only.size
    clear o3 only B3 A3
    go_wp2_with fail
    refine (heldInts _ _ _ _ 1 _ (by omega) (by omega) (by omega) o4.at).mono ?_
    rintro e w8 ⟨rfl, h9⟩
    have h8 := h9.symm
    clear h9
    subst h8
    go_wp2_with fail
    refine (HP2.out _ (hW.keep B4)).mono ?_
    rintro e w5 ⟨⟨u5, c5, rfl, o5⟩, b5⟩
    have B5 := B4.trans (b5.mono B4.size)
    have A5 := agree_below A4 b5
    have p5 := o4.keep (agree_of_below b5 _)
    clear o4 b5 B4 A4
    go_wp2_with fail
    refine (eqInts_any _ _ _ _ _ _ L _ o5.at (n1.keep A5)).mono ?_
    rintro e w6 ⟨rfl, b6⟩
    have B6 := B5.trans (b6.mono B5.size)
    have p6 := p5.keep (agree_of_below b6 _)
    clear o5 b6 B5 A5 p5
    go_wp2_with fail
    refine (heldInts _ _ _ _ 1 _ (by omega) (by omega) (by omega) p6.at).mono ?_
    rintro e w8 ⟨rfl, h9⟩
    have h8 := h9.symm
    clear h9
    subst h8
    go_wp2_with fail
    go_ret
    exact ⟨rfl, B6⟩
  · have hbig : (1048576 : Int) < s.size := by omega
    go_enter Tryd.func4, Tryd.ntmps4
    go_wp2_with fail
    go_ret
    exact ⟨rfl, Below.refl _ _⟩
end Go.Proofs.YtjbmlebaaehjjaaDoor
