/- A scope in which a run jumps to several labels: what holds at each jump, and a measure that every pass lowers. -/
import Derived.Test.YtofgfiakccjimaaRows
import Derived.WalkKit
import Derived.WalkMore
import Derived.Scope
namespace Go.Proofs.Ytofgfiakccjimaa
open Go Go.RowKit

/-- As Q; by a goto: what is asked at its label. -/
def leaps (J : Nat → Act → World → Prop) (Q : Exit → Act → World → Prop) : Exit → Act → World → Prop
  | .goto l, a, w => J l a w
  | e, a, w => Q e a w
theorem wp_scope_leaps {P : Program} {a : Act} {w : World} {Q : Exit → Act → World → Prop} {c : Code} (J : Nat → Act → World → Prop) (m : Nat → Act → World → Nat) (R : Nat → Code) (hf : ∀ l a w, J l a w → findLabel c l = some (R l))
    (start : c.wp P (leaps J Q) a w) (pass : ∀ l a w, J l a w → (R l).wp P (leaps (fun l' a' w' => J l' a' w' ∧ m l' a' w' < m l a w) Q) a w) : (Code.scope c).wp P Q a w := by
  intro b k cs
  have hg : ∀ l a w, J l a w → gotoIn l (.inScope c :: k) = some (.code (R l) :: .inScope c :: k) := fun l a w h => by simp [gotoIn, hf l a w h]
  have key : ∀ n l a w, m l a w = n → J l a w → ∃ e a' w', Q e a' w' ∧ Arrives P (lone (b.at a (.code (R l) :: .inScope c :: k)) cs w) b k cs e a' w' := by
    intro n
    induction n using Nat.strongRecOn with
    | _ n ih =>
      intro l a w hn hJ
      obtain ⟨e, a1, w1, hq, harr⟩ := pass l a w hJ b (.inScope c :: k) cs
      cases e with
      | goto l2 =>
        obtain ⟨hJ2, hlt⟩ := hq
        obtain ⟨e2, a2, w2, hq2, harr2⟩ := ih _ (by omega) l2 a1 w1 rfl hJ2
        exact ⟨e2, a2, w2, hq2, .of_steps (harr _ (hg l2 a1 w1 hJ2)) harr2⟩
      | normal => exact ⟨.normal, a1, w1, hq, Steps.trans harr (.one step_inScope)⟩
      | exit id => exact ⟨.exit id, a1, w1, hq, fun k' hk => harr k' (by simp [exitTo, hk])⟩
      | ret => exact ⟨_, a1, w1, hq, harr⟩
      | panic ch => exact ⟨_, a1, w1, hq, harr⟩
      | outgrown => exact ⟨_, a1, w1, hq, harr⟩
  obtain ⟨e, a1, w1, hq, harr⟩ := start b (.inScope c :: k) cs
  cases e with
  | goto l2 =>
    obtain ⟨e2, a2, w2, hq2, harr2⟩ := key _ l2 a1 w1 rfl hq
    exact ⟨e2, a2, w2, hq2, .of_steps (.head step_scope (harr _ (hg l2 a1 w1 hq))) harr2⟩
  | normal => exact ⟨.normal, a1, w1, hq, .head step_scope (Steps.trans harr (.one step_inScope))⟩
  | exit id => exact ⟨.exit id, a1, w1, hq, fun k' hk => .head step_scope (harr k' (by simp [exitTo, hk]))⟩
  | ret => exact ⟨_, a1, w1, hq, .of_steps (.one step_scope) harr⟩
  | panic ch => exact ⟨_, a1, w1, hq, .of_steps (.one step_scope) harr⟩
  | outgrown => exact ⟨_, a1, w1, hq, .of_steps (.one step_scope) harr⟩
def three (a b c : Act → World → Prop) (l : Nat) : Act → World → Prop := if l = 0 then a else if l = 1 then b else if l = 2 then c else fun _ _ => False
def threeN (a b c : Act → World → Nat) (l : Nat) : Act → World → Nat := if l = 0 then a else if l = 1 then b else c
def threeC (a b c : Code) (l : Nat) : Code := if l = 0 then a else if l = 1 then b else c
/-- Three labels, 0, 1 and 2. -/
theorem wp_scope_three {P : Program} {a : Act} {w : World} {Q : Exit → Act → World → Prop} {c r0 r1 r2 : Code} (J0 J1 J2 : Act → World → Prop) (m0 m1 m2 : Act → World → Nat)
    (f0 : findLabel c 0 = some r0) (f1 : findLabel c 1 = some r1) (f2 : findLabel c 2 = some r2) (start : c.wp P (leaps (three J0 J1 J2) Q) a w)
    (p0 : ∀ a w, J0 a w → r0.wp P (leaps (fun l a' w' => three J0 J1 J2 l a' w' ∧ threeN m0 m1 m2 l a' w' < m0 a w) Q) a w)
    (p1 : ∀ a w, J1 a w → r1.wp P (leaps (fun l a' w' => three J0 J1 J2 l a' w' ∧ threeN m0 m1 m2 l a' w' < m1 a w) Q) a w)
    (p2 : ∀ a w, J2 a w → r2.wp P (leaps (fun l a' w' => three J0 J1 J2 l a' w' ∧ threeN m0 m1 m2 l a' w' < m2 a w) Q) a w) : (Code.scope c).wp P Q a w := by
  refine wp_scope_leaps (three J0 J1 J2) (threeN m0 m1 m2) (threeC r0 r1 r2) (fun l a w h => ?_) start (fun l a w h => ?_)
  · match l, h with
    | 0, _ => exact f0
    | 1, _ => exact f1
    | 2, _ => exact f2
  · match l, h with
    | 0, h => exact p0 a w h
    | 1, h => exact p1 a w h
    | 2, h => exact p2 a w h
end Go.Proofs.Ytofgfiakccjimaa
