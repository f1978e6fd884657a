/- The library's Sort over a short list of numbers. -/
import Derived.Test.YtilhmpilkhadfaaSrt
namespace Go.Proofs.Ytilhmpilkhadfaa
open Go.RowKit

def Sorted (l : List Int) : Prop := ∀ p q, p < q → q < l.length → l.getD p 0 ≤ l.getD q 0
theorem lenI (x : Int) (w : World) (h0 : 0 ≤ x) (h1 : x ≤ 12) : Calls Try.prog 66 #[.int .u64 x] w fun e w' => (∃ y : Int, e = .returned (.int .i64 y)) ∧ w' = w := by
  go_enter Try.func66, Try.ntmps66
  go_wp2_with (go_at_call 89; refine (len64I _ _ h0 h1).mono ?_; rintro e w1 ⟨⟨y, rfl⟩, rfl⟩)
  go_ret
  exact ⟨⟨_, rfl⟩, rfl⟩
theorem insZero (u : Option Addr) (c : Nat) (w : World) : Calls Try.prog 79 #[.slice u 0 c, .int .i64 0, .int .i64 0] w fun e w' => e = .returned (.tuple #[]) ∧ w' = w := by
  go_enter Try.func79, Try.ntmps79
  go_wp2_with fail
  go_loop [6] (fun vi => vi = .int .i64 1) (fun _ => 0)
  case atStart => rfl
  case round =>
    subst hrel
    go_wp2_with fail
    go_end0
    exact ⟨rfl, rfl⟩
/-- What sorting leaves of a list of the call's own. -/
def Srtd (base : Nat) (u : Option Addr) (l : List Int) (w w' : World) : Prop := ∃ l', l'.Perm l ∧ Sorted l' ∧ OI w' base u l' ∧ ∃ g, base ≤ g ∧ Only g w w'
theorem insOI (base : Nat) (u : Option Addr) (c : Nat) (l : List Int) (w : World) (hl : l.length ≤ 12) (h : OI w base u l) :
    Calls Try.prog 79 #[.slice u l.length c, .int .i64 0, .int .i64 l.length] w fun e w' => e = .returned (.tuple #[]) ∧ Srtd base u l w w' := by
  rcases h.2 with rfl | ⟨g, cur, rfl, hg, hb, hc⟩
  · refine (insZero u c w).mono ?_
    rintro e w1 ⟨rfl, rfl⟩
    exact ⟨rfl, [], List.Perm.refl _, fun p q _ h => by simp at h, h, base, Nat.le_refl _, Only.refl _ _⟩
  · refine (insI g c l w (by omega) ⟨cur, hb, hc⟩).mono ?_
    rintro e w1 ⟨rfl, ho, l', hp, ⟨cur', hb', hc'⟩, hs⟩
    have hle := hp.length_eq
    exact ⟨rfl, l', hp, fun p q h1 h2 => hs p q h1 (by omega), ⟨by omega, .inr ⟨g, cur', rfl, hg, hb', hc'⟩⟩, g, hg, ho⟩
set_option maxHeartbeats 4000000 in
theorem pdqI (base : Nat) (u : Option Addr) (c : Nat) (l : List Int) (y : Int) (w : World) (hl : l.length ≤ 12) (h : OI w base u l) :
    Calls Try.prog 65 #[.slice u l.length c, .int .i64 0, .int .i64 l.length, .int .i64 y] w fun e w' => e = .returned (.tuple #[]) ∧ Srtd base u l w w' := by
  have HO : Hid (OI w base u l) := h
  have hd : decide ((l.length : Int) ≤ 12) = true := by simp; omega
  clear h
  go_enter Try.func65, Try.ntmps65
  go_wp2_with fail
  refine wp_loop_rounds 1 ?_
  rw [rounds_succ]
  go_wp2_with (go_at_call 79; refine (insOI base u c l _ hl HO.out).mono ?_; rintro e w1 ⟨rfl, h1⟩; have H1 : Hid _ := h1; clear h1)
  exact bodyPost_ret (v := .tuple #[]) (results_none Try.results65 _ _ _) rfl ⟨rfl, H1.out⟩
theorem sortI (base : Nat) (u : Option Addr) (c : Nat) (l : List Int) (w : World) (hl : l.length ≤ 12) (h : OI w base u l) :
    Calls Try.prog 42 #[.slice u l.length c] w fun e w' => e = .returned (.tuple #[]) ∧ Srtd base u l w w' := by
  have HO : Hid (OI w base u l) := h
  clear h
  go_enter Try.func42, Try.ntmps42
  go_wp2_with (first | (go_at_call 66; refine (lenI _ _ (by omega) (by omega)).mono ?_; rintro e w1 ⟨⟨y, rfl⟩, rfl⟩) | (go_at_call 65; refine (pdqI base u c l y _ hl HO.out).mono ?_; rintro e w2 ⟨rfl, h2⟩; have H2 : Hid _ := h2; clear h2))
  go_end0
  exact ⟨rfl, H2.out⟩
end Go.Proofs.Ytilhmpilkhadfaa
