/- How much a value holds, as the laws reckon it: the contracts of the sz functions. -/
import Derived.Test.YtclagbdomfgodaaGreatDoorMem
namespace Go.Proofs.YtclagbdomfgodaaGreatDoor
open Go.RowKit

def szI (n : Nat) (left : Int) : Int := if left - n < 0 then -1 else left - n
def szL {α : Type} (f : α → Int → Int) : List α → Int → Int
  | [], x => x
  | d :: r, x => if f d x < 0 then -1 else szL f r (f d x)
def szS {α : Type} (f : α → Int → Int) (l : List α) (x : Int) : Int := if x - l.length < 0 then -1 else szL f l (x - l.length)
/-- What is left is -1, or no more than was there. -/
def Falls {α : Type} (f : α → Int → Int) : Prop := ∀ d x, 0 ≤ x → f d x = -1 ∨ (0 ≤ f d x ∧ f d x ≤ x)
theorem szI_falls (n : Nat) (x : Int) : szI n x = -1 ∨ (0 ≤ szI n x ∧ szI n x ≤ x) := by unfold szI; split <;> omega
theorem szL_falls {α : Type} {f : α → Int → Int} (hf : Falls f) : ∀ (l : List α) (x : Int), 0 ≤ x → szL f l x = -1 ∨ (0 ≤ szL f l x ∧ szL f l x ≤ x)
  | [], x, hx => .inr ⟨hx, Int.le_refl _⟩
  | d :: r, x, hx => by
    unfold szL
    rcases hf d x hx with h | ⟨h, h'⟩
    · rw [if_pos (by omega)]; exact .inl rfl
    · rw [if_neg (by omega)]
      rcases szL_falls hf r (f d x) h with k | ⟨k, k'⟩
      · exact .inl k
      · exact .inr ⟨k, by omega⟩
theorem szS_falls {α : Type} {f : α → Int → Int} (hf : Falls f) (l : List α) (x : Int) : szS f l x = -1 ∨ (0 ≤ szS f l x ∧ szS f l x ≤ x) := by
  unfold szS; split
  · exact .inl rfl
  · rcases szL_falls hf l (x - l.length) (by omega) with h | h
    · exact .inl h
    · exact .inr ⟨h.1, by omega⟩
theorem szL_each {α : Type} {f : α → Int → Int} (hf : Falls f) : ∀ (l : List α) (x : Int), 0 ≤ x → 0 ≤ szL f l x → ∀ d ∈ l, ∃ y, 0 ≤ y ∧ y ≤ x ∧ 0 ≤ f d y
  | [], _, _, _, _, hd => by cases hd
  | c :: r, x, hx, h, d, hd => by
    unfold szL at h
    rcases hf c x hx with k | ⟨k, k'⟩
    · rw [if_pos (by omega)] at h; omega
    · rw [if_neg (by omega)] at h
      rcases List.mem_cons.1 hd with rfl | hd
      · exact ⟨x, hx, Int.le_refl _, k⟩
      · obtain ⟨y, y0, y1, y2⟩ := szL_each hf r (f c x) k h d hd
        exact ⟨y, y0, by omega, y2⟩
theorem szS_each {α : Type} {f : α → Int → Int} (hf : Falls f) {l : List α} {x : Int} (h : 0 ≤ szS f l x) : (l.length : Int) ≤ x ∧ ∀ d ∈ l, ∃ y, 0 ≤ y ∧ y ≤ x ∧ 0 ≤ f d y := by
  unfold szS at h
  split at h
  · omega
  · refine ⟨by omega, fun d hd => ?_⟩
    obtain ⟨y, y0, y1, y2⟩ := szL_each hf l (x - l.length) (by omega) h d hd
    exact ⟨y, y0, by omega, y2⟩
def szPhi (d : PhiD) (x : Int) : Int := szI d.ins.length x
def szInst (d : InstD) (x : Int) : Int := szI d.args.length x
def szBlock (d : BlockD) (x : Int) : Int := if szS szPhi d.phis x < 0 then -1 else szS szInst d.insts (szS szPhi d.phis x)
def szFunc (d : FuncD) (x : Int) : Int := if szI d.params.length x < 0 then -1 else szS szBlock d.blocks (szI d.params.length x)
theorem szPhi_falls : Falls szPhi := fun _ _ _ => szI_falls _ _
theorem szInst_falls : Falls szInst := fun _ _ _ => szI_falls _ _
theorem szBlock_falls : Falls szBlock := fun d x _ => by
  unfold szBlock
  rcases szS_falls szPhi_falls d.phis x with h | ⟨h, h'⟩
  · rw [if_pos (by omega)]; exact .inl rfl
  · rw [if_neg (by omega)]
    rcases szS_falls szInst_falls d.insts (szS szPhi d.phis x) with k | ⟨k, k'⟩
    · exact .inl k
    · exact .inr ⟨k, by omega⟩
theorem szFunc_falls : Falls szFunc := fun d x _ => by
  unfold szFunc
  rcases szI_falls d.params.length x with h | ⟨h, h'⟩
  · rw [if_pos (by omega)]; exact .inl rfl
  · rw [if_neg (by omega)]
    rcases szS_falls szBlock_falls d.blocks (szI d.params.length x) with k | ⟨k, k'⟩
    · exact .inl k
    · exact .inr ⟨k, by omega⟩
/-- Every list in it is of at most 1048576. -/
def SmI (l : List Int) : Prop := l.length ≤ 1048576
def SmPhi (d : PhiD) : Prop := d.ins.length ≤ 1048576
def SmInst (d : InstD) : Prop := d.args.length ≤ 1048576
def SmBlock (d : BlockD) : Prop := (d.phis.length ≤ 1048576 ∧ ∀ p ∈ d.phis, SmPhi p) ∧ (d.insts.length ≤ 1048576 ∧ ∀ p ∈ d.insts, SmInst p)
def SmFunc (d : FuncD) : Prop := d.params.length ≤ 1048576 ∧ (d.blocks.length ≤ 1048576 ∧ ∀ p ∈ d.blocks, SmBlock p)
theorem szI_small {n : Nat} {x : Int} (hx : x ≤ 1048576) (h : 0 ≤ szI n x) : n ≤ 1048576 := by unfold szI at h; split at h <;> omega
theorem szBlock_small {d : BlockD} {x : Int} (hx : x ≤ 1048576) (h : 0 ≤ szBlock d x) : SmBlock d := by
  unfold szBlock at h
  rcases szS_falls szPhi_falls d.phis x with k | ⟨k, k'⟩
  · rw [if_pos (by omega)] at h; omega
  · rw [if_neg (by omega)] at h
    obtain ⟨p1, p2⟩ := szS_each szPhi_falls k
    obtain ⟨i1, i2⟩ := szS_each szInst_falls h
    refine ⟨⟨by omega, fun p hp => ?_⟩, ⟨by omega, fun p hp => ?_⟩⟩
    · obtain ⟨y, _, y1, y2⟩ := p2 p hp
      exact szI_small (by omega) y2
    · obtain ⟨y, _, y1, y2⟩ := i2 p hp
      exact szI_small (by omega) y2
theorem szFunc_small {d : FuncD} {x : Int} (hx : x ≤ 1048576) (h : 0 ≤ szFunc d x) : SmFunc d := by
  unfold szFunc at h
  rcases szI_falls d.params.length x with k | ⟨k, k'⟩
  · rw [if_pos (by omega)] at h; omega
  · rw [if_neg (by omega)] at h
    obtain ⟨b1, b2⟩ := szS_each szBlock_falls h
    refine ⟨szI_small hx k, by omega, fun p hp => ?_⟩
    obtain ⟨y, _, y1, y2⟩ := b2 p hp
    exact szBlock_small (by omega) y2
theorem ret_i {a b : Int} (h : a = b) : Ending.returned (.int .i64 a) = .returned (.int .i64 b) := by rw [h]

end Go.Proofs.YtclagbdomfgodaaGreatDoor
