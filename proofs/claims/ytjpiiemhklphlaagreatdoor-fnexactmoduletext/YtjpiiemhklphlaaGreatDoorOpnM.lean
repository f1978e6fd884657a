/- An argument that is a module, opened. -/
import Derived.Test.YtjpiiemhklphlaaGreatDoorOpn
namespace Go.Proofs.YtjpiiemhklphlaaGreatDoor
open Go.ChangeShapes Go.WideShapes Go.ChangeAt Go.RowKit Go.Deep

section
variable {H : Type} {enc : TypeId × Value → H} {w : World}
theorem ofFuncs {fuel : Nat} {c : Value} {x : DataW H × List MemPlace} (h : DataW.trod enc Tryz.prog w 0 (fun _ => true) true fuel 22 [c] = some x) : ∃ (u : Option Addr) (l : List FuncD) (q : Nat), c = .slice u l.length q ∧ FuncsAt w 0 u l := by
  obtain ⟨a, l, cap, hc, hm, hl⟩ := slice_of (α := FuncD) func0 (sz := 3) (FuncRep w) Tryz.underlying22 (by kernel_rfl) (by omega) (fun _ _ _ h => ofFunc h) h
  refine ⟨a, l, cap, hc, hm, ?_⟩
  rcases hl with hl | ⟨b, off, ha, h0, hb, hcell⟩
  · exact .inl hl
  · refine .inr ⟨b, off, ha, h0, hb, fun i hi => ?_⟩
    obtain ⟨cs, _, h4, u0, q0, u2, q2, rfl, m0, m2⟩ := hcell i hi
    exact ⟨⟨u0, q0, by have := h4 0 (by omega); simpa using this, m0⟩, by have := h4 1 (by omega); simpa using this, ⟨u2, q2, by have := h4 2 (by omega); simpa using this, m2⟩⟩
theorem list1 {l : List Value} (h : l.length = 1) : ∃ a, l = [a] := by
  match l, h with
  | [a], _ => exact ⟨a, rfl⟩
set_option maxRecDepth 100000 in
theorem ofModule {fuel : Nat} {cs : List Value} {x : DataW H × List MemPlace} (h : DataW.trod enc Tryz.prog w 0 (fun _ => true) true fuel 24 cs = some x) : ∃ (d : List FuncD) (u0 : Option Addr) (q0 : Nat), cs = [.slice u0 d.length q0] ∧ FuncsAt w 0 u0 d := by
  obtain ⟨xs, n, _, _, hl, hlen, hf⟩ := DataW.trod_struct Tryz.underlying24 h
  have hl : cs.length = 1 := hl.trans (by kernel_rfl)
  obtain ⟨x0, rfl⟩ := list1 hl
  have hlen : xs.length = 1 := hlen
  obtain ⟨y0, hy0⟩ := some_at hlen (show 0 < 1 by omega)
  have t0 : DataW.trod enc Tryz.prog w 0 (fun _ => true) true n 22 [x0] = some y0 := (hf 0 _ rfl).trans hy0
  obtain ⟨u0, l0, q0, rfl, m0⟩ := ofFuncs t0
  exact ⟨l0, u0, q0, rfl, m0⟩
end
end Go.Proofs.YtjpiiemhklphlaaGreatDoor
