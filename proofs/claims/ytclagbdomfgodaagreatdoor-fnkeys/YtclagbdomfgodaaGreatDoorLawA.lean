/- What every law over drawn bytes begins with: the bytes that came in, and whether they are too many. -/
import Derived.Test.YtclagbdomfgodaaGreatDoorDrw
namespace Go.Proofs.YtclagbdomfgodaaGreatDoor
open Go.RowKit

theorem cell_lt {w : World} {b o : Nat} {v : Value} (h : w.cell? ⟨b, o, none⟩ = some v) : b < w.heap.size := by
  unfold World.cell? at h
  cases hb : w.heap[b]? with
  | none => simp [hb] at h
  | some x => exact (Array.getElem?_eq_some_iff.1 hb).1
theorem Code.below {a0 : Option Addr} {len : Nat} {w w' : World} (h : Code a0 len w.heap.size w) (k : Below w.heap.size w w') : Code a0 len w'.heap.size w' := by
  rcases h with h | ⟨b, off, ha, hb, hc⟩
  · exact .inl h
  · have := k.size
    refine .inr ⟨b, off, ha, by omega, fun i hi => ?_⟩
    obtain ⟨n, h0, h1, h2⟩ := hc i hi
    exact ⟨n, h0, h1, by rw [cell_blk (k.block b hb)]; exact h2⟩
theorem u8_bd {n : Int} (h : (Lit.int .u8 n).wf = true) : 0 ≤ n ∧ n ≤ 255 := by
  have h' : IntKind.u8.min ≤ n ∧ n ≤ IntKind.u8.max := by simpa [Lit.wf] using h
  exact h'
theorem code_of {w : World} {a : Option Addr} {len cap : Nat} {zs : List Int}
    (h : (a = none ∧ len = 0 ∧ cap = 0 ∧ zs = []) ∨ ∃ x, a = some x ∧ len ≤ cap ∧ cap ≤ maxLen ∧ zs.length = cap ∧ (∀ i, i < zs.length → w.cell? (x.add i) = some (.int .u8 (zs.getD i 0))) ∧ ∀ n ∈ zs, (Lit.int .u8 n).wf = true) :
    Code a len w.heap.size w := by
  rcases h with ⟨rfl, rfl, rfl, rfl⟩ | ⟨⟨b, off, spot⟩, rfl, hl, hm, hz, hcell, hwz⟩
  · exact .inl rfl
  · by_cases h0 : len = 0
    · exact .inl h0
    · have hc0 := hcell 0 (by omega)
      have hs : spot = none := by simpa [Addr.add] using World.cell?_spot hc0
      subst hs
      have hat : ∀ i, (⟨b, off, none⟩ : Addr).add i = ⟨b, off + i, none⟩ := fun i => by unfold Addr.add; split <;> simp_all
      refine .inr ⟨b, off, rfl, ?_, fun i hi => ?_⟩
      · rw [hat] at hc0; exact cell_lt hc0
      · have hi2 : i < zs.length := by omega
        have hw := u8_bd (hwz (zs.getD i 0) (by simp [List.getD, hi2]))
        exact ⟨_, hw.1, hw.2, by rw [← hat]; exact hcell i hi2⟩
theorem big_any (a0 : Option Addr) (len cap : Nat) (w : World) : Calls Tryz.prog 4 #[.slice a0 len cap] w fun e w' => e = .returned (.bool (decide (1048576 < len))) ∧ w' = w := by
  go_enter Tryz.func4, Tryz.ntmps4
  go_wp2_with fail
  go_ret
  exact ⟨congrArg (fun b => Ending.returned (.bool b)) (by rw [Bool.eq_iff_iff]; simp; omega), rfl⟩
end Go.Proofs.YtclagbdomfgodaaGreatDoor
