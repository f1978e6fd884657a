/- Lists of passes: the number of a word, and a text that is cut; both sides. -/
import Derived.Test.YtjbmlebaaehjjaaDoorPas3
import Derived.Lib.SplitLaws
import Derived.Lib.IndexBytes
import Derived.Lib.IndexLaws
namespace Go.Proofs.YtjbmlebaaehjjaaDoor
open Go.RowKit
set_option linter.unusedVariables false

def numL (b : ByteArray) : List ByteArray → Nat → Int
  | [], _ => 0
  | x :: r, k => if x = b then (k : Int) else numL b r (k + 1)
def passNum (b : ByteArray) : Int := numL b wordL 0
theorem numL_hit {b : ByteArray} {k : Nat} (hk : k < 10) (h : wordL.getD k ⟨#[]⟩ = b) : numL b (wordL.drop k) k = k := by
  rw [drop_get ⟨#[]⟩ wordL k (by exact hk), numL, if_pos h]
theorem numL_miss {b : ByteArray} {k : Nat} (hk : k < 10) (h : ¬ wordL.getD k ⟨#[]⟩ = b) : numL b (wordL.drop k) k = numL b (wordL.drop (k + 1)) (k + 1) := by
  rw [drop_get ⟨#[]⟩ wordL k (by exact hk), numL, if_neg h]
theorem numL_end {b : ByteArray} : numL b (wordL.drop 10) 10 = 0 := rfl
theorem str_ne {a b : ByteArray} (h : ¬ a = b) : (a.toList == b.toList) = false := by
  rw [ByteArray.toList_eq, ByteArray.toList_eq, beq_eq_false_iff_ne]
  exact fun e => h (ByteArray.ext (Array.toList_inj.1 e))
def wd (j : Nat) : ByteArray := wordL.getD j ⟨#[]⟩
theorem wd_arr : ∀ k, k < 10 → (#[.string (wd 0), .string (wd 1), .string (wd 2), .string (wd 3), .string (wd 4), .string (wd 5), .string (wd 6), .string (wd 7), .string (wd 8), .string (wd 9)] : Array Value)[k]? = some (.string (wd k))
  | 0, _ => rfl
  | 1, _ => rfl
  | 2, _ => rfl
  | 3, _ => rfl
  | 4, _ => rfl
  | 5, _ => rfl
  | 6, _ => rfl
  | 7, _ => rfl
  | 8, _ => rfl
  | 9, _ => rfl
theorem idxS (arr : Array Value) (k : Nat) (v : ByteArray) (hk : k < 10) (hv : arr[k]? = some (.string v)) (W : World) : (Instr.index 39 (.agg arr) (.int .i64 (k : Int))).run Tryd.prog W = .ok (.string v) W := by
  obtain ⟨i, hi, _, hs, _⟩ := info_parts infoS
  simp [Instr.index, asIntOf, run_underlying Tryd.underlying39, part, isAgg, run_underlying Tryd.underlying9, sizeOf, typeInfo, hi, hs, hv]
  intro h; omega
set_option maxHeartbeats 4000000 in
theorem passOfI (b : ByteArray) (w : World) (hW : WordsAt w) : Calls Tryd.prog 23 #[.string b] w fun e w' => e = .returned (.int .i64 (passNum b)) ∧ w' = w := by
  have c0 : w.cell? ⟨0, 0, none⟩ = some (.string (wd 0)) := hW.2 0 (by decide)
  have c1 : w.cell? ⟨0, 1, none⟩ = some (.string (wd 1)) := hW.2 1 (by decide)
  have c2 : w.cell? ⟨0, 2, none⟩ = some (.string (wd 2)) := hW.2 2 (by decide)
  have c3 : w.cell? ⟨0, 3, none⟩ = some (.string (wd 3)) := hW.2 3 (by decide)
  have c4 : w.cell? ⟨0, 4, none⟩ = some (.string (wd 4)) := hW.2 4 (by decide)
  have c5 : w.cell? ⟨0, 5, none⟩ = some (.string (wd 5)) := hW.2 5 (by decide)
  have c6 : w.cell? ⟨0, 6, none⟩ = some (.string (wd 6)) := hW.2 6 (by decide)
  have c7 : w.cell? ⟨0, 7, none⟩ = some (.string (wd 7)) := hW.2 7 (by decide)
  have c8 : w.cell? ⟨0, 8, none⟩ = some (.string (wd 8)) := hW.2 8 (by decide)
  have c9 : w.cell? ⟨0, 9, none⟩ = some (.string (wd 9)) := hW.2 9 (by decide)
  have HX : Hid (∀ k : Nat, k < 10 → (Instr.index 39 (.agg #[.string (wd 0), .string (wd 1), .string (wd 2), .string (wd 3), .string (wd 4), .string (wd 5), .string (wd 6), .string (wd 7), .string (wd 8), .string (wd 9)]) (.int .i64 (k : Int))).run Tryd.prog w = .ok (.string (wd k)) w) := fun k hk => idxS _ k _ hk (wd_arr k hk) w
  go_enter Tryd.func23, Tryd.ntmps23
  go_wp2_with fail
  go_loop [6] (fun i => ∃ k : Nat, k ≤ 10 ∧ i = .int .i64 k ∧ Hid (numL b (wordL.drop k) k = passNum b)) (fun i => 10 - (intOf i).toNat)
  case atStart => exact ⟨0, by omega, rfl, rfl⟩
  case round =>
    obtain ⟨k, hk, rfl, HN⟩ := hrel
    clear c0 c1 c2 c3 c4 c5 c6 c7 c8 c9 hW
    by_cases hlt : k < 10
    · have hi := HX.out k hlt
      by_cases hx : wd k = b
      · have HE : Hid (passNum b = k) := by show _ = _; rw [← HN.out, numL_hit hlt hx]
        clear HN
        go_wp2_with fail
        go_ret
        exact ⟨by rw [HE.out]; rfl, rfl⟩
      · have HE : Hid (numL b (wordL.drop (k + 1)) (k + 1) = passNum b) := by show _ = _; rw [← HN.out, numL_miss hlt hx]
        have hx2 := str_ne hx
        clear HN
        go_wp2_with fail
        go_round
        case rel => exact ⟨k + 1, by omega, by go_num, HE.out⟩
        case measure => simp [intOf]; omega
    · have hke : k = 10 := by omega
      subst hke
      go_wp2_with fail
      go_ret
      exact ⟨by rw [← HN.out]; rfl, rfl⟩
/-- The last of the words that a text is. -/
def lastN (b : ByteArray) : Nat → Int
  | 0 => 0
  | k + 1 => if wd (k + 1) = b then ((k + 1 : Nat) : Int) else lastN b k
theorem last_num (b : ByteArray) : lastN b 9 = passNum b := by
  by_cases h0 : b = wd 0
  · subst h0; decide
  by_cases h1 : b = wd 1
  · subst h1; decide
  by_cases h2 : b = wd 2
  · subst h2; decide
  by_cases h3 : b = wd 3
  · subst h3; decide
  by_cases h4 : b = wd 4
  · subst h4; decide
  by_cases h5 : b = wd 5
  · subst h5; decide
  by_cases h6 : b = wd 6
  · subst h6; decide
  by_cases h7 : b = wd 7
  · subst h7; decide
  by_cases h8 : b = wd 8
  · subst h8; decide
  by_cases h9 : b = wd 9
  · subst h9; decide
  have e : passNum b = 0 := by
    unfold passNum wordL
    simp only [numL]
    rw [if_neg (fun h => h0 h.symm), if_neg (fun h => h1 h.symm), if_neg (fun h => h2 h.symm), if_neg (fun h => h3 h.symm), if_neg (fun h => h4 h.symm), if_neg (fun h => h5 h.symm), if_neg (fun h => h6 h.symm), if_neg (fun h => h7 h.symm), if_neg (fun h => h8 h.symm), if_neg (fun h => h9 h.symm)]
  rw [e]
  unfold lastN lastN lastN lastN lastN lastN lastN lastN lastN lastN
  rw [if_neg (fun h => h9 h.symm), if_neg (fun h => h8 h.symm), if_neg (fun h => h7 h.symm), if_neg (fun h => h6 h.symm), if_neg (fun h => h5 h.symm), if_neg (fun h => h4 h.symm), if_neg (fun h => h3 h.symm), if_neg (fun h => h2 h.symm), if_neg (fun h => h1 h.symm)]
end Go.Proofs.YtjbmlebaaehjjaaDoor
