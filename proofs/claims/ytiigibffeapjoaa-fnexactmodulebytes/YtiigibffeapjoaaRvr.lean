/- A number read out of a text: the program's and the model's. -/
import Derived.Test.YtiigibffeapjoaaRows
import Derived.WalkKit
import Derived.WalkSpells
import Derived.WalkLawsBesides
import Derived.Deep.QuietTactic
import Derived.Below
namespace Go.Proofs.Ytiigibffeapjoaa
open Go.RowKit

def numOf : Value → Int | .int _ q => q | _ => 0
/-- The number at the head of a list of bytes, behind k bytes that told n; and how many bytes it has. -/
def rdl : Nat → Nat → List UInt8 → Nat × Nat
  | _, _, [] => (0, 0)
  | k, n, b :: r => if 5 ≤ k then (0, 0) else if 128 ≤ b.toNat then rdl (k + 1) (n + 128 ^ k * (b.toNat % 128)) r
      else if 4294967295 < n + 128 ^ k * (b.toNat % 128) ∨ (b.toNat = 0 ∧ 0 < k) then (0, 0) else (n + 128 ^ k * (b.toNat % 128), k + 1)
theorem rdl_five (n : Nat) (l : List UInt8) : rdl 5 n l = (0, 0) := by
  cases l <;> simp [rdl]
/-- At a place. -/
def rdAt (s : ByteArray) (a : Int) : Nat × Nat := if 0 ≤ a ∧ a < s.size then rdl 0 0 (s.data.toList.drop a.toNat) else (0, 0)
theorem drop_cons {s : ByteArray} {k : Nat} (hk : k < s.size) : s.data.toList.drop k = (s[k]'hk) :: s.data.toList.drop (k + 1) :=
  List.drop_eq_getElem_cons (by simpa using hk)
theorem drop_nil {s : ByteArray} {k : Nat} (hk : s.size ≤ k) : s.data.toList.drop k = [] := List.drop_eq_nil_of_le (by simpa using hk)

theorem blwI (n m : Int) (w : World) : Calls Try.prog 76 #[.int .i64 n, .int .i64 m] w fun e w' => e = .returned (.bool (decide (0 ≤ n ∧ n < m))) ∧ w' = w := by
  go_enter Try.func76, Try.ntmps76
  go_wp2_with fail
  all_goals go_ret
  all_goals exact ⟨congrArg (fun b => Ending.returned (.bool b)) (by rw [Bool.eq_iff_iff]; simp; omega), rfl⟩

theorem ret2_eq {x y : Int} {q : Nat × Nat} (h1 : x = (q.1 : Int)) (h2 : y = (q.2 : Int)) : Ending.returned (.tuple #[.int .i64 x, .int .i64 y]) = Ending.returned (.tuple #[.int .i64 (q.1 : Int), .int .i64 (q.2 : Int)]) := by rw [h1, h2]
theorem rdl_cons {k n : Nat} (hk : k < 5) (b : UInt8) (r : List UInt8) : rdl k n (b :: r) = if 128 ≤ b.toNat then rdl (k + 1) (n + 128 ^ k * (b.toNat % 128)) r
      else if 4294967295 < n + 128 ^ k * (b.toNat % 128) ∨ (b.toNat = 0 ∧ 0 < k) then (0, 0) else (n + 128 ^ k * (b.toNat % 128), k + 1) := by
  rw [rdl, if_neg (by omega)]
theorem byte_mod (b : Nat) : ((b : Nat) : Int).tmod 128 = ((b % 128 : Nat) : Int) := by
  rw [Int.tmod_eq_emod_of_nonneg (by omega)]; rfl
theorem byte_wrap {b : Nat} (h : b < 256) : wrap64 (b : Int) = b := by unfold wrap64; omega

end Go.Proofs.Ytiigibffeapjoaa
