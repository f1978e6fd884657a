/- What Binary gives, as plain numbers, and that both ways of reckoning it, the program's and the model's, come to it. -/
import Derived.Test.YtofgfiakccjimaaTwo
namespace Go.Proofs.Ytofgfiakccjimaa
open Go.RowKit

def twoZ (op a x y : Int) : Int :=
  if op = 1 then x + y else if op = 2 then x - y else if op = 3 then x * y else if op = 4 then x / y else
  if op = 5 then (sgnZ a x).tdiv (sgnZ a y) else if op = 6 then x % y else if op = 7 then (sgnZ a x).tmod (sgnZ a y) else
  if op = 8 then bits .and .i64 x y else if op = 9 then bits .or .i64 x y else if op = 10 then bits .xor .i64 x y else
  if op = 11 then shlZ a x y else if op = 12 then lshrZ a x y else if op = 13 then sgnZ a x / 2 ^ (shB a y).toNat else
  if op = 14 then bitZ (x == y) else if op = 15 then bitZ (x != y) else if op = 16 then bitZ (decide (x < y)) else bitZ (decide (sgnZ a x < sgnZ a y))
def divB (op : Int) : Bool := decide (4 ≤ op) && decide (op ≤ 7)
def binOk (op a x y : Int) : Bool := opB op && (valueB a x && valueB a y)
def binC (op a x y : Int) : Int := if binOk op a x y = true then (if divB op = true ∧ y = 0 then 1 else 0) else 2
def binZ (op a x y : Int) : Int := if binOk op a x y = true ∧ ¬ (divB op = true ∧ y = 0) then maskZ a (twoZ op a x y) else 0

theorem top_dvd {a : Int} (h : widthB a = true) : topZ a ∣ 4294967296 := by
  rcases width_yes h with rfl | rfl | rfl | rfl
  · exact ⟨2147483648, by simp [top1]⟩
  · exact ⟨16777216, by simp [top8]⟩
  · exact ⟨65536, by simp [top16]⟩
  · exact ⟨1, by simp [top32]⟩
theorem and_u64 (n : Int) (h0 : 0 ≤ n) (h1 : n < 18446744073709551616) : bits .and .u64 n 4294967295 = n % 4294967296 := by
  rw [u64_and n 4294967295 h0 h1 (by decide) (by decide)]
  have e : n.toNat &&& (4294967295 : Int).toNat = n.toNat % 4294967296 := Nat.and_two_pow_sub_one_eq_mod n.toNat 32
  rw [e]; omega
theorem mulI_eq {x y : Int} : wrap64 (bits BinOp.and IntKind.u64 (IntKind.u64.wrap (x * y)) 4294967295) = x * y % 4294967296 := by
  rw [IntKind.wrap_u64, and_u64 _ (by omega) (by omega)]
  generalize x * y = m
  unfold wrap64; omega
theorem sgn_emod {a x : Int} : sgnZ a x % topZ a = x % topZ a := by
  unfold sgnZ; split
  · exact Int.sub_emod_right x (topZ a)
  · rfl
theorem mask_mod {a m n : Int} (h : m % topZ a = n % topZ a) : maskZ a m = maskZ a n := by
  unfold maskZ; rw [h]
theorem mask_mulI {a x y : Int} (h : widthB a = true) : maskZ a (x * y % 4294967296) = maskZ a (x * y) :=
  mask_mod (Int.emod_emod_of_dvd _ (top_dvd h))
theorem mul_bd {p q : Int} (hp : -2147483648 ≤ p ∧ p ≤ 2147483647) (hq : -2147483648 ≤ q ∧ q ≤ 2147483647) : -4611686018427387904 ≤ p * q ∧ p * q ≤ 4611686018427387904 := by
  have h1 : (p * q).natAbs ≤ 2147483648 * 2147483648 := by
    rw [Int.natAbs_mul]; exact Nat.mul_le_mul (by omega) (by omega)
  omega
theorem mulS_eq {a x y : Int} (hx : valueB a x = true) (hy : valueB a y = true) : maskZ a (wrap64 (sgnZ a x * sgnZ a y)) = maskZ a (x * y) := by
  have hb := mul_bd (sgn_bd hx) (sgn_bd hy)
  have e : wrap64 (sgnZ a x * sgnZ a y) = sgnZ a x * sgnZ a y := by
    generalize sgnZ a x * sgnZ a y = m at hb
    unfold wrap64; omega
  rw [e]
  refine mask_mod ?_
  rw [Int.mul_emod, sgn_emod, sgn_emod, ← Int.mul_emod]
theorem tdiv_bd {p q : Int} (hp : -2147483648 ≤ p ∧ p ≤ 2147483647) : wrap64 (p.tdiv q) = p.tdiv q := by
  have h1 : (p.tdiv q).natAbs ≤ 2147483648 := by
    rw [Int.natAbs_tdiv]; exact Nat.le_trans (Nat.div_le_self _ _) (by omega)
  generalize p.tdiv q = m at h1
  unfold wrap64; omega
theorem op_cases {op : Int} (h : opB op = true) : op = 1 ∨ op = 2 ∨ op = 3 ∨ op = 4 ∨ op = 5 ∨ op = 6 ∨ op = 7 ∨ op = 8 ∨ op = 9 ∨ op = 10 ∨ op = 11 ∨ op = 12 ∨ op = 13 ∨ op = 14 ∨ op = 15 ∨ op = 16 ∨ op = 17 := by
  have := op_yes h; omega
theorem bin_form {op a x y : Int} (h : binOk op a x y = false) : 0 = binZ op a x y ∧ 2 = binC op a x y := by simp [binZ, binC, h]
theorem bin_zero {op a x y : Int} (h : binOk op a x y = true) (hd : divB op = true) (hy : y = 0) : 0 = binZ op a x y ∧ 1 = binC op a x y := by subst hy; simp [binZ, binC, h, hd]
theorem bin_ok {op a x y : Int} (h : binOk op a x y = true) (hd : ¬ (divB op = true ∧ y = 0)) : maskZ a (twoZ op a x y) = binZ op a x y ∧ 0 = binC op a x y := by
  constructor
  · rw [binZ, if_pos ⟨h, hd⟩]
  · rw [binC, if_pos h, if_neg hd]
theorem divS (op : Int) (w : World) : Calls Try.prog 75 #[.int .i64 op] w fun e w' => e = .returned (.bool (divB op)) ∧ w' = w := by
  go_enter Try.func75, Try.ntmps75
  go_wp2_with (go_at_call 24; refine (inS _ _ _ _).mono ?_; rintro e w' ⟨rfl, rfl⟩)
  go_ret
  exact ⟨ret_bool (by rfl), rfl⟩
end Go.Proofs.Ytofgfiakccjimaa
