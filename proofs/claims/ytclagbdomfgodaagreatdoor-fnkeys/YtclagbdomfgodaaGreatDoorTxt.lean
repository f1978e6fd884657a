/- Texts of instructions: numbers with blanks ahead, words; the model's l5Nums, l5Words, the program's text of a line. -/
import Derived.Test.YtclagbdomfgodaaGreatDoorDec
import Derived.Test.YtclagbdomfgodaaGreatDoorRow
import Derived.Test.YtclagbdomfgodaaGreatDoorShelf
import Derived.Lib.AppendIntMem
namespace Go.Proofs.YtclagbdomfgodaaGreatDoor
open Go.RowKit
set_option linter.unusedVariables false

def bs (l : List UInt8) : ByteArray := ⟨l.toArray⟩
theorem bs_append (a b : List UInt8) : bs a ++ bs b = bs (a ++ b) := by unfold bs; rw [ByteArray.mk_append_mk]
theorem bs_size (a : List UInt8) : (bs a).size = a.length := by simp [bs, ByteArray.size]
theorem bs_blank : (⟨#[32]⟩ : ByteArray) = bs [32] := rfl
theorem decB_bs (n : Int) : decB n = bs (Lib.itoa n) := rfl
/-- Numbers, each with a blank ahead. -/
def numsL (l : List Int) : List UInt8 := l.flatMap fun n => 32 :: Lib.itoa n
theorem nums_snoc {l : List Int} {k : Nat} (hk : k < l.length) : numsL (l.take (k + 1)) = numsL (l.take k) ++ (32 :: Lib.itoa (l.getD k 0)) := by
  unfold numsL
  rw [List.take_succ_eq_append_getElem hk, List.flatMap_append]
  simp [List.getD, hk]
theorem nums_append (a b : List Int) : numsL (a ++ b) = numsL a ++ numsL b := List.flatMap_append
/-- Numbers that are small and not below nought. -/
def SmN (l : List Int) : Prop := ∀ x ∈ l, ∃ n : Nat, x = n ∧ n ≤ 4294967295
theorem itoa_len {x : Int} (h : ∃ n : Nat, x = n ∧ n ≤ 4294967295) : (Lib.itoa x).length ≤ 10 := by
  obtain ⟨n, rfl, hn⟩ := h
  rw [itoa_nat]
  exact dec_len 9 n (by omega)
theorem nums_len : ∀ l : List Int, SmN l → (numsL l).length ≤ 11 * l.length
  | [], _ => by simp [numsL]
  | x :: r, h => by
    have h1 := itoa_len (h x (by simp))
    have h2 := nums_len r fun y hy => h y (by simp [hy])
    unfold numsL at h2 ⊢
    rw [List.flatMap_cons, List.length_append, List.length_cons, List.length_cons]
    omega
theorem SmN.take {l : List Int} (h : SmN l) (k : Nat) : SmN (l.take k) := fun x hx => h x (List.mem_of_mem_take hx)
def opWL : List (List UInt8) := [[], [97, 100, 100], [115, 117, 98], [109, 117, 108], [117, 100, 105, 118], [115, 100, 105, 118], [117, 114, 101, 109], [115, 114, 101, 109], [97, 110, 100], [111, 114], [120, 111, 114], [115, 104, 108], [108, 115, 104, 114], [97, 115, 104, 114], [101, 113], [110, 101], [117, 108, 116], [115, 108, 116], [122, 101, 120, 116], [115, 101, 120, 116], [116, 114, 117, 110, 99], [99, 111, 110, 115, 116], [115, 101, 108, 101, 99, 116], [108, 111, 97, 100], [115, 116, 111, 114, 101], [112, 114, 105, 110, 116], [99, 97, 108, 108], [99, 111, 112, 121]]
def opW (k : Nat) : ByteArray := bs (opWL.getD k [])
theorem opWL_len (k : Nat) : (opWL.getD k []).length ≤ 6 := by
  rcases Nat.lt_or_ge k 28 with h | h
  · have : ∀ k : Fin 28, (opWL.getD k.1 []).length ≤ 6 := by decide
    exact this ⟨k, h⟩
  · rw [List.getD, List.getElem?_eq_none (by simpa [opWL] using h)]
    decide
/-- The words of the program's table. -/
def OpsAt (w : World) : Prop := 0 < w.heap.size ∧ ∀ j, j < 28 → w.cell? ⟨0, j, none⟩ = some (.string (opW j))
theorem OpsAt.keep {w w' : World} (h : OpsAt w) (k : Below w.heap.size w w') : OpsAt w' :=
  ⟨Nat.lt_of_lt_of_le h.1 k.size, fun j hj => (cell_block (k.block _ h.1)).trans (h.2 j hj)⟩
/-- The table of powers of ten. -/
def PowAt (w : World) : Prop := Lib.TabIs Tryz.prog w "internal/strconv.uint64pow10" .u64 Lib.pow10Tab
theorem gPow : Tryz.prog.globalNamed "internal/strconv.uint64pow10" = some 2 := by kernel_rfl
theorem PowAt.keep {w w' : World} (h : PowAt w) (k : Below w.heap.size w w') : PowAt w' := by
  unfold PowAt Lib.TabIs World.var? at h ⊢
  simp only [gPow, Option.bind_some] at h ⊢
  have hlt : 2 < w.heap.size := by
    rcases Nat.lt_or_ge 2 w.heap.size with h' | h'
    · exact h'
    · simp [Array.getElem?_eq_none h'] at h
  rw [k.block _ hlt]
  exact h
theorem fmtI (n : Nat) (w : World) (hn : n ≤ 4294967295) (hP : PowAt w) :
    Calls Tryz.prog 56 #[.int .i64 (n : Int), .int .i64 10] w fun e w' => e = .returned (.string (decB n)) ∧ Below w.heap.size w w' := by
  refine (Tryz.strconv_FormatInt_10 n (by omega) (by omega) w hP).mono ?_
  rintro e w' ⟨rfl, k, os, rfl⟩
  exact ⟨rfl, Lib.below_grow _ _ (Nat.le_refl _) _ _⟩
set_option maxHeartbeats 2000000 in
theorem numsS (lo : Nat) (a : Option Addr) (cap : Nat) (l : List Int) (w : World) (hv : IntsAt w lo a l) (hl : l.length ≤ 20) (hs : SmN l) :
    Calls Tryz.prog 63 #[.slice a l.length cap] w fun e w' => e = .returned (.string (bs (numsL l))) ∧ Below w.heap.size w w' := by
  go_enter Tryz.func63, Tryz.ntmps63
  go_wp2_with fail
  go_loopw [3, 4] (fun st i wr => ∃ k : Nat, k ≤ l.length ∧ i = .int .i64 k ∧ st = .string (bs (numsL (l.take k))) ∧ Hid (Below w.heap.size w wr)) (fun _ i _ => l.length - (intOf i).toNat)
  case atStart => exact ⟨0, by omega, rfl, rfl, Below.refl _ _⟩
  case round =>
    obtain ⟨k, hk, rfl, rfl, HB⟩ := hrel
    by_cases hlt : k < l.length
    · rcases hv.2 with rfl | ⟨b, off, rfl, hlo, hb, hcell⟩
      · simp at hlt
      obtain ⟨n, hn, hn9⟩ := hs _ (getD_mem 0 l k hlt)
      have e0 : wr.cell? ⟨b, off + k, none⟩ = some (.int .i64 (n : Int)) := by rw [(cell_block (HB.out.block b hb)).trans (hcell k hlt), hn]
      have C := decS n wr hn9
      have hD : (decB (n : Int)).size ≤ 10 := decB_size hn9
      have hT : (bs (numsL (l.take k))).size ≤ 220 := by rw [bs_size]; have := nums_len _ (hs.take k); simp at this; omega
      have HE : Hid (bs (numsL (l.take (k + 1))) = bs (numsL (l.take k)) ++ ⟨#[32]⟩ ++ decB n) := by
        show _ = _
        rw [nums_snoc hlt, hn, bs_blank, decB_bs, bs_append, bs_append]
        simp
      generalize bs (numsL (l.take k)) = T at *
      generalize decB (n : Int) = D at *
      have hT2 : (T ++ ⟨#[32]⟩ : ByteArray).size ≤ 221 := by rw [ByteArray.size_append]; have h1 : (⟨#[32]⟩ : ByteArray).size = 1 := rfl; omega
      have hsz := HB.out.size
      clear hcell hn
      go_wp2_with (go_at_call 62; refine C.mono ?_; rintro e w5 ⟨rfl, hb5⟩; have HB5 : Hid (Below w.heap.size w w5) := HB.out.trans (hb5.mono hsz); clear hb5)
      go_roundw
      case rel => exact ⟨k + 1, by omega, by go_num, by rw [HE.out], HB5.out⟩
      case measure => simp [intOf]; omega
    · have hke : k = l.length := by omega
      have HE : Hid (bs (numsL (l.take k)) = bs (numsL l)) := by show _ = _; rw [hke, List.take_length]
      rw [HE.out]
      go_wp2_with fail
      go_ret
      exact ⟨rfl, HB.out⟩
set_option maxHeartbeats 2000000 in
theorem textI (lo : Nat) (a : Option Addr) (cap : Nat) (t : ByteArray) (l : List Int) (w : World) (hv : IntsAt w lo a l) (hl : l.length ≤ 20) (hs : SmN l) (ht : t.size ≤ 6) (hP : PowAt w) :
    Calls Tryz.prog 27 #[.agg #[.string t, .slice a l.length cap]] w fun e w' => e = .returned (.string (t ++ bs (numsL l))) ∧ Below w.heap.size w w' := by
  have B0 : Below w.heap.size w (w.alloc (.cells #[.string t, .slice a l.length cap] 64)) := (Below.refl _ _).alloc (Nat.le_refl _) _
  go_enter Tryz.func27, Tryz.ntmps27
  go_wp2_with fail
  go_loopw [3, 11] (fun st i wr => ∃ k : Nat, k ≤ l.length ∧ i = .int .i64 k ∧ st = .string (t ++ bs (numsL (l.take k))) ∧ Hid (Below w.heap.size w wr)) (fun _ i _ => l.length - (intOf i).toNat)
  case atStart =>
    refine ⟨0, by omega, rfl, congrArg Value.string ?_, B0⟩
    have : bs (numsL (l.take 0)) = ByteArray.empty := rfl
    rw [this, ByteArray.append_empty]
  case round =>
    obtain ⟨k, hk, rfl, rfl, HB⟩ := hrel
    by_cases hlt : k < l.length
    · rcases hv.2 with rfl | ⟨b, off, rfl, hlo, hb, hcell⟩
      · simp at hlt
      obtain ⟨n, hn, hn9⟩ := hs _ (getD_mem 0 l k hlt)
      have e0 : wr.cell? ⟨b, off + k, none⟩ = some (.int .i64 (n : Int)) := by rw [(cell_block (HB.out.block b hb)).trans (hcell k hlt), hn]
      have C := fmtI n wr hn9 (hP.keep HB.out)
      have hD : (decB (n : Int)).size ≤ 10 := decB_size hn9
      have hT : (t ++ bs (numsL (l.take k))).size ≤ 226 := by rw [ByteArray.size_append, bs_size]; have := nums_len _ (hs.take k); simp at this; omega
      have HE : Hid (t ++ bs (numsL (l.take (k + 1))) = t ++ bs (numsL (l.take k)) ++ (⟨#[32]⟩ ++ decB n)) := by
        show _ = _
        rw [nums_snoc hlt, hn, bs_blank, decB_bs, bs_append, ByteArray.append_assoc, bs_append]
        rfl
      generalize t ++ bs (numsL (l.take k)) = T at *
      generalize decB (n : Int) = D at *
      have hT2 : (⟨#[32]⟩ ++ D : ByteArray).size ≤ 11 := by rw [ByteArray.size_append]; have h1 : (⟨#[32]⟩ : ByteArray).size = 1 := rfl; omega
      have hsz := HB.out.size
      clear hcell hn
      go_wp2_with (go_at_call 56; refine C.mono ?_; rintro e w5 ⟨rfl, hb5⟩; have HB5 : Hid (Below w.heap.size w w5) := HB.out.trans (hb5.mono hsz); clear hb5)
      go_roundw
      case rel => exact ⟨k + 1, by omega, by go_num, by rw [HE.out], HB5.out⟩
      case measure => simp [intOf]; omega
    · have hke : k = l.length := by omega
      have HE : Hid (bs (numsL (l.take k)) = bs (numsL l)) := by show _ = _; rw [hke, List.take_length]
      rw [HE.out]
      go_wp2_with fail
      go_ret
      exact ⟨rfl, HB.out⟩
theorem opWordsS (w : World) (s : Nat) (hs : w.heap.size = s) : Calls Tryz.prog 61 #[] w fun e w' => e = .returned (.slice (some ⟨s, 0, none⟩) 28 28) ∧ (∀ j, j < 28 → w'.cell? ⟨s, j, none⟩ = some (.string (opW j))) ∧ w'.heap.size = s + 1 ∧ Below w.heap.size w w' := by
  subst hs
  go_enter Tryz.func61, Tryz.ntmps61
  go_wp2_with fail
  go_ret
  refine ⟨rfl, fun j hj => ?_, by simp, (Below.refl _ _).alloc (Nat.le_refl _) _⟩
  rw [cell_of_heap (heap_alloc_last _ _)]
  have h : j = 0 ∨ j = 1 ∨ j = 2 ∨ j = 3 ∨ j = 4 ∨ j = 5 ∨ j = 6 ∨ j = 7 ∨ j = 8 ∨ j = 9 ∨ j = 10 ∨ j = 11 ∨ j = 12 ∨ j = 13 ∨ j = 14 ∨ j = 15 ∨ j = 16 ∨ j = 17 ∨ j = 18 ∨ j = 19 ∨ j = 20 ∨ j = 21 ∨ j = 22 ∨ j = 23 ∨ j = 24 ∨ j = 25 ∨ j = 26 ∨ j = 27 := by omega
  rcases h with rfl | rfl | rfl | rfl | rfl | rfl | rfl | rfl | rfl | rfl | rfl | rfl | rfl | rfl | rfl | rfl | rfl | rfl | rfl | rfl | rfl | rfl | rfl | rfl | rfl | rfl | rfl | rfl <;> rfl
end Go.Proofs.YtclagbdomfgodaaGreatDoor
