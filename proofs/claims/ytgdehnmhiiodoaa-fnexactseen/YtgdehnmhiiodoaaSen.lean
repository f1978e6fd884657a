/- What is seen of a run: the contracts of both sides, and of the laws' functions on results. -/
import Derived.Test.YtgdehnmhiiodoaaSei
import Derived.Lib.UnsafeStr
import Derived.Lib.BufferWrite
import Derived.Laws.MakeOwn
namespace Go.Proofs.Ytgdehnmhiiodoaa
open Go.RowKit

structure ResD where
  code : Int
  value : Int
  out : List Int
  mem : ByteArray
  steps : Int
def resV (d : ResD) (u : Option Addr) (c : Nat) : Value := .agg #[.int .i64 d.code, .int .i64 d.value, .slice u d.out.length c, .string d.mem, .int .i64 d.steps]
def seenD (d : ResD) : ResD := ⟨d.code, d.value, d.out, d.mem, 0⟩
def szRes (d : ResD) (x : Int) : Int := if szI d.out.length x < 0 then -1 else szI d.mem.size (szI d.out.length x)

theorem infoB : (Try.prog.info? 5).map (fun i => (i.zero, i.size, i.bytes)) = some (some (.int .u8 0), 1, 1) := by kernel_rfl

set_option maxHeartbeats 4000000 in
/-- A text cloned is the text. -/
theorem cloneI (s : ByteArray) (w : World) (hs : s.size ≤ 1048576) :
    Calls Try.prog 18 #[.string s] w fun e w' => e = .returned (.string s) ∧ Below w.heap.size w w' := by
  by_cases h0 : s.size = 0
  · have he : s = ⟨#[]⟩ := ByteArray.ext (Array.eq_empty_of_size_eq_zero h0)
    subst he
    go_enter Try.func18, Try.ntmps18
    go_wp2_with fail
    go_ret
    exact ⟨rfl, Below.refl _ _⟩
  · obtain ⟨i0, hi, hz0, hz1, hz2⟩ := info_parts infoB
    have hinf : (Try.prog.info? 5).map (·.size) = some 1 := by rw [hi]; simp [hz1]
    have hone : Try.prog.cellsOf 5 = 1 := by simp [Program.cellsOf, hi, hz1]
    have hmk := mk_any (t := 36) s.size Try.underlying36 hi hz0 hz1 hz2 (by omega) hs
    generalize hM : madeCells (Value.int .u8 0).cells (s.size * 1) = M at hmk
    have hMs : M.size = s.size := by rw [← hM, size_madeCells]; simp
    have hcp := Lib.run_copy_row_string (P := Try.prog) (w.alloc (.cells M 5)) 36 9 3 5 w.heap.size 0 s.size s.size s M 5 Try.underlying36 hinf (heap_alloc_last w _) (Nat.le_refl _) (by omega)
    generalize hY : (M.toList.take 0 ++ Lib.byteCells s.data.toList ++ M.toList.drop (0 + s.size)).toArray = Y at hcp
    have hYl : Y.toList = Lib.byteCells s.data.toList := by
      rw [← hY]
      simp
      omega
    have hYs : Y.size = s.size := by rw [← Array.length_toList, hYl, Lib.byteCells_length, ← Lib.size_eq]
    have hrow : ((w.alloc (.cells M 5)).setRow w.heap.size Y).heap[w.heap.size]? = some (.cells Y 5 (0, 0)) := setRow_heap _ _ M _ 5 (0, 0) (heap_alloc_last w _)
    have hne : s.data.toList ≠ [] := fun e => h0 (by rw [Lib.size_eq, e]; rfl)
    have hus := Lib.run_unsafeString_row (P := Try.prog) ((w.alloc (.cells M 5)).setRow w.heap.size Y) 37 3 9 5 Try.underlying37 hone w.heap.size Y.size (by unfold World.shape?; rw [hrow]) s.data.toList hne (by rw [← Lib.size_eq]; omega) (by rw [← Lib.size_eq]; omega)
      (fun j x hx => Lib.cells_of_row hrow Y.size j _ (by rw [List.take_of_length_le (by rw [Array.length_toList]; exact Nat.le_refl _), hYl]; simp [Lib.byteCells, hx]))
    rw [← Lib.size_eq] at hus
    clear hM hY hi hz0 hz1 hz2
    go_enter Try.func18, Try.ntmps18
    go_wp2_with fail
    go_ret
    have b1 : Below w.heap.size w (w.alloc (.cells M 5)) := (Below.refl _ w).alloc (Nat.le_refl _) _
    have b2 : Below w.heap.size (w.alloc (.cells M 5)) ((w.alloc (.cells M 5)).setRow w.heap.size Y) := ⟨rfl, rfl, rfl, by simp, fun k hk => setRow_other _ _ _ _ (by omega)⟩
    exact ⟨rfl, Lib.below_freeze (b1.trans b2) (p := ⟨w.heap.size, 0, none⟩) (Nat.le_refl _) _⟩
theorem cloneS (s : ByteArray) (w : World) (hs : s.size ≤ 1048576) :
    Calls Try.prog 14 #[.string s] w fun e w' => e = .returned (.string s) ∧ Below w.heap.size w w' := by
  go_enter Try.func14, Try.ntmps14
  go_wp2_with fail
  refine (cloneI s _ hs).mono ?_
  rintro e w1 ⟨rfl, hb⟩
  go_wp2_with fail
  go_ret
  exact ⟨rfl, hb⟩
theorem szRes_falls (d : ResD) (x : Int) : szRes d x = -1 ∨ (0 ≤ szRes d x ∧ szRes d x ≤ x) := by
  unfold szRes
  rcases szI_falls d.out.length x with h | h
  · rw [if_pos (by omega)]; exact .inl rfl
  · rw [if_neg (by omega)]
    rcases szI_falls d.mem.size (szI d.out.length x) with k | k
    · exact .inl k
    · exact .inr ⟨k.1, by omega⟩
theorem szRes_small {d : ResD} {x : Int} (hx0 : 0 ≤ x) (hx : x ≤ 1048576) (h : 0 ≤ szRes d x) : d.out.length ≤ 1048576 ∧ d.mem.size ≤ 1048576 := by
  unfold szRes at h
  rcases szI_falls d.out.length x with k | k
  · rw [if_pos (by omega)] at h; omega
  · rw [if_neg (by omega)] at h
    exact ⟨szI_small hx k.1, szI_small (by omega) h⟩
theorem szRes_any (d : ResD) (u : Option Addr) (c : Nat) (x : Int) (w : World) (h0 : 0 ≤ x) (h1 : x ≤ 1048576) (hn : d.out.length ≤ 9223372036854775807) (hm : d.mem.size ≤ 9223372036854775807) :
    Calls Try.prog 4 #[resV d u c, .int .i64 x] w fun e w' => e = .returned (.int .i64 (szRes d x)) ∧ Below w.heap.size w w' := by
  unfold resV
  go_enter Try.func4, Try.ntmps4
  go_wp2_with fail
  refine (szInts_any _ _ _ _ _ h0 h1 hn).mono ?_
  rintro e w1 ⟨rfl, rfl⟩
  rcases szI_falls d.out.length x with k | ⟨k, k1⟩
  · have E : Hid (-1 = szRes d x) := by show _ = _; rw [szRes, if_pos (by omega)]
    have k2 : szI d.out.length x < 0 := by omega
    clear k
    go_wp2_with fail
    go_ret
    exact ⟨ret_i E.out, (Below.refl _ _).alloc (Nat.le_refl _) _⟩
  · have k2 : ¬ szI d.out.length x < 0 := by omega
    generalize hy : szI d.out.length x = y at k k1 k2
    by_cases hc : y - d.mem.size < 0
    · have E : Hid (-1 = szRes d x) := by show _ = _; rw [szRes, hy, if_neg k2, szI, if_pos hc]
      clear hy
      go_wp2_with fail
      go_ret
      exact ⟨ret_i E.out, (Below.refl _ _).alloc (Nat.le_refl _) _⟩
    · have E : Hid (y - d.mem.size = szRes d x) := by show _ = _; rw [szRes, hy, if_neg k2, szI, if_neg hc]
      clear hy
      go_wp2_with fail
      go_ret
      exact ⟨ret_i E.out, (Below.refl _ _).alloc (Nat.le_refl _) _⟩
end Go.Proofs.Ytgdehnmhiiodoaa
