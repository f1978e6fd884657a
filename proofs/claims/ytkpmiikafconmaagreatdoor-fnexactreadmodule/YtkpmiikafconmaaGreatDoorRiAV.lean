import Derived.Test.YtkpmiikafconmaaGreatDoorRows
import Derived.Test.YtkpmiikafconmaaGreatDoorShelfV
import Derived.WalkKit
import Derived.WalkSpells
import Derived.Shelf.Strings.SplitCore
import Derived.Lib.SplitLaws
import Derived.Lib.Join
import Derived.Test.YtkpmiikafconmaaGreatDoorSzV
import Derived.Laws.IdiomStrings
import Derived.Lib.ItoaNum
import Derived.Lib.AppendIntMem
namespace Go.Proofs.YtkpmiikafconmaaGreatDoor
open Go.RowKit
set_option linter.unusedVariables false
theorem str_ne {a b : ByteArray} (h : ¬ a = b) : (a.toList == b.toList) = false := by
 rw [ByteArray.toList_eq, ByteArray.toList_eq, beq_eq_false_iff_ne]
 exact fun e => h (ByteArray.ext (Array.toList_inj.1 e))
def blank : ByteArray := ⟨#[32]⟩
def pieces (s : ByteArray) : List ByteArray := Lib.splitB blank 0 (Lib.countB s blank) s
theorem pieces_len (s : ByteArray) : (pieces s).length = Lib.countB s blank + 1 := Lib.splitB_all blank (by decide) 0 _ s rfl
theorem count_size (s : ByteArray) : Lib.countB s blank ≤ s.size := Lib.countB_le blank (by decide) s.size s (Nat.le_refl _)
theorem pieces_miss {s : ByteArray} (h : Lib.indexB s blank = -1) : pieces s = [s] := Lib.splitB_miss blank 0 _ s h
theorem pieces_hit {s : ByteArray} {i : Nat} (h : Lib.indexB s blank = i) : pieces s = s.extract 0 i :: pieces (s.extract (i + 1) s.size) := by
 unfold pieces
 rw [Lib.countB_hit s blank i (by decide) h, Nat.add_comm 1, Lib.splitB_hit blank 0 _ s i h]
 rfl
set_option maxHeartbeats 1000000 in
theorem splitI (s : ByteArray) (w : World) (hs : s.size < 4294967281) :
  Calls Tryz.prog 46 #[.string s, .string blank] w fun e w' => e = .returned (.slice (some ⟨w.heap.size, 0, none⟩) (pieces s).length (pieces s).length) ∧ w' = w.alloc (.cells ((pieces s).map Value.string).toArray 9) := by
 have hle := count_size s
 have hI : ∀ (x : ByteArray) (c : Array Value), x.size ≤ s.size → Calls Tryz.prog 120 #[.string x, .string blank] (w.alloc (.cells c 9)) fun e w' => e = .returned (.int .i64 (Lib.indexB x blank)) ∧ w' = w.alloc (.cells c 9) := fun x c _ => by
  refine (Tryz.strings_Index_one x 32 _).mono fun e w' h => ?_
  rw [← Lib.index_one] at h
  exact h
 have hC : Calls Tryz.prog 119 #[.string s, .string blank] w fun e w' => e = .returned (.int .i64 (Lib.countB s blank)) ∧ w' = w := by
  refine (Tryz.strings_Count_one s 32 w).mono fun e w' h => ?_
  have e2 : Lib.countB s blank = Lib.countByte s.data.toList 32 := Lib.count_one 32 _
  rw [e2]
  exact h
 have G := Any.strings_genSplit_core Tryz.lays221 (by kernel_rfl) s blank 0 (-1) (Lib.countB s blank + 1) w hs (by decide) (by decide) hI hC (by decide) (by decide) (by rw [if_pos (by decide)]; omega)
 rw [Nat.add_sub_cancel] at G
 have e2 : Lib.cellsOf (Lib.splitB blank 0 (Lib.countB s blank) s) (Lib.countB s blank + 1) = ((pieces s).map Value.string).toArray := by rw [← pieces_len s]; exact Lib.cellsOf_full _
 rw [e2, show (Lib.splitB blank 0 (Lib.countB s blank) s) = pieces s from rfl, ← pieces_len s] at G
 have G2 : Calls Tryz.prog 79 #[.string s, .string blank, .int .i64 0, .int .i64 (-1)] w fun e w' => e = .returned (.slice (some ⟨w.heap.size, 0, none⟩) (pieces s).length (pieces s).length) ∧ w' = w.alloc (.cells ((pieces s).map Value.string).toArray 9) := G
 clear G hI hC e2 hle
 generalize pieces s = P at G2 ⊢
 go_enter Tryz.func46, Tryz.ntmps46
 go_wp2_with (go_at_call 79; refine G2.mono ?_; rintro e w8 ⟨rfl, h9⟩; subst h9)
 go_ret
 exact ⟨rfl, rfl⟩
theorem idx_byte (s : ByteArray) : Lib.indexB s blank = Lib.indexByte s.data.toList 32 := Lib.index_one _ 32
theorem join_more (x y : List UInt8) (r : List (List UInt8)) : Lib.join (x :: y :: r) [32] = x ++ 32 :: Lib.join (y :: r) [32] := by
 simp [Lib.join, List.intercalate, List.intersperse]
theorem idx_none : ∀ l : List UInt8, (32 : UInt8) ∉ l → Lib.indexByte l 32 = -1
 | [], _ => rfl
 | b :: l, h => by
  unfold Lib.indexByte
  rw [if_neg (by simp at h ⊢; exact fun e => h.1 e.symm), idx_none l (fun h' => h (by simp [h']))]
  rfl
theorem idx_at : ∀ x r : List UInt8, (32 : UInt8) ∉ x → Lib.indexByte (x ++ 32 :: r) 32 = (x.length : Int)
 | [], r, _ => by unfold Lib.indexByte; simp
 | b :: x, r, h => by
  have e := idx_at x r (fun h' => h (by simp [h']))
  show Lib.indexByte (b :: (x ++ 32 :: r)) 32 = _
  unfold Lib.indexByte
  rw [if_neg (by simp at h ⊢; exact fun e => h.1 e.symm), e, if_neg (by simp <;> omega)]
  simp
theorem ext_data (s : ByteArray) (i j : Nat) : (s.extract i j).data.toList = (s.data.toList.drop i).take (j - i) := by
 simp [ByteArray.data_extract, List.extract_eq_take_drop]
theorem ba_ext {a b : ByteArray} (h : a.data.toList = b.data.toList) : a = b := ByteArray.ext (Array.toList_inj.1 h)
theorem size_data (s : ByteArray) : s.size = s.data.toList.length := rfl
theorem pieces_join : ∀ ws : List ByteArray, ws ≠ [] → (∀ x ∈ ws, (32 : UInt8) ∉ x.data.toList) → ∀ s : ByteArray, s.data.toList = Lib.join (ws.map (·.data.toList)) [32] → pieces s = ws
 | [], h, _, _, _ => absurd rfl h
 | [x], _, hx, s, hs => by
  have e : s = x := ba_ext (by rw [hs]; exact Lib.join_one _ _)
  subst e
  exact pieces_miss (by rw [idx_byte]; exact idx_none _ (hx s (by simp)))
 | x :: y :: r, _, hx, s, hs => by
  have hs2 : s.data.toList = x.data.toList ++ 32 :: Lib.join ((y :: r).map (·.data.toList)) [32] := by rw [hs]; exact join_more _ _ _
  have hi : Lib.indexB s blank = (x.data.toList.length : Int) := by rw [idx_byte, hs2]; exact idx_at _ _ (hx x (by simp))
  rw [pieces_hit hi]
  congr 1
  ·exact ba_ext (by rw [ext_data, hs2]; simp)
  ·refine pieces_join (y :: r) (by simp) (fun z hz => hx z (by simp at hz ⊢; exact .inr hz)) _ ?_
   rw [ext_data, size_data s, hs2]
   simp
   rw [← List.drop_drop]
   simp
   exact List.take_of_length_le (by omega)
theorem join_pieces : ∀ (n : Nat) (s : ByteArray), s.size ≤ n → Lib.join ((pieces s).map (·.data.toList)) [32] = s.data.toList := by
 intro n
 induction n with
 | zero =>
  intro s hs
  have e : s = ⟨#[]⟩ := ba_ext (by rw [size_data] at hs; exact List.eq_nil_of_length_eq_zero (by omega))
  subst e
  rw [pieces_miss (by decide)]
  exact Lib.join_one _ _
 | succ n ih =>
  intro s hs
  by_cases h : Lib.indexB s blank = -1
  ·rw [pieces_miss h]; exact Lib.join_one _ _
  ·have hge := Lib.indexByte_ge s.data.toList 32
   rw [← idx_byte] at hge
   obtain ⟨i, hi⟩ : ∃ i : Nat, Lib.indexB s blank = i := ⟨(Lib.indexB s blank).toNat, by omega⟩
   obtain ⟨hat, _⟩ := Lib.indexByte_some ((idx_byte s).symm.trans hi)
   have hil := (List.getElem?_eq_some_iff.1 hat).1
   have hil2 := hil
   rw [← size_data] at hil2
   rw [pieces_hit hi]
   have hr := ih (s.extract (i + 1) s.size) (by rw [ByteArray.size_extract]; omega)
   have hne : pieces (s.extract (i + 1) s.size) ≠ [] := fun e => by
    have := pieces_len (s.extract (i + 1) s.size)
    rw [e] at this; simp at this
   obtain ⟨y, r, hyr⟩ := List.exists_cons_of_ne_nil hne
   rw [hyr] at hr ⊢
   show Lib.join ((s.extract 0 i).data.toList :: y.data.toList :: r.map (·.data.toList)) [32] = _
   rw [join_more]
   have hr2 : Lib.join (y.data.toList :: r.map (·.data.toList)) [32] = s.data.toList.drop (i + 1) := by
    rw [show (y.data.toList :: r.map (·.data.toList)) = (y :: r).map (·.data.toList) from rfl, hr, ext_data, List.take_of_length_le (by rw [List.length_drop, ← size_data]; omega)]
   rw [hr2, ext_data]
   have h44 : s.data.toList[i]'hil = 32 := by
    have := List.getElem?_eq_getElem hil
    rw [hat] at this
    exact (Option.some.inj this).symm
   rw [← h44, List.drop_zero, Nat.sub_zero, ← List.drop_eq_getElem_cons hil, List.take_append_drop]
theorem byte_at {s : ByteArray} {k : Nat} (h : k < s.size) : s.data.toList[k]? = some (s[k]'h) := by
 rw [Array.getElem?_toList]
 exact Array.getElem?_eq_getElem h
theorem byte_ne {s : ByteArray} {k : Nat} (h : k < s.size) (hn : s.data.toList[k]? ≠ some 32) : ¬ (((s[k]'h).toNat : Nat) : Int) = 32 := fun e => by
 apply hn
 rw [byte_at h]
 congr 1
 apply UInt8.toNat_inj.1
 have : (s[k]'h).toNat = 32 := by omega
 rw [this]; rfl
theorem byte_eq {s : ByteArray} {k : Nat} (h : k < s.size) (hn : s.data.toList[k]? = some 32) : (((s[k]'h).toNat : Nat) : Int) = 32 := by
 rw [byte_at h] at hn
 rw [Option.some.inj hn]
 rfl
set_option maxHeartbeats 1000000 in
theorem cutS_no (s : ByteArray) (w : World) (hs : s.size ≤ 1048576) (h : Lib.indexB s blank = -1) :
  Calls Tryz.prog 32 #[.string s, .int .u8 32] w fun e w' => e = .returned (.tuple #[.string s, .string ⟨#[]⟩, .bool false]) ∧ Below w.heap.size w w' := by
 have HN : Hid (∀ k : Nat, s.data.toList[k]? ≠ some 32) := Lib.indexByte_none ((Lib.index_one _ 32).symm.trans h)
 clear h
 go_enter Tryz.func32, Tryz.ntmps32
 go_wp2_with fail
 go_loopw [7] (fun i wr => ∃ k : Nat, k ≤ s.size ∧ i = .int .i64 k ∧ Below w.heap.size w wr) (fun i _ => s.size - (intOf i).toNat)
 case atStart => exact ⟨0, by omega, rfl, Below.refl _ _⟩
 case round =>
  obtain ⟨k, hk, rfl, hB⟩ := hrel
  by_cases hlt : k < s.size
  ·have hne := byte_ne hlt (HN.out k)
   have hne2 : ((((s[k]'hlt).toNat : Nat) : Int) == 32) = false := by simpa using hne
   go_wp2_with fail
   go_roundw
   case rel => exact ⟨k + 1, by omega, by go_num, hB⟩
   case measure => simp [intOf]; omega
  ·go_wp2_with fail
   refine bodyPost_ret (v := .tuple #[.string s, .string ⟨#[]⟩, .bool false]) (by simp [results, Tryz.results32]) rfl ⟨rfl, hB⟩
set_option maxHeartbeats 1000000 in
theorem cutS_yes (s : ByteArray) (i : Nat) (w : World) (hs : s.size ≤ 1048576) (h : Lib.indexB s blank = i) :
  Calls Tryz.prog 32 #[.string s, .int .u8 32] w fun e w' => e = .returned (.tuple #[.string (s.extract 0 i), .string (s.extract (i + 1) s.size), .bool true]) ∧ Below w.heap.size w w' := by
 obtain ⟨hat, hno⟩ := Lib.indexByte_some ((Lib.index_one _ 32).symm.trans h)
 have hil : i < s.size := by
  have := (List.getElem?_eq_some_iff.1 hat).1
  simpa using this
 have HN : Hid (∀ k : Nat, k < i → s.data.toList[k]? ≠ some 32) := hno
 have HA : Hid (s.data.toList[i]? = some 32) := hat
 clear h hat hno
 go_enter Tryz.func32, Tryz.ntmps32
 go_wp2_with fail
 go_loopw [7] (fun z wr => ∃ k : Nat, k ≤ i ∧ z = .int .i64 k ∧ Below w.heap.size w wr) (fun z _ => s.size - (intOf z).toNat)
 case atStart => exact ⟨0, by omega, rfl, Below.refl _ _⟩
 case round =>
  obtain ⟨k, hk, rfl, hB⟩ := hrel
  have hlt : k < s.size := by omega
  by_cases hki : k < i
  ·have hne := byte_ne hlt (HN.out k hki)
   have hne2 : ((((s[k]'hlt).toNat : Nat) : Int) == 32) = false := by simpa using hne
   go_wp2_with fail
   go_roundw
   case rel => exact ⟨k + 1, by omega, by go_num, hB⟩
   case measure => simp [intOf]; omega
  ·have hke : k = i := by omega
   subst hke
   have heq := byte_eq hlt HA.out
   go_wp2_with fail
   go_region
   all_goals
    go_wp2_with fail
    exact bodyPost_ret (v := .tuple #[.string (s.extract 0 k), .string (s.extract (k + 1) s.size), .bool true]) (by simp [results, Tryz.results32]) rfl ⟨rfl, hB.drew⟩
end Go.Proofs.YtkpmiikafconmaaGreatDoor
namespace Go.Proofs.YtkpmiikafconmaaGreatDoor
open Go.RowKit
set_option linter.unusedVariables false
def decB (n : Int) : ByteArray := ⟨(Lib.itoa n).toArray⟩
theorem dec_small {u : Nat} (h : u < 10) : Lib.decDigits u = [UInt8.ofNat (48 + u)] := by rw [Lib.decDigits, dif_pos h]
theorem dec_big {u : Nat} (h : ¬ u < 10) : Lib.decDigits u = Lib.decDigits (u / 10) ++ [UInt8.ofNat (48 + u % 10)] := by rw [Lib.decDigits, dif_neg h]
theorem dec_len : ∀ (k u : Nat), u < 10 ^ (k + 1) → (Lib.decDigits u).length ≤ k + 1
 | 0, u, h => by rw [dec_small (by simpa using h)]; simp
 | k + 1, u, h => by
  by_cases h1 : u < 10
  ·rw [dec_small h1]; simp
  ·rw [dec_big h1]
   have := dec_len k (u / 10) (by rw [Nat.pow_succ] at h; omega)
   simp; omega
theorem dec_pos (u : Nat) : 0 < (Lib.decDigits u).length := by
 rw [Lib.decDigits]; split <;> simp
theorem itoa_nat (n : Nat) : Lib.itoa (n : Int) = Lib.decDigits n := by
 unfold Lib.itoa
 rw [if_neg (by omega), Int.toNat_natCast]
theorem decB_size {n : Nat} (h : n ≤ 4294967295) : (decB (n : Int)).size ≤ 10 := by
 have := dec_len 9 n (by omega)
 unfold decB
 rw [itoa_nat]
 simpa [ByteArray.size] using this
theorem conv_dig (v : World) (z : Int) : (convert 22 9 (.slice (some ⟨v.heap.size, 0, none⟩) 1 1)).run Tryz.prog (v.alloc (.cells #[.int .u8 z] 5)) = .ok (.string ⟨#[UInt8.ofNat z.toNat]⟩) (v.alloc (.cells #[.int .u8 z] 5)) := by
 rw [run_convert_bytes_string _ _ _ 5 _ 1 1 Tryz.underlying22 Tryz.underlying5 Tryz.underlying9]
 have hl := run_loadCells_list (P := Tryz.prog) (v.alloc (.cells #[.int .u8 z] 5)) ⟨v.heap.size, 0, none⟩ ([z].map (Value.int .u8)) (fun j x hj => by
  rcases j with _ | j
  ·simp at hj; subst hj; simp [Addr.add]
  ·simp at hj)
 rw [run_bytesToString _ _ 1 1 [z] hl]
 rfl
set_option maxHeartbeats 2000000 in
theorem decS (n : Nat) (w : World) (hn : n ≤ 4294967295) :
  Calls Tryz.prog 51 #[.int .i64 (n : Int)] w fun e w' => e = .returned (.string (decB n)) ∧ Below w.heap.size w w' := by
 have HV : Hid (decB n = ⟨(Lib.decDigits n).toArray⟩) := by show _ = _; unfold decB; rw [itoa_nat]
 have h10 := dec_len 9 n (by omega)
 have HW : Hid (True) := trivial
 go_enter Tryz.func51, Tryz.ntmps51
 go_wp2_with fail
 go_loopw [0, 3] (fun i st wr => ∃ (m : Nat) (l : List UInt8), m ≤ 4294967295 ∧ l.length ≤ 10 ∧ i = .int .i64 m ∧ st = .string ⟨l.toArray⟩ ∧ Hid (Lib.decDigits n = Lib.decDigits m ++ l) ∧ Below w.heap.size w wr) (fun i _ _ => (intOf i).toNat)
 case atStart => exact ⟨n, [], hn, by simp, rfl, rfl, by show _ = _; simp, Below.refl _ _⟩
 case round =>
  obtain ⟨m, l, hm, hl, rfl, rfl, HL, hB⟩ := hrel
  have hcv := conv_dig wr
  by_cases h1 : m < 10
  ·go_wp2_with fail
   go_ret
   refine ⟨?_, hB.alloc hB.size _⟩
   rw [HV.out, HL.out, dec_small h1]
   refine congrArg (fun z => Ending.returned (.string z)) ?_
   rw [show (48 + UInt8.ofNat m : UInt8) = UInt8.ofNat (48 + m) by simp]
   exact ByteArray.mk_append_mk _ _
  ·have h2 : 10 ≤ m := by omega
   have hlen := congrArg List.length HL.out
   have hdp := dec_pos (m / 10)
   rw [dec_big h1] at hlen
   simp at hlen
   go_wp2_with fail
   refine ⟨⟨m / 10, UInt8.ofNat (48 + m % 10) :: l, by omega, by simp; omega, congrArg (Value.int .i64) (by omega), ?_, ?_, hB.alloc hB.size _⟩, by simp [intOf]; omega⟩
   ·refine congrArg Value.string ?_
    rw [show (48 + UInt8.ofNat (m % 10) : UInt8) = UInt8.ofNat (48 + m % 10) by simp]
    exact ByteArray.mk_append_mk _ _
   ·show _ = _
    rw [HL.out, dec_big h1]; simp
end Go.Proofs.YtkpmiikafconmaaGreatDoor
namespace Go.Proofs.YtkpmiikafconmaaGreatDoor
open Go.RowKit
set_option linter.unusedVariables false
def bs (l : List UInt8) : ByteArray := ⟨l.toArray⟩
theorem bs_append (a b : List UInt8) : bs a ++ bs b = bs (a ++ b) := by unfold bs; rw [ByteArray.mk_append_mk]
theorem bs_size (a : List UInt8) : (bs a).size = a.length := by simp [bs, ByteArray.size]
theorem bs_blank : (⟨#[32]⟩ : ByteArray) = bs [32] := rfl
theorem decB_bs (n : Int) : decB n = bs (Lib.itoa n) := rfl
def numsL (l : List Int) : List UInt8 := l.flatMap fun n => 32 :: Lib.itoa n
theorem nums_snoc {l : List Int} {k : Nat} (hk : k < l.length) : numsL (l.take (k + 1)) = numsL (l.take k) ++ (32 :: Lib.itoa (l.getD k 0)) := by
 unfold numsL
 rw [List.take_succ_eq_append_getElem hk, List.flatMap_append]
 simp [List.getD, hk]
theorem nums_append (a b : List Int) : numsL (a ++ b) = numsL a ++ numsL b := List.flatMap_append
def SmN (l : List Int) : Prop := ∀ x ∈ l, ∃ n : Nat, x = n ∧ n ≤ 4294967295
theorem itoa_len {x : Int} (h : ∃ n : Nat, x = n ∧ n ≤ 4294967295) : (Lib.itoa x).length ≤ 10 := by
 obtain ⟨n, rfl, hn⟩ := h
 rw [itoa_nat]
 exact dec_len 9 n (by omega)
theorem nums_len : ∀ l : List Int, SmN l → (numsL l).length ≤ 11 * l.length
 | [], _ => by simp [numsL]
 | x :: r, h => by
  have h1 := itoa_len (h x (by simp))
  have h2 := nums_len r fun y hy => h y (by simp [hy])
  unfold numsL at h2 ⊢
  rw [List.flatMap_cons, List.length_append, List.length_cons, List.length_cons]
  omega
theorem SmN.take {l : List Int} (h : SmN l) (k : Nat) : SmN (l.take k) := fun x hx => h x (List.mem_of_mem_take hx)
def opWL : List (List UInt8) := [[], [97, 100, 100], [115, 117, 98], [109, 117, 108], [117, 100, 105, 118], [115, 100, 105, 118], [117, 114, 101, 109], [115, 114, 101, 109], [97, 110, 100], [111, 114], [120, 111, 114], [115, 104, 108], [108, 115, 104, 114], [97, 115, 104, 114], [101, 113], [110, 101], [117, 108, 116], [115, 108, 116], [122, 101, 120, 116], [115, 101, 120, 116], [116, 114, 117, 110, 99], [99, 111, 110, 115, 116], [115, 101, 108, 101, 99, 116], [108, 111, 97, 100], [115, 116, 111, 114, 101], [112, 114, 105, 110, 116], [99, 97, 108, 108], [99, 111, 112, 121]]
def opW (k : Nat) : ByteArray := bs (opWL.getD k [])
theorem opWL_len (k : Nat) : (opWL.getD k []).length ≤ 6 := by
 rcases Nat.lt_or_ge k 28 with h | h
 ·have : ∀ k : Fin 28, (opWL.getD k.1 []).length ≤ 6 := by decide
  exact this ⟨k, h⟩
 ·rw [List.getD, List.getElem?_eq_none (by simpa [opWL] using h)]
  decide
def OpsAt (w : World) : Prop := 2 < w.heap.size ∧ ∀ j, j < 28 → w.cell? ⟨2, j, none⟩ = some (.string (opW j))
theorem OpsAt.keep {w w' : World} (h : OpsAt w) (k : Below w.heap.size w w') : OpsAt w' :=
 ⟨Nat.lt_of_lt_of_le h.1 k.size, fun j hj => (cell_block (k.block _ h.1)).trans (h.2 j hj)⟩
def PowAt (w : World) : Prop := Lib.TabIs Tryz.prog w "internal/strconv.uint64pow10" .u64 Lib.pow10Tab
theorem gPow : Tryz.prog.globalNamed "internal/strconv.uint64pow10" = some 3 := by kernel_rfl
theorem PowAt.keep {w w' : World} (h : PowAt w) (k : Below w.heap.size w w') : PowAt w' := by
 unfold PowAt Lib.TabIs World.var? at h ⊢
 simp only [gPow, Option.bind_some] at h ⊢
 have hlt : 3 < w.heap.size := by
  rcases Nat.lt_or_ge 3 w.heap.size with h' | h'
  ·exact h'
  ·simp [Array.getElem?_eq_none h'] at h
 rw [k.block _ hlt]
 exact h
set_option maxHeartbeats 2000000 in
theorem numsS (lo : Nat) (a : Option Addr) (cap : Nat) (l : List Int) (w : World) (hv : IntsAt w lo a l) (hl : l.length ≤ 20) (hs : SmN l) :
  Calls Tryz.prog 52 #[.slice a l.length cap] w fun e w' => e = .returned (.string (bs (numsL l))) ∧ Below w.heap.size w w' := by
 go_enter Tryz.func52, Tryz.ntmps52
 go_wp2_with fail
 go_loopw [3, 4] (fun st i wr => ∃ k : Nat, k ≤ l.length ∧ i = .int .i64 k ∧ st = .string (bs (numsL (l.take k))) ∧ Hid (Below w.heap.size w wr)) (fun _ i _ => l.length - (intOf i).toNat)
 case atStart => exact ⟨0, by omega, rfl, rfl, Below.refl _ _⟩
 case round =>
  obtain ⟨k, hk, rfl, rfl, HB⟩ := hrel
  by_cases hlt : k < l.length
  ·rcases hv.2 with rfl | ⟨b, off, rfl, hlo, hb, hcell⟩
   ·simp at hlt
   obtain ⟨n, hn, hn9⟩ := hs _ (getD_mem 0 l k hlt)
   have e0 : wr.cell? ⟨b, off + k, none⟩ = some (.int .i64 (n : Int)) := by rw [(cell_block (HB.out.block b hb)).trans (hcell k hlt), hn]
   have C := decS n wr hn9
   have hD : (decB (n : Int)).size ≤ 10 := decB_size hn9
   have hT : (bs (numsL (l.take k))).size ≤ 220 := by rw [bs_size]; have := nums_len _ (hs.take k); simp at this; omega
   have HE : Hid (bs (numsL (l.take (k + 1))) = bs (numsL (l.take k)) ++ ⟨#[32]⟩ ++ decB n) := by
    show _ = _
    rw [nums_snoc hlt, hn, bs_blank, decB_bs, bs_append, bs_append]
    simp
   generalize bs (numsL (l.take k)) = T at *
   generalize decB (n : Int) = D at *
   have hT2 : (T ++ ⟨#[32]⟩ : ByteArray).size ≤ 221 := by rw [ByteArray.size_append]; have h1 : (⟨#[32]⟩ : ByteArray).size = 1 := rfl; omega
   have hsz := HB.out.size
   clear hcell hn
   go_wp2_with (go_at_call 51; refine C.mono ?_; rintro e w5 ⟨rfl, hb5⟩; have HB5 : Hid (Below w.heap.size w w5) := HB.out.trans (hb5.mono hsz); clear hb5)
   go_roundw
   case rel => exact ⟨k + 1, by omega, by go_num, by rw [HE.out], HB5.out⟩
   case measure => simp [intOf]; omega
  ·have hke : k = l.length := by omega
   have HE : Hid (bs (numsL (l.take k)) = bs (numsL l)) := by show _ = _; rw [hke, List.take_length]
   rw [HE.out]
   go_wp2_with fail
   go_ret
   exact ⟨rfl, HB.out⟩
theorem opWordsS (w : World) (s : Nat) (hs : w.heap.size = s) : Calls Tryz.prog 89 #[] w fun e w' => e = .returned (.slice (some ⟨s, 0, none⟩) 28 28) ∧ (∀ j, j < 28 → w'.cell? ⟨s, j, none⟩ = some (.string (opW j))) ∧ w'.heap.size = s + 1 ∧ Below w.heap.size w w' := by
 subst hs
 go_enter Tryz.func89, Tryz.ntmps89
 go_wp2_with fail
 go_ret
 refine ⟨rfl, fun j hj => ?_, by simp, (Below.refl _ _).alloc (Nat.le_refl _) _⟩
 rw [cell_of_heap (heap_alloc_last _ _)]
 have h : j = 0 ∨ j = 1 ∨ j = 2 ∨ j = 3 ∨ j = 4 ∨ j = 5 ∨ j = 6 ∨ j = 7 ∨ j = 8 ∨ j = 9 ∨ j = 10 ∨ j = 11 ∨ j = 12 ∨ j = 13 ∨ j = 14 ∨ j = 15 ∨ j = 16 ∨ j = 17 ∨ j = 18 ∨ j = 19 ∨ j = 20 ∨ j = 21 ∨ j = 22 ∨ j = 23 ∨ j = 24 ∨ j = 25 ∨ j = 26 ∨ j = 27 := by omega
 rcases h with rfl | rfl | rfl | rfl | rfl | rfl | rfl | rfl | rfl | rfl | rfl | rfl | rfl | rfl | rfl | rfl | rfl | rfl | rfl | rfl | rfl | rfl | rfl | rfl | rfl | rfl | rfl | rfl <;> rfl
end Go.Proofs.YtkpmiikafconmaaGreatDoor
namespace Go.Proofs.YtkpmiikafconmaaGreatDoor
open Go.RowKit
def widthB (w : Int) : Bool := w == 1 || w == 8 || w == 16 || w == 32
def topZ (w : Int) : Int := if w = 1 then 2 else if w = 8 then 256 else if w = 16 then 65536 else 4294967296
def valueB (w v : Int) : Bool := widthB w && (decide (0 ≤ v) && decide (v < topZ w))
theorem width_yes {w : Int} (h : widthB w = true) : w = 1 ∨ w = 8 ∨ w = 16 ∨ w = 32 := by
 simp [widthB] at h; omega
theorem width_no {w : Int} (h : widthB w = false) : (w == 1) = false ∧ (w == 8) = false ∧ (w == 16) = false ∧ (w == 32) = false := by
 simp [widthB] at h; simp; omega
theorem top_pos (w : Int) : 2 ≤ topZ w ∧ topZ w ≤ 4294967296 := by
 unfold topZ; repeat' split
 all_goals omega
end Go.Proofs.YtkpmiikafconmaaGreatDoor
namespace Go.Proofs.YtkpmiikafconmaaGreatDoor
open Go.RowKit
theorem widthS (a : Int) (w : World) : Calls Tryz.prog 86 #[.int .i64 a] w fun e w' => e = .returned (.bool (widthB a)) ∧ w' = w := by
 by_cases h : widthB a = true
 ·rw [h]
  rcases width_yes h with rfl | rfl | rfl | rfl
  all_goals
   clear h
   go_enter Tryz.func86, Tryz.ntmps86
   go_wp2
   go_ret
   exact ⟨rfl, rfl⟩
 ·have h : widthB a = false := by simpa using h
  rw [h]
  obtain ⟨d1, d2, d3, d4⟩ := width_no h
  clear h
  go_enter Tryz.func86, Tryz.ntmps86
  go_wp2
  go_ret
  exact ⟨rfl, rfl⟩
theorem widthI (a : Int) (w : World) : Calls Tryz.prog 71 #[.int .i64 a] w fun e w' => e = .returned (.bool (widthB a)) ∧ w' = w := by
 by_cases h : widthB a = true
 ·rw [h]
  rcases width_yes h with rfl | rfl | rfl | rfl
  all_goals
   clear h
   go_enter Tryz.func71, Tryz.ntmps71
   go_wp2
   go_ret
   exact ⟨rfl, rfl⟩
 ·have h : widthB a = false := by simpa using h
  rw [h]
  obtain ⟨d1, d2, d3, d4⟩ := width_no h
  clear h
  go_enter Tryz.func71, Tryz.ntmps71
  go_wp2
  go_ret
  exact ⟨rfl, rfl⟩
theorem topS (a : Int) (w : World) (h : widthB a = true) : Calls Tryz.prog 159 #[.int .i64 a] w fun e w' => e = .returned (.int .i64 (topZ a)) ∧ w' = w := by
 rcases width_yes h with rfl | rfl | rfl | rfl
 all_goals
  clear h
  go_enter Tryz.func159, Tryz.ntmps159
  go_wp2
  go_ret
  exact ⟨rfl, rfl⟩
theorem topI (a : Int) (w : World) (h : widthB a = true) : Calls Tryz.prog 182 #[.int .i64 a] w fun e w' => e = .returned (.int .i64 (topZ a)) ∧ w' = w := by
 rcases width_yes h with rfl | rfl | rfl | rfl
 all_goals
  clear h
  go_enter Tryz.func182, Tryz.ntmps182
  go_wp2
  go_ret
  exact ⟨rfl, rfl⟩
theorem ret_bool {a b : Bool} (h : a = b) : Ending.returned (.bool a) = .returned (.bool b) := by rw [h]
theorem inS (n lo hi : Int) (w : World) : Calls Tryz.prog 49 #[.int .i64 n, .int .i64 lo, .int .i64 hi] w fun e w' => e = .returned (.bool (decide (lo ≤ n) && decide (n ≤ hi))) ∧ w' = w := by
 by_cases h1 : lo ≤ n
 ·by_cases h2 : n ≤ hi
  ·have d1 : decide (lo ≤ n) = true := by simpa using h1
   have d2 : decide (n ≤ hi) = true := by simpa using h2
   go_enter Tryz.func49, Tryz.ntmps49
   go_wp2
   go_ret
   exact ⟨ret_bool (by simp [h1, h2]), rfl⟩
  ·have d1 : decide (lo ≤ n) = true := by simpa using h1
   have d2 : decide (n ≤ hi) = false := by simpa using h2
   go_enter Tryz.func49, Tryz.ntmps49
   go_wp2
   go_ret
   exact ⟨ret_bool (by simp), rfl⟩
 ·have d1 : decide (lo ≤ n) = false := by simpa using h1
  go_enter Tryz.func49, Tryz.ntmps49
  go_wp2
  go_ret
  exact ⟨ret_bool (by simp), rfl⟩
theorem valueS_eq {a v : Int} (h : widthB a = true) : (decide (0 ≤ v) && decide (v ≤ topZ a - 1)) = valueB a v := by
 rw [valueB, h, Bool.true_and, Bool.eq_iff_iff]; simp; omega
theorem valueS (a v : Int) (w : World) : Calls Tryz.prog 126 #[.int .i64 a, .int .i64 v] w fun e w' => e = .returned (.bool (valueB a v)) ∧ w' = w := by
 by_cases h : widthB a = true
 ·have tp := top_pos a
  have HE : Hid ((decide (0 ≤ v) && decide (v ≤ topZ a - 1)) = valueB a v) := valueS_eq h
  go_enter Tryz.func126, Tryz.ntmps126
  go_wp2_with (first | (go_at_call 86; refine (widthS _ _).mono ?_; rintro e w' ⟨rfl, rfl⟩) | (go_at_call 159; refine (topS _ _ h).mono ?_; rintro e w' ⟨rfl, rfl⟩) | (go_at_call 49; refine (inS _ _ _ _).mono ?_; rintro e w' ⟨rfl, rfl⟩))
  go_ret
  exact ⟨ret_bool HE.out, rfl⟩
 ·have h : widthB a = false := by simpa using h
  have HE : Hid (false = valueB a v) := by simp [valueB, h, Hid]
  go_enter Tryz.func126, Tryz.ntmps126
  go_wp2_with (first | (go_at_call 86; refine (widthS _ _).mono ?_; rintro e w' ⟨rfl, rfl⟩))
  go_ret
  exact ⟨ret_bool HE.out, rfl⟩
theorem valueI (a v : Int) (w : World) : Calls Tryz.prog 165 #[.int .i64 a, .int .i64 v] w fun e w' => e = .returned (.bool (valueB a v)) ∧ w' = w := by
 by_cases h : widthB a = true
 ·have tp := top_pos a
  by_cases h1 : 0 ≤ v
  ·have HE : Hid (decide (v < topZ a) = valueB a v) := by show _ = _; rw [valueB, h]; simp [h1]
   go_enter Tryz.func165, Tryz.ntmps165
   go_wp2_with (first | (go_at_call 71; refine (widthI _ _).mono ?_; rintro e w' ⟨rfl, rfl⟩) | (go_at_call 182; refine (topI _ _ h).mono ?_; rintro e w' ⟨rfl, rfl⟩))
   go_ret
   exact ⟨ret_bool HE.out, rfl⟩
  ·have HE : Hid (false = valueB a v) := by show _ = _; rw [valueB, h]; simp [h1]
   have d1 : decide (0 ≤ v) = false := by simpa using h1
   go_enter Tryz.func165, Tryz.ntmps165
   go_wp2_with (first | (go_at_call 71; refine (widthI _ _).mono ?_; rintro e w' ⟨rfl, rfl⟩))
   go_ret
   exact ⟨ret_bool HE.out, rfl⟩
 ·have h : widthB a = false := by simpa using h
  have HE : Hid (false = valueB a v) := by simp [valueB, h, Hid]
  go_enter Tryz.func165, Tryz.ntmps165
  go_wp2_with (first | (go_at_call 71; refine (widthI _ _).mono ?_; rintro e w' ⟨rfl, rfl⟩))
  go_ret
  exact ⟨ret_bool HE.out, rfl⟩
end Go.Proofs.YtkpmiikafconmaaGreatDoor
namespace Go.Proofs.YtkpmiikafconmaaGreatDoor
open Go.RowKit
def opB (op : Int) : Bool := decide (1 ≤ op) && decide (op ≤ 17)
theorem opI (op : Int) (w : World) : Calls Tryz.prog 164 #[.int .i64 op] w fun e w' => e = .returned (.bool (opB op)) ∧ w' = w := by
 by_cases h1 : 1 ≤ op
 ·have E : Hid (decide (op ≤ 17) = opB op) := by show _ = _; simp [opB, h1]
  go_enter Tryz.func164, Tryz.ntmps164
  go_wp2
  go_ret
  exact ⟨ret_bool E.out, rfl⟩
 ·have E : Hid (false = opB op) := by show _ = _; simp [opB, h1]
  have d1 : decide (1 ≤ op) = false := by simpa using h1
  go_enter Tryz.func164, Tryz.ntmps164
  go_wp2
  go_ret
  exact ⟨ret_bool E.out, rfl⟩
end Go.Proofs.YtkpmiikafconmaaGreatDoor
