/- A number read out of a text: the program's and the model's. -/
import Derived.Test.YtojhakjkfkmklaaGreatDoorRows
import Derived.WalkKit
import Derived.WalkSpells
import Derived.WalkLawsBesides
import Derived.Deep.QuietTactic
import Derived.Below
import Derived.Laws.IdiomStrings
import Derived.Deep.RegionHeld2
namespace Go.Proofs.YtojhakjkfkmklaaGreatDoor
open Go.RowKit

def numOf : Value → Int | .int _ q => q | _ => 0
/-- The number at the head of a list of bytes, behind k bytes that told n; and how many bytes it has. -/
def rdl : Nat → Nat → List UInt8 → Nat × Nat
  | _, _, [] => (0, 0)
  | k, n, b :: r => if 5 ≤ k then (0, 0) else if 128 ≤ b.toNat then rdl (k + 1) (n + 128 ^ k * (b.toNat % 128)) r
      else if 4294967295 < n + 128 ^ k * (b.toNat % 128) ∨ (b.toNat = 0 ∧ 0 < k) then (0, 0) else (n + 128 ^ k * (b.toNat % 128), k + 1)
theorem rdl_five (n : Nat) (l : List UInt8) : rdl 5 n l = (0, 0) := by
  cases l <;> simp [rdl]
/-- At a place. -/
def rdAt (s : ByteArray) (a : Int) : Nat × Nat := if 0 ≤ a ∧ a < s.size then rdl 0 0 (s.data.toList.drop a.toNat) else (0, 0)
theorem drop_cons {s : ByteArray} {k : Nat} (hk : k < s.size) : s.data.toList.drop k = (s[k]'hk) :: s.data.toList.drop (k + 1) :=
  List.drop_eq_getElem_cons (by simpa using hk)
theorem drop_nil {s : ByteArray} {k : Nat} (hk : s.size ≤ k) : s.data.toList.drop k = [] := List.drop_eq_nil_of_le (by simpa using hk)

theorem blwI (n m : Int) (w : World) : Calls Tryz.prog 135 #[.int .i64 n, .int .i64 m] w fun e w' => e = .returned (.bool (decide (0 ≤ n ∧ n < m))) ∧ w' = w := by
  go_enter Tryz.func135, Tryz.ntmps135
  go_wp2_with fail
  all_goals go_ret
  all_goals exact ⟨congrArg (fun b => Ending.returned (.bool b)) (by rw [Bool.eq_iff_iff]; simp; omega), rfl⟩

theorem ret2_eq {x y : Int} {q : Nat × Nat} (h1 : x = (q.1 : Int)) (h2 : y = (q.2 : Int)) : Ending.returned (.tuple #[.int .i64 x, .int .i64 y]) = Ending.returned (.tuple #[.int .i64 (q.1 : Int), .int .i64 (q.2 : Int)]) := by rw [h1, h2]
theorem rdl_cons {k n : Nat} (hk : k < 5) (b : UInt8) (r : List UInt8) : rdl k n (b :: r) = if 128 ≤ b.toNat then rdl (k + 1) (n + 128 ^ k * (b.toNat % 128)) r
      else if 4294967295 < n + 128 ^ k * (b.toNat % 128) ∨ (b.toNat = 0 ∧ 0 < k) then (0, 0) else (n + 128 ^ k * (b.toNat % 128), k + 1) := by
  rw [rdl, if_neg (by omega)]
theorem byte_mod (b : Nat) : ((b : Nat) : Int).tmod 128 = ((b % 128 : Nat) : Int) := by
  rw [Int.tmod_eq_emod_of_nonneg (by omega)]; rfl
theorem byte_wrap {b : Nat} (h : b < 256) : wrap64 (b : Int) = b := by unfold wrap64; omega

set_option linter.unusedSimpArgs false in
set_option maxHeartbeats 4000000 in
theorem readS (s : ByteArray) (a : Int) (hs : s.size ≤ 1048576) (w : World) :
    Calls Tryz.prog 103 #[.string s, .int .i64 a] w fun e w' => e = .returned (.tuple #[.int .i64 (rdAt s a).1, .int .i64 (rdAt s a).2]) ∧ w' = w := by
  by_cases hin : 0 ≤ a ∧ a < s.size
  · obtain ⟨p, rfl⟩ : ∃ p : Nat, a = p := ⟨a.toNat, by omega⟩
    have hp : p < s.size := by omega
    have HR : Hid (rdAt s p = rdl 0 0 (s.data.toList.drop p)) := by show _ = _; unfold rdAt; rw [if_pos hin]; rfl
    have h0 : ¬ ((p : Int) < 0) := by omega
    clear hin
    go_enter Tryz.func103, Tryz.ntmps103
    go_wp2_with fail
    go_loop [6, 7, 8] (fun n st i => ∃ k m : Nat, k ≤ 5 ∧ p + k ≤ s.size ∧ m < 128 ^ k ∧ i = .int .i64 k ∧ n = .int .i64 m ∧ st = .int .i64 ((128 ^ k : Nat) : Int) ∧ Hid (rdAt s p = rdl k m (s.data.toList.drop (p + k)))) (fun _ _ i => 5 - (numOf i).toNat)
    case atStart => exact ⟨0, 0, by omega, by omega, by omega, rfl, rfl, rfl, HR⟩
    case round =>
      obtain ⟨k, m, hk, hpk, hm, rfl, rfl, rfl, HK⟩ := hrel
      clear HR
      by_cases h5 : k = 5
      · subst h5
        rw [rdl_five] at HK
        go_wp2_with fail
        go_ret2
        refine ⟨ret2_eq ?_ ?_, rfl⟩ <;> rw [HK.out] <;> rfl
      by_cases hsz : p + k < s.size
      · rw [drop_cons hsz, rdl_cons (by omega)] at HK
        obtain ⟨b, hb, hbb⟩ : ∃ b : Nat, b < 256 ∧ (s[p + k]'hsz).toNat = b := ⟨_, (s[p + k]'hsz).toNat_lt, rfl⟩
        rw [hbb] at HK
        obtain ⟨x, HX⟩ : ∃ x : Int, Hid (x = b) := ⟨_, rfl⟩
        have hx0 : 0 ≤ x := by rw [HX.out]; omega
        have hx1 : x < 256 := by rw [HX.out]; omega
        have hc : k = 0 ∨ k = 1 ∨ k = 2 ∨ k = 3 ∨ k = 4 := by omega
        rcases hc with rfl | rfl | rfl | rfl | rfl
        · have e0 : wrap64 (((s[p]'(by omega)).toNat : Nat) : Int) = x := by rw [show (s[p]'(by omega)).toNat = b from hbb, HX.out]; exact byte_wrap hb
          clear hbb hb
          simp only [Nat.reducePow, Nat.one_mul, Nat.reduceAdd, Nat.add_assoc, Nat.add_zero, Nat.zero_add] at HK hm
          go_wp2_with fail
          all_goals have hxx := HX.out
          all_goals try simp only [beq_iff_eq] at *
          all_goals first | (go_ret2; refine ⟨ret2_eq ?_ ?_, rfl⟩ <;> rw [HK.out] <;> (repeat' split) <;> omega) | (have HK2 := HK.out; rw [if_pos (by omega)] at HK2; refine ⟨⟨1, m + b % 128, by omega, by omega, by omega, rfl, ?_, rfl, ?_⟩, by decide⟩; (refine congrArg (Value.int .i64) ?_; omega); (first | exact HK2 | simpa using HK2)) | trace_state
        · have e0 : wrap64 (((s[p + 1]'(by omega)).toNat : Nat) : Int) = x := by rw [show (s[p + 1]'(by omega)).toNat = b from hbb, HX.out]; exact byte_wrap hb
          clear hbb hb
          simp only [Nat.reducePow, Nat.one_mul, Nat.reduceAdd, Nat.add_assoc, Nat.add_zero, Nat.zero_add] at HK hm
          go_wp2_with fail
          all_goals have hxx := HX.out
          all_goals try simp only [beq_iff_eq] at *
          all_goals first | (go_ret2; refine ⟨ret2_eq ?_ ?_, rfl⟩ <;> rw [HK.out] <;> (repeat' split) <;> omega) | (have HK2 := HK.out; rw [if_pos (by omega)] at HK2; refine ⟨⟨2, m + 128 * (b % 128), by omega, by omega, by omega, rfl, ?_, rfl, ?_⟩, by decide⟩; (refine congrArg (Value.int .i64) ?_; omega); (first | exact HK2 | simpa using HK2)) | trace_state
        · have e0 : wrap64 (((s[p + 2]'(by omega)).toNat : Nat) : Int) = x := by rw [show (s[p + 2]'(by omega)).toNat = b from hbb, HX.out]; exact byte_wrap hb
          clear hbb hb
          simp only [Nat.reducePow, Nat.one_mul, Nat.reduceAdd, Nat.add_assoc, Nat.add_zero, Nat.zero_add] at HK hm
          go_wp2_with fail
          all_goals have hxx := HX.out
          all_goals try simp only [beq_iff_eq] at *
          all_goals first | (go_ret2; refine ⟨ret2_eq ?_ ?_, rfl⟩ <;> rw [HK.out] <;> (repeat' split) <;> omega) | (have HK2 := HK.out; rw [if_pos (by omega)] at HK2; refine ⟨⟨3, m + 16384 * (b % 128), by omega, by omega, by omega, rfl, ?_, rfl, ?_⟩, by decide⟩; (refine congrArg (Value.int .i64) ?_; omega); (first | exact HK2 | simpa using HK2)) | trace_state
        · have e0 : wrap64 (((s[p + 3]'(by omega)).toNat : Nat) : Int) = x := by rw [show (s[p + 3]'(by omega)).toNat = b from hbb, HX.out]; exact byte_wrap hb
          clear hbb hb
          simp only [Nat.reducePow, Nat.one_mul, Nat.reduceAdd, Nat.add_assoc, Nat.add_zero, Nat.zero_add] at HK hm
          go_wp2_with fail
          all_goals have hxx := HX.out
          all_goals try simp only [beq_iff_eq] at *
          all_goals first | (go_ret2; refine ⟨ret2_eq ?_ ?_, rfl⟩ <;> rw [HK.out] <;> (repeat' split) <;> omega) | (have HK2 := HK.out; rw [if_pos (by omega)] at HK2; refine ⟨⟨4, m + 2097152 * (b % 128), by omega, by omega, by omega, rfl, ?_, rfl, ?_⟩, by decide⟩; (refine congrArg (Value.int .i64) ?_; omega); (first | exact HK2 | simpa using HK2)) | trace_state
        · have e0 : wrap64 (((s[p + 4]'(by omega)).toNat : Nat) : Int) = x := by rw [show (s[p + 4]'(by omega)).toNat = b from hbb, HX.out]; exact byte_wrap hb
          clear hbb hb
          simp only [Nat.reducePow, Nat.one_mul, Nat.reduceAdd, Nat.add_assoc, Nat.add_zero, Nat.zero_add] at HK hm
          go_wp2_with fail
          all_goals have hxx := HX.out
          all_goals try simp only [beq_iff_eq] at *
          all_goals first | (go_ret2; refine ⟨ret2_eq ?_ ?_, rfl⟩ <;> rw [HK.out] <;> (repeat' split) <;> omega) | (have HK2 := HK.out; rw [if_pos (by omega)] at HK2; refine ⟨⟨5, m + 268435456 * (b % 128), by omega, by omega, by omega, rfl, ?_, rfl, ?_⟩, by decide⟩; (refine congrArg (Value.int .i64) ?_; omega); (first | exact HK2 | simpa using HK2)) | trace_state
      · rw [drop_nil (by omega)] at HK
        go_wp2_with fail
        go_ret2
        refine ⟨ret2_eq ?_ ?_, rfl⟩ <;> rw [HK.out] <;> rfl
  · have HR : Hid (rdAt s a = (0, 0)) := by show _ = _; unfold rdAt; rw [if_neg hin]
    go_enter Tryz.func103, Tryz.ntmps103
    go_wp2_with fail
    all_goals first | omega | (go_ret2; refine ⟨ret2_eq ?_ ?_, rfl⟩ <;> rw [HR.out] <;> rfl) | trace_state
end Go.Proofs.YtojhakjkfkmklaaGreatDoor
namespace Go.Proofs.YtojhakjkfkmklaaGreatDoor
open Go.RowKit

/-- Seven bits a byte, the lowest first. -/
def vl (n : Nat) : List UInt8 := if n < 128 then [UInt8.ofNat n] else UInt8.ofNat (128 + n % 128) :: vl (n / 128)
termination_by n
decreasing_by omega
theorem vl_last {n : Nat} (h : n < 128) : vl n = [UInt8.ofNat n] := by rw [vl, if_pos h]
theorem vl_more {n : Nat} (h : 128 ≤ n) : vl n = UInt8.ofNat (128 + n % 128) :: vl (n / 128) := by rw [vl, if_neg (by omega)]
theorem vl_len {k n : Nat} (h : n < 128 ^ k) (hk : 0 < k) : (vl n).length ≤ k := by
  induction k generalizing n with
  | zero => omega
  | succ k ih =>
    by_cases h1 : n < 128
    · rw [vl_last h1]; simp
    · rw [vl_more (by omega)]
      have hk0 : 0 < k := by
        rcases Nat.eq_zero_or_pos k with rfl | h0
        · simp at h; omega
        · exact h0
      have := ih (n := n / 128) (by rw [Nat.pow_succ] at h; omega) hk0
      simp; omega
theorem vl_five {n : Nat} (h : n ≤ 4294967295) : (vl n).length ≤ 5 := vl_len (by omega) (by omega)
/-- What VarOf gives. -/
def vof (a : Int) : ByteArray := if 0 ≤ a ∧ a ≤ 4294967295 then ⟨(vl a.toNat).toArray⟩ else ⟨#[]⟩
theorem conv_one (v : World) (z : Int) : (convert 22 9 (.slice (some ⟨v.heap.size, 0, none⟩) 1 1)).run Tryz.prog (v.alloc (.cells #[.int .u8 z] 5)) = .ok (.string ⟨#[UInt8.ofNat z.toNat]⟩) (v.alloc (.cells #[.int .u8 z] 5)) := by
  rw [run_convert_bytes_string _ _ _ 5 _ 1 1 Tryz.underlying22 Tryz.underlying5 Tryz.underlying9]
  have hl := run_loadCells_list (P := Tryz.prog) (v.alloc (.cells #[.int .u8 z] 5)) ⟨v.heap.size, 0, none⟩ ([z].map (Value.int .u8)) (fun j x hj => by
    rcases j with _ | j
    · simp at hj; subst hj; simp [Addr.add]
    · simp at hj)
  rw [run_bytesToString _ _ 1 1 [z] hl]
  rfl

theorem inS1 (a b c : Int) (w : World) : Calls Tryz.prog 55 #[.int .i64 a, .int .i64 b, .int .i64 c] w fun e w' => e = .returned (.bool (decide (b ≤ a ∧ a ≤ c))) ∧ w' = w := by
  go_enter Tryz.func55, Tryz.ntmps55
  go_wp2_with fail
  all_goals go_ret
  all_goals exact ⟨congrArg (fun b => Ending.returned (.bool b)) (by rw [Bool.eq_iff_iff]; simp; omega), rfl⟩

theorem inS1b (a b c : Int) (w : World) (v : Bool) (h : Hid (decide (b ≤ a ∧ a ≤ c) = v)) : Calls Tryz.prog 55 #[.int .i64 a, .int .i64 b, .int .i64 c] w fun e w' => e = .returned (.bool v) ∧ w' = w := by
  rw [← h.out]; exact inS1 a b c w

set_option maxHeartbeats 2000000 in
theorem varS (a : Int) (w : World) :
    Calls Tryz.prog 57 #[.int .i64 a] w fun e w' => e = .returned (.string (vof a)) ∧ Below w.heap.size w w' := by
  by_cases hin : 0 ≤ a ∧ a ≤ 4294967295
  · obtain ⟨n, rfl⟩ : ∃ n : Nat, a = n := ⟨a.toNat, by omega⟩
    have hn : n ≤ 4294967295 := by omega
    have HV : Hid (vof n = ⟨(vl n).toArray⟩) := by show _ = _; unfold vof; rw [if_pos hin]; rfl
    have hd : Hid (decide ((0 : Int) ≤ (n : Int) ∧ (n : Int) ≤ 4294967295) = true) := by show _ = _; simp; omega
    have h5 := vl_five hn
    clear hin
    go_enter Tryz.func57, Tryz.ntmps57
    go_wp2_with (go_at_call 55; refine (inS1b _ _ _ _ _ hd).mono ?_; rintro e w1 ⟨rfl, rfl⟩)
    go_loopw [0, 3] (fun i st wr => ∃ (m : Nat) (l : List UInt8), m ≤ 4294967295 ∧ l.length ≤ 5 ∧ i = .int .i64 m ∧ st = .string ⟨l.toArray⟩ ∧ Hid (vl n = l ++ vl m) ∧ Below w1.heap.size w1 wr) (fun i _ _ => (numOf i).toNat)
    case atStart => exact ⟨n, [], hn, by simp, rfl, rfl, rfl, Below.refl _ _⟩
    case round =>
      obtain ⟨m, l, hm, hl, rfl, rfl, HL, hB⟩ := hrel
      have hcv := conv_one wr
      by_cases h1 : m < 128
      · go_wp2_with fail
        go_ret
        refine ⟨?_, hB.alloc hB.size _⟩
        rw [HV.out, HL.out, vl_last h1]
        exact congrArg (fun z => Ending.returned (.string z)) (ByteArray.mk_append_mk _ _)
      · have h2 : 128 ≤ m := by omega
        go_wp2_with fail
        refine ⟨⟨m / 128, l ++ [UInt8.ofNat (128 + m % 128)], by omega, ?_, ?_, ?_, ?_, hB.alloc hB.size _⟩, by simp only [numOf]; omega⟩
        · have h6 := congrArg List.length HL.out
          have h7 : 0 < (vl (m / 128)).length := by rw [vl]; split <;> simp
          rw [vl_more h2] at h6
          simp at h6 ⊢; omega
        · exact congrArg (Value.int .i64) (by omega)
        · refine congrArg Value.string ?_
          rw [show (128 + UInt8.ofNat (m % 128) : UInt8) = UInt8.ofNat (128 + m % 128) by simp]
          exact ByteArray.mk_append_mk _ _
        · show vl n = _
          rw [HL.out, vl_more h2]; simp
  · have HV : Hid (vof a = ⟨#[]⟩) := by show _ = _; unfold vof; rw [if_neg hin]
    have hd : Hid (decide (0 ≤ a ∧ a ≤ 4294967295) = false) := by show _ = _; simpa using hin
    clear hin
    go_enter Tryz.func57, Tryz.ntmps57
    go_wp2_with (go_at_call 55; refine (inS1b _ _ _ _ _ hd).mono ?_; rintro e w1 ⟨rfl, rfl⟩)
    go_ret
    exact ⟨by rw [HV.out]; rfl, Below.refl _ _⟩
end Go.Proofs.YtojhakjkfkmklaaGreatDoor
namespace Go.Proofs.YtojhakjkfkmklaaGreatDoor
open Go.RowKit

structure PhiD where
  w : Int
  ins : List Int
structure InstD where
  op : Int
  w : Int
  a : Int
  b : Int
  c : Int
  imm : Int
  args : List Int
structure TermD where
  kind : Int
  a : Int
  x : Int
  y : Int
structure BlockD where
  phis : List PhiD
  insts : List InstD
  term : TermD
structure FuncD where
  params : List Int
  ret : Int
  blocks : List BlockD
def phi0 : PhiD := ⟨0, []⟩
def inst0 : InstD := ⟨0, 0, 0, 0, 0, 0, []⟩
def term0 : TermD := ⟨0, 0, 0, 0⟩
def block0 : BlockD := ⟨[], [], term0⟩
def func0 : FuncD := ⟨[], 0, []⟩

/-- From block lo on all that was there is as it was. -/
def Agree (lo : Nat) (w w' : World) : Prop := w.heap.size ≤ w'.heap.size ∧ ∀ b, lo ≤ b → b < w.heap.size → w'.heap[b]? = w.heap[b]?
theorem Agree.refl (lo : Nat) (w : World) : Agree lo w w := ⟨Nat.le_refl _, fun _ _ _ => rfl⟩
theorem Agree.trans {lo : Nat} {a b c : World} (h : Agree lo a b) (k : Agree lo b c) : Agree lo a c :=
  ⟨Nat.le_trans h.1 k.1, fun i hi hl => (k.2 i hi (Nat.lt_of_lt_of_le hl h.1)).trans (h.2 i hi hl)⟩
theorem Agree.mono {lo lo' : Nat} {a b : World} (h : Agree lo a b) (hl : lo ≤ lo') : Agree lo' a b := ⟨h.1, fun i hi hb => h.2 i (Nat.le_trans hl hi) hb⟩
theorem agree_of_below {w w' : World} (h : Below w.heap.size w w') (lo : Nat) : Agree lo w w' := ⟨h.size, fun b _ hb => h.block b hb⟩
theorem agree_alloc (w : World) (o : Obj) (lo : Nat) : Agree lo w (w.alloc o) := ⟨by simp, fun b _ hb => Below.heap_alloc w o b hb⟩
theorem agree_setCell (w : World) (g o lo : Nat) (v : Value) (h : g < lo) : Agree lo w (w.setCell ⟨g, o, none⟩ v) :=
  ⟨by simp [World.setCell], fun b hb _ => Below.heap_setCell _ _ _ _ (by show b ≠ g; omega)⟩
theorem cell_block {w w' : World} {b o : Nat} (h : w'.heap[b]? = w.heap[b]?) : w'.cell? ⟨b, o, none⟩ = w.cell? ⟨b, o, none⟩ := by
  unfold World.cell?; rw [h]
theorem cell_agree {lo : Nat} {w w' : World} (h : Agree lo w w') {b o : Nat} (hl : lo ≤ b) (hb : b < w.heap.size) : w'.cell? ⟨b, o, none⟩ = w.cell? ⟨b, o, none⟩ := by
  unfold World.cell?; rw [h.2 b hl hb]
theorem bcell {W w1 : World} (hb : Below W.heap.size W w1) : ∀ b o, b < W.heap.size → w1.cell? ⟨b, o, none⟩ = W.cell? ⟨b, o, none⟩ := fun b o h => hb.cell (p := ⟨b, o, none⟩) h
theorem bfroz {W w1 : World} (hb : Below W.heap.size W w1) : ∀ b o, b < W.heap.size → w1.frozen? ⟨b, o, none⟩ = W.frozen? ⟨b, o, none⟩ := fun b o h => hb.frozen (p := ⟨b, o, none⟩) h
theorem drop_get {α : Type} (z : α) (l : List α) (k : Nat) (h : k < l.length) : l.drop k = l.getD k z :: l.drop (k + 1) := by
  rw [List.drop_eq_getElem_cons h]; simp [List.getD, h]
theorem getD_mem {α : Type} (z : α) (l : List α) (k : Nat) (h : k < l.length) : l.getD k z ∈ l := by simp [List.getD, h]

/-- A slice of numbers, in a block from lo on. -/
def IntsAt (w : World) (lo : Nat) (a : Option Addr) (l : List Int) : Prop :=
  l.length ≤ 9223372036854775807 ∧ (l = [] ∨ ∃ b off, a = some ⟨b, off, none⟩ ∧ lo ≤ b ∧ b < w.heap.size ∧ ∀ i, i < l.length → w.cell? ⟨b, off + i, none⟩ = some (.int .i64 (l.getD i 0)))
def PhisAt (w : World) (lo : Nat) (a : Option Addr) (l : List PhiD) : Prop :=
  l.length ≤ 9223372036854775807 ∧ (l = [] ∨ ∃ b off, a = some ⟨b, off, none⟩ ∧ lo ≤ b ∧ b < w.heap.size ∧ ∀ i, i < l.length →
    w.cell? ⟨b, off + i * 2, none⟩ = some (.int .i64 (l.getD i phi0).w) ∧
    (∃ u c, w.cell? ⟨b, off + i * 2 + 1, none⟩ = some (.slice u (l.getD i phi0).ins.length c) ∧ IntsAt w lo u (l.getD i phi0).ins))
def InstsAt (w : World) (lo : Nat) (a : Option Addr) (l : List InstD) : Prop :=
  l.length ≤ 9223372036854775807 ∧ (l = [] ∨ ∃ b off, a = some ⟨b, off, none⟩ ∧ lo ≤ b ∧ b < w.heap.size ∧ ∀ i, i < l.length →
    w.cell? ⟨b, off + i * 7, none⟩ = some (.int .i64 (l.getD i inst0).op) ∧
    w.cell? ⟨b, off + i * 7 + 1, none⟩ = some (.int .i64 (l.getD i inst0).w) ∧
    w.cell? ⟨b, off + i * 7 + 2, none⟩ = some (.int .i64 (l.getD i inst0).a) ∧
    w.cell? ⟨b, off + i * 7 + 3, none⟩ = some (.int .i64 (l.getD i inst0).b) ∧
    w.cell? ⟨b, off + i * 7 + 4, none⟩ = some (.int .i64 (l.getD i inst0).c) ∧
    w.cell? ⟨b, off + i * 7 + 5, none⟩ = some (.int .i64 (l.getD i inst0).imm) ∧
    (∃ u c, w.cell? ⟨b, off + i * 7 + 6, none⟩ = some (.slice u (l.getD i inst0).args.length c) ∧ IntsAt w lo u (l.getD i inst0).args))
def BlocksAt (w : World) (lo : Nat) (a : Option Addr) (l : List BlockD) : Prop :=
  l.length ≤ 9223372036854775807 ∧ (l = [] ∨ ∃ b off, a = some ⟨b, off, none⟩ ∧ lo ≤ b ∧ b < w.heap.size ∧ ∀ i, i < l.length →
    (∃ u c, w.cell? ⟨b, off + i * 6, none⟩ = some (.slice u (l.getD i block0).phis.length c) ∧ PhisAt w lo u (l.getD i block0).phis) ∧
    (∃ u c, w.cell? ⟨b, off + i * 6 + 1, none⟩ = some (.slice u (l.getD i block0).insts.length c) ∧ InstsAt w lo u (l.getD i block0).insts) ∧
    w.cell? ⟨b, off + i * 6 + 2, none⟩ = some (.int .i64 (l.getD i block0).term.kind) ∧
    w.cell? ⟨b, off + i * 6 + 3, none⟩ = some (.int .i64 (l.getD i block0).term.a) ∧
    w.cell? ⟨b, off + i * 6 + 4, none⟩ = some (.int .i64 (l.getD i block0).term.x) ∧
    w.cell? ⟨b, off + i * 6 + 5, none⟩ = some (.int .i64 (l.getD i block0).term.y))
def FuncsAt (w : World) (lo : Nat) (a : Option Addr) (l : List FuncD) : Prop :=
  l.length ≤ 9223372036854775807 ∧ (l = [] ∨ ∃ b off, a = some ⟨b, off, none⟩ ∧ lo ≤ b ∧ b < w.heap.size ∧ ∀ i, i < l.length →
    (∃ u c, w.cell? ⟨b, off + i * 3, none⟩ = some (.slice u (l.getD i func0).params.length c) ∧ IntsAt w lo u (l.getD i func0).params) ∧
    w.cell? ⟨b, off + i * 3 + 1, none⟩ = some (.int .i64 (l.getD i func0).ret) ∧
    (∃ u c, w.cell? ⟨b, off + i * 3 + 2, none⟩ = some (.slice u (l.getD i func0).blocks.length c) ∧ BlocksAt w lo u (l.getD i func0).blocks))
theorem IntsAt.keep {w w' : World} {lo : Nat} {a : Option Addr} {l : List Int} (h : IntsAt w lo a l) (k : Agree lo w w') : IntsAt w' lo a l := by
  obtain ⟨hm, h⟩ := h
  refine ⟨hm, ?_⟩
  rcases h with h | ⟨b, off, ha, hl, hb, hc⟩
  · exact .inl h
  · exact .inr ⟨b, off, ha, hl, Nat.lt_of_lt_of_le hb k.1, fun i hi => (cell_agree k hl hb).trans (hc i hi)⟩
theorem IntsAt.low {w : World} {lo lo' : Nat} {a : Option Addr} {l : List Int} (h : IntsAt w lo a l) (k : lo' ≤ lo) : IntsAt w lo' a l := by
  obtain ⟨hm, h⟩ := h
  refine ⟨hm, ?_⟩
  rcases h with h | ⟨b, off, ha, hl, hb, hc⟩
  · exact .inl h
  · exact .inr ⟨b, off, ha, Nat.le_trans k hl, hb, hc⟩
theorem PhisAt.keep {w w' : World} {lo : Nat} {a : Option Addr} {l : List PhiD} (h : PhisAt w lo a l) (k : Agree lo w w') : PhisAt w' lo a l := by
  obtain ⟨hm, h⟩ := h
  refine ⟨hm, ?_⟩
  rcases h with h | ⟨b, off, ha, hl, hb, hc⟩
  · exact .inl h
  · refine .inr ⟨b, off, ha, hl, Nat.lt_of_lt_of_le hb k.1, fun i hi => ?_⟩
    obtain ⟨h0, ⟨u1, c1, h1, k1⟩⟩ := hc i hi
    exact ⟨(cell_agree k hl hb).trans h0, ⟨u1, c1, (cell_agree k hl hb).trans h1, k1.keep k⟩⟩
theorem PhisAt.low {w : World} {lo lo' : Nat} {a : Option Addr} {l : List PhiD} (h : PhisAt w lo a l) (k : lo' ≤ lo) : PhisAt w lo' a l := by
  obtain ⟨hm, h⟩ := h
  refine ⟨hm, ?_⟩
  rcases h with h | ⟨b, off, ha, hl, hb, hc⟩
  · exact .inl h
  · refine .inr ⟨b, off, ha, Nat.le_trans k hl, hb, fun i hi => ?_⟩
    obtain ⟨h0, ⟨u1, c1, h1, k1⟩⟩ := hc i hi
    exact ⟨h0, ⟨u1, c1, h1, k1.low k⟩⟩
theorem InstsAt.keep {w w' : World} {lo : Nat} {a : Option Addr} {l : List InstD} (h : InstsAt w lo a l) (k : Agree lo w w') : InstsAt w' lo a l := by
  obtain ⟨hm, h⟩ := h
  refine ⟨hm, ?_⟩
  rcases h with h | ⟨b, off, ha, hl, hb, hc⟩
  · exact .inl h
  · refine .inr ⟨b, off, ha, hl, Nat.lt_of_lt_of_le hb k.1, fun i hi => ?_⟩
    obtain ⟨h0, h1, h2, h3, h4, h5, ⟨u6, c6, h6, k6⟩⟩ := hc i hi
    exact ⟨(cell_agree k hl hb).trans h0, (cell_agree k hl hb).trans h1, (cell_agree k hl hb).trans h2, (cell_agree k hl hb).trans h3, (cell_agree k hl hb).trans h4, (cell_agree k hl hb).trans h5, ⟨u6, c6, (cell_agree k hl hb).trans h6, k6.keep k⟩⟩
theorem InstsAt.low {w : World} {lo lo' : Nat} {a : Option Addr} {l : List InstD} (h : InstsAt w lo a l) (k : lo' ≤ lo) : InstsAt w lo' a l := by
  obtain ⟨hm, h⟩ := h
  refine ⟨hm, ?_⟩
  rcases h with h | ⟨b, off, ha, hl, hb, hc⟩
  · exact .inl h
  · refine .inr ⟨b, off, ha, Nat.le_trans k hl, hb, fun i hi => ?_⟩
    obtain ⟨h0, h1, h2, h3, h4, h5, ⟨u6, c6, h6, k6⟩⟩ := hc i hi
    exact ⟨h0, h1, h2, h3, h4, h5, ⟨u6, c6, h6, k6.low k⟩⟩
theorem BlocksAt.keep {w w' : World} {lo : Nat} {a : Option Addr} {l : List BlockD} (h : BlocksAt w lo a l) (k : Agree lo w w') : BlocksAt w' lo a l := by
  obtain ⟨hm, h⟩ := h
  refine ⟨hm, ?_⟩
  rcases h with h | ⟨b, off, ha, hl, hb, hc⟩
  · exact .inl h
  · refine .inr ⟨b, off, ha, hl, Nat.lt_of_lt_of_le hb k.1, fun i hi => ?_⟩
    obtain ⟨⟨u0, c0, h0, k0⟩, ⟨u1, c1, h1, k1⟩, h2, h3, h4, h5⟩ := hc i hi
    exact ⟨⟨u0, c0, (cell_agree k hl hb).trans h0, k0.keep k⟩, ⟨u1, c1, (cell_agree k hl hb).trans h1, k1.keep k⟩, (cell_agree k hl hb).trans h2, (cell_agree k hl hb).trans h3, (cell_agree k hl hb).trans h4, (cell_agree k hl hb).trans h5⟩
theorem BlocksAt.low {w : World} {lo lo' : Nat} {a : Option Addr} {l : List BlockD} (h : BlocksAt w lo a l) (k : lo' ≤ lo) : BlocksAt w lo' a l := by
  obtain ⟨hm, h⟩ := h
  refine ⟨hm, ?_⟩
  rcases h with h | ⟨b, off, ha, hl, hb, hc⟩
  · exact .inl h
  · refine .inr ⟨b, off, ha, Nat.le_trans k hl, hb, fun i hi => ?_⟩
    obtain ⟨⟨u0, c0, h0, k0⟩, ⟨u1, c1, h1, k1⟩, h2, h3, h4, h5⟩ := hc i hi
    exact ⟨⟨u0, c0, h0, k0.low k⟩, ⟨u1, c1, h1, k1.low k⟩, h2, h3, h4, h5⟩
theorem FuncsAt.keep {w w' : World} {lo : Nat} {a : Option Addr} {l : List FuncD} (h : FuncsAt w lo a l) (k : Agree lo w w') : FuncsAt w' lo a l := by
  obtain ⟨hm, h⟩ := h
  refine ⟨hm, ?_⟩
  rcases h with h | ⟨b, off, ha, hl, hb, hc⟩
  · exact .inl h
  · refine .inr ⟨b, off, ha, hl, Nat.lt_of_lt_of_le hb k.1, fun i hi => ?_⟩
    obtain ⟨⟨u0, c0, h0, k0⟩, h1, ⟨u2, c2, h2, k2⟩⟩ := hc i hi
    exact ⟨⟨u0, c0, (cell_agree k hl hb).trans h0, k0.keep k⟩, (cell_agree k hl hb).trans h1, ⟨u2, c2, (cell_agree k hl hb).trans h2, k2.keep k⟩⟩
theorem FuncsAt.low {w : World} {lo lo' : Nat} {a : Option Addr} {l : List FuncD} (h : FuncsAt w lo a l) (k : lo' ≤ lo) : FuncsAt w lo' a l := by
  obtain ⟨hm, h⟩ := h
  refine ⟨hm, ?_⟩
  rcases h with h | ⟨b, off, ha, hl, hb, hc⟩
  · exact .inl h
  · refine .inr ⟨b, off, ha, Nat.le_trans k hl, hb, fun i hi => ?_⟩
    obtain ⟨⟨u0, c0, h0, k0⟩, h1, ⟨u2, c2, h2, k2⟩⟩ := hc i hi
    exact ⟨⟨u0, c0, h0, k0.low k⟩, h1, ⟨u2, c2, h2, k2.low k⟩⟩
end Go.Proofs.YtojhakjkfkmklaaGreatDoor
namespace Go.Proofs.YtojhakjkfkmklaaGreatDoor
open Go.RowKit
set_option linter.unusedVariables false

theorem vof_len (a : Int) : (vof a).size ≤ 5 := by
  unfold vof
  split
  · have h := vl_five (n := a.toNat) (by omega)
    show (vl a.toNat).toArray.size ≤ 5
    simpa using h
  · show (0 : Nat) ≤ 5
    omega
/-- Numbers behind a text. -/
def vb (R : ByteArray) (l : List Int) : ByteArray := l.foldl (fun s n => s ++ vof n) R
theorem vb_nil (R : ByteArray) : vb R [] = R := rfl
theorem vb_one (R : ByteArray) (n : Int) : vb R [n] = R ++ vof n := rfl
theorem vb_cons (R : ByteArray) (n : Int) (l : List Int) : vb R (n :: l) = vb (R ++ vof n) l := rfl
theorem vb_append (R : ByteArray) (a b : List Int) : vb R (a ++ b) = vb (vb R a) b := by unfold vb; rw [List.foldl_append]
theorem vb_join (R : ByteArray) : ∀ (l : List Int) (S : ByteArray), R ++ vb S l = vb (R ++ S) l
  | [], S => rfl
  | n :: l, S => by rw [vb_cons, vb_cons, vb_join R l (S ++ vof n), ByteArray.append_assoc]
theorem vb_join0 (R : ByteArray) (l : List Int) : R ++ vb ⟨#[]⟩ l = vb R l := by
  rw [vb_join]
  congr 1
  exact ByteArray.ext (by simp)
theorem vb_size : ∀ (l : List Int) (R : ByteArray), (vb R l).size ≤ R.size + 5 * l.length
  | [], R => by simp [vb_nil]
  | n :: l, R => by
    have h := vb_size l (R ++ vof n)
    have h5 := vof_len n
    rw [ByteArray.size_append] at h
    rw [vb_cons, List.length_cons]
    omega
def listN (l : List Int) : List Int := (l.length : Int) :: l
theorem take_snoc {l : List Int} {k : Nat} (h : k < l.length) : l.take (k + 1) = l.take k ++ [l.getD k 0] := by
  rw [List.take_succ_eq_append_getElem h]; simp [List.getD, h]
theorem ints_cellP {w : World} {lo : Nat} {a : Option Addr} {l : List Int} (h : IntsAt w lo a l) {k : Nat} (hk : k < l.length) : ∃ b off, a = some ⟨b, off, none⟩ ∧ w.cell? ⟨b, off + k, none⟩ = some (.int .i64 (l.getD k 0)) := by
  rcases h.2 with h | ⟨b, off, ha, _, _, hc⟩
  · rw [h] at hk; simp at hk
  · exact ⟨b, off, ha, hc k hk⟩
set_option maxHeartbeats 1000000 in
theorem l6ListS (lo : Nat) (a : Option Addr) (c : Nat) (l : List Int) (w : World) (hl : l.length ≤ 1048576) (hk : IntsAt w lo a l) :
    Calls Tryz.prog 58 #[.slice a l.length c] w fun e w' => e = .returned (.string (vb ⟨#[]⟩ (listN l))) ∧ Below w.heap.size w w' := by
  have HK : Hid (IntsAt w lo a l) := hk
  have HE : Hid (vb ⟨#[]⟩ (listN l) = vb (vof l.length) (l.take l.length)) := by
    show _ = _
    unfold listN
    rw [vb_cons, List.take_length]
    congr 1
  have h5 := vof_len (l.length : Int)
  clear hk
  go_enter Tryz.func58, Tryz.ntmps58
  go_wp2_with fail
  refine (varS _ _).mono ?_
  rintro e w1 ⟨rfl, b1⟩
  have HB1 : Hid (Below w.heap.size w w1) := b1
  clear b1
  go_wp2_with fail
  go_loopw [3, 4] (fun st i wr => ∃ (k : Nat) (T : ByteArray), k ≤ l.length ∧ i = .int .i64 k ∧ st = .string T ∧ Hid (T = vb (vof l.length) (l.take k)) ∧ Hid (Below w.heap.size w wr)) (fun _ i _ => l.length - (intOf i).toNat)
  case atStart => exact ⟨0, _, by omega, rfl, rfl, rfl, HB1⟩
  case round =>
    obtain ⟨k, T, hk, rfl, rfl, HT, HB⟩ := hrel
    by_cases hlt : k < l.length
    · obtain ⟨bb, off, rfl, e1⟩ := ints_cellP (HK.out.keep (agree_of_below HB.out lo)) hlt
      have hTs : T.size ≤ 5 + 5 * k := by
        rw [HT.out]
        have := vb_size (l.take k) (vof l.length)
        rw [List.length_take, Nat.min_eq_left hk] at this
        omega
      have HN : Hid (vb (vof l.length) (l.take (k + 1)) = T ++ vof (l.getD k 0)) := by
        show _ = _
        rw [take_snoc hlt, vb_append, ← HT.out]; rfl
      have hv := vof_len (l.getD k 0)
      have P := fun w1 => varS (l.getD k 0) w1
      generalize l.getD k 0 = x at e1 HN hv P
      generalize vof x = V at HN hv P
      go_wp2_with fail
      refine (P _).mono ?_
      rintro e w2 ⟨rfl, b2⟩
      have HB2 : Hid (Below w.heap.size w w2) := HB.out.trans (b2.mono HB.out.size)
      clear b2
      go_wp2_with fail
      go_roundw
      case rel => exact ⟨k + 1, _, by omega, by go_num, rfl, HN.out.symm, HB2⟩
      case measure => simp [intOf]; omega
    · have HF : Hid (vb ⟨#[]⟩ (listN l) = T) := by
        have hkl : k = l.length := by omega
        show _ = _
        rw [HE.out, HT.out, hkl]
      go_wp2_with fail
      go_ret
      exact ⟨by rw [HF.out]; rfl, HB.out⟩
end Go.Proofs.YtojhakjkfkmklaaGreatDoor
namespace Go.Proofs.YtojhakjkfkmklaaGreatDoor
open Go.RowKit

def widthB (w : Int) : Bool := w == 1 || w == 8 || w == 16 || w == 32
def topZ (w : Int) : Int := if w = 1 then 2 else if w = 8 then 256 else if w = 16 then 65536 else 4294967296
def valueB (w v : Int) : Bool := widthB w && (decide (0 ≤ v) && decide (v < topZ w))
def maskZ (w n : Int) : Int := if widthB w = true then n % topZ w else 0
def sgnZ (w v : Int) : Int := if topZ w / 2 ≤ v then v - topZ w else v
def signZ (w v : Int) : Int := if valueB w v = true then sgnZ w v else 0

theorem width_yes {w : Int} (h : widthB w = true) : w = 1 ∨ w = 8 ∨ w = 16 ∨ w = 32 := by
  simp [widthB] at h; omega
theorem width_no {w : Int} (h : widthB w = false) : (w == 1) = false ∧ (w == 8) = false ∧ (w == 16) = false ∧ (w == 32) = false := by
  simp [widthB] at h; simp; omega
theorem top1 : topZ 1 = 2 := by simp [topZ]
theorem top8 : topZ 8 = 256 := by simp [topZ]
theorem top16 : topZ 16 = 65536 := by simp [topZ]
theorem top32 : topZ 32 = 4294967296 := by simp [topZ]
theorem top_pos (w : Int) : 2 ≤ topZ w ∧ topZ w ≤ 4294967296 := by
  unfold topZ; repeat' split
  all_goals omega
theorem value_yes {w v : Int} (h : valueB w v = true) : widthB w = true ∧ 0 ≤ v ∧ v < topZ w := by
  simpa [valueB] using h
theorem value_mk {w v : Int} (h : widthB w = true) (h0 : 0 ≤ v) (h1 : v < topZ w) : valueB w v = true := by
  simp [valueB, h, h0, h1]
theorem value_no {w v : Int} (h : valueB w v = false) (hw : widthB w = true) : v < 0 ∨ topZ w ≤ v := by
  simp [valueB, hw] at h; omega

theorem and_mask (n : Int) (k : Nat) (hk : k ≤ 32) : bits .and .i64 n (2 ^ k - 1) = n % 2 ^ k := by
  have hp : (2 : Nat) ^ k ≤ 2 ^ 32 := Nat.pow_le_pow_right (by decide) hk
  have hq : 0 < (2 : Nat) ^ k := Nat.pow_pos (by decide)
  have e1 : ((2 : Int) ^ k - 1) = ((2 ^ k - 1 : Nat) : Int) := by
    have : ((2 ^ k : Nat) : Int) = (2 : Int) ^ k := by simp
    omega
  have e2 : (BitVec.ofInt 64 ((2 : Int) ^ k - 1)).toNat = 2 ^ k - 1 := by
    rw [e1, BitVec.toNat_ofInt]; omega
  have e3 : (BitVec.ofInt 64 n).toNat = (n % 18446744073709551616).toNat := by rw [BitVec.toNat_ofInt]; simp
  have e4 : (((n % 18446744073709551616).toNat % 2 ^ k : Nat) : Int) = n % 2 ^ k := by
    have h1 : ((n % 18446744073709551616).toNat : Int) = n % 18446744073709551616 := by omega
    have hd : ((2 : Int) ^ k) ∣ 18446744073709551616 := by
      refine ⟨2 ^ (64 - k), ?_⟩
      rw [← Int.pow_add]
      rw [show k + (64 - k) = 64 by omega]; rfl
    rw [Int.natCast_emod, h1]
    have : (((2 : Nat) ^ k : Nat) : Int) = (2 : Int) ^ k := by simp
    rw [this, Int.emod_emod_of_dvd _ hd]
  show IntKind.i64.wrap ((BitVec.ofInt 64 n &&& BitVec.ofInt 64 ((2 : Int) ^ k - 1)).toNat : Int) = _
  rw [BitVec.toNat_and, e2, e3, Nat.and_two_pow_sub_one_eq_mod, e4, IntKind.wrap_i64]
  have h5 : (0 : Int) ≤ n % 2 ^ k := Int.emod_nonneg _ (by
    have : (((2 : Nat) ^ k : Nat) : Int) = (2 : Int) ^ k := by simp
    omega)
  have h6 : n % 2 ^ k < 4294967297 := by
    have := Int.emod_lt_of_pos n (b := (2 : Int) ^ k) (by
      have : (((2 : Nat) ^ k : Nat) : Int) = (2 : Int) ^ k := by simp
      omega)
    have : (((2 : Nat) ^ k : Nat) : Int) = (2 : Int) ^ k := by simp
    omega
  generalize n % 2 ^ k = m at h5 h6
  omega
theorem and1 (n : Int) : bits .and .i64 n 1 = n % 2 := and_mask n 1 (by decide)
theorem and255 (n : Int) : bits .and .i64 n 255 = n % 256 := and_mask n 8 (by decide)
theorem and65535 (n : Int) : bits .and .i64 n 65535 = n % 65536 := and_mask n 16 (by decide)
theorem and32 (n : Int) : bits .and .i64 n 4294967295 = n % 4294967296 := and_mask n 32 (by decide)
end Go.Proofs.YtojhakjkfkmklaaGreatDoor
namespace Go.Proofs.YtojhakjkfkmklaaGreatDoor
open Go.RowKit

theorem widthS (a : Int) (w : World) : Calls Tryz.prog 91 #[.int .i64 a] w fun e w' => e = .returned (.bool (widthB a)) ∧ w' = w := by
  by_cases h : widthB a = true
  · rw [h]
    rcases width_yes h with rfl | rfl | rfl | rfl
    all_goals
      clear h
      go_enter Tryz.func91, Tryz.ntmps91
      go_wp2
      go_ret
      exact ⟨rfl, rfl⟩
  · have h : widthB a = false := by simpa using h
    rw [h]
    obtain ⟨d1, d2, d3, d4⟩ := width_no h
    clear h
    go_enter Tryz.func91, Tryz.ntmps91
    go_wp2
    go_ret
    exact ⟨rfl, rfl⟩
theorem widthI (a : Int) (w : World) : Calls Tryz.prog 78 #[.int .i64 a] w fun e w' => e = .returned (.bool (widthB a)) ∧ w' = w := by
  by_cases h : widthB a = true
  · rw [h]
    rcases width_yes h with rfl | rfl | rfl | rfl
    all_goals
      clear h
      go_enter Tryz.func78, Tryz.ntmps78
      go_wp2
      go_ret
      exact ⟨rfl, rfl⟩
  · have h : widthB a = false := by simpa using h
    rw [h]
    obtain ⟨d1, d2, d3, d4⟩ := width_no h
    clear h
    go_enter Tryz.func78, Tryz.ntmps78
    go_wp2
    go_ret
    exact ⟨rfl, rfl⟩

theorem topS (a : Int) (w : World) (h : widthB a = true) : Calls Tryz.prog 143 #[.int .i64 a] w fun e w' => e = .returned (.int .i64 (topZ a)) ∧ w' = w := by
  rcases width_yes h with rfl | rfl | rfl | rfl
  all_goals
    clear h
    go_enter Tryz.func143, Tryz.ntmps143
    go_wp2
    go_ret
    exact ⟨rfl, rfl⟩
theorem topI (a : Int) (w : World) (h : widthB a = true) : Calls Tryz.prog 154 #[.int .i64 a] w fun e w' => e = .returned (.int .i64 (topZ a)) ∧ w' = w := by
  rcases width_yes h with rfl | rfl | rfl | rfl
  all_goals
    clear h
    go_enter Tryz.func154, Tryz.ntmps154
    go_wp2
    go_ret
    exact ⟨rfl, rfl⟩

theorem mask_eq {a n : Int} (h : widthB a = true) : bits .and .i64 n (topZ a - 1) = maskZ a n := by
  rw [maskZ, if_pos h]
  rcases width_yes h with rfl | rfl | rfl | rfl
  · exact and1 n
  · exact and255 n
  · exact and65535 n
  · exact and32 n
theorem ret_bool {a b : Bool} (h : a = b) : Ending.returned (.bool a) = .returned (.bool b) := by rw [h]
theorem ret_int {k : IntKind} {a b : Int} (h : a = b) : Ending.returned (.int k a) = .returned (.int k b) := by rw [h]

theorem inS (n lo hi : Int) (w : World) : Calls Tryz.prog 55 #[.int .i64 n, .int .i64 lo, .int .i64 hi] w fun e w' => e = .returned (.bool (decide (lo ≤ n) && decide (n ≤ hi))) ∧ w' = w := by
  by_cases h1 : lo ≤ n
  · by_cases h2 : n ≤ hi
    · have d1 : decide (lo ≤ n) = true := by simpa using h1
      have d2 : decide (n ≤ hi) = true := by simpa using h2
      go_enter Tryz.func55, Tryz.ntmps55
      go_wp2
      go_ret
      exact ⟨ret_bool (by simp [h1, h2]), rfl⟩
    · have d1 : decide (lo ≤ n) = true := by simpa using h1
      have d2 : decide (n ≤ hi) = false := by simpa using h2
      go_enter Tryz.func55, Tryz.ntmps55
      go_wp2
      go_ret
      exact ⟨ret_bool (by simp), rfl⟩
  · have d1 : decide (lo ≤ n) = false := by simpa using h1
    go_enter Tryz.func55, Tryz.ntmps55
    go_wp2
    go_ret
    exact ⟨ret_bool (by simp), rfl⟩

theorem valueS_eq {a v : Int} (h : widthB a = true) : (decide (0 ≤ v) && decide (v ≤ topZ a - 1)) = valueB a v := by
  rw [valueB, h, Bool.true_and, Bool.eq_iff_iff]; simp; omega

theorem valueS (a v : Int) (w : World) : Calls Tryz.prog 125 #[.int .i64 a, .int .i64 v] w fun e w' => e = .returned (.bool (valueB a v)) ∧ w' = w := by
  by_cases h : widthB a = true
  · have tp := top_pos a
    have HE : Hid ((decide (0 ≤ v) && decide (v ≤ topZ a - 1)) = valueB a v) := valueS_eq h
    go_enter Tryz.func125, Tryz.ntmps125
    go_wp2_with (first | (go_at_call 91; refine (widthS _ _).mono ?_; rintro e w' ⟨rfl, rfl⟩) | (go_at_call 143; refine (topS _ _ h).mono ?_; rintro e w' ⟨rfl, rfl⟩) | (go_at_call 55; refine (inS _ _ _ _).mono ?_; rintro e w' ⟨rfl, rfl⟩))
    go_ret
    exact ⟨ret_bool HE.out, rfl⟩
  · have h : widthB a = false := by simpa using h
    have HE : Hid (false = valueB a v) := by simp [valueB, h, Hid]
    go_enter Tryz.func125, Tryz.ntmps125
    go_wp2_with (first | (go_at_call 91; refine (widthS _ _).mono ?_; rintro e w' ⟨rfl, rfl⟩))
    go_ret
    exact ⟨ret_bool HE.out, rfl⟩

theorem valueI (a v : Int) (w : World) : Calls Tryz.prog 149 #[.int .i64 a, .int .i64 v] w fun e w' => e = .returned (.bool (valueB a v)) ∧ w' = w := by
  by_cases h : widthB a = true
  · have tp := top_pos a
    by_cases h1 : 0 ≤ v
    · have HE : Hid (decide (v < topZ a) = valueB a v) := by show _ = _; rw [valueB, h]; simp [h1]
      go_enter Tryz.func149, Tryz.ntmps149
      go_wp2_with (first | (go_at_call 78; refine (widthI _ _).mono ?_; rintro e w' ⟨rfl, rfl⟩) | (go_at_call 154; refine (topI _ _ h).mono ?_; rintro e w' ⟨rfl, rfl⟩))
      go_ret
      exact ⟨ret_bool HE.out, rfl⟩
    · have HE : Hid (false = valueB a v) := by show _ = _; rw [valueB, h]; simp [h1]
      have d1 : decide (0 ≤ v) = false := by simpa using h1
      go_enter Tryz.func149, Tryz.ntmps149
      go_wp2_with (first | (go_at_call 78; refine (widthI _ _).mono ?_; rintro e w' ⟨rfl, rfl⟩))
      go_ret
      exact ⟨ret_bool HE.out, rfl⟩
  · have h : widthB a = false := by simpa using h
    have HE : Hid (false = valueB a v) := by simp [valueB, h, Hid]
    go_enter Tryz.func149, Tryz.ntmps149
    go_wp2_with (first | (go_at_call 78; refine (widthI _ _).mono ?_; rintro e w' ⟨rfl, rfl⟩))
    go_ret
    exact ⟨ret_bool HE.out, rfl⟩

end Go.Proofs.YtojhakjkfkmklaaGreatDoor
namespace Go.Proofs.YtojhakjkfkmklaaGreatDoor
open Go.RowKit

def castOk (_op f t v : Int) : Bool := valueB f v && widthB t
def castZ (op f t v : Int) : Int := if castOk op f t v = true then (if op = 18 ∧ f < t then v else if op = 19 ∧ f < t then maskZ t (sgnZ f v) else if op = 20 ∧ t < f then maskZ t v else 0) else 0
def castB (op f t v : Int) : Bool := castOk op f t v && (decide (op = 18 ∧ f < t) || decide (op = 19 ∧ f < t) || decide (op = 20 ∧ t < f))
theorem ret_ib {a b : Int} {c d : Bool} (h : a = b) (k : c = d) : Ending.returned (.tuple #[.int .i64 a, .bool c]) = .returned (.tuple #[.int .i64 b, .bool d]) := by rw [h, k]
theorem ret_ii {a b c d : Int} (h : a = b) (k : c = d) : Ending.returned (.tuple #[.int .i64 a, .int .i64 c]) = .returned (.tuple #[.int .i64 b, .int .i64 d]) := by rw [h, k]

def opB (op : Int) : Bool := decide (1 ≤ op) && decide (op ≤ 17)
def resZ (op a : Int) : Int := if opB op = true ∧ widthB a = true then (if 14 ≤ op then 1 else a) else 0
theorem op_yes {op : Int} (h : opB op = true) : 1 ≤ op ∧ op ≤ 17 := by simpa [opB] using h

theorem opI (op : Int) (w : World) : Calls Tryz.prog 148 #[.int .i64 op] w fun e w' => e = .returned (.bool (opB op)) ∧ w' = w := by
  by_cases h1 : 1 ≤ op
  · have E : Hid (decide (op ≤ 17) = opB op) := by show _ = _; simp [opB, h1]
    go_enter Tryz.func148, Tryz.ntmps148
    go_wp2
    go_ret
    exact ⟨ret_bool E.out, rfl⟩
  · have E : Hid (false = opB op) := by show _ = _; simp [opB, h1]
    have d1 : decide (1 ≤ op) = false := by simpa using h1
    go_enter Tryz.func148, Tryz.ntmps148
    go_wp2
    go_ret
    exact ⟨ret_bool E.out, rfl⟩

theorem resS (op a : Int) (w : World) : Calls Tryz.prog 151 #[.int .i64 op, .int .i64 a] w fun e w' => e = .returned (.int .i64 (resZ op a)) ∧ w' = w := by
  by_cases hw : widthB a = true
  · by_cases ho : opB op = true
    · have d : (decide (1 ≤ op) && decide (op ≤ 17)) = true := ho
      by_cases h : 14 ≤ op
      · have E : Hid (1 = resZ op a) := by show _ = _; simp [resZ, hw, ho, h]
        clear ho
        go_enter Tryz.func151, Tryz.ntmps151
        go_wp2_with (first | (go_at_call 91; refine (widthS _ _).mono ?_; rintro e w' ⟨rfl, rfl⟩) | (go_at_call 55; refine (inS _ _ _ _).mono ?_; rintro e w' ⟨rfl, rfl⟩))
        go_ret
        exact ⟨ret_int E.out, rfl⟩
      · have E : Hid (a = resZ op a) := by show _ = _; simp [resZ, hw, ho, h]
        clear ho
        go_enter Tryz.func151, Tryz.ntmps151
        go_wp2_with (first | (go_at_call 91; refine (widthS _ _).mono ?_; rintro e w' ⟨rfl, rfl⟩) | (go_at_call 55; refine (inS _ _ _ _).mono ?_; rintro e w' ⟨rfl, rfl⟩))
        go_ret
        exact ⟨ret_int E.out, rfl⟩
    · have ho : opB op = false := by simpa using ho
      have d : (decide (1 ≤ op) && decide (op ≤ 17)) = false := ho
      have E : Hid (0 = resZ op a) := by show _ = _; simp [resZ, ho]
      clear ho
      go_enter Tryz.func151, Tryz.ntmps151
      go_wp2_with (first | (go_at_call 91; refine (widthS _ _).mono ?_; rintro e w' ⟨rfl, rfl⟩) | (go_at_call 55; refine (inS _ _ _ _).mono ?_; rintro e w' ⟨rfl, rfl⟩))
      go_ret
      exact ⟨ret_int E.out, rfl⟩
  · have hw : widthB a = false := by simpa using hw
    have E : Hid (0 = resZ op a) := by show _ = _; simp [resZ, hw]
    go_enter Tryz.func151, Tryz.ntmps151
    go_wp2_with (first | (go_at_call 91; refine (widthS _ _).mono ?_; rintro e w' ⟨rfl, rfl⟩) | (go_at_call 55; refine (inS _ _ _ _).mono ?_; rintro e w' ⟨rfl, rfl⟩))
    go_ret
    exact ⟨ret_int E.out, rfl⟩

end Go.Proofs.YtojhakjkfkmklaaGreatDoor
