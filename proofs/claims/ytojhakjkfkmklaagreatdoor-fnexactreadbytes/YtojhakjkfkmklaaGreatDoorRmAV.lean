import Derived.Test.YtojhakjkfkmklaaGreatDoorMemV
import Derived.Test.YtojhakjkfkmklaaGreatDoorRpBV
import Derived.Laws.AppendOwnNone
import Derived.Deep.AppendLies
namespace Go.Proofs.YtojhakjkfkmklaaGreatDoor
open Go.RowKit
set_option linter.unusedVariables false
set_option linter.unusedSimpArgs false
def Rng (l : List Int) : Prop := ∀ x ∈ l, 0 ≤ x ∧ x ≤ 4294967295
theorem Rng.tail {x : Int} {l : List Int} (h : Rng (x :: l)) : Rng l := fun y hy => h y (List.mem_cons_of_mem _ hy)
theorem Rng.head {x : Int} {l : List Int} (h : Rng (x :: l)) : 0 ≤ x ∧ x ≤ 4294967295 := h x (List.mem_cons_self ..)
theorem Rng.left {a b : List Int} (h : Rng (a ++ b)) : Rng a := fun y hy => h y (List.mem_append_left _ hy)
theorem Rng.right {a b : List Int} (h : Rng (a ++ b)) : Rng b := fun y hy => h y (List.mem_append_right _ hy)
theorem Rng.join {a b : List Int} (h : Rng a) (k : Rng b) : Rng (a ++ b) := fun y hy => by
 rcases List.mem_append.1 hy with h1 | h1
 ·exact h y h1
 ·exact k y h1
def toL (l : List Int) : List UInt8 := l.flatMap fun n => vl n.toNat
theorem toL_nil : toL [] = [] := rfl
theorem toL_cons (x : Int) (l : List Int) : toL (x :: l) = vl x.toNat ++ toL l := by simp [toL]
theorem toL_append (a b : List Int) : toL (a ++ b) = toL a ++ toL b := by simp [toL]
theorem vl_ne (n : Nat) : vl n ≠ [] := by rw [vl]; split <;> simp
theorem vb_data : ∀ (l : List Int) (R : ByteArray), Rng l → (vb R l).data.toList = R.data.toList ++ toL l
 | [], R, _ => by simp [vb_nil, toL]
 | n :: l, R, h => by
  have hn := h.head
  rw [vb_cons, vb_data l _ h.tail, toL_cons]
  have e : (R ++ vof n).data.toList = R.data.toList ++ vl n.toNat := by
   unfold vof; rw [if_pos hn]; simp [ByteArray.data_append]
  rw [e, List.append_assoc]
theorem rd_one {x : Int} (h : 0 ≤ x ∧ x ≤ 4294967295) (r : List UInt8) : rdl 0 0 (vl x.toNat ++ r) = (x.toNat, (vl x.toNat).length) := by
 have h5 := vl_five (n := x.toNat) (by omega)
 rw [rdl_back r x.toNat 0 0 (by simp; omega) (by omega) (by omega)]; simp
theorem toL_cut : ∀ (p l : List Int) (r : List UInt8), Rng p → Rng l → toL p ++ r = toL l → ∃ q, l = p ++ q ∧ r = toL q
 | [], l, r, _, _, h => ⟨l, rfl, by simpa [toL] using h⟩
 | x :: p, [], r, _, _, h => by
  exfalso
  rw [toL_cons, toL_nil] at h
  exact vl_ne _ (List.append_eq_nil_iff.1 (List.append_eq_nil_iff.1 h).1).1
 | x :: p, y :: l, r, hp, hl, h => by
  rw [toL_cons, toL_cons, List.append_assoc] at h
  have e1 := rd_one hp.head (toL p ++ r)
  have e2 := rd_one hl.head (toL l)
  rw [h, e2] at e1
  have e3 : y.toNat = x.toNat := congrArg Prod.fst e1
  have h1 := hp.head
  have h2 := hl.head
  have e4 : y = x := by omega
  subst e4
  have h' := List.append_cancel_left h
  obtain ⟨q, rfl, hq⟩ := toL_cut p l r hp.tail hl.tail h'
  exact ⟨q, rfl, hq⟩
theorem toL_inj {p l : List Int} (hp : Rng p) (hl : Rng l) (h : toL p = toL l) : p = l := by
 obtain ⟨q, rfl, hq⟩ := toL_cut p l [] hp hl (by simpa using h)
 cases q with
 | nil => simp
 | cons x r => rw [toL_cons] at hq; exact absurd (List.append_eq_nil_iff.1 hq.symm).1 (vl_ne _)
theorem rd_yes {l : List UInt8} {x m : Nat} (h : rdl 0 0 l = (x, m)) (hm : m ≠ 0) : l = vl x ++ l.drop m ∧ x ≤ 4294967295 ∧ m ≤ l.length := by
 obtain ⟨y, hx, _, hlen, hv, _, hmax⟩ := rdl_yes _ _ _ _ _ h hm
 simp at hx hlen hv
 subst hx
 exact ⟨by rw [hv, List.take_append_drop], hmax, hlen⟩
theorem rd_no {l : List UInt8} {q : List Int} (hq : Rng q) (h : l = toL q) (hl : l ≠ []) : (rdl 0 0 l).2 ≠ 0 := by
 cases q with
 | nil => exact absurd h hl
 | cons x r =>
  rw [h, toL_cons, rd_one hq.head]
  intro e
  exact vl_ne _ (List.length_eq_zero_iff.1 e)
theorem wid_iff (x : Int) : (widthB x = true) = (x = 1 ∨ x = 8 ∨ x = 16 ∨ x = 32) := by
 simp [widthB, or_assoc]
theorem Rng.list {l : List Int} (h : Rng l) (hl : l.length ≤ 4294967295) : Rng (listN l) := fun x hx => by
 rcases List.mem_cons.1 hx with rfl | h1
 ·omega
 ·exact h x h1
end Go.Proofs.YtojhakjkfkmklaaGreatDoor
namespace Go.Proofs.YtojhakjkfkmklaaGreatDoor
open Go.RowKit
set_option linter.unusedSimpArgs false in
set_option maxHeartbeats 4000000 in
theorem readI (s : ByteArray) (a : Int) (hs : s.size ≤ 1048576) (w : World) :
  Calls Tryz.prog 121 #[.string s, .int .i64 a] w fun e w' => e = .returned (.tuple #[.int .i64 (rdAt s a).1, .int .i64 (rdAt s a).2]) ∧ w' = w := by
 by_cases hin : 0 ≤ a ∧ a < s.size
 ·obtain ⟨p, rfl⟩ : ∃ p : Nat, a = p := ⟨a.toNat, by omega⟩
  have hp : p < s.size := by omega
  have HR : Hid (rdAt s p = rdl 0 0 (s.data.toList.drop p)) := by show _ = _; unfold rdAt; rw [if_pos hin]; rfl
  have hd : decide (0 ≤ (p : Int) ∧ (p : Int) < (s.size : Int)) = true := by simp; omega
  clear hin
  by_cases h5p : (s.size : Int) - (p : Int) < 5
  ·go_enter Tryz.func121, Tryz.ntmps121
   go_wp2_with (go_at_call 135; refine (blwI _ _ _).mono ?_; rintro e w1 ⟨rfl, rfl⟩)
   go_loop [6, 19] (fun n i => ∃ k m : Nat, k ≤ 5 ∧ p + k ≤ s.size ∧ m < 128 ^ k ∧ i = .int .i64 k ∧ n = .int .i64 m ∧ Hid (rdAt s p = rdl k m (s.data.toList.drop (p + k)))) (fun _ i => 5 - (numOf i).toNat)
   case atStart => exact ⟨0, 0, by omega, by omega, by omega, rfl, rfl, HR⟩
   case round =>
    obtain ⟨k, m, hk, hpk, hm, rfl, rfl, HK⟩ := hrel
    clear HR
    by_cases h5 : k = 5
    ·subst h5
     rw [rdl_five] at HK
     first | omega | (go_wp2_with fail; go_ret2; refine ⟨ret2_eq ?_ ?_, rfl⟩ <;> rw [HK.out] <;> rfl)
    by_cases hsz : p + k < s.size
    ·rw [drop_cons hsz, rdl_cons (by omega)] at HK
     obtain ⟨b, hb, hbb⟩ : ∃ b : Nat, b < 256 ∧ (s[p + k]'hsz).toNat = b := ⟨_, (s[p + k]'hsz).toNat_lt, rfl⟩
     rw [hbb] at HK
     obtain ⟨x, HX⟩ : ∃ x : Int, Hid (x = b) := ⟨_, rfl⟩
     have hx0 : 0 ≤ x := by rw [HX.out]; omega
     have hx1 : x < 256 := by rw [HX.out]; omega
     have hc : k = 0 ∨ k = 1 ∨ k = 2 ∨ k = 3 ∨ k = 4 := by omega
     rcases hc with rfl | rfl | rfl | rfl | rfl
     ·have e0 : wrap64 (((s[p]'(by omega)).toNat : Nat) : Int) = x := by rw [show (s[p]'(by omega)).toNat = b from hbb, HX.out]; exact byte_wrap hb
      clear hbb hb
      simp only [Nat.reducePow, Nat.one_mul, Nat.reduceAdd, Nat.add_assoc, Nat.add_zero, Nat.zero_add] at HK hm
      go_wp2_with fail
      all_goals have hxx := HX.out
      all_goals try simp only [beq_iff_eq] at *
      all_goals first | (go_ret2; refine ⟨ret2_eq ?_ ?_, rfl⟩ <;> rw [HK.out] <;> (repeat' split) <;> omega) | (have HK2 := HK.out; rw [if_pos (by omega)] at HK2; refine ⟨⟨1, m + b % 128, by omega, by omega, by omega, rfl, ?_, ?_⟩, by decide⟩; (refine congrArg (Value.int .i64) ?_; omega); (first | exact HK2 | simpa using HK2)) | trace_state
     ·have e0 : wrap64 (((s[p + 1]'(by omega)).toNat : Nat) : Int) = x := by rw [show (s[p + 1]'(by omega)).toNat = b from hbb, HX.out]; exact byte_wrap hb
      clear hbb hb
      simp only [Nat.reducePow, Nat.one_mul, Nat.reduceAdd, Nat.add_assoc, Nat.add_zero, Nat.zero_add] at HK hm
      go_wp2_with fail
      all_goals have hxx := HX.out
      all_goals try simp only [beq_iff_eq] at *
      all_goals first | (go_ret2; refine ⟨ret2_eq ?_ ?_, rfl⟩ <;> rw [HK.out] <;> (repeat' split) <;> omega) | (have HK2 := HK.out; rw [if_pos (by omega)] at HK2; refine ⟨⟨2, m + 128 * (b % 128), by omega, by omega, by omega, rfl, ?_, ?_⟩, by decide⟩; (refine congrArg (Value.int .i64) ?_; omega); (first | exact HK2 | simpa using HK2)) | trace_state
     ·have e0 : wrap64 (((s[p + 2]'(by omega)).toNat : Nat) : Int) = x := by rw [show (s[p + 2]'(by omega)).toNat = b from hbb, HX.out]; exact byte_wrap hb
      clear hbb hb
      simp only [Nat.reducePow, Nat.one_mul, Nat.reduceAdd, Nat.add_assoc, Nat.add_zero, Nat.zero_add] at HK hm
      go_wp2_with fail
      all_goals have hxx := HX.out
      all_goals try simp only [beq_iff_eq] at *
      all_goals first | (go_ret2; refine ⟨ret2_eq ?_ ?_, rfl⟩ <;> rw [HK.out] <;> (repeat' split) <;> omega) | (have HK2 := HK.out; rw [if_pos (by omega)] at HK2; refine ⟨⟨3, m + 16384 * (b % 128), by omega, by omega, by omega, rfl, ?_, ?_⟩, by decide⟩; (refine congrArg (Value.int .i64) ?_; omega); (first | exact HK2 | simpa using HK2)) | trace_state
     ·have e0 : wrap64 (((s[p + 3]'(by omega)).toNat : Nat) : Int) = x := by rw [show (s[p + 3]'(by omega)).toNat = b from hbb, HX.out]; exact byte_wrap hb
      clear hbb hb
      simp only [Nat.reducePow, Nat.one_mul, Nat.reduceAdd, Nat.add_assoc, Nat.add_zero, Nat.zero_add] at HK hm
      go_wp2_with fail
      all_goals have hxx := HX.out
      all_goals try simp only [beq_iff_eq] at *
      all_goals first | (go_ret2; refine ⟨ret2_eq ?_ ?_, rfl⟩ <;> rw [HK.out] <;> (repeat' split) <;> omega) | (have HK2 := HK.out; rw [if_pos (by omega)] at HK2; refine ⟨⟨4, m + 2097152 * (b % 128), by omega, by omega, by omega, rfl, ?_, ?_⟩, by decide⟩; (refine congrArg (Value.int .i64) ?_; omega); (first | exact HK2 | simpa using HK2)) | trace_state
     ·have e0 : wrap64 (((s[p + 4]'(by omega)).toNat : Nat) : Int) = x := by rw [show (s[p + 4]'(by omega)).toNat = b from hbb, HX.out]; exact byte_wrap hb
      clear hbb hb
      simp only [Nat.reducePow, Nat.one_mul, Nat.reduceAdd, Nat.add_assoc, Nat.add_zero, Nat.zero_add] at HK hm
      go_wp2_with fail
      all_goals have hxx := HX.out
      all_goals try simp only [beq_iff_eq] at *
      all_goals first | (go_ret2; refine ⟨ret2_eq ?_ ?_, rfl⟩ <;> rw [HK.out] <;> (repeat' split) <;> omega) | (have HK2 := HK.out; rw [if_pos (by omega)] at HK2; refine ⟨⟨5, m + 268435456 * (b % 128), by omega, by omega, by omega, rfl, ?_, ?_⟩, by decide⟩; (refine congrArg (Value.int .i64) ?_; omega); (first | exact HK2 | simpa using HK2)) | trace_state
    ·rw [drop_nil (by omega)] at HK
     first | omega | (go_wp2_with fail; go_ret2; refine ⟨ret2_eq ?_ ?_, rfl⟩ <;> rw [HK.out] <;> rfl)
  ·go_enter Tryz.func121, Tryz.ntmps121
   go_wp2_with (go_at_call 135; refine (blwI _ _ _).mono ?_; rintro e w1 ⟨rfl, rfl⟩)
   go_loop [6, 19] (fun n i => ∃ k m : Nat, k ≤ 5 ∧ p + k ≤ s.size ∧ m < 128 ^ k ∧ i = .int .i64 k ∧ n = .int .i64 m ∧ Hid (rdAt s p = rdl k m (s.data.toList.drop (p + k)))) (fun _ i => 5 - (numOf i).toNat)
   case atStart => exact ⟨0, 0, by omega, by omega, by omega, rfl, rfl, HR⟩
   case round =>
    obtain ⟨k, m, hk, hpk, hm, rfl, rfl, HK⟩ := hrel
    clear HR
    by_cases h5 : k = 5
    ·subst h5
     rw [rdl_five] at HK
     first | omega | (go_wp2_with fail; go_ret2; refine ⟨ret2_eq ?_ ?_, rfl⟩ <;> rw [HK.out] <;> rfl)
    by_cases hsz : p + k < s.size
    ·rw [drop_cons hsz, rdl_cons (by omega)] at HK
     obtain ⟨b, hb, hbb⟩ : ∃ b : Nat, b < 256 ∧ (s[p + k]'hsz).toNat = b := ⟨_, (s[p + k]'hsz).toNat_lt, rfl⟩
     rw [hbb] at HK
     obtain ⟨x, HX⟩ : ∃ x : Int, Hid (x = b) := ⟨_, rfl⟩
     have hx0 : 0 ≤ x := by rw [HX.out]; omega
     have hx1 : x < 256 := by rw [HX.out]; omega
     have hc : k = 0 ∨ k = 1 ∨ k = 2 ∨ k = 3 ∨ k = 4 := by omega
     rcases hc with rfl | rfl | rfl | rfl | rfl
     ·have e0 : wrap64 (((s[p]'(by omega)).toNat : Nat) : Int) = x := by rw [show (s[p]'(by omega)).toNat = b from hbb, HX.out]; exact byte_wrap hb
      clear hbb hb
      simp only [Nat.reducePow, Nat.one_mul, Nat.reduceAdd, Nat.add_assoc, Nat.add_zero, Nat.zero_add] at HK hm
      go_wp2_with fail
      all_goals have hxx := HX.out
      all_goals try simp only [beq_iff_eq] at *
      all_goals first | (go_ret2; refine ⟨ret2_eq ?_ ?_, rfl⟩ <;> rw [HK.out] <;> (repeat' split) <;> omega) | (have HK2 := HK.out; rw [if_pos (by omega)] at HK2; refine ⟨⟨1, m + b % 128, by omega, by omega, by omega, rfl, ?_, ?_⟩, by decide⟩; (refine congrArg (Value.int .i64) ?_; omega); (first | exact HK2 | simpa using HK2)) | trace_state
     ·have e0 : wrap64 (((s[p + 1]'(by omega)).toNat : Nat) : Int) = x := by rw [show (s[p + 1]'(by omega)).toNat = b from hbb, HX.out]; exact byte_wrap hb
      clear hbb hb
      simp only [Nat.reducePow, Nat.one_mul, Nat.reduceAdd, Nat.add_assoc, Nat.add_zero, Nat.zero_add] at HK hm
      go_wp2_with fail
      all_goals have hxx := HX.out
      all_goals try simp only [beq_iff_eq] at *
      all_goals first | (go_ret2; refine ⟨ret2_eq ?_ ?_, rfl⟩ <;> rw [HK.out] <;> (repeat' split) <;> omega) | (have HK2 := HK.out; rw [if_pos (by omega)] at HK2; refine ⟨⟨2, m + 128 * (b % 128), by omega, by omega, by omega, rfl, ?_, ?_⟩, by decide⟩; (refine congrArg (Value.int .i64) ?_; omega); (first | exact HK2 | simpa using HK2)) | trace_state
     ·have e0 : wrap64 (((s[p + 2]'(by omega)).toNat : Nat) : Int) = x := by rw [show (s[p + 2]'(by omega)).toNat = b from hbb, HX.out]; exact byte_wrap hb
      clear hbb hb
      simp only [Nat.reducePow, Nat.one_mul, Nat.reduceAdd, Nat.add_assoc, Nat.add_zero, Nat.zero_add] at HK hm
      go_wp2_with fail
      all_goals have hxx := HX.out
      all_goals try simp only [beq_iff_eq] at *
      all_goals first | (go_ret2; refine ⟨ret2_eq ?_ ?_, rfl⟩ <;> rw [HK.out] <;> (repeat' split) <;> omega) | (have HK2 := HK.out; rw [if_pos (by omega)] at HK2; refine ⟨⟨3, m + 16384 * (b % 128), by omega, by omega, by omega, rfl, ?_, ?_⟩, by decide⟩; (refine congrArg (Value.int .i64) ?_; omega); (first | exact HK2 | simpa using HK2)) | trace_state
     ·have e0 : wrap64 (((s[p + 3]'(by omega)).toNat : Nat) : Int) = x := by rw [show (s[p + 3]'(by omega)).toNat = b from hbb, HX.out]; exact byte_wrap hb
      clear hbb hb
      simp only [Nat.reducePow, Nat.one_mul, Nat.reduceAdd, Nat.add_assoc, Nat.add_zero, Nat.zero_add] at HK hm
      go_wp2_with fail
      all_goals have hxx := HX.out
      all_goals try simp only [beq_iff_eq] at *
      all_goals first | (go_ret2; refine ⟨ret2_eq ?_ ?_, rfl⟩ <;> rw [HK.out] <;> (repeat' split) <;> omega) | (have HK2 := HK.out; rw [if_pos (by omega)] at HK2; refine ⟨⟨4, m + 2097152 * (b % 128), by omega, by omega, by omega, rfl, ?_, ?_⟩, by decide⟩; (refine congrArg (Value.int .i64) ?_; omega); (first | exact HK2 | simpa using HK2)) | trace_state
     ·have e0 : wrap64 (((s[p + 4]'(by omega)).toNat : Nat) : Int) = x := by rw [show (s[p + 4]'(by omega)).toNat = b from hbb, HX.out]; exact byte_wrap hb
      clear hbb hb
      simp only [Nat.reducePow, Nat.one_mul, Nat.reduceAdd, Nat.add_assoc, Nat.add_zero, Nat.zero_add] at HK hm
      go_wp2_with fail
      all_goals have hxx := HX.out
      all_goals try simp only [beq_iff_eq] at *
      all_goals first | (go_ret2; refine ⟨ret2_eq ?_ ?_, rfl⟩ <;> rw [HK.out] <;> (repeat' split) <;> omega) | (have HK2 := HK.out; rw [if_pos (by omega)] at HK2; refine ⟨⟨5, m + 268435456 * (b % 128), by omega, by omega, by omega, rfl, ?_, ?_⟩, by decide⟩; (refine congrArg (Value.int .i64) ?_; omega); (first | exact HK2 | simpa using HK2)) | trace_state
    ·rw [drop_nil (by omega)] at HK
     first | omega | (go_wp2_with fail; go_ret2; refine ⟨ret2_eq ?_ ?_, rfl⟩ <;> rw [HK.out] <;> rfl)
 ·have HR : Hid (rdAt s a = (0, 0)) := by show _ = _; unfold rdAt; rw [if_neg hin]
  have hd : decide (0 ≤ a ∧ a < (s.size : Int)) = false := by simpa using hin
  clear hin
  go_enter Tryz.func121, Tryz.ntmps121
  go_wp2_with (go_at_call 135; refine (blwI _ _ _).mono ?_; rintro e w1 ⟨rfl, rfl⟩)
  all_goals first | (go_ret2; refine ⟨ret2_eq ?_ ?_, rfl⟩ <;> rw [HR.out] <;> rfl) | trace_state
end Go.Proofs.YtojhakjkfkmklaaGreatDoor
namespace Go.Proofs.YtojhakjkfkmklaaGreatDoor
open Go.RowKit
def SmPhi (d : PhiD) : Prop := d.ins.length ≤ 1048576
def SmInst (d : InstD) : Prop := d.args.length ≤ 1048576
def SmBlock (d : BlockD) : Prop := (d.phis.length ≤ 1048576 ∧ ∀ p ∈ d.phis, SmPhi p) ∧ (d.insts.length ≤ 1048576 ∧ ∀ p ∈ d.insts, SmInst p)
def SmFunc (d : FuncD) : Prop := d.params.length ≤ 1048576 ∧ (d.blocks.length ≤ 1048576 ∧ ∀ p ∈ d.blocks, SmBlock p)
theorem ret_i {a b : Int} (h : a = b) : Ending.returned (.int .i64 a) = .returned (.int .i64 b) := by rw [h]
end Go.Proofs.YtojhakjkfkmklaaGreatDoor
namespace Go.Proofs.YtojhakjkfkmklaaGreatDoor
open Go.RowKit
theorem heap_alloc_last (w : World) (o : Obj) : (w.alloc o).heap[w.heap.size]? = some o := by
 show (w.heap.push o)[w.heap.size]? = _
 simp
theorem cell_of_heap {w : World} {g o : Nat} {cur : Array Value} {t : TypeId} (h : w.heap[g]? = some (.cells cur t (0, 0))) : w.cell? ⟨g, o, none⟩ = cur[o]? := by
 unfold World.cell?; rw [h]; rfl
theorem froz_of_heap {w : World} {g o : Nat} {cur : Array Value} {t : TypeId} (h : w.heap[g]? = some (.cells cur t (0, 0))) : w.frozen? ⟨g, o, none⟩ = false := by
 unfold World.frozen?; rw [h]; rfl
theorem heap_set {w : World} {g o : Nat} {cur : Array Value} {t : TypeId} {v : Value} (h : w.heap[g]? = some (.cells cur t (0, 0))) : (w.setCell ⟨g, o, none⟩ v).heap[g]? = some (.cells (cur.setIfInBounds o v) t (0, 0)) := by
 show (w.heap.modify g _)[g]? = _
 rw [Array.getElem?_modify, if_pos rfl, h]
 rfl
theorem infoI : (Tryz.prog.info? 2).map (fun i => (i.zero, i.size, i.bytes)) = some (some (.int .i64 0), 1, 8) := by kernel_rfl
end Go.Proofs.YtojhakjkfkmklaaGreatDoor
namespace Go.Proofs.YtojhakjkfkmklaaGreatDoor
open Go.RowKit
def Row (w : World) (base : Nat) (v : Value) (l : List Int) : Prop := w.ownsRow base 2 1 v l.length (l.map (Value.int .i64))
theorem Row.nil (w : World) (base : Nat) : Row w base (.slice none 0 0) [] := World.ownsRow_nil _ _ _ _
theorem Row.slice {w : World} {base : Nat} {v : Value} {l : List Int} (h : Row w base v l) : ∃ a c, v = .slice a l.length c := by
 rcases h.2 with ⟨rfl, hn⟩ | ⟨g, cap, cur, rfl, _⟩
 ·exact ⟨none, 0, by rw [hn]⟩
 ·exact ⟨_, _, rfl⟩
theorem Row.ge {w : World} {base : Nat} {v : Value} {l : List Int} (h : Row w base v l) {g : Nat} (hv : v.ownBlock = some g) : base ≤ g ∧ g < w.heap.size := by
 rcases h.2 with ⟨rfl, _⟩ | ⟨g', cap, cur, rfl, hb, hg, r⟩
 ·cases hv
 ·cases hv; exact ⟨hb, (Array.getElem?_eq_some_iff.1 hg).1⟩
theorem Row.block {w w' : World} {base : Nat} {v : Value} {l : List Int} (h : Row w base v l) (k : ∀ g, v.ownBlock = some g → g < w.heap.size → w'.heap[g]? = w.heap[g]?) : Row w' base v l := by
 refine ⟨h.1, ?_⟩
 rcases h.2 with h2 | ⟨g, cap, cur, rfl, hb, hg, r⟩
 ·exact .inl h2
 ·exact .inr ⟨g, cap, cur, rfl, hb, (k g rfl (Array.getElem?_eq_some_iff.1 hg).1).trans hg, r⟩
theorem Row.keep {w w' : World} {base : Nat} {v : Value} {l : List Int} (h : Row w base v l) (k : Below w.heap.size w w') : Row w' base v l := h.block fun g _ hg => k.block g hg
theorem Row.alloc {w : World} {base : Nat} {v : Value} {l : List Int} (h : Row w base v l) (o : Obj) : Row (w.alloc o) base v l := World.ownsRow.alloc h o
theorem Row.low {w : World} {lo lo' : Nat} {v : Value} {l : List Int} (h : Row w lo v l) (k : lo' ≤ lo) : Row w lo' v l := by
 refine ⟨h.1, ?_⟩
 rcases h.2 with h2 | ⟨g, cap, cur, hv, hb, r⟩
 ·exact .inl h2
 ·exact .inr ⟨g, cap, cur, hv, Nat.le_trans k hb, r⟩
theorem Row.ints {w : World} {base : Nat} {v : Value} {l : List Int} (hm : l.length ≤ 4194304) (h : Row w base v l) : ∃ u c, v = .slice u l.length c ∧ IntsAt w base u l := by
 rcases h.2 with ⟨hv, hn⟩ | ⟨g, cap, cur, hv, hb, hg, hnc, _, hcs, htk⟩
 ·exact ⟨none, 0, by rw [hv, hn], by omega, .inl (List.length_eq_zero_iff.1 hn)⟩
 ·refine ⟨_, cap, hv, by omega, .inr ⟨g, 0, rfl, hb, (Array.getElem?_eq_some_iff.1 hg).1, fun i hi => ?_⟩⟩
  have e : (cur.toList.take (l.length * 1))[i]? = (l.map (Value.int .i64))[i]? := by rw [htk]
  rw [List.getElem?_take, if_pos (by omega)] at e
  simp [hi] at e
  rw [Nat.zero_add, cell_of_heap hg]
  simpa [List.getD, hi] using e
theorem Row.lit (w : World) (base : Nat) (h : base ≤ w.heap.size) : Row (w.alloc (.cells #[] 2)) base (.slice (some ⟨w.heap.size, 0, none⟩) 0 0) [] :=
 World.ownsRow_lit w #[] 0 h (by decide) (by simp)
theorem one_cell (w : World) (v : Value) (t : TypeId) : (w.alloc (.cells #[v] t)).cell? ⟨w.heap.size, 0, none⟩ = some v := (cell_of_heap (heap_alloc_last _ _)).trans rfl
theorem push_int {ops : Array Oper} {rest : List Oper} {o : Oper} {a : Act} {Q : Exit → Act → World → Prop} {w : World} (hgd : o.guard = none) (s x : Operand)
  (ho : o.op = .call { callee := .builtin .append, args := #[s, x], argTypes := #[46, 46] })
  (base : Nat) (v : Value) (l : List Int) (hs : a.eval s = v) (hown : Row w base v l) (n : Int) (b c : Nat) (hx : a.eval x = .slice (some ⟨b, 0, none⟩) 1 c) (hc : w.cell? ⟨b, 0, none⟩ = some (.int .i64 n)) (hl : l.length ≤ 4194304) (hbase : base ≤ w.heap.size)
  (h : ∀ v' w', Row w' base v' (l ++ [n]) → w.grownBy w' v.ownBlock → wpList Tryz.prog ops Q rest (a.put o.dst v') w') : wpList Tryz.prog ops Q (o :: rest) a w := by
 obtain ⟨i0, hi, hz0, hz1, hz2⟩ := info_parts infoI
 refine wpList_append_own w hgd s x 46 ho base 2 i0 (.int .i64 0) 1 8 Tryz.underlying46 hi hz0 hz1 hz2 rfl (by decide) v l.length (l.map (Value.int .i64)) hs hown ⟨b, 0, none⟩ 1 c [.int .i64 n] hx (by simp) ?_ (by simp [Value.oneCell']) (by unfold maxLen; omega) (by omega) hbase ?_
 ·intro j u hj
  match j, hj with
  | 0, hj => rw [Addr.add_lit]; simp at hj; rw [← hj]; exact hc
 ·intro v' w' h1 h2 _
  refine h v' w' ?_ h2
  unfold Row
  rw [List.length_append, List.map_append]
  exact h1
end Go.Proofs.YtojhakjkfkmklaaGreatDoor
namespace Go.Proofs.YtojhakjkfkmklaaGreatDoor
open Go.RowKit
def At (w : World) (g : Nat) (cs : Array Value) (T : TypeId) : Prop := w.heap[g]? = some (.cells cs T (0, 0))
theorem At.lt {w : World} {g : Nat} {cs : Array Value} {T : TypeId} (h : At w g cs T) : g < w.heap.size := (Array.getElem?_eq_some_iff.1 h).1
theorem At.below {w w' : World} {g : Nat} {cs : Array Value} {T : TypeId} (h : At w g cs T) (k : Below w.heap.size w w') : At w' g cs T := (k.block g h.lt).trans h
theorem At.new (w : World) (cs : Array Value) (T : TypeId) : At (w.alloc (.cells cs T)) w.heap.size cs T := heap_alloc_last w _
theorem At.cell {w : World} {g : Nat} {cs : Array Value} {T : TypeId} (h : At w g cs T) (o : Nat) : w.cell? ⟨g, o, none⟩ = cs[o]? := cell_of_heap h
theorem At.setOther {w : World} {g gi o : Nat} {cs : Array Value} {T : TypeId} {v : Value} (h : At w g cs T) (hn : g ≠ gi) : At (w.setCell ⟨gi, o, none⟩ v) g cs T := (Below.heap_setCell _ _ _ _ (by show g ≠ gi; exact hn)).trans h
end Go.Proofs.YtojhakjkfkmklaaGreatDoor
namespace Go.Proofs.YtojhakjkfkmklaaGreatDoor
open Go.RowKit
end Go.Proofs.YtojhakjkfkmklaaGreatDoor
