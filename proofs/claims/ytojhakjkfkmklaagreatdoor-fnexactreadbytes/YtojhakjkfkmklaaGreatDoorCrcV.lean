import Derived.Test.YtojhakjkfkmklaaGreatDoorRows
import Derived.WalkKit
import Derived.WalkSpells
import Derived.WalkLawsBesides
import Derived.Deep.QuietTactic
import Derived.Test.YtojhakjkfkmklaaGreatDoorMbCV
import Derived.Test.YtojhakjkfkmklaaGreatDoorRmAV
import Derived.Test.YtojhakjkfkmklaaGreatDoorCntWV
import Derived.Defers
import Derived.Recover
import Derived.Laws.Pointers
namespace Go.Proofs.YtojhakjkfkmklaaGreatDoor
open Go.RowKit
def cbit (c : Nat) : Nat := if c % 2 = 1 then (c / 2) ^^^ 3988292384 else c / 2
def cbits : Nat → Nat → Nat
 | 0, c => c
 | k + 1, c => cbits k (cbit c)
def cbyte (c b : Nat) : Nat := cbits 8 (c ^^^ b)
def csum (c : Nat) (l : List UInt8) : Nat := l.foldl (fun c b => cbyte c b.toNat) c
def crcOf (l : List UInt8) : Nat := csum 4294967295 l ^^^ 4294967295
theorem xor_lt32 {a b : Nat} (ha : a < 4294967296) (hb : b < 4294967296) : a ^^^ b < 4294967296 :=
 Nat.xor_lt_two_pow (n := 32) (by omega) (by omega)
theorem cbit_lt {c : Nat} (h : c < 4294967296) : cbit c < 4294967296 := by
 unfold cbit
 split
 ·exact xor_lt32 (by omega) (by omega)
 ·omega
theorem len_data (s : ByteArray) : s.data.toList.length = s.size := by simp
theorem csum_take {s : ByteArray} {k : Nat} (hk : k < s.size) (c : Nat) : csum c (s.data.toList.take (k + 1)) = cbyte (csum c (s.data.toList.take k)) (s[k]'hk).toNat := by
 have hk' : k < s.data.toList.length := by simpa using hk
 unfold csum
 rw [List.take_succ_eq_append_getElem hk', List.foldl_append]
 rfl
def intOf : Value → Int | .int _ q => q | _ => 0
set_option maxHeartbeats 1000000 in
theorem crcS (s : ByteArray) (hs : s.size ≤ 1048576) (w : World) :
  Calls Tryz.prog 61 #[.string s] w fun e w' => e = .returned (.int .i64 (crcOf s.data.toList)) ∧ w' = w := by
 go_enter Tryz.func61, Tryz.ntmps61
 go_wp2_with fail
 go_loop [3, 4] (fun c i => ∃ k m : Nat, k ≤ s.size ∧ m < 4294967296 ∧ i = .int .i64 k ∧ c = .int .u32 m ∧ Hid (m = csum 4294967295 (s.data.toList.take k))) (fun _ i => s.size - (intOf i).toNat)
 case atStart => exact ⟨0, 4294967295, by omega, by omega, rfl, rfl, by show _ = _; simp [csum]⟩
 case round =>
  obtain ⟨k, m, hk, hm, rfl, rfl, HM⟩ := hrel
  by_cases hlt : k < s.size
  ·have hx := u32_xor_nat m (s[k]'hlt).toNat hm (by have := (s[k]'hlt).toNat_lt; omega)
   have hxl := xor_lt32 hm (b := (s[k]'hlt).toNat) (by have := (s[k]'hlt).toNat_lt; omega)
   go_wp2_with fail
   go_loop [3, 5] (fun c i => ∃ j m : Nat, j ≤ 8 ∧ m < 4294967296 ∧ i = .int .i64 j ∧ c = .int .u32 m ∧ Hid (cbits (8 - j) m = cbyte (csum 4294967295 (s.data.toList.take k)) (s[k]'hlt).toNat)) (fun _ i => 8 - (intOf i).toNat)
   case atStart => exact ⟨0, _, by omega, hxl, rfl, by rw [Int.emod_eq_of_lt (by omega) (by have := (s[k]'hlt).toNat_lt; omega), hx], by show _ = _; rw [← HM]; rfl⟩
   case round =>
    obtain ⟨j, mj, hj, hmj, rfl, rfl, HJ⟩ := hrel
    by_cases hj8 : j < 8
    ·by_cases ho : mj % 2 = 1
     ·have ha : bits .and .u32 (mj : Int) 1 = 1 := by
       have := u32_and_nat mj 1 hmj (by omega)
       rw [Nat.and_one_is_mod, ho] at this
       exact this
      clear hx
      go_wp2_with fail
      have e : bits .xor .u32 ((mj : Int) / 2) 3988292384 = ((mj / 2 ^^^ 3988292384 : Nat) : Int) := u32_xor_nat (mj / 2) 3988292384 (by omega) (by omega)
      have hc : cbit mj = mj / 2 ^^^ 3988292384 := by unfold cbit; rw [if_pos ho]
      refine ⟨⟨j + 1, cbit mj, by omega, cbit_lt hmj, rfl, by rw [e, hc], ?_⟩, by simp only [intOf]; omega⟩
      rw [show 8 - j = (8 - (j + 1)) + 1 by omega] at HJ
      exact HJ
     ·have ha : bits .and .u32 (mj : Int) 1 = 0 := by
       have := u32_and_nat mj 1 hmj (by omega)
       rw [Nat.and_one_is_mod, Nat.mod_two_ne_one.1 ho] at this
       exact this
      clear hx
      go_wp2_with fail
      have hc : cbit mj = mj / 2 := by unfold cbit; rw [if_neg ho]
      refine ⟨⟨j + 1, cbit mj, by omega, cbit_lt hmj, rfl, by rw [hc]; rfl, ?_⟩, by simp only [intOf]; omega⟩
      rw [show 8 - j = (8 - (j + 1)) + 1 by omega] at HJ
      exact HJ
    ·clear hx
     go_wp2_with fail
     refine ⟨⟨k + 1, mj, by omega, hmj, rfl, rfl, ?_⟩, by simp only [intOf]; omega⟩
     rw [show 8 - j = 0 by omega] at HJ
     show mj = _
     rw [csum_take hlt]
     exact HJ
  ·go_wp2_with fail
   go_ret
   refine ⟨?_, rfl⟩
   have e : bits .xor .u32 (m : Int) 4294967295 = ((m ^^^ 4294967295 : Nat) : Int) := u32_xor_nat m 4294967295 hm (by omega)
   have hb := xor_lt32 hm (b := 4294967295) (by omega)
   have ht : s.data.toList.take k = s.data.toList := List.take_of_length_le (by rw [len_data]; omega)
   rw [e, show crcOf s.data.toList = m ^^^ 4294967295 by unfold crcOf; rw [HM, ht]]
   generalize m ^^^ 4294967295 = q at hb
   exact congrArg (fun z => Ending.returned (.int .i64 z)) (by unfold wrap64; omega)
set_option maxHeartbeats 1000000 in
theorem crcI (s : ByteArray) (hs : s.size ≤ 1048576) (w : World) :
  Calls Tryz.prog 48 #[.string s] w fun e w' => e = .returned (.int .i64 (crcOf s.data.toList)) ∧ w' = w := by
 go_enter Tryz.func48, Tryz.ntmps48
 go_wp2_with fail
 go_loop [3, 7] (fun c i => ∃ k m : Nat, k ≤ s.size ∧ m < 4294967296 ∧ i = .int .i64 k ∧ c = .int .u32 m ∧ Hid (m = csum 4294967295 (s.data.toList.take k))) (fun _ i => s.size - (intOf i).toNat)
 case atStart => exact ⟨0, 4294967295, by omega, by omega, rfl, rfl, by show _ = _; simp [csum]⟩
 case round =>
  obtain ⟨k, m, hk, hm, rfl, rfl, HM⟩ := hrel
  by_cases hlt : k < s.size
  ·have hx := u32_xor_nat m (s[k]'hlt).toNat hm (by have := (s[k]'hlt).toNat_lt; omega)
   have hxl := xor_lt32 hm (b := (s[k]'hlt).toNat) (by have := (s[k]'hlt).toNat_lt; omega)
   go_wp2_with fail
   go_loop [3, 16] (fun c i => ∃ j m : Nat, j ≤ 8 ∧ m < 4294967296 ∧ i = .int .i64 j ∧ c = .int .u32 m ∧ Hid (cbits (8 - j) m = cbyte (csum 4294967295 (s.data.toList.take k)) (s[k]'hlt).toNat)) (fun _ i => 8 - (intOf i).toNat)
   case atStart => exact ⟨0, _, by omega, hxl, rfl, by rw [Int.emod_eq_of_lt (by omega) (by have := (s[k]'hlt).toNat_lt; omega), hx], by show _ = _; rw [← HM]; rfl⟩
   case round =>
    obtain ⟨j, mj, hj, hmj, rfl, rfl, HJ⟩ := hrel
    by_cases hj8 : j < 8
    ·by_cases ho : mj % 2 = 1
     ·have ha : bits .and .u32 (mj : Int) 1 = 1 := by
       have := u32_and_nat mj 1 hmj (by omega)
       rw [Nat.and_one_is_mod, ho] at this
       exact this
      clear hx
      go_wp2_with fail
      have e : bits .xor .u32 ((mj : Int) / 2) 3988292384 = ((mj / 2 ^^^ 3988292384 : Nat) : Int) := u32_xor_nat (mj / 2) 3988292384 (by omega) (by omega)
      have hc : cbit mj = mj / 2 ^^^ 3988292384 := by unfold cbit; rw [if_pos ho]
      refine ⟨⟨j + 1, cbit mj, by omega, cbit_lt hmj, rfl, by rw [e, hc], ?_⟩, by simp only [intOf]; omega⟩
      rw [show 8 - j = (8 - (j + 1)) + 1 by omega] at HJ
      exact HJ
     ·have ha : bits .and .u32 (mj : Int) 1 = 0 := by
       have := u32_and_nat mj 1 hmj (by omega)
       rw [Nat.and_one_is_mod, Nat.mod_two_ne_one.1 ho] at this
       exact this
      clear hx
      go_wp2_with fail
      have hc : cbit mj = mj / 2 := by unfold cbit; rw [if_neg ho]
      refine ⟨⟨j + 1, cbit mj, by omega, cbit_lt hmj, rfl, by rw [hc, show bits .xor .u32 ((mj : Int) / 2) 0 = ((mj / 2 ^^^ 0 : Nat) : Int) from u32_xor_nat (mj / 2) 0 (by omega) (by omega), Nat.xor_zero], ?_⟩, by simp only [intOf]; omega⟩
      rw [show 8 - j = (8 - (j + 1)) + 1 by omega] at HJ
      exact HJ
    ·clear hx
     go_wp2_with fail
     refine ⟨⟨k + 1, mj, by omega, hmj, rfl, rfl, ?_⟩, by simp only [intOf]; omega⟩
     rw [show 8 - j = 0 by omega] at HJ
     show mj = _
     rw [csum_take hlt]
     exact HJ
  ·go_wp2_with fail
   go_ret
   refine ⟨?_, rfl⟩
   have e : bits .xor .u32 IntKind.u32.max (m : Int) = ((m ^^^ 4294967295 : Nat) : Int) := by rw [Nat.xor_comm]; exact u32_xor_nat 4294967295 m (by omega) hm
   have hb := xor_lt32 hm (b := 4294967295) (by omega)
   have ht : s.data.toList.take k = s.data.toList := List.take_of_length_le (by rw [len_data]; omega)
   rw [e, show crcOf s.data.toList = m ^^^ 4294967295 by unfold crcOf; rw [HM, ht]]
   generalize m ^^^ 4294967295 = q at hb
   exact congrArg (fun z => Ending.returned (.int .i64 z)) (by unfold wrap64; omega)
end Go.Proofs.YtojhakjkfkmklaaGreatDoor
namespace Go.Proofs.YtojhakjkfkmklaaGreatDoor
open Go.RowKit
set_option linter.unusedVariables false
theorem conv_four (v : World) (a b c d : Int) : (convert 22 9 (.slice (some ⟨v.heap.size, 0, none⟩) 4 4)).run Tryz.prog (v.alloc (.cells #[.int .u8 a, .int .u8 b, .int .u8 c, .int .u8 d] 5)) = .ok (.string ⟨#[UInt8.ofNat a.toNat, UInt8.ofNat b.toNat, UInt8.ofNat c.toNat, UInt8.ofNat d.toNat]⟩) (v.alloc (.cells #[.int .u8 a, .int .u8 b, .int .u8 c, .int .u8 d] 5)) := by
 rw [run_convert_bytes_string _ _ _ 5 _ 4 4 Tryz.underlying22 Tryz.underlying5 Tryz.underlying9]
 have hl := run_loadCells_list (P := Tryz.prog) (v.alloc (.cells #[.int .u8 a, .int .u8 b, .int .u8 c, .int .u8 d] 5)) ⟨v.heap.size, 0, none⟩ ([a, b, c, d].map (Value.int .u8)) (fun j x hj => by
  rcases j with _ | _ | _ | _ | j
  ·simp at hj; subst hj; simp [Addr.add]
  ·simp at hj; subst hj; simp [Addr.add]
  ·simp at hj; subst hj; simp [Addr.add]
  ·simp at hj; subst hj; simp [Addr.add]
  ·simp at hj)
 rw [run_bytesToString _ _ 4 4 [a, b, c, d] hl]
 rfl
def sumT (s : ByteArray) : ByteArray := ⟨#[UInt8.ofNat ((crcOf s.data.toList : Int) / 16777216 % 256).toNat, UInt8.ofNat ((crcOf s.data.toList : Int) / 65536 % 256).toNat, UInt8.ofNat ((crcOf s.data.toList : Int) / 256 % 256).toNat, UInt8.ofNat ((crcOf s.data.toList : Int) % 256).toNat]⟩
theorem sumT_size (s : ByteArray) : (sumT s).size = 4 := rfl
set_option maxHeartbeats 2000000 in
set_option maxRecDepth 100000 in
theorem sumS (s : ByteArray) (hs : s.size ≤ 1048576) (w : World) :
  Calls Tryz.prog 28 #[.string s] w fun e w' => e = .returned (.string (sumT s)) ∧ Below w.heap.size w w' := by
 have C := crcS s hs w
 have hcv := conv_four w
 go_enter Tryz.func28, Tryz.ntmps28
 go_wp2_with fail
 refine C.mono ?_
 rintro e w1 ⟨rfl, h9⟩
 have h8 := h9.symm
 clear h9
 subst h8
 go_wp2_with fail
 go_ret
 exact ⟨rfl, (Below.refl _ _).alloc (Nat.le_refl _) _⟩
set_option maxHeartbeats 2000000 in
set_option maxRecDepth 100000 in
theorem sumI (s : ByteArray) (hs : s.size ≤ 1048576) (w : World) :
  Calls Tryz.prog 22 #[.string s] w fun e w' => e = .returned (.string (sumT s)) ∧ Below w.heap.size w w' := by
 have C := crcI s hs w
 have hcv := conv_four w
 go_enter Tryz.func22, Tryz.ntmps22
 go_wp2_with fail
 refine C.mono ?_
 rintro e w1 ⟨rfl, h9⟩
 have h8 := h9.symm
 clear h9
 subst h8
 go_wp2_with fail
 go_ret
 exact ⟨rfl, (Below.refl _ _).alloc (Nat.le_refl _) _⟩
def modT (l : List FuncD) : ByteArray := if modB l = true then vb ssa1 (modM l) ++ sumT (vb ssa1 (modM l)) else ⟨#[]⟩
set_option maxHeartbeats 2000000 in
set_option maxRecDepth 100000 in
theorem modBytesS (lo : Nat) (l : List FuncD) (u : Option Addr) (c : Nat) (w : World) (hs : SmMod l) (k0 : FuncsAt w lo u l) :
  Calls Tryz.prog 10 #[.agg #[.slice u l.length c]] w fun e w' => e = .returned (.string (modT l)) ∧ Below w.heap.size w w' := by
 have X0 := Box1.new w l.length u c 26
 have hB0 : Below w.heap.size w (w.alloc (.cells #[.slice u l.length c] 26)) := (Below.refl _ w).alloc (Nat.le_refl _) _
 go_enter Tryz.func10, Tryz.ntmps10
 go_wp2_with fail
 generalize (w.alloc (.cells #[.slice u l.length c] 26)) = W at X0 hB0 ⊢
 refine (modShS lo l u c W hs (k0.keep (agree_of_below hB0 lo))).mono ?_
 rintro e w1 ⟨rfl, b1⟩
 have X1 := X0.below b1
 have hB1 := hB0.trans (b1.mono hB0.size)
 clear X0 hB0 b1
 have y0 := X1.2
 cases hok : modB l with
 | false =>
  have E : Hid (modT l = ⟨#[]⟩) := by show _ = _; unfold modT; rw [hok]; rfl
  go_wp2_with fail
  go_ret
  exact ⟨by rw [E.out]; rfl, hB1⟩
 | true =>
  have E : Hid (modT l = vb ssa1 (modM l) ++ sumT (vb ssa1 (modM l))) := by show _ = _; unfold modT; rw [if_pos hok]
  have P := l6BodyS lo l u c w1 hs hok (k0.keep (agree_of_below hB1 lo))
  have hz := vb_bound (modM_len hok)
  generalize vb ssa1 (modM l) = T at E P hz
  have P2 := fun v => sumS T (by omega) v
  have h4 := sumT_size T
  generalize sumT T = U at E P2 h4
  clear hok
  go_wp2_with fail
  refine P.mono ?_
  rintro e w2 ⟨rfl, b2⟩
  have hB2 := hB1.trans (b2.mono hB1.size)
  clear P y0 b2
  go_wp2_with fail
  refine (P2 _).mono ?_
  rintro e w3 ⟨rfl, b3⟩
  have hB3 := hB2.trans (b3.mono hB2.size)
  clear P2 b3
  go_wp2_with fail
  go_ret
  exact ⟨by rw [E.out]; rfl, hB3⟩
end Go.Proofs.YtojhakjkfkmklaaGreatDoor
namespace Go.Proofs.YtojhakjkfkmklaaGreatDoor
open Go.RowKit
set_option linter.unusedVariables false
set_option linter.unusedSimpArgs false
def BadB (s : ByteArray) : Prop := s.size < 4 ∨ 20000 < s.size ∨ sumT (s.extract 0 (s.size - 4)) ≠ s.extract (s.size - 4) s.size
set_option maxHeartbeats 4000000 in
set_option maxRecDepth 100000 in
theorem mobBad (a : Addr) (s : ByteArray) (w : World) (hs : BadB s) (hv : Gv w 0 (errV a)) :
  Calls Tryz.prog 25 #[.string s] w fun e w' => e = .panicked [{ v := errV a, recovered := false }] ∧ Below w.heap.size w w' := by
 have B1 : Below w.heap.size w (w.alloc (.cells #[.slice none 0 0] 26)) := (Below.refl _ _).alloc (Nat.le_refl _) _
 have HV1 : Hid (Gv (w.alloc (.cells #[.slice none 0 0] 26)) 0 (errV a)) := hv.keep B1
 have HB : Hid (Below w.heap.size w (w.alloc (.cells #[.slice none 0 0] 26))) := B1
 clear B1 hv
 by_cases h4 : s.size < 4
 ·have e1 : ¬ ((4 : Int) ≤ (s.size : Int)) := by omega
  have e2 : ¬ (4 ≤ s.size) := by omega
  clear hs
  go_enter Tryz.func25, Tryz.ntmps25
  go_wp2_with fail
  refine (wantN a _ HV1.out).mono ?_
  rintro e w1 ⟨rfl, h9⟩
  have h8 := h9.symm
  clear h9
  subst h8
  go_wp2_with fail
  exact ⟨rfl, rfl, HB.out⟩
 have h4' : 4 ≤ s.size := by omega
 have h4i : (4 : Int) ≤ (s.size : Int) := by omega
 by_cases h20 : 20000 < s.size
 ·have e1 : ¬ ((s.size : Int) ≤ 20000) := by omega
  have e2 : ¬ (s.size ≤ 20000) := by omega
  clear hs
  go_enter Tryz.func25, Tryz.ntmps25
  go_wp2_with fail
  refine (wantN a _ HV1.out).mono ?_
  rintro e w1 ⟨rfl, h9⟩
  have h8 := h9.symm
  clear h9
  subst h8
  go_wp2_with fail
  exact ⟨rfl, rfl, HB.out⟩
 have h20' : s.size ≤ 20000 := by omega
 have h20i : (s.size : Int) ≤ 20000 := by omega
 obtain ⟨m, hm⟩ : ∃ m, s.size = m + 4 := ⟨s.size - 4, by omega⟩
 have hne0 : sumT (s.extract 0 m) ≠ s.extract m s.size := by
  rcases hs with h | h | h
  ·omega
  ·omega
  ·rw [show s.size - 4 = m by omega] at h; exact h
 have e2 : (s.size : Int) - 4 = (m : Int) := by omega
 obtain ⟨t, HT⟩ : ∃ t, Hid (s.extract 0 m = t) := ⟨_, rfl⟩
 obtain ⟨u, HU⟩ : ∃ u, Hid (s.extract m s.size = u) := ⟨_, rfl⟩
 rw [HT.out, HU.out] at hne0
 have htm : (t.size : Int) = (m : Int) := by rw [← HT.out, ByteArray.size_extract]; omega
 have htz : t.size ≤ 20000 := by omega
 have hs1 : ∀ v : World, (Instr.slice 9 (.string s) none (some (.int .i64 (m : Int))) none).run Tryz.prog v = .ok (.string t) v := fun v => by
  rw [run_slice_string_to_if (h := Tryz.underlying9), if_pos (by omega), ← HT.out]; rfl
 have hs2 : ∀ v : World, (Instr.slice 9 (.string s) (some (.int .i64 (m : Int))) none none).run Tryz.prog v = .ok (.string u) v := fun v => by
  rw [run_slice_string_from_if (h := Tryz.underlying9), if_pos (by omega), ← HU.out]; rfl
 have hq : ((sumT t).toList == u.toList) = false := str_neq hne0
 clear hs h4 h20 hm
 go_enter Tryz.func25, Tryz.ntmps25
 go_wp2_with (first | (go_at_call 50; refine (wantY _).mono ?_; rintro e w1 ⟨rfl, h9⟩; have h8 := h9.symm; clear h9; subst h8))
 obtain ⟨W, hW⟩ : ∃ W, (w.alloc (.cells #[.slice none 0 0] 26)) = W := ⟨_, rfl⟩
 rw [hW] at HV1 HB ⊢
 clear hW
 refine wp_region_held_drew (S := fun w' => Below W.heap.size W w') (by kernel_rfl) ((Below.refl _ _).drew) (fun hHeld => ?_)
 refine wpAnyH_take (i := 0) (v := ?_) rfl (by kernel_rfl) (by kernel_rfl) (by kernel_rfl) (fun _ _ _ h => h) (Or.inl ⟨by rfl, ?_⟩) hHeld ?_
 rotate_left
 ·intro w9 hS9
  go_simp
  try with_reducible rfl
 show wpAnyH _ _ _ _ _ _ _ (Act.put _ (some _) _) _
 simp only [Act.put, List.setIfInBounds_toArray, List.set_cons_zero, List.set_cons_succ]
 refine wpAnyH_take (i := 2) (v := ?_) rfl (by kernel_rfl) (by kernel_rfl) (by kernel_rfl) (fun _ _ _ h => h) (Or.inl ⟨by rfl, ?_⟩) hHeld ?_
 rotate_left
 ·intro w9 hS9
  go_simp
  try with_reducible rfl
 show wpAnyH _ _ _ _ _ _ _ (Act.put _ (some _) _) _
 simp only [Act.put, List.setIfInBounds_toArray, List.set_cons_zero, List.set_cons_succ]
 refine wpAnyH_take (i := 3) (v := ?_) rfl (by kernel_rfl) (by kernel_rfl) (by kernel_rfl) (fun _ _ _ h => h) (Or.inl ⟨by rfl, ?_⟩) hHeld ?_
 rotate_left
 ·intro w9 hS9
  go_simp
  try with_reducible rfl
 show wpAnyH _ _ _ _ _ _ _ (Act.put _ (some _) _) _
 simp only [Act.put, List.setIfInBounds_toArray, List.set_cons_zero, List.set_cons_succ]
 refine wpAnyH_take (i := 4) (v := ?_) rfl (by kernel_rfl) (by kernel_rfl) (by kernel_rfl) (fun _ _ _ h => h) (Or.inl ⟨by rfl, ?_⟩) hHeld ?_
 rotate_left
 ·intro w9 hS9
  go_simp
  try with_reducible rfl
 show wpAnyH _ _ _ _ _ _ _ (Act.put _ (some _) _) _
 simp only [Act.put, List.setIfInBounds_toArray, List.set_cons_zero, List.set_cons_succ]
 refine wpAnyH_take (i := 5) (v := ?_) rfl (by kernel_rfl) (by kernel_rfl) (by kernel_rfl) (fun _ _ _ h => h) (Or.inl ⟨by rfl, ?_⟩) hHeld ?_
 rotate_left
 ·intro w9 hS9
  go_simp
  try with_reducible rfl
 show wpAnyH _ _ _ _ _ _ _ (Act.put _ (some _) _) _
 simp only [Act.put, List.setIfInBounds_toArray, List.set_cons_zero, List.set_cons_succ]
 refine wpAnyH_ready (rs := [1]) (by kernel_rfl) (by simp) ?_
 refine AllReadyH.cons rfl (fun K hK => ?_) AllReadyH.nil
 go_simp
 go_wp2_with (go_at_call 22; refine (sumI t (by omega) _).mono ?_; rintro e w5 ⟨rfl, bb⟩; have bc := hHeld.trans (bb.mono hHeld.size))
 refine hK.out _ _ ?_ (fun hHeld2 => ?_)
 ·exact bc
 clear hK K
 have hPrev := hHeld
 clear hHeld
 have hHeld := hHeld2
 clear hHeld2 bc
 try simp only [Act.put, List.setIfInBounds_toArray, List.set_cons_zero, List.set_cons_succ]
 refine wpAnyH_take (i := 6) (v := ?_) rfl (by kernel_rfl) (by kernel_rfl) (by kernel_rfl) (fun _ _ _ h => h) (Or.inl ⟨by rfl, ?_⟩) hHeld ?_
 rotate_left
 ·intro w9 hS9
  go_simp
  try with_reducible rfl
 show wpAnyH _ _ _ _ _ _ _ (Act.put _ (some _) _) _
 simp only [Act.put, List.setIfInBounds_toArray, List.set_cons_zero, List.set_cons_succ]
 refine wpAnyH_ready (rs := [7]) (by kernel_rfl) (by simp) ?_
 refine AllReadyH.cons rfl (fun K hK => ?_) AllReadyH.nil
 go_simp
 go_wp2_with (go_at_call 50; refine (wantN a _ (HV1.out.keep hHeld)).mono ?_; rintro e w6 ⟨rfl, h9⟩; have h8 := h9.symm; clear h9; subst h8)
 exact ⟨rfl, rfl, HB.out.trans (hHeld.mono HB.out.size)⟩
set_option maxHeartbeats 8000000 in
set_option maxRecDepth 100000 in
theorem catchY (p r : Nat) (u : TypeId) (pv : Value) (older : List PanicEntry) (w : World) (b : Bool) (hpr : p < r) (hp : At w p #[.slice none 0 0] 26) (hr : At w r #[.bool b] 4) :
  CallsD Tryz.prog 49 #[.pointer (some ⟨p, 0, none⟩), .pointer (some ⟨r, 0, none⟩)] (.panicking ({ v := .iface u pv, recovered := false } :: older)) w fun e u' w' =>
   e = .returned (.tuple #[]) ∧ u' = .panicking ({ v := .iface u pv, recovered := true } :: older) ∧ At w' p #[.slice none 0 0] 26 ∧ At w' r #[.bool false] 4 ∧ Below p w w' := by
 have hlp : p < w.heap.size := hp.lt
 have hlr : r < w.heap.size := hr.lt
 have B1 : Below w.heap.size w (w.alloc (.cells #[.slice none 0 0] 26)) := (Below.refl _ _).alloc (Nat.le_refl _) _
 have HP : Hid (At (w.alloc (.cells #[.slice none 0 0] 26)) p #[.slice none 0 0] 26) := hp.below B1
 have HR : Hid (At (w.alloc (.cells #[.slice none 0 0] 26)) r #[.bool b] 4) := hr.below B1
 have HN : Hid (At (w.alloc (.cells #[.slice none 0 0] 26)) w.heap.size #[.slice none 0 0] 26) := At.new _ _ _
 have HB : Hid (Below p w (w.alloc (.cells #[.slice none 0 0] 26))) := B1.mono (by omega)
 clear B1 hp hr
 refine callsD_of_wpS Tryz.func49 rfl fun c₀ cs hu => ?_
 apply wpS_seq
 apply wpS_region
 simp [wpOpsS, go_sem, recoverD, hu, Tryz.ntmps49, Exit.thenS]
 refine wpS_cond (t := true) (by simp [Act.eval, Array.replicate]) ?_
 simp only [if_true]
 refine wpS_of_wp ?_
 simp only [Array.replicate, List.replicate, List.setIfInBounds_toArray, List.set_cons_zero, List.set_cons_succ, List.append_toArray, List.cons_append, List.nil_append]
 obtain ⟨W, hW⟩ : ∃ W, (w.alloc (.cells #[.slice none 0 0] 26)) = W := ⟨_, rfl⟩
 rw [hW] at HP HR HN HB
 have z0 : W.cell? ⟨p, 0, none⟩ = some (.slice none 0 0) := HP.out.cell 0
 have y0 : W.cell? ⟨w.heap.size, 0, none⟩ = some (.slice none 0 0) := HN.out.cell 0
 have zf : ∀ o, W.frozen? ⟨p, o, none⟩ = false := fun o => froz_of_heap HP.out
 have x0 : W.cell? ⟨r, 0, none⟩ = some (.bool b) := HR.out.cell 0
 have xf : W.frozen? ⟨r, 0, none⟩ = false := froz_of_heap HR.out
 have npr : p ≠ r := by omega
 have nrp : r ≠ p := by omega
 go_wp2_with fail
 have h0 : At (W.setCell ⟨p, 0, none⟩ (.slice none 0 0)) p #[.slice none 0 0] 26 := heap_set (o := 0) (v := .slice none 0 0) HP.out
 have h1 := h0.setOther (gi := r) (o := 0) (v := .bool false) npr
 clear h0
 have h2 := heap_set (o := 0) (v := .bool false) (HR.out.setOther (gi := p) (o := 0) (v := .slice none 0 0) nrp)
 have h3 : Below p w ((W.setCell ⟨p, 0, none⟩ (.slice none 0 0)).setCell ⟨r, 0, none⟩ (.bool false)) := by repeat (first | refine Below.setCell ?_ (by dsimp only; omega) _ | exact HB.out)
 clear HP HR HN HB z0 y0 zf x0 xf hW
 generalize ((W.setCell ⟨p, 0, none⟩ (.slice none 0 0)).setCell ⟨r, 0, none⟩ (.bool false)) = W9 at h1 h2 h3 ⊢
 simp [bodyPostS, results, Tryz.results49]
 exact ⟨h1, h2, h3⟩
theorem results_two {P : Program} {fn : Func} {p r : Tmp} {ty tb : TypeId} (h : fn.results = #[.cell p ty, .cell r tb]) (tmps : Array Value) (w : World) (g k : Nat) (v1 v2 : Value)
  (hp : tmps.getD p undef = .pointer (some ⟨g, 0, none⟩)) (hr : tmps.getD r undef = .pointer (some ⟨k, 0, none⟩)) (h1 : (loadVar ty ⟨g, 0, none⟩).run P w = .ok v1 w) (h2 : (loadVar tb ⟨k, 0, none⟩).run P w = .ok v2 w) :
  (results fn tmps).run P w = .ok (.tuple #[v1, v2]) w := by
 have hp' : tmps[p]?.getD undef = .pointer (some ⟨g, 0, none⟩) := by simpa using hp
 have hr' : tmps[r]?.getD undef = .pointer (some ⟨k, 0, none⟩) := by simpa using hr
 simp [results, h, hp', hr', asAddr, h1, h2, Result.andThen]
theorem load_bool {w : World} {k : Nat} {b : Bool} (h : At w k #[.bool b] 4) : (loadVar 4 ⟨k, 0, none⟩).run Tryz.prog w = .ok (.bool b) w := by
 have c : w.cell? ⟨k, 0, none⟩ = some (.bool b) := h.cell 0
 simp [go_sem, c]
theorem results_row_tmp {P : Program} {fn : Func} {p u : Tmp} {ty : TypeId} (h : fn.results = #[.cell p ty, .tmp u]) (tmps : Array Value) (w : World) (g : Nat) (cs : Array Value)
  (hp : tmps.getD p undef = .pointer (some ⟨g, 0, none⟩)) (hl : (loadVar ty ⟨g, 0, none⟩).run P w = .ok (.agg cs) w) :
  (results fn tmps).run P w = .ok (.tuple #[.agg cs, tmps.getD u undef]) w := by
 have hp' : tmps[p]?.getD undef = .pointer (some ⟨g, 0, none⟩) := by simpa using hp
 rw [results_cell_tmp h]
 simp [hp', asAddr, hl, Result.andThen]
end Go.Proofs.YtojhakjkfkmklaaGreatDoor
namespace Go.Proofs.YtojhakjkfkmklaaGreatDoor
open Go.RowKit
set_option linter.unusedVariables false
theorem ext_list (t : ByteArray) (a b : Nat) : (t.extract a b).data.toList = (t.data.toList.drop a).take (b - a) := by
 simp [ByteArray.data_extract, Array.toList_extract, List.extract]
end Go.Proofs.YtojhakjkfkmklaaGreatDoor
