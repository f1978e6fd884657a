/- Bytes of which one bit is turned: the law. -/
import Derived.Test.YtojhakjkfkmklaaGreatDoorObCQ
import Derived.Test.YtojhakjkfkmklaaGreatDoorObB
import Derived.Test.YtojhakjkfkmklaaGreatDoorMbH
import Derived.Deep.RegionWith
import Derived.BigRegion
namespace Go.Proofs.YtojhakjkfkmklaaGreatDoor
open Go.RowKit Go.Deep
set_option linter.unusedVariables false
set_option linter.unusedSimpArgs false
theorem str_split (s : ByteArray) (i : Nat) (b : UInt8) : (s.extract 0 i ++ ⟨#[b]⟩ ++ s.extract (i + 1) s.size).data.toList = s.data.toList.take i ++ b :: s.data.toList.drop (i + 1) := by
  simp [ByteArray.data_append, ByteArray.data_extract, Array.toList_extract, List.extract]
  rw [List.take_of_length_le (by simp)]
theorem pow_small {k : Nat} (h : k < 8) : 2 ^ k < 256 := by
  have h1 : 2 ^ k ≤ 2 ^ 7 := Nat.pow_le_pow_right (by omega) (by omega)
  omega
theorem xor_bit {x m : Nat} (hm : 0 < m) : x ^^^ m ≠ x := by
  intro h
  have := xor_cancel (a := m) (b := 0) (p := x) (by rw [Nat.xor_comm, h]; simp)
  omega
theorem conv_at (V : World) (b : Nat) (z : Int) (h : V.cell? ⟨b, 0, none⟩ = some (.int .u8 z)) : (convert 22 9 (.slice (some ⟨b, 0, none⟩) 1 1)).run Tryz.prog V = .ok (.string ⟨#[UInt8.ofNat z.toNat]⟩) V := by
  rw [run_convert_bytes_string _ _ _ 5 _ 1 1 Tryz.underlying22 Tryz.underlying5 Tryz.underlying9]
  have hl := run_loadCells_list (P := Tryz.prog) V ⟨b, 0, none⟩ ([z].map (Value.int .u8)) (fun j x hj => by
    rcases j with _ | j
    · simp at hj; subst hj; simpa [Addr.add] using h
    · simp at hj)
  rw [run_bytesToString _ _ 1 1 [z] hl]
  rfl
theorem modT_no {l : List FuncD} (h : ¬ modB l = true) : modT l = ⟨#[]⟩ := by unfold modT; rw [if_neg h]
theorem modT_yes {l : List FuncD} (h : modB l = true) : ∃ body : ByteArray, (modT l).data.toList = body.data.toList ++ sum4 (crcOf body.data.toList) ∧ 4 ≤ (modT l).size ∧ (modT l).size ≤ 20000 := by
  have e : modT l = vb ssa1 (modM l) ++ sumT (vb ssa1 (modM l)) := by unfold modT; rw [if_pos h]
  have h1 := vb_size (modM l) ssa1
  have h2 := modM_len h
  have h3 : ssa1.size = 4 := rfl
  refine ⟨vb ssa1 (modM l), by rw [e, ByteArray.data_append, Array.toList_append, sumT_list], ?_, ?_⟩
  · rw [e, ByteArray.size_append', sumT_size]; omega
  · rw [e, ByteArray.size_append', sumT_size]; omega
set_option maxRecDepth 100000 in
set_option maxHeartbeats 4000000 in
theorem fnOneBit_core (a : Addr) (a0 : Option Addr) (len cap : Nat) (w : World) (hc : Code a0 len w.heap.size w) (hv : Gv w 0 (errV a)) :
    Calls Tryz.prog 4 #[.slice a0 len cap] w fun e w' => e = .returned (.bool true) ∧ Below w.heap.size w w' := by
  by_cases hl : 1048576 < len
  · have hb : decide (1048576 < len) = true := by simpa using hl
    go_enter Tryz.func4, Tryz.ntmps4
    go_wp2_with fail
    refine (big_any a0 len cap w).mono ?_
    rintro e w1 ⟨rfl, h9⟩
    have h8 := h9.symm
    clear h9
    subst h8
    rw [hb]
    go_wp2_with fail
    go_ret
    exact ⟨rfl, Below.refl _ _⟩
  have hb : decide (1048576 < len) = false := by simpa using hl
  have hl2 : len ≤ 1048576 := by omega
  have D1 := drawModule a0 len cap w hl2 hc
  have HV : Hid (Gv w 0 (errV a)) := hv
  clear hc hl hv
  go_enter Tryz.func4, Tryz.ntmps4
  go_wp2_with fail
  refine (big_any a0 len cap w).mono ?_
  rintro e w1 ⟨rfl, h9⟩
  have h8 := h9.symm
  clear h9
  subst h8
  rw [hb]
  clear hb
  go_wp2_with fail
  refine D1.mono ?_
  rintro e w2 ⟨l, u, c, rfl, hsm, hfa, b2⟩
  have k2 : Below w2.heap.size w2 (w2.alloc (.cells #[.slice u l.length c] 26)) := (Below.refl _ _).alloc (Nat.le_refl _) _
  have Q3 : Hid (At (w2.alloc (.cells #[.slice u l.length c] 26)) w2.heap.size #[.slice u l.length c] 26) := At.new _ _ _
  have B3 : Hid (Below w.heap.size w (w2.alloc (.cells #[.slice u l.length c] 26))) := b2.trans (k2.mono b2.size)
  have K3 : Hid (FuncsAt (w2.alloc (.cells #[.slice u l.length c] 26)) w.heap.size u l) := hfa.keep (agree_of_below k2 _)
  have Hsm : Hid (SmMod l) := hsm
  clear D1 b2 k2 hfa hsm
  obtain ⟨W3, hW3⟩ : ∃ W, w2.alloc (.cells #[.slice u l.length c] 26) = W := ⟨_, rfl⟩
  rw [hW3] at Q3 B3 K3
  have x0 : W3.cell? ⟨w2.heap.size, 0, none⟩ = some (.slice u l.length c) := Q3.out.cell 0
  have MI := modBytesI w.heap.size l u c W3 Hsm.out K3.out
  obtain ⟨s, HS⟩ : ∃ s, Hid (modT l = s) := ⟨_, rfl⟩
  rw [HS.out] at MI
  go_wp2_with fail
  try rw [hW3]
  clear hW3 x0
  refine MI.mono ?_
  rintro e w4 ⟨rfl, b4⟩
  have Q4 : Hid (At w4 w2.heap.size #[.slice u l.length c] 26) := Q3.out.below b4
  have B4 : Hid (Below w.heap.size w w4) := B3.out.trans (b4.mono B3.out.size)
  have K4 : Hid (FuncsAt w4 w.heap.size u l) := K3.out.keep (agree_of_below b4 _)
  clear MI Q3 B3 K3 b4
  have x0 : w4.cell? ⟨w2.heap.size, 0, none⟩ = some (.slice u l.length c) := Q4.out.cell 0
  have MS := modBytesS w.heap.size l u c w4 Hsm.out K4.out
  rw [HS.out] at MS
  by_cases hm : modB l = true
  rotate_left
  · obtain rfl : s = ⟨#[]⟩ := HS.out.symm.trans (modT_no hm)
    go_wp2_with fail
    refine MS.mono ?_
    rintro e w5 ⟨rfl, b5⟩
    have Q5 := Q4.out.below b5
    have x1 : w5.cell? ⟨w2.heap.size, 0, none⟩ = some (.slice u l.length c) := Q5.cell 0
    have MS2 := modBytesS w.heap.size l u c w5 Hsm.out (K4.out.keep (agree_of_below b5 _))
    rw [HS.out] at MS2
    have HB5 : Hid (Below w.heap.size w w5) := B4.out.trans (b5.mono B4.out.size)
    clear MS x0 Q5 b5
    go_wp2_with fail
    refine MS2.mono ?_
    rintro e w6 ⟨rfl, b6⟩
    go_wp2_with fail
    go_ret
    exact ⟨rfl, HB5.out.trans (b6.mono HB5.out.size)⟩
  obtain ⟨body, hbd, hs4, hs2⟩ := modT_yes hm
  rw [HS.out] at hbd hs4 hs2
  have HBD : Hid (s.data.toList = body.data.toList ++ sum4 (crcOf body.data.toList)) := hbd
  have hse2 : ¬ (s = (⟨#[]⟩ : ByteArray)) := by
    intro e
    rw [e] at hs4
    exact absurd hs4 (by decide)
  have hse4 : s.toList ≠ [] := by
    intro e
    rw [ByteArray.toList_eq] at e
    exact hse2 (ByteArray.ext (Array.toList_inj.1 (by rw [e])))
  have hse : (s.toList == (⟨#[]⟩ : ByteArray).toList) = false := str_neq hse2
  have hse3 : (s.toList == []) = false := by simpa using hse4
  have hse5 : s.toList.isEmpty = false := by simpa using hse4
  clear hbd
  go_wp2_with fail
  refine MS.mono ?_
  rintro e w5 ⟨rfl, b5⟩
  have HB5 : Hid (Below w.heap.size w w5) := B4.out.trans (b5.mono B4.out.size)
  clear MS x0 b5 B4 K4 Q4 HS
  go_wp2_with fail
  clear hse hse2 hse3 hse4 hse5
  go_loopw [5] (fun i wr => ∃ k : Nat, k ≤ s.size ∧ i = .int .i64 k ∧ Hid (Below w.heap.size w wr)) (fun i _ => s.size - (numOf i).toNat)
  case atStart => exact ⟨0, by omega, rfl, HB5.out⟩
  case round =>
    obtain ⟨i, hi, rfl, HB⟩ := hrel
    by_cases hlt : i < s.size
    · obtain ⟨x, HX⟩ : ∃ x : Int, Hid ((((s[i]'hlt).toNat : Nat) : Int) = x) := ⟨_, rfl⟩
      have hx0 : 0 ≤ x := by have := HX.out; omega
      have hx1 : x < 256 := by have := HX.out; have := (s[i]'hlt).toNat_lt; omega
      have hi1 : (i : Int) < (s.size : Int) := by omega
      have e0 : (((s[i]'hlt).toNat : Nat) : Int) = x := HX.out
      have e1 : IntKind.i64.wrap ((i : Int) + 1) = (i : Int) + 1 := by rw [IntKind.wrap_i64]; omega
      obtain ⟨kk, hkk⟩ : ∃ kk : Nat, (len + i) % 8 = kk := ⟨_, rfl⟩
      have hk8 : kk < 8 := by omega
      have ek : ((len : Int) + (i : Int)) % 8 = (kk : Int) := by omega
      clear hkk
      obtain ⟨m, HM⟩ : ∃ m : Nat, Hid (m = 2 ^ kk ∧ 0 < m ∧ m < 256) := ⟨2 ^ kk, rfl, Nat.pos_of_ne_zero (by simp), pow_small hk8⟩
      obtain ⟨z, HZ⟩ : ∃ z : Int, Hid (z = m) := ⟨_, rfl⟩
      have e2 : IntKind.u8.wrap (2 ^ min kk 8) = z := by
        rw [HZ.out, IntKind.wrap_u8', Nat.min_eq_left (by omega)]
        have h1 := HM.out
        rw [show ((2 : Int) ^ kk) = ((2 ^ kk : Nat) : Int) by simp, ← h1.1]
        omega
      have e3 : IntKind.u8.wrap (2 ^ kk) = z := by rw [Nat.min_eq_left (by omega)] at e2; exact e2
      obtain ⟨y, hy⟩ : ∃ y : Int, bits .xor .u8 x z = y := ⟨_, rfl⟩
      have hcv : ∀ (v : World), (convert 22 9 (.slice (some ⟨v.heap.size, 0, none⟩) 1 1)).run Tryz.prog (v.alloc (.cells #[.int .u8 y] 5)).drew = .ok (.string ⟨#[UInt8.ofNat y.toNat]⟩) (v.alloc (.cells #[.int .u8 y] 5)).drew := fun v => conv_one v.drew y
      have hcv2 : ∀ (v : World) (o : Obj), (convert 22 9 (.slice (some ⟨v.heap.size, 0, none⟩) 1 1)).run Tryz.prog ((v.alloc (.cells #[.int .u8 y] 5)).alloc o).drew = .ok (.string ⟨#[UInt8.ofNat y.toNat]⟩) ((v.alloc (.cells #[.int .u8 y] 5)).alloc o).drew := fun v o => conv_at _ _ y ((cell_of_heap (show ((v.alloc (.cells #[.int .u8 y] 5)).alloc o).heap[v.heap.size]? = some (.cells #[.int .u8 y] 5 (0, 0)) from heap_alloc2_old _ _ _)).trans rfl)
      have hcv3 : ∀ (v : World) (o : Obj), (convert 22 9 (.slice (some ⟨v.heap.size + 1, 0, none⟩) 1 1)).run Tryz.prog ((v.alloc o).alloc (.cells #[.int .u8 y] 5)).drew = .ok (.string ⟨#[UInt8.ofNat y.toNat]⟩) ((v.alloc o).alloc (.cells #[.int .u8 y] 5)).drew := fun v o => conv_at _ _ y ((cell_of_heap (show ((v.alloc o).alloc (.cells #[.int .u8 y] 5)).heap[v.heap.size + 1]? = some (.cells #[.int .u8 y] 5 (0, 0)) from heap_alloc2_new _ _ _)).trans rfl)
      have hwz : w.heap.size ≤ wr.heap.size := HB.out.size
      have hs1 : ∀ v : World, (Instr.slice 9 (.string s) none (some (.int .i64 (i : Int))) none).run Tryz.prog v = .ok (.string (s.extract 0 i)) v := fun v => by
        rw [run_slice_string_to_if (h := Tryz.underlying9), if_pos (by omega)]; rfl
      have hs2' : ∀ v : World, (Instr.slice 9 (.string s) (some (.int .i64 ((i : Int) + 1))) none none).run Tryz.prog v = .ok (.string (s.extract (i + 1) s.size)) v := fun v => by
        rw [run_slice_string_from_if (h := Tryz.underlying9), if_pos (by omega)]; rfl
      have hix : ∀ v : World, (Instr.index 9 (.string s) (.int .i64 (i : Int))).run Tryz.prog v = .ok (.int .u8 x) v := fun v => by
        rw [run_index_string (h := Tryz.underlying9), dif_pos (by omega)]; exact congrArg (fun q => Result.ok (Value.int .u8 q) v) e0
      obtain ⟨t1, HT1⟩ : ∃ t1 : ByteArray, Hid (s.extract 0 i ++ ⟨#[UInt8.ofNat y.toNat]⟩ = t1) := ⟨_, rfl⟩
      obtain ⟨t2, HT2⟩ : ∃ t2 : ByteArray, Hid (t1 ++ s.extract (i + 1) s.size = t2) := ⟨_, rfl⟩
      have z1 : t1.size ≤ 30000 := by rw [← HT1.out, ByteArray.size_append', show (ByteArray.mk #[UInt8.ofNat y.toNat]).size = 1 from rfl, ByteArray.size_extract]; omega
      have ha1 : ∀ v : World, (Op.stringOp .add (s.extract 0 i) ⟨#[UInt8.ofNat y.toNat]⟩).run Tryz.prog v = .ok (.string t1) v := fun v => by
        rw [run_string_add_sum v _ _ (by rw [ByteArray.size_extract, show (ByteArray.mk #[UInt8.ofNat y.toNat]).size = 1 from rfl]; omega), HT1.out]
      have ha2 : ∀ v : World, (Op.stringOp .add t1 (s.extract (i + 1) s.size)).run Tryz.prog v = .ok (.string t2) v := fun v => by
        rw [run_string_add_sum v _ _ (by rw [ByteArray.size_extract]; omega), HT2.out]
      have hbad : BadB t2 := by
        have h1 := HM.out
        have hxx := HX.out
        have e5 : bits .xor .u8 x z = (((s[i]'hlt).toNat ^^^ m : Nat) : Int) := by rw [HZ.out, ← hxx]; exact u8_xor_nat _ _ (s[i]'hlt).toNat_lt h1.2.2
        have hlt8 : (s[i]'hlt).toNat ^^^ m < 256 := Nat.xor_lt_two_pow (n := 8) (s[i]'hlt).toNat_lt h1.2.2
        have hbne : UInt8.ofNat y.toNat ≠ s[i]'hlt := by
          intro he
          have h6 := congrArg UInt8.toNat he
          rw [← hy, e5, show (((s[i]'hlt).toNat ^^^ m : Nat) : Int).toNat = (s[i]'hlt).toNat ^^^ m from rfl, u8_nat hlt8] at h6
          exact xor_bit h1.2.1 h6
        refine flip_bad (i := i) (b := UInt8.ofNat y.toNat) HBD.out (by simpa using hlt) ?_ ?_
        · exact hbne
        · rw [← HT2.out, ← HT1.out]; exact str_split s i _
      have HBad : Hid (BadB t2) := hbad
      clear hbad
      go_upto_region 11 with fail
      go_region_with (go_at_call 9; refine (readBad a t2 _ HBad.out (HV.out.keep (by repeat (first | exact HB.out | refine Below.alloc ?_ (by first | omega | (simp; done) | (simp; omega)) _ | refine drew_below ?_)))).mono ?_; rintro e w7 ⟨rfl, b7⟩; have hz7 := b7.size; (try simp at hz7); have hcc := bcell b7; have hff := bfroz b7)
      all_goals
        clear hcc hff
        go_wp2_with fail
        refine ⟨⟨i + 1, by omega, by first | rfl | go_num, ?_⟩, by simp only [numOf]; omega⟩
        show Below w.heap.size w _
        repeat (first | exact HB.out | refine Below.setCell ?_ (by dsimp only; omega) _ | refine Below.alloc ?_ (by first | omega | (simp; done) | (simp; omega)) _ | refine drew_below ?_ | refine Below.trans ?_ (b7.mono (by first | omega | (simp; done) | (simp; omega))))
    · go_wp2_with fail
      go_ret
      exact ⟨rfl, HB.out⟩
end Go.Proofs.YtojhakjkfkmklaaGreatDoor
