/- Modules as bytes: the sum behind a text; the model's ModuleBytes. -/
import Derived.Test.YtiigibffeapjoaaMbC
import Derived.Test.YtiigibffeapjoaaCrc
namespace Go.Proofs.Ytiigibffeapjoaa
open Go.RowKit
set_option linter.unusedVariables false

theorem conv_four (v : World) (a b c d : Int) : (convert 68 9 (.slice (some ⟨v.heap.size, 0, none⟩) 4 4)).run Try.prog (v.alloc (.cells #[.int .u8 a, .int .u8 b, .int .u8 c, .int .u8 d] 5)) = .ok (.string ⟨#[UInt8.ofNat a.toNat, UInt8.ofNat b.toNat, UInt8.ofNat c.toNat, UInt8.ofNat d.toNat]⟩) (v.alloc (.cells #[.int .u8 a, .int .u8 b, .int .u8 c, .int .u8 d] 5)) := by
  rw [run_convert_bytes_string _ _ _ 5 _ 4 4 Try.underlying68 Try.underlying5 Try.underlying9]
  have hl := run_loadCells_list (P := Try.prog) (v.alloc (.cells #[.int .u8 a, .int .u8 b, .int .u8 c, .int .u8 d] 5)) ⟨v.heap.size, 0, none⟩ ([a, b, c, d].map (Value.int .u8)) (fun j x hj => by
    rcases j with _ | _ | _ | _ | j
    · simp at hj; subst hj; simp [Addr.add]
    · simp at hj; subst hj; simp [Addr.add]
    · simp at hj; subst hj; simp [Addr.add]
    · simp at hj; subst hj; simp [Addr.add]
    · simp at hj)
  rw [run_bytesToString _ _ 4 4 [a, b, c, d] hl]
  rfl
/-- The four bytes of a text's sum. -/
def sumT (s : ByteArray) : ByteArray := ⟨#[UInt8.ofNat ((crcOf s.data.toList : Int) / 16777216 % 256).toNat, UInt8.ofNat ((crcOf s.data.toList : Int) / 65536 % 256).toNat, UInt8.ofNat ((crcOf s.data.toList : Int) / 256 % 256).toNat, UInt8.ofNat ((crcOf s.data.toList : Int) % 256).toNat]⟩
theorem sumT_size (s : ByteArray) : (sumT s).size = 4 := rfl
set_option maxHeartbeats 2000000 in
set_option maxRecDepth 100000 in
theorem sumS (s : ByteArray) (hs : s.size ≤ 1048576) (w : World) :
    Calls Try.prog 12 #[.string s] w fun e w' => e = .returned (.string (sumT s)) ∧ Below w.heap.size w w' := by
  have C := crcS s hs w
  have hcv := conv_four w
  go_enter Try.func12, Try.ntmps12
  go_wp2_with fail
  refine C.mono ?_
  rintro e w1 ⟨rfl, h9⟩
  have h8 := h9.symm
  clear h9
  subst h8
  go_wp2_with fail
  go_ret
  exact ⟨rfl, (Below.refl _ _).alloc (Nat.le_refl _) _⟩
set_option maxHeartbeats 2000000 in
set_option maxRecDepth 100000 in
theorem sumI (s : ByteArray) (hs : s.size ≤ 1048576) (w : World) :
    Calls Try.prog 17 #[.string s] w fun e w' => e = .returned (.string (sumT s)) ∧ Below w.heap.size w w' := by
  have C := crcI s hs w
  have hcv := conv_four w
  go_enter Try.func17, Try.ntmps17
  go_wp2_with fail
  refine C.mono ?_
  rintro e w1 ⟨rfl, h9⟩
  have h8 := h9.symm
  clear h9
  subst h8
  go_wp2_with fail
  go_ret
  exact ⟨rfl, (Below.refl _ _).alloc (Nat.le_refl _) _⟩
def modT (l : List FuncD) : ByteArray := if modB l = true then vb ssa1 (modM l) ++ sumT (vb ssa1 (modM l)) else ⟨#[]⟩
set_option maxHeartbeats 2000000 in
set_option maxRecDepth 100000 in
theorem modBytesS (lo : Nat) (l : List FuncD) (u : Option Addr) (c : Nat) (w : World) (hs : SmMod l) (k0 : FuncsAt w lo u l) :
    Calls Try.prog 5 #[.agg #[.slice u l.length c]] w fun e w' => e = .returned (.string (modT l)) ∧ Below w.heap.size w w' := by
  have X0 := Box1.new w l.length u c 29
  have hB0 : Below w.heap.size w (w.alloc (.cells #[.slice u l.length c] 29)) := (Below.refl _ w).alloc (Nat.le_refl _) _
  go_enter Try.func5, Try.ntmps5
  go_wp2_with fail
  generalize (w.alloc (.cells #[.slice u l.length c] 29)) = W at X0 hB0 ⊢
  refine (modShS lo l u c W hs (k0.keep (agree_of_below hB0 lo))).mono ?_
  rintro e w1 ⟨rfl, b1⟩
  have X1 := X0.below b1
  have hB1 := hB0.trans (b1.mono hB0.size)
  clear X0 hB0 b1
  have y0 := X1.2
  cases hok : modB l with
  | false =>
    have E : Hid (modT l = ⟨#[]⟩) := by show _ = _; unfold modT; rw [hok]; rfl
    go_wp2_with fail
    go_ret
    exact ⟨by rw [E.out]; rfl, hB1⟩
  | true =>
    have E : Hid (modT l = vb ssa1 (modM l) ++ sumT (vb ssa1 (modM l))) := by show _ = _; unfold modT; rw [if_pos hok]
    have P := l6BodyS lo l u c w1 hs hok (k0.keep (agree_of_below hB1 lo))
    have hz := vb_bound (modM_len hok)
    generalize vb ssa1 (modM l) = T at E P hz
    have P2 := fun v => sumS T (by omega) v
    have h4 := sumT_size T
    generalize sumT T = U at E P2 h4
    clear hok
    go_wp2_with fail
    refine P.mono ?_
    rintro e w2 ⟨rfl, b2⟩
    have hB2 := hB1.trans (b2.mono hB1.size)
    clear P y0 b2
    go_wp2_with fail
    refine (P2 _).mono ?_
    rintro e w3 ⟨rfl, b3⟩
    have hB3 := hB2.trans (b3.mono hB2.size)
    clear P2 b3
    go_wp2_with fail
    go_ret
    exact ⟨by rw [E.out]; rfl, hB3⟩
end Go.Proofs.Ytiigibffeapjoaa
