import Derived.Test.YtkpmiikafconmaaGreatDoorMtAV
import Derived.Test.YtkpmiikafconmaaGreatDoorFmC2V
import Derived.Test.YtkpmiikafconmaaGreatDoorRiAV
import Derived.Test.YtkpmiikafconmaaGreatDoorSzV
namespace Go.Proofs.YtkpmiikafconmaaGreatDoor
open Go.RowKit
set_option linter.unusedVariables false
set_option linter.unusedSimpArgs false
theorem decZ (x : Int) (w : World) (h : ∃ n : Nat, x = n ∧ n ≤ 4294967295) : Calls Tryz.prog 51 #[.int .i64 x] w fun e w' => e = .returned (.string (bs (Lib.itoa x))) ∧ Below w.heap.size w w' := by
 obtain ⟨n, rfl, hn⟩ := h
 exact decS n w hn
theorem dec_gives (a : Int) (W : World) (h : ∃ n : Nat, a = n ∧ n ≤ 4294967295) (x : Abv (fun v => Below W.heap.size W v)) : Calls Tryz.prog 51 #[.int .i64 a] x.v fun e w'' => e = .returned (.string (bs (Lib.itoa a))) ∧ ∃ y : Abv (fun v => Below W.heap.size W v), w'' = y.v := abv_call x (decZ a x.v h)
theorem nums_gives (lo : Nat) (a : Option Addr) (c : Nat) (l : List Int) (W : World) (hl : l.length ≤ 20) (hs : SmN l) (hk : IntsAt W lo a l) (x : Abv (fun v => Below W.heap.size W v)) : Calls Tryz.prog 52 #[.slice a l.length c] x.v fun e w'' => e = .returned (.string (bs (numsL l))) ∧ ∃ y : Abv (fun v => Below W.heap.size W v), w'' = y.v :=
 abv_call x (numsS lo a c l x.v (hk.keep (agree_of_below x.ok lo)) hl hs)
def trmT (t : TermD) : List UInt8 := tmWL.getD t.kind.toNat [] ++ numsL (termNs t)
theorem trmT_len {t : TermD} (h : TmOk t) : (trmT t).length ≤ 60 := by
 have h1 := tmWL_len t.kind.toNat
 have h2 := nums_len (termNs t) h.nums
 have h3 := termNs_len t
 unfold trmT
 rw [List.length_append]; omega
theorem itoa_sz {x : Int} (h : ∃ n : Nat, x = n ∧ n ≤ 4294967295) : (bs (Lib.itoa x)).size ≤ 10 := by rw [bs_size]; exact itoa_len h
set_option maxHeartbeats 2000000 in
theorem l5term_1 (t : TermD) (w : World) (h : TmOk t) (hk : t.kind = 1) :
  Calls Tryz.prog 54 #[.agg #[.int .i64 t.kind, .int .i64 t.a, .int .i64 t.x, .int .i64 t.y]] w fun e w' => e = .returned (.string (bs (trmT t))) ∧ Below w.heap.size w w' := by
 have HE : Hid ((⟨#[114, 101, 116, 32]⟩ : ByteArray) ++ bs (Lib.itoa t.a) = bs (trmT t)) := by
  show _ = _
  have e : trmT t = [114, 101, 116, 32] ++ Lib.itoa t.a := by unfold trmT termNs; rw [hk]; simp [tmWL, numsL]
  rw [e]
  simp [bs, ByteArray.mk_append_mk]
 generalize bs (trmT t) = R at HE ⊢
 have A0 := At.new w #[.int .i64 1, .int .i64 t.a, .int .i64 t.x, .int .i64 t.y] 72
 have B0 : Below w.heap.size w (w.alloc (.cells #[.int .i64 1, .int .i64 t.a, .int .i64 t.x, .int .i64 t.y] 72)) := (Below.refl _ _).alloc (Nat.le_refl _) _
 rw [hk]
 have qa := itoa_sz h.a
 have hT : Hid (TmOk t) := h
 clear h hk
 go_enter Tryz.func54, Tryz.ntmps54
 go_wp2_with fail
 generalize w.alloc (.cells #[.int .i64 1, .int .i64 t.a, .int .i64 t.x, .int .i64 t.y] 72) = W at A0 B0 ⊢
 refine (decZ t.a _ hT.out.a).mono ?_
 rintro e w1 ⟨rfl, b1⟩
 generalize bs (Lib.itoa t.a) = A at HE qa ⊢
 have z1 : ((⟨#[114, 101, 116, 32]⟩ : ByteArray) ++ A).size ≤ 40 := by rw [ByteArray.size_append]; have : (⟨#[114, 101, 116, 32]⟩ : ByteArray).size = 4 := rfl; omega
 go_wp2_with fail
 go_ret
 exact ⟨by rw [← HE.out]; rfl, B0.trans (b1.mono B0.size)⟩
set_option maxHeartbeats 2000000 in
theorem l5term_2 (t : TermD) (w : World) (h : TmOk t) (hk : t.kind = 2) :
  Calls Tryz.prog 54 #[.agg #[.int .i64 t.kind, .int .i64 t.a, .int .i64 t.x, .int .i64 t.y]] w fun e w' => e = .returned (.string (bs (trmT t))) ∧ Below w.heap.size w w' := by
 have HE : Hid ((⟨#[106, 117, 109, 112, 32]⟩ : ByteArray) ++ bs (Lib.itoa t.x) = bs (trmT t)) := by
  show _ = _
  have e : trmT t = [106, 117, 109, 112, 32] ++ Lib.itoa t.x := by unfold trmT termNs; rw [hk]; simp [tmWL, numsL]
  rw [e]
  simp [bs, ByteArray.mk_append_mk]
 generalize bs (trmT t) = R at HE ⊢
 have A0 := At.new w #[.int .i64 2, .int .i64 t.a, .int .i64 t.x, .int .i64 t.y] 72
 have B0 : Below w.heap.size w (w.alloc (.cells #[.int .i64 2, .int .i64 t.a, .int .i64 t.x, .int .i64 t.y] 72)) := (Below.refl _ _).alloc (Nat.le_refl _) _
 rw [hk]
 have qx := itoa_sz h.x
 have hT : Hid (TmOk t) := h
 clear h hk
 go_enter Tryz.func54, Tryz.ntmps54
 go_wp2_with fail
 generalize w.alloc (.cells #[.int .i64 2, .int .i64 t.a, .int .i64 t.x, .int .i64 t.y] 72) = W at A0 B0 ⊢
 refine (decZ t.x _ hT.out.x).mono ?_
 rintro e w1 ⟨rfl, b1⟩
 generalize bs (Lib.itoa t.x) = A at HE qx ⊢
 have z1 : ((⟨#[106, 117, 109, 112, 32]⟩ : ByteArray) ++ A).size ≤ 40 := by rw [ByteArray.size_append]; have : (⟨#[106, 117, 109, 112, 32]⟩ : ByteArray).size = 5 := rfl; omega
 go_wp2_with fail
 go_ret
 exact ⟨by rw [← HE.out]; rfl, B0.trans (b1.mono B0.size)⟩
set_option maxHeartbeats 2000000 in
theorem l5term_3 (t : TermD) (w : World) (h : TmOk t) (hk : t.kind = 3) :
  Calls Tryz.prog 54 #[.agg #[.int .i64 t.kind, .int .i64 t.a, .int .i64 t.x, .int .i64 t.y]] w fun e w' => e = .returned (.string (bs (trmT t))) ∧ Below w.heap.size w w' := by
 have HE : Hid ((⟨#[98, 114, 97, 110, 99, 104, 32]⟩ : ByteArray) ++ bs (Lib.itoa t.a) ++ (⟨#[32]⟩ : ByteArray) ++ bs (Lib.itoa t.x) ++ (⟨#[32]⟩ : ByteArray) ++ bs (Lib.itoa t.y) = bs (trmT t)) := by
  show _ = _
  have e : trmT t = [98, 114, 97, 110, 99, 104, 32] ++ Lib.itoa t.a ++ [32] ++ Lib.itoa t.x ++ [32] ++ Lib.itoa t.y := by unfold trmT termNs; rw [hk]; simp [tmWL, numsL]
  rw [e]
  simp [bs, ByteArray.mk_append_mk]
 generalize bs (trmT t) = R at HE ⊢
 have A0 := At.new w #[.int .i64 3, .int .i64 t.a, .int .i64 t.x, .int .i64 t.y] 72
 have B0 : Below w.heap.size w (w.alloc (.cells #[.int .i64 3, .int .i64 t.a, .int .i64 t.x, .int .i64 t.y] 72)) := (Below.refl _ _).alloc (Nat.le_refl _) _
 rw [hk]
 have qa := itoa_sz h.a
 have qx := itoa_sz h.x
 have qy := itoa_sz h.y
 have hT : Hid (TmOk t) := h
 clear h hk
 go_enter Tryz.func54, Tryz.ntmps54
 go_wp2_with fail
 generalize w.alloc (.cells #[.int .i64 3, .int .i64 t.a, .int .i64 t.x, .int .i64 t.y] 72) = W at A0 B0 ⊢
 have V0 := fun xx => dec_gives t.a W hT.out.a xx
 have V1 := fun xx => dec_gives t.x W hT.out.x xx
 have V2 := fun xx => dec_gives t.y W hT.out.y xx
 generalize bs (Lib.itoa t.a) = C0 at *
 generalize bs (Lib.itoa t.x) = C1 at *
 generalize bs (Lib.itoa t.y) = C2 at *
 have l0 : (⟨#[98, 114, 97, 110, 99, 104, 32]⟩ : ByteArray).size = 7 := rfl
 have l1 : (⟨#[32]⟩ : ByteArray).size = 1 := rfl
 have z0 : ((⟨#[98, 114, 97, 110, 99, 104, 32]⟩ : ByteArray) ++ C0).size ≤ 100 := by rw [ByteArray.size_append]; omega
 have z1 : ((⟨#[98, 114, 97, 110, 99, 104, 32]⟩ : ByteArray) ++ C0 ++ (⟨#[32]⟩ : ByteArray)).size ≤ 200 := by rw [ByteArray.size_append]; omega
 have z2 : ((⟨#[98, 114, 97, 110, 99, 104, 32]⟩ : ByteArray) ++ C0 ++ (⟨#[32]⟩ : ByteArray) ++ C1).size ≤ 300 := by rw [ByteArray.size_append]; omega
 have z3 : ((⟨#[98, 114, 97, 110, 99, 104, 32]⟩ : ByteArray) ++ C0 ++ (⟨#[32]⟩ : ByteArray) ++ C1 ++ (⟨#[32]⟩ : ByteArray)).size ≤ 400 := by rw [ByteArray.size_append]; omega
 have z4 : ((⟨#[98, 114, 97, 110, 99, 104, 32]⟩ : ByteArray) ++ C0 ++ (⟨#[32]⟩ : ByteArray) ++ C1 ++ (⟨#[32]⟩ : ByteArray) ++ C2).size ≤ 500 := by rw [ByteArray.size_append]; omega
 have lf := A0.lt
 have hne : Nonempty (Abv (fun v => Below W.heap.size W v)) := abv_ne (Below.refl _ _)
 have t0 := fun xx : Abv (fun v => Below W.heap.size W v) => (show xx.v.cell? ⟨w.heap.size, 0, none⟩ = some (.int .i64 3) from (A0.below xx.ok).cell 0)
 have t1 := fun xx : Abv (fun v => Below W.heap.size W v) => (show xx.v.cell? ⟨w.heap.size, 1, none⟩ = some (.int .i64 t.a) from (A0.below xx.ok).cell 1)
 have t2 := fun xx : Abv (fun v => Below W.heap.size W v) => (show xx.v.cell? ⟨w.heap.size, 2, none⟩ = some (.int .i64 t.x) from (A0.below xx.ok).cell 2)
 have t3 := fun xx : Abv (fun v => Below W.heap.size W v) => (show xx.v.cell? ⟨w.heap.size, 3, none⟩ = some (.int .i64 t.y) from (A0.below xx.ok).cell 3)
 refine wp_region_abv (fun v => Below W.heap.size W v) (by kernel_rfl) (by kernel_rfl) (drew_below (Below.refl _ _)) ?_
 repeat (go_big_quiet_step (first | (go_at_call 51; first | with_reducible exact V0 _ | with_reducible exact V1 _ | with_reducible exact V2 _)))
 refine wpQuiet_nil ?_
 rintro w9 ⟨⟨w9, h9⟩, rfl⟩
 go_wp2_with fail
 go_ret
 exact ⟨by rw [← HE.out]; rfl, B0.trans (h9.mono B0.size)⟩
set_option maxHeartbeats 2000000 in
theorem l5term_4 (t : TermD) (w : World) (h : TmOk t) (hk : t.kind = 4) :
  Calls Tryz.prog 54 #[.agg #[.int .i64 t.kind, .int .i64 t.a, .int .i64 t.x, .int .i64 t.y]] w fun e w' => e = .returned (.string (bs (trmT t))) ∧ Below w.heap.size w w' := by
 have HE : Hid ((⟨#[116, 114, 97, 112]⟩ : ByteArray) = bs (trmT t)) := by
  show _ = _
  have e : trmT t = [116, 114, 97, 112] := by unfold trmT termNs; rw [hk]; simp [tmWL, numsL]
  rw [e]
  simp [bs, ByteArray.mk_append_mk]
 generalize bs (trmT t) = R at HE ⊢
 have A0 := At.new w #[.int .i64 4, .int .i64 t.a, .int .i64 t.x, .int .i64 t.y] 72
 have B0 : Below w.heap.size w (w.alloc (.cells #[.int .i64 4, .int .i64 t.a, .int .i64 t.x, .int .i64 t.y] 72)) := (Below.refl _ _).alloc (Nat.le_refl _) _
 rw [hk]
 have hT : Hid (TmOk t) := h
 clear h hk
 go_enter Tryz.func54, Tryz.ntmps54
 go_wp2_with fail
 go_ret
 exact ⟨by rw [← HE.out]; rfl, B0⟩
theorem l5termS (t : TermD) (w : World) (h : TmOk t) :
  Calls Tryz.prog 54 #[.agg #[.int .i64 t.kind, .int .i64 t.a, .int .i64 t.x, .int .i64 t.y]] w fun e w' => e = .returned (.string (bs (trmT t))) ∧ Below w.heap.size w w' := by
 rcases h.k with hk | hk | hk | hk
 ·exact l5term_1 t w h hk
 ·exact l5term_2 t w h hk
 ·exact l5term_3 t w h hk
 ·exact l5term_4 t w h hk
end Go.Proofs.YtkpmiikafconmaaGreatDoor
