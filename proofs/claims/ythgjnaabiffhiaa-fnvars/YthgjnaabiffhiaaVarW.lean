/- The core of the law FnVars. -/
import Derived.Test.YthgjnaabiffhiaaDrC
import Derived.Test.YthgjnaabiffhiaaVar2
import Derived.Test.YthgjnaabiffhiaaRvi
import Derived.Test.YthgjnaabiffhiaaAbv
namespace Go.Proofs.Ythgjnaabiffhiaa
open Go.RowKit

theorem ret_bool {b : Bool} (h : b = true) : Ending.returned (.bool b) = .returned (.bool true) := by rw [h]

set_option maxRecDepth 100000 in
set_option maxHeartbeats 4000000 in
theorem fnVars_core (a0 : Option Addr) (len cap : Nat) (w : World) (hc : Code a0 len w.heap.size w) :
    Calls Try.prog 3 #[.slice a0 len cap] w fun e w' => e = .returned (.bool true) ∧ Below w.heap.size w w' := by
  by_cases hb : 1048576 < len
  · have d : decide (1048576 < len) = true := by simpa using hb
    go_enter Try.func3, Try.ntmps3
    go_wp2_with (go_at_call 8; refine (big_any _ _ _ _).mono ?_; rintro e w' ⟨rfl, rfl⟩)
    go_ret
    exact ⟨rfl, Below.refl _ _⟩
  · have d : decide (1048576 < len) = false := by simpa using hb
    have hl : len ≤ 1048576 := by omega
    go_enter Try.func3, Try.ntmps3
    go_wp2_with (first | (go_at_call 8; refine (big_any _ _ _ _).mono ?_; rintro e w' ⟨rfl, rfl⟩) | (go_at_call 9; refine (drawVarOf _ _ _ _ hl hc).mono ?_; rintro e w1 ⟨n, rfl, hb1⟩; have HB1 : Hid _ := hb1; have hc1 := hc.below hb1; clear hb1) | (go_at_call 10; refine (varI _ _).mono ?_; rintro e w2 ⟨rfl, hb2⟩; have HB2 : Hid _ := HB1.out.trans (hb2.mono HB1.out.size); have hc2 := hc1.below hb2; clear hb2) | (go_at_call 11; refine (drawReadVar _ _ _ _ hl hc2).mono ?_; rintro e w3 ⟨t, a, rfl, ht, ha0, ha1, hb3⟩; have HB3 : Hid _ := HB2.out.trans (hb3.mono HB2.out.size); obtain ⟨X, K, hq⟩ : ∃ X K : Int, Hid (((rdAt t a).1 : Int) = X ∧ ((rdAt t a).2 : Int) = K) := ⟨_, _, rfl, rfl⟩; clear hb3) | (go_at_call 12; refine (readI t a (by omega) _).mono ?_; rw [hq.out.1, hq.out.2]; rintro e w4 ⟨rfl, rfl⟩) | (go_at_call 13; refine (readS t a (by omega) _).mono ?_; rw [hq.out.1, hq.out.2]; rintro e w4 ⟨rfl, rfl⟩))
    have hK0 : 0 ≤ K := by rw [← hq.out.2]; omega
    by_cases hk : 0 < K
    · obtain ⟨p0, p1, p2⟩ := rdAt_yes (t := t) (a := a) (by have := hq.out.2; omega)
      rw [hq.out.2] at p1
      have HV : Hid (vof X = t.extract a.toNat (a + K).toNat) := (by show _ = _; rw [← hq.out.1, p2]; congr 1; have := hq.out.2; omega)
      clear p2
      have HI : Hid (∀ v : World, Calls Try.prog 10 #[.int .i64 X] v fun e w' => e = .returned (.string (t.extract a.toNat (a + K).toNat)) ∧ Below v.heap.size v w') := (by intro v; rw [← HV.out]; exact varI _ _)
      refine wp_region_abv (fun v => Below w'.heap.size w' v) (by kernel_rfl) (by kernel_rfl) (drew_below HB3.out) ?_
      have hne : Nonempty (Abv (fun v => Below w'.heap.size w' v)) := abv_ne (Below.refl _ _)
      repeat (go_big_quiet_step ((first | (go_at_call 14; exact abv_call _ (varS _ _)) | (go_at_call 10; exact abv_call _ (HI.out _)))))
      refine wpQuiet_nil ?_
      rintro w5 ⟨⟨w5, hb5⟩, rfl⟩
      clear hne HI HV HB3 hq
      by_cases hn : 0 ≤ n ∧ n ≤ 4294967295
      · have HB : Hid (rdAt (⟨#[120]⟩ ++ vof n ++ ⟨#[255]⟩) 1 = (n.toNat, (vof n).size)) := rdAt_back hn 120 255
        have HN : Hid (((n.toNat : Nat) : Int) = n) := (by show _ = _; omega)
        have hv := vof_size n
        go_wp2_with (go_at_call 12; refine (readI _ 1 (by rw [ByteArray.size_append', ByteArray.size_append', show (ByteArray.mk #[120]).size = 1 from rfl, show (ByteArray.mk #[255]).size = 1 from rfl]; omega) _).mono ?_; rw [HB.out, HN.out]; rintro e w6 ⟨rfl, rfl⟩)
        all_goals first | omega | (go_ret; exact ⟨ret_bool (by first | rfl | simp), hb5⟩) | trace_state
      · have HE : Hid (vof n = ⟨#[]⟩) := (by show _ = _; unfold vof; rw [if_neg hn])
        have hv := vof_size n
        have he : (vof n).toList.isEmpty = true := (by rw [HE.out]; decide +kernel)
        go_wp2_with (go_at_call 12; refine (readI _ 1 (by rw [ByteArray.size_append', ByteArray.size_append', show (ByteArray.mk #[120]).size = 1 from rfl, show (ByteArray.mk #[255]).size = 1 from rfl]; omega) _).mono ?_; rintro e w6 ⟨rfl, rfl⟩)
        all_goals first | omega | (go_ret; exact ⟨ret_bool (by first | rfl | simp), hb5⟩) | trace_state
    · have hd : decide (0 < K) = false := by simpa using hk
      refine wp_region_abv (fun v => Below w'.heap.size w' v) (by kernel_rfl) (by kernel_rfl) (drew_below HB3.out) ?_
      have hne : Nonempty (Abv (fun v => Below w'.heap.size w' v)) := abv_ne (Below.refl _ _)
      repeat (go_big_quiet_step ((first | (go_at_call 14; exact abv_call _ (varS _ _)))))
      refine wpQuiet_nil ?_
      rintro w5 ⟨⟨w5, hb5⟩, rfl⟩
      clear hne HB3 hq
      by_cases hn : 0 ≤ n ∧ n ≤ 4294967295
      · have HB : Hid (rdAt (⟨#[120]⟩ ++ vof n ++ ⟨#[255]⟩) 1 = (n.toNat, (vof n).size)) := rdAt_back hn 120 255
        have HN : Hid (((n.toNat : Nat) : Int) = n) := (by show _ = _; omega)
        have hv := vof_size n
        go_wp2_with (go_at_call 12; refine (readI _ 1 (by rw [ByteArray.size_append', ByteArray.size_append', show (ByteArray.mk #[120]).size = 1 from rfl, show (ByteArray.mk #[255]).size = 1 from rfl]; omega) _).mono ?_; rw [HB.out, HN.out]; rintro e w6 ⟨rfl, rfl⟩)
        all_goals first | omega | (go_ret; exact ⟨ret_bool (by first | rfl | simp), hb5⟩) | trace_state
      · have HE : Hid (vof n = ⟨#[]⟩) := (by show _ = _; unfold vof; rw [if_neg hn])
        have hv := vof_size n
        have he : (vof n).toList.isEmpty = true := (by rw [HE.out]; decide +kernel)
        go_wp2_with (go_at_call 12; refine (readI _ 1 (by rw [ByteArray.size_append', ByteArray.size_append', show (ByteArray.mk #[120]).size = 1 from rfl, show (ByteArray.mk #[255]).size = 1 from rfl]; omega) _).mono ?_; rintro e w6 ⟨rfl, rfl⟩)
        all_goals first | omega | (go_ret; exact ⟨ret_bool (by first | rfl | simp), hb5⟩) | trace_state
end Go.Proofs.Ythgjnaabiffhiaa
