/- The walk of the law FnPlaces, out of the contracts. -/
import Derived.Test.YtiflkkkggidhbaaDrF
import Derived.Test.YtiflkkkggidhbaaPlP
import Derived.Test.YtiflkkkggidhbaaAbv
import Derived.Test.YtiflkkkggidhbaaLawA
namespace Go.Proofs.Ytiflkkkggidhbaa
open Go.RowKit Go.Deep
set_option linter.unusedVariables false

set_option maxHeartbeats 4000000 in
set_option maxRecDepth 100000 in
theorem fnPlaces_core (a0 : Option Addr) (len cap : Nat) (w : World) (hc : Code a0 len w.heap.size w) :
    Calls Try.prog 3 #[.slice a0 len cap] w fun e w' => e = .returned (.bool true) ∧ Below w.heap.size w w' := by
  by_cases hb : 1048576 < len
  · have d : decide (1048576 < len) = true := by simpa using hb
    go_enter Try.func3, Try.ntmps3
    go_wp2_with (go_at_call 6; refine (big_any _ _ _ _).mono ?_; rintro e w' ⟨rfl, rfl⟩)
    go_ret
    exact ⟨rfl, Below.refl _ _⟩
  · have dd : decide (1048576 < len) = false := by simpa using hb
    have hl : len ≤ 1048576 := by omega
    have PD := drawPlaceOf a0 len cap w hl hc
    go_enter Try.func3, Try.ntmps3
    go_wp2_with (first | (go_at_call 6; refine (big_any _ _ _ _).mono ?_; rintro e w' ⟨rfl, rfl⟩) | (go_at_call 7; refine PD.mono ?_; rintro e w2 ⟨d, up, ub, cp, cb, n, rfl, hn1, hn2, hs, hone, hin, hbl, hB2⟩))
    have hx0 : Below (w2.heap.size + 1) (w2.alloc (.cells #[.slice up d.params.length cp, .int .i64 d.ret, .slice ub d.blocks.length cb] 27)) (w2.alloc (.cells #[.slice up d.params.length cp, .int .i64 d.ret, .slice ub d.blocks.length cb] 27)) := Below.refl _ _
    have Hk := hbl.keep (agree_of_below (below_box hx0) _)
    refine (placeI_any _ d _ _ _ _ _ _ hs Hk hn2).mono ?_
    rintro e w3 ⟨rfl, hb3⟩
    have hx3 := box_next hx0 hb3
    obtain ⟨p1, p2, p3⟩ := box3 hx3
    clear hx0 hb3
    replace Hk := hbl.keep (agree_of_below (below_box hx3) _)
    go_wp2_with fail
    refine (placeT_any _ d _ _ _ _ _ _ hs Hk hn2).mono ?_
    rintro e w4 ⟨rfl, hb4⟩
    have hx4 := box_next hx3 hb4
    clear p1 p2 p3 hx3 hb4
    obtain ⟨p1, p2, p3⟩ := box3 hx4
    replace Hk := hbl.keep (agree_of_below (below_box hx4) _)
    go_wp2_with fail
    refine (countI_any _ d _ _ _ _ _ hs Hk).mono ?_
    rintro e w5 ⟨rfl, hb5⟩
    have hx5 := box_next hx4 hb5
    clear p1 p2 p3 hx4 hb5
    obtain ⟨p1, p2, p3⟩ := box3 hx5
    replace Hk := hbl.keep (agree_of_below (below_box hx5) _)
    have PC := countS_any _ d up cp ub cb _ hs Hk
    go_wp2_with (first | (go_at_call 11; refine PC.mono ?_; rintro e w6 ⟨rfl, hb6⟩))
    have hx6 := box_next hx5 hb6
    clear p1 p2 p3 hx5 hb6 PC Hk
    have hcn := cntF_le hs
    go_loopw [10, 11, 12] (fun la pl i wr => ∃ k : Nat, k ≤ cntF d ∧ la = .int .i64 (lastF d k).1 ∧ pl = .int .i64 (lastF d k).2 ∧ i = .int .i64 k ∧ Below (w2.heap.size + 1) (w2.alloc (.cells #[.slice up d.params.length cp, .int .i64 d.ret, .slice ub d.blocks.length cb] 27)) wr) (fun _ _ i _ => cntF d - (intOf i).toNat)
    case atStart => exact ⟨0, by omega, rfl, rfl, rfl, hx6⟩
    case round =>
      obtain ⟨k, hk, rfl, rfl, rfl, hx⟩ := hrel
      clear hx6
      obtain ⟨p1, p2, p3⟩ := box3 hx
      have Hk := hbl.keep (agree_of_below (below_box hx) w'.heap.size)
      have Hi := hin.keep (agree_of_below (below_box hx) w'.heap.size)
      by_cases hlt : k < cntF d
      · have hps := place_step d k hlt
        have s1 := place_small hs k
        have s2 := last_small hs k
        have e3 := last_succ d k
        have PP := placeI_any _ d up cp ub cb k _ hs Hk (by omega)
        obtain ⟨P, hP⟩ : ∃ P, P = (placeF d k).1 := ⟨_, rfl⟩
        obtain ⟨Q, hQ⟩ : ∃ Q, Q = (placeF d k).2 := ⟨_, rfl⟩
        have E1 : Hid (P = (lastF d (k + 1)).1) := by show _ = _; rw [e3]; exact hP
        have E2 : Hid (Q = (lastF d (k + 1)).2) := by show _ = _; rw [e3]; exact hQ
        rw [← hP, ← hQ] at hps s1 PP
        generalize (lastF d k).1 = A at hps s2 ⊢
        generalize (lastF d k).2 = B at hps s2 ⊢
        clear hP hQ e3
        have x1 : IntKind.i64.wrap (B + 1) = B + 1 := by rw [IntKind.wrap_i64]; omega
        rcases hps with ⟨e1, e2⟩ | ⟨e1, e2⟩
        all_goals
          subst e2
          first | (obtain rfl := e1) | skip
          go_wp2_with (first | (go_at_call 8; refine PP.mono ?_; rintro e w7 ⟨rfl, hb7⟩))
          have hx7 := box_next hx hb7
          have q1 : ∀ y : Abv (fun v => Below w7.heap.size w7 v), y.v.cell? ⟨w2.heap.size, 0, none⟩ = some (.slice up d.params.length cp) := fun y => (box3 (box_next hx7 y.ok)).1
          have q2 : ∀ y : Abv (fun v => Below w7.heap.size w7 v), y.v.cell? ⟨w2.heap.size, 1, none⟩ = some (.int .i64 d.ret) := fun y => (box3 (box_next hx7 y.ok)).2.1
          have q3 : ∀ y : Abv (fun v => Below w7.heap.size w7 v), y.v.cell? ⟨w2.heap.size, 2, none⟩ = some (.slice ub d.blocks.length cb) := fun y => (box3 (box_next hx7 y.ok)).2.2
          have TI := fun y : Abv (fun v => Below w7.heap.size w7 v) => typeI_any w'.heap.size d up cp ub cb k y.v hs (hin.keep (agree_of_below (below_box (box_next hx7 y.ok)) w'.heap.size)) (hbl.keep (agree_of_below (below_box (box_next hx7 y.ok)) w'.heap.size)) (by omega)
          have TS := fun y : Abv (fun v => Below w7.heap.size w7 v) => typeS_any w'.heap.size d up cp ub cb k y.v hs (hin.keep (agree_of_below (below_box (box_next hx7 y.ok)) w'.heap.size)) (hbl.keep (agree_of_below (below_box (box_next hx7 y.ok)) w'.heap.size)) (by omega)
          generalize typeF d k = T at TI TS
          clear p1 p2 p3 Hk Hi PP hb7 hx hin hbl s1 s2
          by_cases hT : T < 0
          all_goals
            refine wp_region_abv (fun v => Below w7.heap.size w7 v) (by kernel_rfl) (by kernel_rfl) (Below.refl _ _).drew ?_
            have hne : Nonempty (Abv (fun v => Below w7.heap.size w7 v)) := abv_ne (Below.refl _ _)
            repeat (go_big_quiet_step ((first | (go_at_call 12; exact abv_call _ (TI _)) | (go_at_call 13; exact abv_call _ (TS _)))))
            refine wpQuiet_nil ?_
            rintro w9 ⟨⟨w9, h9⟩, rfl⟩
            clear hne
            go_wp2_with fail
            exact ⟨⟨k + 1, by omega, by rw [← E1.out], by rw [← E2.out], by go_num, box_next hx7 h9⟩, by simp [intOf]; omega⟩
      · have hke : k = cntF d := by omega
        subst hke
        have PP := placeI_any _ d up cp ub cb (cntF d) _ hs Hk (by omega)
        rw [place_end] at PP
        go_wp2_with (first | (go_at_call 8; refine PP.mono ?_; rintro e w7 ⟨rfl, hb7⟩; have hx7 := box_next hx hb7; obtain ⟨q1, q2, q3⟩ := box3 hx7; have PT := typeI_any _ d up cp ub cb (cntF d) _ hs (hin.keep (agree_of_below (below_box hx7) w'.heap.size)) (hbl.keep (agree_of_below (below_box hx7) w'.heap.size)) (by omega); rw [type_end] at PT; clear p1 p2 p3 hb7) | (go_at_call 12; refine PT.mono ?_; rintro e w8 ⟨rfl, hb8⟩))
        go_ret
        exact ⟨rfl, hB2.trans ((below_box (box_next hx7 hb8)).mono hB2.size)⟩
end Go.Proofs.Ytiflkkkggidhbaa
