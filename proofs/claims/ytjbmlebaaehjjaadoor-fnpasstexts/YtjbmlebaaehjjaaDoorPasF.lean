/- The core of the law FnPassTexts. -/
import Derived.Test.YtjbmlebaaehjjaaDoorPasE
import Derived.Test.YtjbmlebaaehjjaaDoorPasV
import Derived.Test.YtjbmlebaaehjjaaDoorLwL
namespace Go.Proofs.YtjbmlebaaehjjaaDoor
open Go.RowKit
set_option linter.unusedVariables false

set_option maxHeartbeats 4000000 in
theorem fnPassTexts_core (a0 : Option Addr) (len cap : Nat) (w : World) (hc : Code a0 len w.heap.size w) (hW : WordsAt w) :
    Calls Tryd.prog 3 #[.slice a0 len cap] w fun e w' => e = .returned (.bool true) ∧ Below w.heap.size w w' := by
  by_cases hl : len ≤ 1048576
  · have hlb : decide (1048576 < len) = false := by simp; omega
    go_enter Tryd.func3, Tryd.ntmps3
    go_wp2_with fail
    refine (big_any _ _ _ _).mono ?_
    rintro e w8 ⟨rfl, h9⟩
    have h8 := h9.symm
    clear h9
    subst h8
    rw [hlb]
    go_wp2_with fail
    refine (drawPassText a0 len cap w hl hc).mono ?_
    rintro e w1 ⟨u1, c1, l, rfl, I1, hl1, B1⟩
    have P1 := passTextI _ u1 c1 l w1 I1 (hW.keep B1)
    have S1 : Hid (∀ v lo, IntsAt v lo u1 l → Calls Tryd.prog 10 #[.slice u1 l.length c1] v fun e w' => e = .returned (.string (textOf l)) ∧ Below v.heap.size v w') := fun v lo h => passTextS lo u1 c1 l v h
    have hts := text_size l
    have HT : Hid (textOf l ≠ ⟨#[]⟩ → passesD (textOf l) = some l) := text_back
    generalize textOf l = T at P1 S1 hts HT
    go_wp2_with fail
    refine P1.mono ?_
    rintro e w2 ⟨rfl, b2⟩
    have B2 := B1.trans (b2.mono B1.size)
    have I2 := I1.keep (agree_of_below b2 _)
    clear P1 I1 b2
    have P2 := passesOfI T w2 (by omega) (hW.keep B2)
    have h12 := list_len T
    go_wp2_with fail
    refine P2.mono ?_
    rintro e w3 ⟨ht3, b3⟩
    have B3 := B2.trans (b3.mono B2.size)
    have I3 := I2.keep (agree_of_below b3 _)
    obtain ⟨u3, c3, rfl, o3⟩ := told_parts ht3 (by omega)
    have J3 := o3.at
    clear P2 I2 b3 ht3 o3
    generalize passesD T = o at HT h12 J3 ⊢
    by_cases hT : T = ⟨#[]⟩
    · subst hT
      go_wp2_with fail
      refine (S1.out w3 _ I3).mono ?_
      rintro e w4 ⟨rfl, b4⟩
      have B4 := B3.trans (b4.mono B3.size)
      clear b4 S1 I3 J3 HT
      go_wp2_with fail
      refine (drawPassesOf a0 len cap _ hl (hc.below B4)).mono ?_
      rintro e w5 ⟨t, rfl, hts5, b5⟩
      have B5 := B4.trans (b5.mono B4.size)
      clear b5
      have P5 := passesOfI t w5 (by omega) (hW.keep B5)
      have Q5 : Hid (∀ v, Calls Tryd.prog 13 #[.string t] v fun e w' => PassesTold w' v.heap.size (passesD t) e ∧ Below v.heap.size v w') := fun v => passesOfS t v (by omega)
      have g12 := list_len t
      have HB : Hid (∀ m, passesD t = some m → textOf m = t) := fun m h => back_text h
      generalize passesD t = o2 at P5 Q5 g12 HB
      go_wp2_with fail
      refine P5.mono ?_
      rintro e w6 ⟨ht6, b6⟩
      have B6 := B5.trans (b6.mono B5.size)
      obtain ⟨u6, c6, rfl, o6⟩ := told_parts ht6 (by omega)
      have J6 := o6.at
      clear P5 ht6 o6 b6
      go_wp2_with fail
      refine (Q5.out w6).mono ?_
      rintro e w7 ⟨ht7, b7⟩
      have B7 := B6.trans (b7.mono B6.size)
      obtain ⟨u7, c7, rfl, o7⟩ := told_parts ht7 (by omega)
      have J7 := o7.at
      have K6 := J6.keep (agree_of_below b7 _)
      clear Q5 ht7 o7 b7 J6
      have SM := sameL _ _ u6 u7 c6 c7 (listO o2) w7 (by omega) K6 J7
      cases o2 with
      | none =>
        go_wp2_with fail
        refine SM.mono ?_
        rintro e w9 ⟨rfl, n9, rfl⟩
        go_wp2_with fail
        go_ret
        exact ⟨rfl, below_drewN B7 _⟩
      | some m =>
        have hmt := HB.out m rfl
        clear HB
        have K7 : ∀ n9, IntsAt (w7.drewN n9) w5.heap.size u6 m := fun n9 => K6.keep (agree_of_below (below_drewN (Below.refl _ _) n9) _)
        have P7 := fun n9 => passTextI _ u6 c6 m (w7.drewN n9) (K7 n9) (hW.keep (below_drewN B7 n9))
        rw [hmt] at P7
        clear hmt
        go_wp2_with fail
        refine SM.mono ?_
        rintro e w9 ⟨rfl, n9, rfl⟩
        go_wp2_with fail
        refine (P7 n9).mono ?_
        rintro e w10 ⟨rfl, b10⟩
        have B10 := (below_drewN B7 n9).trans (b10.mono (below_drewN B7 n9).size)
        go_wp2_with fail
        go_ret
        exact ⟨rfl, B10⟩
    · have ho := HT.out hT
      subst ho
      have hn1 := str_some hT
      have hn2 := str_ne hT
      clear HT hT
      go_wp2_with fail
      refine (S1.out w3 _ I3).mono ?_
      rintro e w4 ⟨rfl, b4⟩
      have B4 := B3.trans (b4.mono B3.size)
      have SM0 := sameL _ _ u3 u1 c3 c1 l w4 (by omega) (J3.keep (agree_of_below b4 _)) (I3.keep (agree_of_below b4 _))
      clear b4 S1 I3 J3
      go_wp2_with fail
      refine SM0.mono ?_
      rintro e w14 ⟨rfl, n14, rfl⟩
      have C4 := below_drewN B4 n14
      clear SM0 hn1 hn2
      go_wp2_with fail
      refine (drawPassesOf a0 len cap _ hl (hc.below C4)).mono ?_
      rintro e w5 ⟨t, rfl, hts5, b5⟩
      have B5 := C4.trans (b5.mono C4.size)
      clear b5
      have P5 := passesOfI t w5 (by omega) (hW.keep B5)
      have Q5 : Hid (∀ v, Calls Tryd.prog 13 #[.string t] v fun e w' => PassesTold w' v.heap.size (passesD t) e ∧ Below v.heap.size v w') := fun v => passesOfS t v (by omega)
      have g12 := list_len t
      have HB : Hid (∀ m, passesD t = some m → textOf m = t) := fun m h => back_text h
      generalize passesD t = o2 at P5 Q5 g12 HB
      go_wp2_with fail
      refine P5.mono ?_
      rintro e w6 ⟨ht6, b6⟩
      have B6 := B5.trans (b6.mono B5.size)
      obtain ⟨u6, c6, rfl, o6⟩ := told_parts ht6 (by omega)
      have J6 := o6.at
      clear P5 ht6 o6 b6
      go_wp2_with fail
      refine (Q5.out w6).mono ?_
      rintro e w7 ⟨ht7, b7⟩
      have B7 := B6.trans (b7.mono B6.size)
      obtain ⟨u7, c7, rfl, o7⟩ := told_parts ht7 (by omega)
      have J7 := o7.at
      have K6 := J6.keep (agree_of_below b7 _)
      clear Q5 ht7 o7 b7 J6
      have SM := sameL _ _ u6 u7 c6 c7 (listO o2) w7 (by omega) K6 J7
      cases o2 with
      | none =>
        go_wp2_with fail
        refine SM.mono ?_
        rintro e w9 ⟨rfl, n9, rfl⟩
        go_wp2_with fail
        go_ret
        exact ⟨rfl, below_drewN B7 _⟩
      | some m =>
        have hmt := HB.out m rfl
        clear HB
        have K7 : ∀ n9, IntsAt (w7.drewN n9) w5.heap.size u6 m := fun n9 => K6.keep (agree_of_below (below_drewN (Below.refl _ _) n9) _)
        have P7 := fun n9 => passTextI _ u6 c6 m (w7.drewN n9) (K7 n9) (hW.keep (below_drewN B7 n9))
        rw [hmt] at P7
        clear hmt
        go_wp2_with fail
        refine SM.mono ?_
        rintro e w9 ⟨rfl, n9, rfl⟩
        go_wp2_with fail
        refine (P7 n9).mono ?_
        rintro e w10 ⟨rfl, b10⟩
        have B10 := (below_drewN B7 n9).trans (b10.mono (below_drewN B7 n9).size)
        go_wp2_with fail
        go_ret
        exact ⟨rfl, B10⟩
  · have hlb : decide (1048576 < len) = true := by simp; omega
    go_enter Tryd.func3, Tryd.ntmps3
    go_wp2_with fail
    refine (big_any _ _ _ _).mono ?_
    rintro e w8 ⟨rfl, h9⟩
    have h8 := h9.symm
    clear h9
    subst h8
    rw [hlb]
    go_wp2_with fail
    go_ret
    exact ⟨rfl, Below.refl _ _⟩
end Go.Proofs.YtjbmlebaaehjjaaDoor
