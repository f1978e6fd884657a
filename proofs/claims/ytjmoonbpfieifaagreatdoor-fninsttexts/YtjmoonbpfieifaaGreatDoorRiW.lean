/- The core of the law FnInstTexts, out of the draw of an instruction. -/
import Derived.Test.YtjmoonbpfieifaaGreatDoorRiO
import Derived.Test.YtjmoonbpfieifaaGreatDoorRiV
import Derived.Test.YtjmoonbpfieifaaGreatDoorLwL
import Derived.WalkSmall
namespace Go.Proofs.YtjmoonbpfieifaaGreatDoor
open Go.RowKit
set_option linter.unusedVariables false
set_option linter.unusedSimpArgs false

theorem tx_some (i : InstD) : ¬ instTx i = ⟨#[]⟩ := fun e => by
  have h := congrArg ByteArray.size e
  unfold instTx at h
  rw [ByteArray.size_append, bs_size] at h
  have h1 : numsL (instN i) = (32 :: Lib.itoa i.w) ++ numsL ((if immB i.op = true then [i.imm] else []) ++ opsD i) := by simp [numsL, instN]
  rw [h1] at h
  simp only [List.length_cons, List.length_append] at h
  have h2 : (⟨#[]⟩ : ByteArray).size = 0 := rfl
  omega
/-- What is told alike of a text, with its text again. -/
theorem uni2 (s : ByteArray) : ∃ (g : InstD) (ok : Bool), g.args.length ≤ 1048576 ∧ (∀ base w e, ReadToldS s base w e → ∃ u q, e = .returned (.tuple #[.agg #[.int .i64 g.op, .int .i64 g.w, .int .i64 g.a, .int .i64 g.b, .int .i64 g.c, .int .i64 g.imm, .slice u g.args.length q], .bool ok]) ∧ IntsAt w base u g.args) ∧ (∀ base w e, ReadTold s base w e → ∃ u q, e = .returned (.tuple #[.agg #[.int .i64 g.op, .int .i64 g.w, .int .i64 g.a, .int .i64 g.b, .int .i64 g.c, .int .i64 g.imm, .slice u g.args.length q], .bool ok]) ∧ Row w base (.slice u g.args.length q) g.args) ∧ (ok = true → instText g = s) := by
  by_cases h : ∃ i, ReadOk s i
  · obtain ⟨g, hg⟩ := h
    refine ⟨g, true, ?_, ?_, ?_, fun _ => ok_text hg⟩
    · have := (ok_inst (by omega) hg.1).args
      omega
    · rintro base w e (⟨i, u, q, hi, he, hr⟩ | ⟨hn, _⟩)
      · cases read_one hg hi
        exact ⟨u, q, he, hr⟩
      · exact absurd ⟨g, hg⟩ hn
    · rintro base w e (⟨i, u, q, hi, he, hr⟩ | ⟨hn, _⟩)
      · cases read_one hg hi
        exact ⟨u, q, he, hr⟩
      · exact absurd ⟨g, hg⟩ hn
  · refine ⟨⟨0, 0, 0, 0, 0, 0, []⟩, false, by simp, ?_, ?_, by simp⟩
    · rintro base w e (⟨i, u, q, hi, he, hr⟩ | ⟨hn, he⟩)
      · exact absurd ⟨i, hi⟩ h
      · exact ⟨none, 0, he, by simp, .inl rfl⟩
    · rintro base w e (⟨i, u, q, hi, he, hr⟩ | ⟨hn, he⟩)
      · exact absurd ⟨i, hi⟩ h
      · exact ⟨none, 0, he, Row.nil _ _⟩
/-- What of a text that an instruction has is read. -/
theorem uni_text (i : InstD) : (¬ instText i = ⟨#[]⟩ ∧ ∀ base w e, ReadTold (instText i) base w e → ∃ u q, e = .returned (.tuple #[.agg #[.int .i64 i.op, .int .i64 i.w, .int .i64 i.a, .int .i64 i.b, .int .i64 i.c, .int .i64 i.imm, .slice u i.args.length q], .bool true]) ∧ Row w base (.slice u i.args.length q) i.args) ∨ (instText i = ⟨#[]⟩ ∧ ∀ base w e, ReadTold (instText i) base w e → e = .returned (.tuple #[.agg #[.int .i64 0, .int .i64 0, .int .i64 0, .int .i64 0, .int .i64 0, .int .i64 0, .slice none 0 0], .bool false])) := by
  by_cases h : instB i 60 3 = true
  · have e : instText i = instTx i := by unfold instText; rw [if_pos h]
    have hi : ReadOk (instText i) i := ⟨h, e⟩
    refine .inl ⟨by rw [e]; exact tx_some i, ?_⟩
    rintro base w e (⟨j, u, q, hj, he, hr⟩ | ⟨hn, _⟩)
    · cases read_one hi hj
      exact ⟨u, q, he, hr⟩
    · exact absurd ⟨i, hi⟩ hn
  · have e : instText i = ⟨#[]⟩ := by unfold instText; rw [if_neg h]
    refine .inr ⟨e, ?_⟩
    rintro base w e2 (⟨j, u, q, hj, he, hr⟩ | ⟨_, he⟩)
    · exact absurd (hj.2.symm.trans e) (tx_some j)
    · exact he
set_option maxHeartbeats 2000000 in
set_option maxRecDepth 100000 in
theorem sameInstL (lo lo' : Nat) (d : InstD) (u : Option Addr) (c : Nat) (v : Option Addr) (q : Nat) (w : World) (hl : d.args.length ≤ 1048576) (h : IntsAt w lo u d.args) (h' : IntsAt w lo' v d.args) :
    Calls Tryz.prog 10 #[.agg #[.int .i64 d.op, .int .i64 d.w, .int .i64 d.a, .int .i64 d.b, .int .i64 d.c, .int .i64 d.imm, .slice u d.args.length c], .agg #[.int .i64 d.op, .int .i64 d.w, .int .i64 d.a, .int .i64 d.b, .int .i64 d.c, .int .i64 d.imm, .slice v d.args.length q]] w fun e w' => e = .returned (.bool true) ∧ Below w.heap.size w w' := by
  have B1 : Below w.heap.size w ((w.alloc (.cells #[.int .i64 d.op, .int .i64 d.w, .int .i64 d.a, .int .i64 d.b, .int .i64 d.c, .int .i64 d.imm, .slice u d.args.length c] 26)).alloc (.cells #[.int .i64 d.op, .int .i64 d.w, .int .i64 d.a, .int .i64 d.b, .int .i64 d.c, .int .i64 d.imm, .slice v d.args.length q] 26)) := ((Below.refl _ _).alloc (Nat.le_refl _) _).alloc (by simp) _
  have P := sameL lo lo' u v c q d.args _ hl (h.keep (agree_of_below B1 _)) (h'.keep (agree_of_below B1 _))
  have HB : Hid (Below w.heap.size w _) := B1
  clear B1 h h'
  go_enter Tryz.func10, Tryz.ntmps10
  go_wp2_with fail
  refine P.mono ?_
  rintro e w1 ⟨rfl, n, rfl⟩
  go_wp2_with fail
  go_ret
  exact ⟨rfl, below_drewN HB.out n⟩
set_option maxHeartbeats 8000000 in
set_option maxRecDepth 100000 in
theorem fnInstTexts_core (a : Addr) (a0 : Option Addr) (len cap : Nat) (w : World) (hc : Code a0 len w.heap.size w) (hD : ∀ W, Below w.heap.size w W → len ≤ 1048576 → Calls Tryz.prog 16 #[.slice a0 len cap] W fun e w' => InstDrawn W.heap.size w' e ∧ Below W.heap.size W w') (hv : Gv w 1 (errV a)) (hE : ErrsAt w) (hP : PowAt w) (hO : OpsAt w) :
    Calls Tryz.prog 3 #[.slice a0 len cap] w fun e w' => e = .returned (.bool true) ∧ Below w.heap.size w w' := by
  by_cases hl : 1048576 < len
  · have hb : decide (1048576 < len) = true := by simpa using hl
    go_enter Tryz.func3, Tryz.ntmps3
    go_wp2_with fail
    refine (big_any a0 len cap w).mono ?_
    rintro e w1 ⟨rfl, h9⟩
    have h8 := h9.symm
    clear h9
    subst h8
    rw [hb]
    go_wp2_with fail
    go_ret
    exact ⟨rfl, Below.refl _ _⟩
  have hb : decide (1048576 < len) = false := by simpa using hl
  have hl2 : len ≤ 1048576 := by omega
  have hRI : Hid (∀ (s : ByteArray) W, s.size ≤ 1048576 → Below w.heap.size w W → Calls Tryz.prog 8 #[.string s] W fun e w' => ReadTold s W.heap.size w' e ∧ Below W.heap.size W w') := fun s W hs k => readI a s W hs (hv.keep k) (hE.keep k) (hP.keep k) (hO.keep k)
  have hTI : Hid (∀ lo (d : InstD) u q W, d.args.length ≤ 1048576 → IntsAt W lo u d.args → Below w.heap.size w W → Calls Tryz.prog 7 #[.agg #[.int .i64 d.op, .int .i64 d.w, .int .i64 d.a, .int .i64 d.b, .int .i64 d.c, .int .i64 d.imm, .slice u d.args.length q]] W fun e w' => e = .returned (.string (instText d)) ∧ Below W.heap.size W w') := fun lo d u q W hm hk k => instTextI lo d u q W hm hk (hO.keep k) (hP.keep k)
  have D1 := drawInst a0 len cap w (fun W k => hD W k hl2)
  have D2 : Hid (∀ W, Below w.heap.size w W → Calls Tryz.prog 11 #[.slice a0 len cap] W fun e w' => TextDrawn e ∧ Below W.heap.size W w') := fun W k => drawRead a0 len cap W hl2 (hc.below k) (fun W' k' => hD W' (k.trans (k'.mono k.size)) hl2)
  clear hD hc hv hE hP hO hl hl2
  go_enter Tryz.func3, Tryz.ntmps3
  go_wp2_with fail
  refine (big_any a0 len cap w).mono ?_
  rintro e w1 ⟨rfl, h9⟩
  have h8 := h9.symm
  clear h9
  subst h8
  rw [hb]
  clear hb
  go_wp2_with fail
  refine D1.mono ?_
  rintro e w2 ⟨⟨i, u, q, rfl, hil, hI⟩, b2⟩
  have k2 : Below w2.heap.size w2 (w2.alloc (.cells #[.int .i64 i.op, .int .i64 i.w, .int .i64 i.a, .int .i64 i.b, .int .i64 i.c, .int .i64 i.imm, .slice u i.args.length q] 26)) := (Below.refl _ _).alloc (Nat.le_refl _) _
  have Q3 : Hid (At (w2.alloc (.cells #[.int .i64 i.op, .int .i64 i.w, .int .i64 i.a, .int .i64 i.b, .int .i64 i.c, .int .i64 i.imm, .slice u i.args.length q] 26)) w2.heap.size #[.int .i64 i.op, .int .i64 i.w, .int .i64 i.a, .int .i64 i.b, .int .i64 i.c, .int .i64 i.imm, .slice u i.args.length q] 26) := At.new _ _ _
  have B3 : Hid (Below w.heap.size w (w2.alloc (.cells #[.int .i64 i.op, .int .i64 i.w, .int .i64 i.a, .int .i64 i.b, .int .i64 i.c, .int .i64 i.imm, .slice u i.args.length q] 26))) := b2.trans (k2.mono b2.size)
  have I3 : Hid (IntsAt (w2.alloc (.cells #[.int .i64 i.op, .int .i64 i.w, .int .i64 i.a, .int .i64 i.b, .int .i64 i.c, .int .i64 i.imm, .slice u i.args.length q] 26)) w.heap.size u i.args) := hI.keep (agree_of_below k2 _)
  have Hil : Hid (i.args.length ≤ 1048576) := hil
  clear D1 b2 k2 hI hil
  obtain ⟨W3, hW3⟩ : ∃ W, (w2.alloc (.cells #[.int .i64 i.op, .int .i64 i.w, .int .i64 i.a, .int .i64 i.b, .int .i64 i.c, .int .i64 i.imm, .slice u i.args.length q] 26)) = W := ⟨_, rfl⟩
  rw [hW3] at Q3 B3 I3
  have x0 : W3.cell? ⟨w2.heap.size, 0, none⟩ = some (.int .i64 i.op) := Q3.out.cell 0
  have x1 : W3.cell? ⟨w2.heap.size, 1, none⟩ = some (.int .i64 i.w) := Q3.out.cell 1
  have x2 : W3.cell? ⟨w2.heap.size, 2, none⟩ = some (.int .i64 i.a) := Q3.out.cell 2
  have x3 : W3.cell? ⟨w2.heap.size, 3, none⟩ = some (.int .i64 i.b) := Q3.out.cell 3
  have x4 : W3.cell? ⟨w2.heap.size, 4, none⟩ = some (.int .i64 i.c) := Q3.out.cell 4
  have x5 : W3.cell? ⟨w2.heap.size, 5, none⟩ = some (.int .i64 i.imm) := Q3.out.cell 5
  have x6 : W3.cell? ⟨w2.heap.size, 6, none⟩ = some (.slice u i.args.length q) := Q3.out.cell 6

  go_wp2_with fail
  clear hW3
  clear x0 x1 x2 x3 x4 x5 x6
  refine (hTI.out w.heap.size i u q W3 Hil.out I3.out B3.out).mono ?_
  rintro e w4 ⟨rfl, b4⟩
  have Q4 : Hid (At w4 w2.heap.size #[.int .i64 i.op, .int .i64 i.w, .int .i64 i.a, .int .i64 i.b, .int .i64 i.c, .int .i64 i.imm, .slice u i.args.length q] 26) := Q3.out.below b4
  have B4 : Hid (Below w.heap.size w w4) := B3.out.trans (b4.mono B3.out.size)
  have I4 : Hid (IntsAt w4 w.heap.size u i.args) := I3.out.keep (agree_of_below b4 _)
  have hts := text_size i
  clear Q3 B3 I3 b4
  go_wp2_with fail
  refine (hRI.out (instText i) w4 (by omega) B4.out).mono ?_
  rintro e w5 ⟨hc, b5⟩
  have Q5 : Hid (At w5 w2.heap.size #[.int .i64 i.op, .int .i64 i.w, .int .i64 i.a, .int .i64 i.b, .int .i64 i.c, .int .i64 i.imm, .slice u i.args.length q] 26) := Q4.out.below b5
  have B5 : Hid (Below w.heap.size w w5) := B4.out.trans (b5.mono B4.out.size)
  have I5 : Hid (IntsAt w5 w.heap.size u i.args) := I4.out.keep (agree_of_below b5 _)
  clear Q4 B4 I4 b5 hts
  rcases uni_text i with ⟨hne, hU⟩ | ⟨hem, hU⟩
  · obtain ⟨ju, jq, rfl, hR⟩ := hU _ _ _ hc
    have k5 : Below w5.heap.size w5 (w5.alloc (.cells #[.int .i64 i.op, .int .i64 i.w, .int .i64 i.a, .int .i64 i.b, .int .i64 i.c, .int .i64 i.imm, .slice ju i.args.length jq] 26)) := (Below.refl _ _).alloc (Nat.le_refl _) _
    have Q6 : Hid (At (w5.alloc (.cells #[.int .i64 i.op, .int .i64 i.w, .int .i64 i.a, .int .i64 i.b, .int .i64 i.c, .int .i64 i.imm, .slice ju i.args.length jq] 26)) w2.heap.size #[.int .i64 i.op, .int .i64 i.w, .int .i64 i.a, .int .i64 i.b, .int .i64 i.c, .int .i64 i.imm, .slice u i.args.length q] 26) := Q5.out.below k5
    have J6 : Hid (At (w5.alloc (.cells #[.int .i64 i.op, .int .i64 i.w, .int .i64 i.a, .int .i64 i.b, .int .i64 i.c, .int .i64 i.imm, .slice ju i.args.length jq] 26)) w5.heap.size #[.int .i64 i.op, .int .i64 i.w, .int .i64 i.a, .int .i64 i.b, .int .i64 i.c, .int .i64 i.imm, .slice ju i.args.length jq] 26) := At.new _ _ _
    have B6 : Hid (Below w.heap.size w (w5.alloc (.cells #[.int .i64 i.op, .int .i64 i.w, .int .i64 i.a, .int .i64 i.b, .int .i64 i.c, .int .i64 i.imm, .slice ju i.args.length jq] 26))) := B5.out.trans (k5.mono B5.out.size)
    have I6 : Hid (IntsAt (w5.alloc (.cells #[.int .i64 i.op, .int .i64 i.w, .int .i64 i.a, .int .i64 i.b, .int .i64 i.c, .int .i64 i.imm, .slice ju i.args.length jq] 26)) w.heap.size u i.args) := I5.out.keep (agree_of_below k5 _)
    have L6 : Hid (IntsAt (w5.alloc (.cells #[.int .i64 i.op, .int .i64 i.w, .int .i64 i.a, .int .i64 i.b, .int .i64 i.c, .int .i64 i.imm, .slice ju i.args.length jq] 26)) w4.heap.size ju i.args) := (row_ownR Hil.out hR).at.keep (agree_of_below k5 _)
    clear k5 hR hc hU Q5 B5 I5
    obtain ⟨W6, hW6⟩ : ∃ W, (w5.alloc (.cells #[.int .i64 i.op, .int .i64 i.w, .int .i64 i.a, .int .i64 i.b, .int .i64 i.c, .int .i64 i.imm, .slice ju i.args.length jq] 26)) = W := ⟨_, rfl⟩
    rw [hW6] at Q6 J6 B6 I6 L6
    have P6 := instTextS w.heap.size i u q W6 Hil.out I6.out
    obtain ⟨X, hX⟩ : ∃ X, instText i = X := ⟨_, rfl⟩
    rw [hX] at P6 hne ⊢
    clear hX
    have hX1 : X.toList.isEmpty = false := by
      rw [ByteArray.toList_eq]
      cases e : X.data.toList with
      | nil => exact absurd (ByteArray.ext (Array.toList_inj.1 e)) hne
      | cons x r => rfl
    have hX2 := str_ne hne
    clear hne
    have x0 : W6.cell? ⟨w2.heap.size, 0, none⟩ = some (.int .i64 i.op) := Q6.out.cell 0
    have x1 : W6.cell? ⟨w2.heap.size, 1, none⟩ = some (.int .i64 i.w) := Q6.out.cell 1
    have x2 : W6.cell? ⟨w2.heap.size, 2, none⟩ = some (.int .i64 i.a) := Q6.out.cell 2
    have x3 : W6.cell? ⟨w2.heap.size, 3, none⟩ = some (.int .i64 i.b) := Q6.out.cell 3
    have x4 : W6.cell? ⟨w2.heap.size, 4, none⟩ = some (.int .i64 i.c) := Q6.out.cell 4
    have x5 : W6.cell? ⟨w2.heap.size, 5, none⟩ = some (.int .i64 i.imm) := Q6.out.cell 5
    have x6 : W6.cell? ⟨w2.heap.size, 6, none⟩ = some (.slice u i.args.length q) := Q6.out.cell 6

    go_wp2_with fail
    clear hW6
    clear x0 x1 x2 x3 x4 x5 x6
    refine P6.mono ?_
    rintro e w7 ⟨rfl, b7⟩
    have Q7 : Hid (At w7 w2.heap.size #[.int .i64 i.op, .int .i64 i.w, .int .i64 i.a, .int .i64 i.b, .int .i64 i.c, .int .i64 i.imm, .slice u i.args.length q] 26) := Q6.out.below b7
    have J7 : Hid (At w7 w5.heap.size #[.int .i64 i.op, .int .i64 i.w, .int .i64 i.a, .int .i64 i.b, .int .i64 i.c, .int .i64 i.imm, .slice ju i.args.length jq] 26) := J6.out.below b7
    have B7 : Hid (Below w.heap.size w w7) := B6.out.trans (b7.mono B6.out.size)
    have I7 : Hid (IntsAt w7 w.heap.size u i.args) := I6.out.keep (agree_of_below b7 _)
    have L7 : Hid (IntsAt w7 w4.heap.size ju i.args) := L6.out.keep (agree_of_below b7 _)
    clear P6 b7 Q6 J6 B6 I6 L6
    have x0 : w7.cell? ⟨w2.heap.size, 0, none⟩ = some (.int .i64 i.op) := Q7.out.cell 0
    have x1 : w7.cell? ⟨w2.heap.size, 1, none⟩ = some (.int .i64 i.w) := Q7.out.cell 1
    have x2 : w7.cell? ⟨w2.heap.size, 2, none⟩ = some (.int .i64 i.a) := Q7.out.cell 2
    have x3 : w7.cell? ⟨w2.heap.size, 3, none⟩ = some (.int .i64 i.b) := Q7.out.cell 3
    have x4 : w7.cell? ⟨w2.heap.size, 4, none⟩ = some (.int .i64 i.c) := Q7.out.cell 4
    have x5 : w7.cell? ⟨w2.heap.size, 5, none⟩ = some (.int .i64 i.imm) := Q7.out.cell 5
    have x6 : w7.cell? ⟨w2.heap.size, 6, none⟩ = some (.slice u i.args.length q) := Q7.out.cell 6
    have y0 : w7.cell? ⟨w5.heap.size, 0, none⟩ = some (.int .i64 i.op) := J7.out.cell 0
    have y1 : w7.cell? ⟨w5.heap.size, 1, none⟩ = some (.int .i64 i.w) := J7.out.cell 1
    have y2 : w7.cell? ⟨w5.heap.size, 2, none⟩ = some (.int .i64 i.a) := J7.out.cell 2
    have y3 : w7.cell? ⟨w5.heap.size, 3, none⟩ = some (.int .i64 i.b) := J7.out.cell 3
    have y4 : w7.cell? ⟨w5.heap.size, 4, none⟩ = some (.int .i64 i.c) := J7.out.cell 4
    have y5 : w7.cell? ⟨w5.heap.size, 5, none⟩ = some (.int .i64 i.imm) := J7.out.cell 5
    have y6 : w7.cell? ⟨w5.heap.size, 6, none⟩ = some (.slice ju i.args.length jq) := J7.out.cell 6

    go_wp2_with fail
    clear x0 x1 x2 x3 x4 x5 x6
    clear y0 y1 y2 y3 y4 y5 y6
    refine (sameInstL _ _ i ju jq u q w7 Hil.out L7.out I7.out).mono ?_
    rintro e w8 ⟨rfl, b8⟩
    have B8 : Hid (Below w.heap.size w w8) := B7.out.trans (b8.mono B7.out.size)
    clear b8 Q7 J7 B7 I7 L7
    go_wp2_with fail
    refine (D2.out w8 B8.out).mono ?_
    rintro e w9 ⟨⟨t, rfl, ht⟩, b9⟩
    have B9 : Hid (Below w.heap.size w w9) := B8.out.trans (b9.mono B8.out.size)
    obtain ⟨g, ok, hgl, US, UI, UT⟩ := uni2 t
    have HT : Hid (ok = true → instText g = t) := UT
    have Hgl : Hid (g.args.length ≤ 1048576) := hgl
    clear b9 hgl UT
    go_wp2_with fail
    refine (hRI.out t w9 ht B9.out).mono ?_
    rintro e wA ⟨hc2, bA⟩
    obtain ⟨xu, xq, rfl, hR2⟩ := UI _ _ _ hc2
    have kA : Below wA.heap.size wA (wA.alloc (.cells #[.int .i64 g.op, .int .i64 g.w, .int .i64 g.a, .int .i64 g.b, .int .i64 g.c, .int .i64 g.imm, .slice xu g.args.length xq] 26)) := (Below.refl _ _).alloc (Nat.le_refl _) _
    have QB : Hid (At (wA.alloc (.cells #[.int .i64 g.op, .int .i64 g.w, .int .i64 g.a, .int .i64 g.b, .int .i64 g.c, .int .i64 g.imm, .slice xu g.args.length xq] 26)) wA.heap.size #[.int .i64 g.op, .int .i64 g.w, .int .i64 g.a, .int .i64 g.b, .int .i64 g.c, .int .i64 g.imm, .slice xu g.args.length xq] 26) := At.new _ _ _
    have BB : Hid (Below w.heap.size w (wA.alloc (.cells #[.int .i64 g.op, .int .i64 g.w, .int .i64 g.a, .int .i64 g.b, .int .i64 g.c, .int .i64 g.imm, .slice xu g.args.length xq] 26))) := (B9.out.trans (bA.mono B9.out.size)).trans (kA.mono (Nat.le_trans B9.out.size bA.size))
    have IB : Hid (IntsAt (wA.alloc (.cells #[.int .i64 g.op, .int .i64 g.w, .int .i64 g.a, .int .i64 g.b, .int .i64 g.c, .int .i64 g.imm, .slice xu g.args.length xq] 26)) w9.heap.size xu g.args) := (row_ownR Hgl.out hR2).at.keep (agree_of_below kA _)
    clear bA kA hc2 hR2 UI B9
    obtain ⟨WB, hWB⟩ : ∃ W, (wA.alloc (.cells #[.int .i64 g.op, .int .i64 g.w, .int .i64 g.a, .int .i64 g.b, .int .i64 g.c, .int .i64 g.imm, .slice xu g.args.length xq] 26)) = W := ⟨_, rfl⟩
    rw [hWB] at QB BB IB
    go_wp2_with fail
    clear hWB
    refine (readS t WB ht).mono ?_
    rintro e wC ⟨hc3, bC⟩
    obtain ⟨yu, yq, rfl, _⟩ := US _ _ _ hc3
    have kC : Below wC.heap.size wC (wC.alloc (.cells #[.int .i64 g.op, .int .i64 g.w, .int .i64 g.a, .int .i64 g.b, .int .i64 g.c, .int .i64 g.imm, .slice yu g.args.length yq] 26)) := (Below.refl _ _).alloc (Nat.le_refl _) _
    have QD : Hid (At (wC.alloc (.cells #[.int .i64 g.op, .int .i64 g.w, .int .i64 g.a, .int .i64 g.b, .int .i64 g.c, .int .i64 g.imm, .slice yu g.args.length yq] 26)) wA.heap.size #[.int .i64 g.op, .int .i64 g.w, .int .i64 g.a, .int .i64 g.b, .int .i64 g.c, .int .i64 g.imm, .slice xu g.args.length xq] 26) := (QB.out.below bC).below kC
    have BD : Hid (Below w.heap.size w (wC.alloc (.cells #[.int .i64 g.op, .int .i64 g.w, .int .i64 g.a, .int .i64 g.b, .int .i64 g.c, .int .i64 g.imm, .slice yu g.args.length yq] 26))) := (BB.out.trans (bC.mono BB.out.size)).trans (kC.mono (Nat.le_trans BB.out.size bC.size))
    have ID : Hid (IntsAt (wC.alloc (.cells #[.int .i64 g.op, .int .i64 g.w, .int .i64 g.a, .int .i64 g.b, .int .i64 g.c, .int .i64 g.imm, .slice yu g.args.length yq] 26)) w9.heap.size xu g.args) := (IB.out.keep (agree_of_below bC _)).keep (agree_of_below kC _)
    clear bC kC hc3 US QB BB IB
    obtain ⟨WD, hWD⟩ : ∃ W, (wC.alloc (.cells #[.int .i64 g.op, .int .i64 g.w, .int .i64 g.a, .int .i64 g.b, .int .i64 g.c, .int .i64 g.imm, .slice yu g.args.length yq] 26)) = W := ⟨_, rfl⟩
    rw [hWD] at QD BD ID
    have x0 : WD.cell? ⟨wA.heap.size, 0, none⟩ = some (.int .i64 g.op) := QD.out.cell 0
    have x1 : WD.cell? ⟨wA.heap.size, 1, none⟩ = some (.int .i64 g.w) := QD.out.cell 1
    have x2 : WD.cell? ⟨wA.heap.size, 2, none⟩ = some (.int .i64 g.a) := QD.out.cell 2
    have x3 : WD.cell? ⟨wA.heap.size, 3, none⟩ = some (.int .i64 g.b) := QD.out.cell 3
    have x4 : WD.cell? ⟨wA.heap.size, 4, none⟩ = some (.int .i64 g.c) := QD.out.cell 4
    have x5 : WD.cell? ⟨wA.heap.size, 5, none⟩ = some (.int .i64 g.imm) := QD.out.cell 5
    have x6 : WD.cell? ⟨wA.heap.size, 6, none⟩ = some (.slice xu g.args.length xq) := QD.out.cell 6

    cases ok with
    | false =>
      go_wp2_with fail
      go_ret
      exact ⟨rfl, BD.out⟩
    | true =>
      have hgt := HT.out rfl
      go_wp2_with fail
      clear hWD
      refine (hTI.out w9.heap.size g xu xq WD Hgl.out ID.out BD.out).mono ?_
      rw [hgt]
      rintro e wE ⟨rfl, bE⟩
      have BE : Hid (Below w.heap.size w wE) := BD.out.trans (bE.mono BD.out.size)
      clear bE
      go_wp2_with fail
      go_ret
      exact ⟨rfl, BE.out⟩
  · have he := hU _ _ _ hc
    subst he
    have k5 : Below w5.heap.size w5 (w5.alloc (.cells #[.int .i64 0, .int .i64 0, .int .i64 0, .int .i64 0, .int .i64 0, .int .i64 0, .slice none 0 0] 26)) := (Below.refl _ _).alloc (Nat.le_refl _) _
    have Q6 : Hid (At (w5.alloc (.cells #[.int .i64 0, .int .i64 0, .int .i64 0, .int .i64 0, .int .i64 0, .int .i64 0, .slice none 0 0] 26)) w2.heap.size #[.int .i64 i.op, .int .i64 i.w, .int .i64 i.a, .int .i64 i.b, .int .i64 i.c, .int .i64 i.imm, .slice u i.args.length q] 26) := Q5.out.below k5
    have B6 : Hid (Below w.heap.size w (w5.alloc (.cells #[.int .i64 0, .int .i64 0, .int .i64 0, .int .i64 0, .int .i64 0, .int .i64 0, .slice none 0 0] 26))) := B5.out.trans (k5.mono B5.out.size)
    have I6 : Hid (IntsAt (w5.alloc (.cells #[.int .i64 0, .int .i64 0, .int .i64 0, .int .i64 0, .int .i64 0, .int .i64 0, .slice none 0 0] 26)) w.heap.size u i.args) := I5.out.keep (agree_of_below k5 _)
    clear k5 hc hU Q5 B5 I5
    have P6 := instTextS w.heap.size i u q _ Hil.out I6.out
    rw [hem] at P6 ⊢
    clear hem
    have x0 : (w5.alloc (.cells #[.int .i64 0, .int .i64 0, .int .i64 0, .int .i64 0, .int .i64 0, .int .i64 0, .slice none 0 0] 26)).cell? ⟨w2.heap.size, 0, none⟩ = some (.int .i64 i.op) := Q6.out.cell 0
    have x1 : (w5.alloc (.cells #[.int .i64 0, .int .i64 0, .int .i64 0, .int .i64 0, .int .i64 0, .int .i64 0, .slice none 0 0] 26)).cell? ⟨w2.heap.size, 1, none⟩ = some (.int .i64 i.w) := Q6.out.cell 1
    have x2 : (w5.alloc (.cells #[.int .i64 0, .int .i64 0, .int .i64 0, .int .i64 0, .int .i64 0, .int .i64 0, .slice none 0 0] 26)).cell? ⟨w2.heap.size, 2, none⟩ = some (.int .i64 i.a) := Q6.out.cell 2
    have x3 : (w5.alloc (.cells #[.int .i64 0, .int .i64 0, .int .i64 0, .int .i64 0, .int .i64 0, .int .i64 0, .slice none 0 0] 26)).cell? ⟨w2.heap.size, 3, none⟩ = some (.int .i64 i.b) := Q6.out.cell 3
    have x4 : (w5.alloc (.cells #[.int .i64 0, .int .i64 0, .int .i64 0, .int .i64 0, .int .i64 0, .int .i64 0, .slice none 0 0] 26)).cell? ⟨w2.heap.size, 4, none⟩ = some (.int .i64 i.c) := Q6.out.cell 4
    have x5 : (w5.alloc (.cells #[.int .i64 0, .int .i64 0, .int .i64 0, .int .i64 0, .int .i64 0, .int .i64 0, .slice none 0 0] 26)).cell? ⟨w2.heap.size, 5, none⟩ = some (.int .i64 i.imm) := Q6.out.cell 5
    have x6 : (w5.alloc (.cells #[.int .i64 0, .int .i64 0, .int .i64 0, .int .i64 0, .int .i64 0, .int .i64 0, .slice none 0 0] 26)).cell? ⟨w2.heap.size, 6, none⟩ = some (.slice u i.args.length q) := Q6.out.cell 6

    go_wp2_with fail
    clear x0 x1 x2 x3 x4 x5 x6
    refine P6.mono ?_
    rintro e w7 ⟨rfl, b7⟩
    have B7 : Hid (Below w.heap.size w w7) := B6.out.trans (b7.mono B6.out.size)
    clear P6 b7 Q6 B6 I6
    go_wp2_with fail
    refine (D2.out w7 B7.out).mono ?_
    rintro e w9 ⟨⟨t, rfl, ht⟩, b9⟩
    have B9 : Hid (Below w.heap.size w w9) := B7.out.trans (b9.mono B7.out.size)
    obtain ⟨g, ok, hgl, US, UI, UT⟩ := uni2 t
    have HT : Hid (ok = true → instText g = t) := UT
    have Hgl : Hid (g.args.length ≤ 1048576) := hgl
    clear b9 hgl UT
    go_wp2_with fail
    refine (hRI.out t w9 ht B9.out).mono ?_
    rintro e wA ⟨hc2, bA⟩
    obtain ⟨xu, xq, rfl, hR2⟩ := UI _ _ _ hc2
    have kA : Below wA.heap.size wA (wA.alloc (.cells #[.int .i64 g.op, .int .i64 g.w, .int .i64 g.a, .int .i64 g.b, .int .i64 g.c, .int .i64 g.imm, .slice xu g.args.length xq] 26)) := (Below.refl _ _).alloc (Nat.le_refl _) _
    have QB : Hid (At (wA.alloc (.cells #[.int .i64 g.op, .int .i64 g.w, .int .i64 g.a, .int .i64 g.b, .int .i64 g.c, .int .i64 g.imm, .slice xu g.args.length xq] 26)) wA.heap.size #[.int .i64 g.op, .int .i64 g.w, .int .i64 g.a, .int .i64 g.b, .int .i64 g.c, .int .i64 g.imm, .slice xu g.args.length xq] 26) := At.new _ _ _
    have BB : Hid (Below w.heap.size w (wA.alloc (.cells #[.int .i64 g.op, .int .i64 g.w, .int .i64 g.a, .int .i64 g.b, .int .i64 g.c, .int .i64 g.imm, .slice xu g.args.length xq] 26))) := (B9.out.trans (bA.mono B9.out.size)).trans (kA.mono (Nat.le_trans B9.out.size bA.size))
    have IB : Hid (IntsAt (wA.alloc (.cells #[.int .i64 g.op, .int .i64 g.w, .int .i64 g.a, .int .i64 g.b, .int .i64 g.c, .int .i64 g.imm, .slice xu g.args.length xq] 26)) w9.heap.size xu g.args) := (row_ownR Hgl.out hR2).at.keep (agree_of_below kA _)
    clear bA kA hc2 hR2 UI B9
    obtain ⟨WB, hWB⟩ : ∃ W, (wA.alloc (.cells #[.int .i64 g.op, .int .i64 g.w, .int .i64 g.a, .int .i64 g.b, .int .i64 g.c, .int .i64 g.imm, .slice xu g.args.length xq] 26)) = W := ⟨_, rfl⟩
    rw [hWB] at QB BB IB
    go_wp2_with fail
    clear hWB
    refine (readS t WB ht).mono ?_
    rintro e wC ⟨hc3, bC⟩
    obtain ⟨yu, yq, rfl, _⟩ := US _ _ _ hc3
    have kC : Below wC.heap.size wC (wC.alloc (.cells #[.int .i64 g.op, .int .i64 g.w, .int .i64 g.a, .int .i64 g.b, .int .i64 g.c, .int .i64 g.imm, .slice yu g.args.length yq] 26)) := (Below.refl _ _).alloc (Nat.le_refl _) _
    have QD : Hid (At (wC.alloc (.cells #[.int .i64 g.op, .int .i64 g.w, .int .i64 g.a, .int .i64 g.b, .int .i64 g.c, .int .i64 g.imm, .slice yu g.args.length yq] 26)) wA.heap.size #[.int .i64 g.op, .int .i64 g.w, .int .i64 g.a, .int .i64 g.b, .int .i64 g.c, .int .i64 g.imm, .slice xu g.args.length xq] 26) := (QB.out.below bC).below kC
    have BD : Hid (Below w.heap.size w (wC.alloc (.cells #[.int .i64 g.op, .int .i64 g.w, .int .i64 g.a, .int .i64 g.b, .int .i64 g.c, .int .i64 g.imm, .slice yu g.args.length yq] 26))) := (BB.out.trans (bC.mono BB.out.size)).trans (kC.mono (Nat.le_trans BB.out.size bC.size))
    have ID : Hid (IntsAt (wC.alloc (.cells #[.int .i64 g.op, .int .i64 g.w, .int .i64 g.a, .int .i64 g.b, .int .i64 g.c, .int .i64 g.imm, .slice yu g.args.length yq] 26)) w9.heap.size xu g.args) := (IB.out.keep (agree_of_below bC _)).keep (agree_of_below kC _)
    clear bC kC hc3 US QB BB IB
    obtain ⟨WD, hWD⟩ : ∃ W, (wC.alloc (.cells #[.int .i64 g.op, .int .i64 g.w, .int .i64 g.a, .int .i64 g.b, .int .i64 g.c, .int .i64 g.imm, .slice yu g.args.length yq] 26)) = W := ⟨_, rfl⟩
    rw [hWD] at QD BD ID
    have x0 : WD.cell? ⟨wA.heap.size, 0, none⟩ = some (.int .i64 g.op) := QD.out.cell 0
    have x1 : WD.cell? ⟨wA.heap.size, 1, none⟩ = some (.int .i64 g.w) := QD.out.cell 1
    have x2 : WD.cell? ⟨wA.heap.size, 2, none⟩ = some (.int .i64 g.a) := QD.out.cell 2
    have x3 : WD.cell? ⟨wA.heap.size, 3, none⟩ = some (.int .i64 g.b) := QD.out.cell 3
    have x4 : WD.cell? ⟨wA.heap.size, 4, none⟩ = some (.int .i64 g.c) := QD.out.cell 4
    have x5 : WD.cell? ⟨wA.heap.size, 5, none⟩ = some (.int .i64 g.imm) := QD.out.cell 5
    have x6 : WD.cell? ⟨wA.heap.size, 6, none⟩ = some (.slice xu g.args.length xq) := QD.out.cell 6

    cases ok with
    | false =>
      go_wp2_with fail
      go_ret
      exact ⟨rfl, BD.out⟩
    | true =>
      have hgt := HT.out rfl
      go_wp2_with fail
      clear hWD
      refine (hTI.out w9.heap.size g xu xq WD Hgl.out ID.out BD.out).mono ?_
      rw [hgt]
      rintro e wE ⟨rfl, bE⟩
      have BE : Hid (Below w.heap.size w wE) := BD.out.trans (bE.mono BD.out.size)
      clear bE
      go_wp2_with fail
      go_ret
      exact ⟨rfl, BE.out⟩
end Go.Proofs.YtjmoonbpfieifaaGreatDoor
