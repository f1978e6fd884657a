/- What is alive: what is asked of a function first. -/
import Derived.Test.YtolaghondjfhdabGreatDoorLxDQ
import Derived.Test.YtolaghondjfhdabGreatDoorSzMQ
namespace Go.Proofs.YtolaghondjfhdabGreatDoor
open Go.RowKit
set_option linter.unusedVariables false

set_option maxHeartbeats 1000000 in
set_option maxRecDepth 100000 in
theorem formI (lo : Nat) (d : FuncD) (u0 : Option Addr) (c0 : Nat) (u2 : Option Addr) (c2 : Nat) (w : World) (hs : SmFunc d) (k0 : IntsAt w lo u0 d.params) (k2 : BlocksAt w lo u2 d.blocks) :
    Calls Tryz.prog 35 #[.agg #[.slice u0 d.params.length c0, .int .i64 d.ret, .slice u2 d.blocks.length c2]] w fun e w' => e = .returned (.bool (funcB 3 d)) ∧ Below w.heap.size w w' := by
  have F0 := FBox.start (d := d) (u0 := u0) (u2 := u2) (c0 := c0) (c2 := c2) (w := w) (T := 30)
  have P := funcShI lo d u0 c0 u2 c2 3 _ hs (k0.keep (agree_of_below F0.below lo)) (k2.keep (agree_of_below F0.below lo))
  have HB := F0.below
  have a0 := F0.a0
  have a1 := F0.a1
  have a2 := F0.a2
  clear F0 hs k0 k2
  go_enter Tryz.func35, Tryz.ntmps35
  go_wp2_with (go_at_call 63; refine P.mono ?_; rintro e w2 ⟨rfl, b2⟩)
  go_ret
  exact ⟨rfl, HB.trans (b2.mono HB.size)⟩
set_option maxHeartbeats 4000000 in
set_option maxRecDepth 100000 in
theorem livesI_no (lo : Nat) (d : FuncD) (u0 : Option Addr) (c0 : Nat) (u2 : Option Addr) (c2 : Nat) (a : Addr) (w : World) (hs : SmFunc d) (k0 : IntsAt w lo u0 d.params) (k2 : BlocksAt w lo u2 d.blocks) (hv : Gv w 0 (errV a)) (hn : ¬ (funcB 3 d = true ∧ phsB d = true)) :
    Calls Tryz.prog 19 #[.agg #[.slice u0 d.params.length c0, .int .i64 d.ret, .slice u2 d.blocks.length c2]] w fun e w' => e = .returned (.tuple #[.pointer none, .bool false]) ∧ Below w.heap.size w w' := by
  have F0 := FBox.start (d := d) (u0 := u0) (u2 := u2) (c0 := c0) (c2 := c2) (w := w) (T := 30)
  have P := formI lo d u0 c0 u2 c2 _ hs (k0.keep (agree_of_below F0.below lo)) (k2.keep (agree_of_below F0.below lo))
  have HB := F0.below
  have a0 := F0.a0
  have a1 := F0.a1
  have a2 := F0.a2
  have HF0 : Hid (FBox d u0 c0 u2 c2 w _) := F0
  clear F0
  by_cases hf : funcB 3 d = true
  · have hp : phsB d = false := by
      cases h : phsB d with
      | false => rfl
      | true => exact absurd ⟨hf, h⟩ hn
    have HR : Hid (RightL d.blocks) := (form_of hf).right
    rw [hf] at P
    have Q := fun W (k : Below w.heap.size w W) => phisI lo d u0 c0 u2 c2 a W hs (k2.keep (agree_of_below k lo)) HR.out (hv.keep k)
    rw [hp] at Q
    have e0 : outV false (errV a) = .iface 180 (.pointer (some a)) := rfl
    rw [e0] at Q
    clear e0 hs k0 k2 hv hn hf hp
    go_enter Tryz.func19, Tryz.ntmps19
    go_wp2_with (first | (go_at_call 35; refine P.mono ?_; rintro e w2 ⟨rfl, b2⟩; have HF2 : Hid (FBox d u0 c0 u2 c2 w w2) := HF0.out.keep b2; have z0 := HF2.out.a0; have z1 := HF2.out.a1; have z2 := HF2.out.a2) | (go_at_call 36; refine (Q _ HF2.out.below).mono ?_; rintro e w3 ⟨rfl, b3⟩; have HB3 := HF2.out.below.trans (b3.mono HF2.out.below.size)))
    go_ret2
    exact ⟨rfl, HB3⟩
  · have hf' : funcB 3 d = false := by simpa using hf
    rw [hf'] at P
    clear hs k0 k2 hv hn hf hf'
    go_enter Tryz.func19, Tryz.ntmps19
    go_wp2_with (first | (go_at_call 35; refine P.mono ?_; rintro e w2 ⟨rfl, b2⟩; have HB2 := HB.trans (b2.mono HB.size)))
    go_ret2
    exact ⟨rfl, HB2⟩
end Go.Proofs.YtolaghondjfhdabGreatDoor
namespace Go.Proofs.YtolaghondjfhdabGreatDoor
open Go.RowKit
set_option linter.unusedVariables false

/-- Ahead of a round: gk rounds may come; at the last one nothing more came. -/
structure GoSt (d : FuncD) (k : Nat) (I F : Alive) (gk : Nat) (mo : Bool) : Prop where
  it : I = iterL d k
  fine : ∀ j, Fine (cntF d) (F j)
  ins : ∀ t, t < d.blocks.length → F (1 + t) = I t
  no : mo = false → Fix d I ∧ ∀ b, b < d.blocks.length → ToldB d I F b
  yes : mo = true → 602 ≤ gk + allL I d.blocks.length
  far1 : ∀ t, d.blocks.length ≤ t → t < 10 → F (1 + t) = []
  far2 : ∀ t, cntF d ≤ t → F (21 + t) = []
theorem GoSt.start (d : FuncD) : GoSt d 0 (fun _ => []) (fun _ => []) 700 true :=
  ⟨rfl, fun j => Fine.nil _, fun t ht => rfl, fun h => (by cases h), fun _ => by omega, fun _ _ _ => rfl, fun _ _ => rfl⟩
theorem GoSt.round {d : FuncD} {k gk : Nat} {I F : Alive} {mo : Bool} (h : GoSt d k I F gk mo) : RndSt d I F 0 false :=
  ⟨h.fine, h.ins, RdAt.start d I, fun _ j hj => by omega, h.far1, h.far2⟩
theorem GoSt.grows {d : FuncD} {k gk : Nat} {I F : Alive} {mo : Bool} (h : GoSt d k I F gk mo) (hF : LvF d) : Grows d I := by
  rw [h.it]; exact Grows.iter hF k
theorem GoSt.pos {d : FuncD} {k gk : Nat} {I F : Alive} (h : GoSt d k I F gk true) (hF : LvF d) : 2 ≤ gk := by
  have h1 := h.yes rfl
  have h2 := allL_le (h.grows hF) hF.cnt d.blocks.length
  have h3 := hF.right.2.1
  omega
theorem GoSt.next {d : FuncD} {k gk : Nat} {I F F' : Alive} {mo : Bool} (h : GoSt d k I F gk true) (hF : LvF d) (hr : RndSt d I F' d.blocks.length mo) : GoSt d (k + 1) (iterL d (k + 1)) F' (gk - 1) mo := by
  have e : rdL d I d.blocks.length = iterL d (k + 1) := by rw [h.it]; rfl
  have hp := h.pos hF
  refine ⟨rfl, hr.fine, fun t ht => by rw [← e]; exact hr.ins t ht, fun h0 => ?_, fun h1 => ?_, hr.far1, hr.far2⟩
  · subst h0
    have e2 : iterL d (k + 1) = I := by rw [← e]; exact (hr.rd.no rfl).1
    rw [e2]
    refine ⟨⟨⟨k, h.it⟩, hr.rd.fix⟩, fun b hb => ?_⟩
    have := hr.told rfl (d.blocks.length - 1 - b) (by omega)
    rw [show d.blocks.length - 1 - (d.blocks.length - 1 - b) = b by omega] at this
    exact this
  · have := hr.rd.yes h1
    have h2 := h.yes rfl
    rw [e] at this
    omega
/-- The sets behind the parameters, n of them. -/
def parF (F : Alive) (s : List Int) : Nat → Alive
  | 0 => F
  | n + 1 => updL (parF F s n) (21 + n) s
theorem par_same {F : Alive} {s : List Int} : ∀ {n j : Nat}, j < n → parF F s n (21 + j) = s
  | 0, j, h => by omega
  | n + 1, j, h => by
    by_cases e : j = n
    · subst e; exact updL_same _ _ _
    · show updL (parF F s n) (21 + n) s (21 + j) = s
      rw [updL_other _ (by omega)]
      exact par_same (by omega)
theorem par_other {F : Alive} {s : List Int} : ∀ {n j : Nat}, (j < 21 ∨ 21 + n ≤ j) → parF F s n j = F j
  | 0, j, h => rfl
  | n + 1, j, h => by
    show updL (parF F s n) (21 + n) s j = F j
    rw [updL_other _ (by omega)]
    exact par_other (by omega)
end Go.Proofs.YtolaghondjfhdabGreatDoor
namespace Go.Proofs.YtolaghondjfhdabGreatDoor
open Go.RowKit
set_option linter.unusedVariables false

/-- What livesOf leaves. -/
structure LivesOut (w w' : World) (M lo : Nat) (d : FuncD) (u2 : Option Addr) (c2 : Nat) (Rb : Nat) (I F : Alive) : Prop where
  ge : w.heap.size ≤ M
  rt : RtAt w' Rb lo (Rb + 1) d u2 c2
  ty : ∃ T, w'.cell? ⟨Rb, 3, none⟩ = some (.slice (some ⟨T, 0, none⟩) (cntF d) (cntF d)) ∧ IntsAt w' w.heap.size (some ⟨T, 0, none⟩) (tysF d)
  fix : Fix d I
  ins : ∀ t, t < d.blocks.length → F (1 + t) = I t
  told : ∀ b, b < d.blocks.length → ToldB d I F b
  fine : ∀ j, Fine (cntF d) (F j)
  lv : LvAt w' M Rb (fun _ => False) (parF F (I 0) d.params.length)
  below : Below w.heap.size w w'
  two : ∃ u c, w'.cell? ⟨Rb, 0, none⟩ = some (.slice u d.params.length c) ∧ w'.cell? ⟨Rb, 1, none⟩ = some (.int .i64 d.ret)
  far1 : ∀ t, d.blocks.length ≤ t → t < 10 → F (1 + t) = []
  far2 : ∀ t, cntF d ≤ t → F (21 + t) = []
theorem lv_start (w : World) (Rb : Nat) : LvAt (w.alloc (.cells ((Value.pointer (some ⟨Rb, 0, none⟩) :: List.replicate 80 (Value.slice none 0 0)).toArray) 80)) w.heap.size Rb (fun _ => False) (fun _ => []) := by
  refine ⟨_, At.new w _ _, by simp, by simp, fun j h1 h2 => ⟨none, 0, ?_, ⟨by simp, .inl rfl⟩, fun h => absurd rfl h⟩⟩
  obtain ⟨i, rfl⟩ : ∃ i, j = i + 1 := ⟨j - 1, by omega⟩
  have hi : i < 80 := by omega
  rw [List.getElem?_toArray, List.getElem?_cons_succ, List.getElem?_replicate, if_pos hi]
  rfl
set_option maxHeartbeats 8000000 in
set_option maxRecDepth 100000 in
theorem livesI_ok (lo : Nat) (d : FuncD) (u0 : Option Addr) (c0 : Nat) (u2 : Option Addr) (c2 : Nat) (a : Addr) (w : World) (hs : SmFunc d) (k0 : IntsAt w lo u0 d.params) (k2 : BlocksAt w lo u2 d.blocks) (hv : Gv w 0 (errV a)) (hf : funcB 3 d = true) (hp : phsB d = true) :
    Calls Tryz.prog 19 #[.agg #[.slice u0 d.params.length c0, .int .i64 d.ret, .slice u2 d.blocks.length c2]] w fun e w' => ∃ M, e = .returned (.tuple #[.pointer (some ⟨M, 0, none⟩), .bool true]) ∧ ∃ Rb I F, LivesOut w w' M lo d u2 c2 Rb I F := by
  have F0 := FBox.start (d := d) (u0 := u0) (u2 := u2) (c0 := c0) (c2 := c2) (w := w) (T := 30)
  have P := formI lo d u0 c0 u2 c2 _ hs (k0.keep (agree_of_below F0.below lo)) (k2.keep (agree_of_below F0.below lo))
  have a0 := F0.a0
  have a1 := F0.a1
  have a2 := F0.a2
  have HF0 : Hid (FBox d u0 c0 u2 c2 w _) := F0
  have HLF : Hid (LvF d) := lvf_of hf hp
  have HS : Hid (SmFunc d) := hs
  rw [hf] at P
  have Q := fun W (k : Below w.heap.size w W) => phisI lo d u0 c0 u2 c2 a W hs (k2.keep (agree_of_below k lo)) HLF.out.right (hv.keep k)
  have R := fun W (k : Below w.heap.size w W) => routineI lo d u0 c0 u2 c2 W hs (k0.keep (agree_of_below k lo)) (k2.keep (agree_of_below k lo)) HLF.out.right HLF.out.cnt
  rw [hp] at Q
  have e0 : outV true (errV a) = .nilIface := rfl
  rw [e0] at Q
  have hpl : d.params.length ≤ 4 := HLF.out.params
  clear e0 hs k0 k2 hv hf hp F0
  go_enter Tryz.func19, Tryz.ntmps19
  go_wp2_with (first | (go_at_call 35; refine P.mono ?_; rintro e w2 ⟨rfl, b2⟩; have HF2 : Hid (FBox d u0 c0 u2 c2 w w2) := HF0.out.keep b2; have z0 := HF2.out.a0; have z1 := HF2.out.a1; have z2 := HF2.out.a2) | (go_at_call 36; refine (Q _ HF2.out.below).mono ?_; rintro e w3 ⟨rfl, b3⟩; have HF3 : Hid (FBox d u0 c0 u2 c2 w w3) := HF2.out.keep b3; have y0 := HF3.out.a0; have y1 := HF3.out.a1; have y2 := HF3.out.a2) | (go_at_call 37; refine (R _ HF3.out.below).mono ?_; rintro e w4 ⟨Rb, rfl, HRO⟩))
  --CUT1
  have HF4 : Hid (FBox d u0 c0 u2 c2 w w4) := HF3.out.keep HRO.below
  have HR4 : Hid (RtOut w3 w4 Rb lo d u2 c2) := HRO
  generalize hW : w4.alloc _ = W
  have hW2 : w4.alloc (.cells ((Value.pointer (some ⟨Rb, 0, none⟩) :: List.replicate 80 (Value.slice none 0 0)).toArray) 80) = W := hW
  have HL0 : Hid (LvAt W w4.heap.size Rb (fun _ => False) (fun _ => [])) := by show LvAt _ _ _ _ _; rw [← hW2]; exact lv_start w4 Rb
  have HB4 : Hid (Below w4.heap.size w4 W) := by show Below _ _ _; rw [← hW2]; exact (Below.refl _ _).alloc (Nat.le_refl _) _
  clear hW hW2
  clear P Q R a0 a1 a2 HF0 HF2 z0 z1 z2 y0 y1 y2 HRO b2 b3
  --CUT2
  go_loopg [5] 700 (fun gk more wr => ∃ (k : Nat) (I F : Alive) (mo : Bool), more = .bool mo ∧ Hid (GoSt d k I F gk mo) ∧ Hid (LvAt wr w4.heap.size Rb (fun _ => False) F) ∧ Hid (Below w4.heap.size w4 wr))
  case atStart => exact ⟨0, fun _ => [], fun _ => [], true, rfl, GoSt.start d, HL0.out, HB4.out⟩
  case round =>
    obtain ⟨k, I, F, mo, rfl, HG, HL, HB⟩ := hrel
    clear HL0 HB4
    cases mo with
    | true =>
      have RI := roundI w4.heap.size Rb lo (Rb + 1) d u2 c2 F I w4 wr HS.out HLF.out (Nat.le_refl _) HR4.out.rt HB.out HL.out (HG.out.grows HLF.out) HG.out.round
      have hgk := HG.out.pos HLF.out
      go_wp2_with (go_at_call 38; refine RI.mono ?_; rintro e w5 ⟨mo, rfl, F', hl5, hr5, b5⟩)
      have HG5 : Hid (GoSt d (k + 1) (iterL d (k + 1)) F' (gk - 1) mo) := HG.out.next HLF.out hr5
      have HB5 : Hid (Below w4.heap.size w4 w5) := HB.out.trans b5
      go_roundg (gk - 1)
      case measure => omega
      case rel => exact ⟨k + 1, iterL d (k + 1), F', mo, rfl, HG5, hl5, HB5⟩
    | false =>
      have HFr : Hid (FBox d u0 c0 u2 c2 w wr) := HF4.out.keep HB.out
      have x0 := HFr.out.a0
      --CUT3
      go_wp2_with fail
      obtain ⟨wb, hwb⟩ : ∃ wb, wb = wr := ⟨_, rfl⟩
      subst hwb
      have hi0 : F 1 = I 0 := HG.out.ins 0 HLF.out.right.1
      have HFX := (HG.out.no rfl).1
      have HTO := (HG.out.no rfl).2
      have hil : (I 0).length ≤ 60 := by rw [← hi0]; exact Nat.le_trans (HG.out.fine 1).len HLF.out.cnt
      have HI0 : Hid (F 1 = I 0) := hi0
      clear hi0 x0
      go_loopw [25] (fun i wr => ∃ m : Nat, m ≤ d.params.length ∧ i = .int .i64 m ∧ Hid (LvAt wr w4.heap.size Rb (fun _ => False) (parF F (I 0) m)) ∧ Hid (Below w4.heap.size w4 wr)) (fun i _ => d.params.length - (intOf i).toNat)
      case atStart => exact ⟨0, by omega, rfl, HL.out, HB.out⟩
      case round =>
        obtain ⟨m, hm, rfl, HLm, HBm⟩ := hrel
        obtain ⟨wo, hwo⟩ : ∃ wo, wo = wr := ⟨_, rfl⟩
        subst hwo
        by_cases hlt : m < d.params.length
        · have HLd : Hid (LvAt wo.drew w4.heap.size Rb (fun _ => False) (parF F (I 0) m)) := HLm.out.below ((Below.refl _ _).drew)
          obtain ⟨xa, xc, xe, xi, _⟩ := HLd.out.cell (j := 1) (by omega) (by omega)
          rw [par_other (by omega), HI0.out] at xe xi
          have PC := copiedI (w4.heap.size + 1) xa xc (I 0) wo.drew (by omega) xi
          --CUT4
          go_wp2_with fail
          refine wp_region_held_drew (S := fun w' => w'.cell? ⟨w4.heap.size, 1, none⟩ = some (.slice xa (I 0).length xc)) (by kernel_rfl) (show wo.drew.cell? _ = _ from xe) (fun hHeld => ?_)
          refine wpAnyH_take (i := 0) (v := ?_) rfl (by kernel_rfl) (by kernel_rfl) (by kernel_rfl) (fun _ _ _ h => h) (Or.inl ⟨by rfl, ?_⟩) hHeld ?_
          rotate_left
          · intro w9 hS9
            go_simp
            try with_reducible rfl
          show wpAnyH _ _ _ _ _ _ _ (Act.put _ (some _) _) _
          simp only [Act.put, List.setIfInBounds_toArray, List.set_cons_zero, List.set_cons_succ]
          refine wpAnyH_take (i := 1) (v := ?_) rfl (by kernel_rfl) (by kernel_rfl) (by kernel_rfl) (fun _ _ _ h => h) (Or.inl ⟨by rfl, ?_⟩) hHeld ?_
          rotate_left
          · intro w9 hS9
            go_simp
            try with_reducible rfl
          show wpAnyH _ _ _ _ _ _ _ (Act.put _ (some _) _) _
          simp only [Act.put, List.setIfInBounds_toArray, List.set_cons_zero, List.set_cons_succ]
          refine wpAnyH_take (i := 2) (v := ?_) rfl (by kernel_rfl) (by kernel_rfl) (by kernel_rfl) (fun _ _ _ h => h) (Or.inl ⟨by rfl, ?_⟩) hHeld ?_
          rotate_left
          · intro w9 hS9
            go_simp
            try with_reducible rfl
          show wpAnyH _ _ _ _ _ _ _ (Act.put _ (some _) _) _
          simp only [Act.put, List.setIfInBounds_toArray, List.set_cons_zero, List.set_cons_succ]
          refine wpAnyH_take (i := 3) (v := ?_) rfl (by kernel_rfl) (by kernel_rfl) (by kernel_rfl) (fun _ _ _ h => h) (Or.inl ⟨by rfl, ?_⟩) hHeld ?_
          rotate_left
          · intro w9 hS9
            go_simp
            try with_reducible rfl
          show wpAnyH _ _ _ _ _ _ _ (Act.put _ (some _) _) _
          simp only [Act.put, List.setIfInBounds_toArray, List.set_cons_zero, List.set_cons_succ]
          refine wpAnyH_take (i := 4) (v := ?_) rfl (by kernel_rfl) (by kernel_rfl) (by kernel_rfl) (fun _ _ _ h => h) (Or.inl ⟨by rfl, ?_⟩) hHeld ?_
          rotate_left
          · intro w9 hS9
            go_simp
            try with_reducible rfl
          show wpAnyH _ _ _ _ _ _ _ (Act.put _ (some _) _) _
          simp only [Act.put, List.setIfInBounds_toArray, List.set_cons_zero, List.set_cons_succ]
          refine wpAnyH_take (i := 5) (v := ?_) rfl (by kernel_rfl) (by kernel_rfl) (by kernel_rfl) (fun _ _ _ h => h) (Or.inl ⟨by rfl, ?_⟩) hHeld ?_
          rotate_left
          · intro w9 hS9
            go_simp
            try with_reducible rfl
          show wpAnyH _ _ _ _ _ _ _ (Act.put _ (some _) _) _
          simp only [Act.put, List.setIfInBounds_toArray, List.set_cons_zero, List.set_cons_succ]
          refine wpAnyH_take (i := 6) (v := ?_) rfl (by kernel_rfl) (by kernel_rfl) (by kernel_rfl) (fun _ _ _ h => h) (Or.inl ⟨by rfl, ?_⟩) hHeld ?_
          rotate_left
          · intro w9 hS9
            have g0 := hS9
            go_simp
            try with_reducible rfl
          show wpAnyH _ _ _ _ _ _ _ (Act.put _ (some _) _) _
          simp only [Act.put, List.setIfInBounds_toArray, List.set_cons_zero, List.set_cons_succ]
          refine wpAnyH_take (i := 8) (v := ?_) rfl (by kernel_rfl) (by kernel_rfl) (by kernel_rfl) (fun _ _ _ h => h) (Or.inl ⟨by rfl, ?_⟩) hHeld ?_
          rotate_left
          · intro w9 hS9
            go_simp
            try with_reducible rfl
          show wpAnyH _ _ _ _ _ _ _ (Act.put _ (some _) _) _
          simp only [Act.put, List.setIfInBounds_toArray, List.set_cons_zero, List.set_cons_succ]
          refine wpAnyH_take (i := 9) (v := ?_) rfl (by kernel_rfl) (by kernel_rfl) (by kernel_rfl) (fun _ _ _ h => h) (Or.inl ⟨by rfl, ?_⟩) hHeld ?_
          rotate_left
          · intro w9 hS9
            go_simp
            try with_reducible rfl
          show wpAnyH _ _ _ _ _ _ _ (Act.put _ (some _) _) _
          simp only [Act.put, List.setIfInBounds_toArray, List.set_cons_zero, List.set_cons_succ]
          --CUT5
          refine wpAnyH_ready (rs := [7]) (by kernel_rfl) (by simp) ?_
          refine AllReadyH.cons rfl (fun K hK => ?_) AllReadyH.nil
          go_simp
          go_wp2_with (go_at_call 39; refine (PC).mono ?_; rintro e V ⟨vy, rfl, ry, bY⟩)
          refine hK.out _ _ ?_ (fun hHeld2 => ?_)
          · exact (cell_block (bY.block _ HLd.out.lt)).trans hHeld
          clear hK K hHeld
          have hHeld := hHeld2
          clear hHeld2
          try simp only [Act.put, List.setIfInBounds_toArray, List.set_cons_zero, List.set_cons_succ]
          have HLV : Hid (LvAt V w4.heap.size Rb (fun _ => False) (parF F (I 0) m)) := HLd.out.below bY
          have HBV : Hid (Below w4.heap.size w4 V) := HBm.out.trans ((((Below.refl _ _).drew).trans bY).mono (by have := HBm.out.size; exact this))
          obtain ⟨yu, yc, hyv, yi⟩ := ry.ints (by omega)
          have HYI : Hid (IntsAt V (w4.heap.size + 1) yu (I 0)) := yi.low (show w4.heap.size + 1 ≤ wo.heap.size from HLm.out.lt)
          subst hyv
          obtain ⟨za, zc, ze, _, _⟩ := HLV.out.cell (j := 21 + m) (by omega) (by omega)
          have zf := HLV.out.froz (21 + m)
          clear PC xi ry bY yi
          refine wpAnyH_take (i := 10) (v := ?_) rfl (by kernel_rfl) (by kernel_rfl) (by kernel_rfl) (fun _ _ _ h => h) (Or.inl ⟨by rfl, ?_⟩) hHeld ?_
          rotate_left
          · intro w9 hS9
            go_simp
            rw [if_pos (by omega)]
            try with_reducible rfl
          show wpAnyH _ _ _ _ _ _ _ (Act.put _ (some _) _) _
          simp only [Act.put, List.setIfInBounds_toArray, List.set_cons_zero, List.set_cons_succ]
          --CUT6
          refine wpAnyH_ready (rs := [11]) (by kernel_rfl) (by simp) ?_
          refine AllReadyH.cons rfl (fun K hK => ?_) AllReadyH.nil
          go_simp
          go_wp2_with fail
          refine hK.out _ _ ?_ (fun hHeld2 => ?_)
          · exact (World.cell?_setCell_other _ _ _ _ (by intro h; injection h; omega)).trans hHeld
          clear hK K hHeld
          have hHeld := hHeld2
          clear hHeld2
          try simp only [Act.put, List.setIfInBounds_toArray, List.set_cons_zero, List.set_cons_succ]
          refine wpAnyH_done (by kernel_rfl) ?_ _
          --CUT7
          have HN : Hid (LvAt (V.setCell ⟨w4.heap.size, 21 + m, none⟩ (.slice yu (I 0).length yc)) w4.heap.size Rb (fun _ => False) (parF F (I 0) (m + 1))) := HLV.out.set (by omega) (by omega) HYI.out (fun _ _ _ _ h => h)
          have HBN : Hid (Below w4.heap.size w4 (V.setCell ⟨w4.heap.size, 21 + m, none⟩ (.slice yu (I 0).length yc))) := HBV.out.setCell (p := ⟨w4.heap.size, 21 + m, none⟩) (Nat.le_refl _) _
          generalize (V.setCell ⟨w4.heap.size, 21 + m, none⟩ (.slice yu (I 0).length yc)) = Z at HN HBN ⊢
          clear hHeld ze zf HYI HLV HBV
          go_wp2_with fail
          go_roundw
          case rel => exact ⟨m + 1, by omega, by go_num, HN.out, HBN.out⟩
          case measure => simp [intOf]; omega
        · have e : m = d.params.length := by omega
          subst e
          have HW4 : Below w.heap.size w w4 := HF4.out.below
          go_wp2_with fail
          go_ret2
          refine ⟨w4.heap.size, rfl, Rb, I, F, HW4.size, HR4.out.rt.below HBm.out, ?_, HFX, HG.out.ins, HTO, HG.out.fine, HLm.out, HW4.trans (HBm.out.mono HW4.size), ?_, HG.out.far1, HG.out.far2⟩
          rotate_left
          · obtain ⟨tu, tc, t1, t2⟩ := HR4.out.two
            exact ⟨tu, tc, (cell_block (HBm.out.block Rb HR4.out.rt.lt)).trans t1, (cell_block (HBm.out.block Rb HR4.out.rt.lt)).trans t2⟩
          obtain ⟨T, t1, t2⟩ := HR4.out.ty
          exact ⟨T, (cell_block (HBm.out.block Rb HR4.out.rt.lt)).trans t1, (t2.low HF3.out.below.size).keep (agree_of_below HBm.out _)⟩
end Go.Proofs.YtolaghondjfhdabGreatDoor
