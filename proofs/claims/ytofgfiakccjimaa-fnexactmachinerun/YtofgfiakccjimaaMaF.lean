/- A machine: the contract of work in the words of its state. -/
import Derived.Test.YtofgfiakccjimaaMaE
namespace Go.Proofs.Ytofgfiakccjimaa
open Go.RowKit
set_option linter.unusedVariables false
set_option linter.unusedSimpArgs false

theorem own_apart {w w' : World} {M B : Nat} {v : Value} {n : Nat} {xs : List Value} (h : w.ownsRow B 2 1 v n xs) (hM : M < B) (k : w.grownBy w' (some M)) : w'.ownsRow B 2 1 v n xs :=
  ownsRow_at h fun g hg hz => k.block g hz (by have := ownsRow_ge h hg; intro e; simp at e; omega)
theorem mach_below {w w' : World} {M B : Nat} {s : MSt} {fuel : Int} {cv : Value} (h : MachAt w M B s fuel cv) (k : Below w.heap.size w w') : MachAt w' M B s fuel cv := by
  obtain ⟨hM, hB, cur, ov, hb, hr, ho⟩ := h
  exact ⟨hM, Nat.le_trans hB k.size, cur, ov, row_below hb k, hr, ownsRow_at ho fun g _ hz => k.block g hz⟩
theorem mach_grown {w w' : World} {M B : Nat} {cur' : Array Value} {s s' : MSt} {fuel : Int} {ov cv : Value} (hM : M < B) (hB : B ≤ w.heap.size) (ho : w.ownsRow B 2 1 ov s'.out.length (s'.out.map (Value.int .i64)))
    (hb : w'.heap[M]? = some (.cells cur' 78 (0, 0))) (hr : RowM cur' s' fuel ov cv) (k : w.grownBy w' (some M)) : MachAt w' M B s' fuel cv :=
  ⟨hM, Nat.le_trans hB k.size, cur', ov, hb, hr, own_apart ho hM k⟩
set_option maxHeartbeats 1000000 in
theorem workV (M B : Nat) (i : MInsD) (R n fuel : Int) (s : MSt) (cv : Value) (w : World) (hm : MachAt w M B s fuel cv) (g : Good s) (h1 : 1 ≤ R) (h2 : R ≤ 130) (h : minsB i R n = true)
    (m1 : ¬ i.op = 24) (m2 : ¬ i.op = 25) (m3 : ¬ i.op = 31) (m4 : ¬ i.op = 32) (m5 : ¬ i.op = 33) (m6 : ¬ i.op = 34) :
    Calls Try.prog 69 #[.pointer (some ⟨M, 0, none⟩), .agg #[.int .i64 i.op, .int .i64 i.w, .int .i64 i.d, .int .i64 i.a, .int .i64 i.b, .int .i64 i.c, .int .i64 i.imm]] w fun e w' => e = .returned (.int .i64 (workM i s).1) ∧ MachAt w' M B (workM i s).2 fuel cv ∧ Keeps M B w w' := by
  have nm := mins_names h1 h2 h
  have B1 : ∀ o, Below w.heap.size w (w.alloc o) := fun o => (Below.refl _ _).alloc (Nat.le_refl _) _
  have HM := hm
  obtain ⟨hM, hB, cur, ov, hb, hr, ho⟩ := hm
  have H1 := fun o => row_below hb (B1 o)
  obtain ⟨op, w0, d, a, b, c, imm⟩ := i
  obtain ⟨⟨d0, d1⟩, ⟨a0, a1⟩, ⟨b0, b1⟩, cc⟩ := nm
  dsimp only at *
  obtain ⟨d, rfl⟩ := Int.eq_ofNat_of_zero_le d0
  obtain ⟨a, rfl⟩ := Int.eq_ofNat_of_zero_le a0
  obtain ⟨b, rfl⟩ := Int.eq_ofNat_of_zero_le b0
  have hd : d < 130 := by omega
  have ha : a < 130 := by omega
  have hbb : b < 130 := by omega
  have ga := g.regs a ha
  have W : ∀ v : Int, valM ⟨op, w0, (d : Int), (a : Int), (b : Int), c, imm⟩ s = (v, 0) → workM ⟨op, w0, (d : Int), (a : Int), (b : Int), c, imm⟩ s = (0, { s with regs := upF s.regs d v }) := fun v e => by
    simp [workM, m1, m2, e]
  have W' : ∀ k : Int, ¬ k = 0 → valM ⟨op, w0, (d : Int), (a : Int), (b : Int), c, imm⟩ s = (0, k) → workM ⟨op, w0, (d : Int), (a : Int), (b : Int), c, imm⟩ s = (k, s) := fun k hk e => by
    simp [workM, m1, m2, e, hk]
  have YES : ∀ v : Int, valM ⟨op, w0, (d : Int), (a : Int), (b : Int), c, imm⟩ s = (v, 0) → (∀ o, o = Obj.cells #[.int .i64 op, .int .i64 w0, .int .i64 (d : Int), .int .i64 (a : Int), .int .i64 (b : Int), .int .i64 c, .int .i64 imm] 50 → Calls Try.prog 82 #[.pointer (some ⟨M, 0, none⟩), .agg #[.int .i64 op, .int .i64 w0, .int .i64 (d : Int), .int .i64 (a : Int), .int .i64 (b : Int), .int .i64 c, .int .i64 imm]] (w.alloc o) fun e w' => e = .returned (.tuple #[.int .i64 v, .int .i64 0]) ∧ Below (w.alloc o).heap.size (w.alloc o) w') →
      Calls Try.prog 69 #[.pointer (some ⟨M, 0, none⟩), .agg #[.int .i64 op, .int .i64 w0, .int .i64 (d : Int), .int .i64 (a : Int), .int .i64 (b : Int), .int .i64 c, .int .i64 imm]] w fun e w' => e = .returned (.int .i64 (workM ⟨op, w0, (d : Int), (a : Int), (b : Int), c, imm⟩ s).1) ∧ MachAt w' M B (workM ⟨op, w0, (d : Int), (a : Int), (b : Int), c, imm⟩ s).2 fuel cv ∧ Keeps M B w w' := fun v e G => by
    rw [W v e]
    refine (workI_some M cur 78 op w0 a b c imm v (s.regs d) d w hb m1 m2 hd (hr.regs d hd) (G _ rfl)).mono ?_
    rintro e w' ⟨rfl, hb', hg⟩
    exact ⟨rfl, mach_grown (s := s) (s' := { s with regs := upF s.regs d v }) hM hB ho hb' (hr.setReg d v hd) hg, Keeps.of_grown hg hB⟩
  have NO : ∀ k : Int, ¬ k = 0 → valM ⟨op, w0, (d : Int), (a : Int), (b : Int), c, imm⟩ s = (0, k) → (∀ o, o = Obj.cells #[.int .i64 op, .int .i64 w0, .int .i64 (d : Int), .int .i64 (a : Int), .int .i64 (b : Int), .int .i64 c, .int .i64 imm] 50 → Calls Try.prog 82 #[.pointer (some ⟨M, 0, none⟩), .agg #[.int .i64 op, .int .i64 w0, .int .i64 (d : Int), .int .i64 (a : Int), .int .i64 (b : Int), .int .i64 c, .int .i64 imm]] (w.alloc o) fun e w' => e = .returned (.tuple #[.int .i64 0, .int .i64 k]) ∧ Below (w.alloc o).heap.size (w.alloc o) w') →
      Calls Try.prog 69 #[.pointer (some ⟨M, 0, none⟩), .agg #[.int .i64 op, .int .i64 w0, .int .i64 (d : Int), .int .i64 (a : Int), .int .i64 (b : Int), .int .i64 c, .int .i64 imm]] w fun e w' => e = .returned (.int .i64 (workM ⟨op, w0, (d : Int), (a : Int), (b : Int), c, imm⟩ s).1) ∧ MachAt w' M B (workM ⟨op, w0, (d : Int), (a : Int), (b : Int), c, imm⟩ s).2 fuel cv ∧ Keeps M B w w' := fun k hk e G => by
    rw [W' k hk e]
    refine (workI_none M cur 78 op w0 d a b c imm k w hb m1 m2 hk (G _ rfl)).mono ?_
    rintro e w' ⟨rfl, hbl⟩
    exact ⟨rfl, mach_below HM hbl, Keeps.of_below hbl hB⟩
  cases hk : castOpB op with
  | true =>
    exact YES (castZ op c w0 (maskZ c (s.regs a))) (by simp [valM, hk, rg]) fun o _ => givenI_cast M cur 78 op w0 d b c imm (s.regs a) a _ (H1 o) hk ha (hr.regs a ha)
  | false =>
  obtain ⟨c0, c1⟩ := cc hk
  obtain ⟨c, rfl⟩ := Int.eq_ofNat_of_zero_le c0
  have hc : c < 130 := by omega
  by_cases e1 : op = 21
  · subst e1
    exact YES imm (by simp [valM, hk]) fun o _ => givenI_21 M cur 78 w0 d a b c imm _ (H1 o)
  by_cases e2 : op = 22
  · subst e2
    cases hod : (s.regs a % 2 == 1) with
    | true => exact YES (maskZ w0 (s.regs b)) (by simp [valM, hk, rg] at hod ⊢; simp [hod]) fun o _ => givenI_22t M cur 78 w0 d imm (s.regs a) (s.regs b) (s.regs c) a b c _ (H1 o) ha hbb hc ga.1 hod (hr.regs a ha) (hr.regs b hbb) (hr.regs c hc)
    | false => exact YES (maskZ w0 (s.regs c)) (by simp [valM, hk, rg] at hod ⊢; simp [hod]) fun o _ => givenI_22f M cur 78 w0 d imm (s.regs a) (s.regs b) (s.regs c) a b c _ (H1 o) ha hbb hc ga.1 hod (hr.regs a ha) (hr.regs b hbb) (hr.regs c hc)
  by_cases e3 : op = 23
  · subst e3
    by_cases h32 : 32 ≤ s.regs a
    · exact NO 2 (by omega) (by simp [valM, hk, rg, h32]) fun o _ => givenI_23n M cur 78 w0 d b c imm (s.regs a) a _ (H1 o) ha h32 (hr.regs a ha)
    · obtain ⟨x, hx⟩ := Int.eq_ofNat_of_zero_le ga.1
      have hx32 : x < 32 := by omega
      have gm := g.mem x hx32
      exact YES (s.mem x) (by simp [valM, hk, rg, hx]; omega) fun o _ => givenI_23y M cur 78 w0 d b c imm (s.mem x) a x _ (H1 o) ha hx32 (by rw [hr.regs a ha, hx]) (hr.mem x hx32) gm.1 gm.2
  by_cases e4 : op = 35
  · subst e4
    exact YES (maskZ w0 (s.regs a)) (by simp [valM, hk, rg]) fun o _ => givenI_35 M cur 78 w0 d b c imm (s.regs a) a _ (H1 o) ha (hr.regs a ha)
  by_cases hz : binC op w0 (maskZ w0 (s.regs a)) (maskZ w0 (s.regs b)) = 0
  · exact YES (binZ op w0 (maskZ w0 (s.regs a)) (maskZ w0 (s.regs b))) (by simp [valM, hk, rg, e1, e2, e3, e4, hz]) fun o _ => givenI_bin0 M cur 78 op w0 d c imm (s.regs a) (s.regs b) a b _ (H1 o) hk e1 e2 e3 e4 ha hbb (hr.regs a ha) (hr.regs b hbb) hz
  · exact NO 1 (by omega) (by simp [valM, hk, rg, e1, e2, e3, e4, hz]) fun o _ => givenI_bin1 M cur 78 op w0 d c imm (s.regs a) (s.regs b) a b _ (H1 o) hk e1 e2 e3 e4 ha hbb (hr.regs a ha) (hr.regs b hbb) hz
set_option maxHeartbeats 1000000 in
theorem workA (M B : Nat) (i : MInsD) (R n fuel : Int) (s : MSt) (cv : Value) (w : World) (hm : MachAt w M B s fuel cv) (g : Good s) (h1 : 1 ≤ R) (h2 : R ≤ 130) (h : minsB i R n = true)
    (m3 : ¬ i.op = 31) (m4 : ¬ i.op = 32) (m5 : ¬ i.op = 33) (m6 : ¬ i.op = 34) :
    Calls Try.prog 69 #[.pointer (some ⟨M, 0, none⟩), .agg #[.int .i64 i.op, .int .i64 i.w, .int .i64 i.d, .int .i64 i.a, .int .i64 i.b, .int .i64 i.c, .int .i64 i.imm]] w fun e w' => e = .returned (.int .i64 (workM i s).1) ∧ MachAt w' M B (workM i s).2 fuel cv ∧ Keeps M B w w' := by
  by_cases m1 : i.op = 24
  case neg =>
    by_cases m2 : i.op = 25
    case neg => exact workV M B i R n fuel s cv w hm g h1 h2 h m1 m2 m3 m4 m5 m6
    have nm := mins_names h1 h2 h
    have HM := hm
    obtain ⟨hM, hB, cur, ov, hb, hr, ho⟩ := hm
    obtain ⟨op, w0, d, a, b, c, imm⟩ := i
    obtain ⟨a0, a1⟩ := nm.a
    dsimp only at *
    subst m2
    obtain ⟨a, rfl⟩ := Int.eq_ofNat_of_zero_le a0
    have ha : a < 130 := by omega
    by_cases hf : s.out.length = 30
    · have e : workM ⟨25, w0, d, (a : Int), b, c, imm⟩ s = (7, s) := by simp [workM, hf]
      rw [e]
      obtain ⟨u, q, rfl⟩ := ownsRow_slice ho
      refine (workI_25n M cur 78 w0 d b c imm (s.regs a) a u q w hb ha (hr.regs a ha) (by rw [hr.out, hf])).mono ?_
      rintro e w' ⟨rfl, hbl⟩
      exact ⟨rfl, mach_below HM hbl, Keeps.of_below hbl hB⟩
    · have e : workM ⟨25, w0, d, (a : Int), b, c, imm⟩ s = (0, { s with out := s.out ++ [s.regs a] }) := by simp [workM, hf, rg]
      rw [e]
      have := g.out
      refine (workI_25y M cur 78 w0 d b c imm (s.regs a) a B ov s.out w hb ha (hr.regs a ha) hr.out hM hB ho (by omega)).mono ?_
      rintro e w' ⟨rfl, v', hb', ho', hk⟩
      exact ⟨rfl, ⟨hM, Nat.le_trans hB hk.size, _, v', hb', hr.setOut v' _, ho'⟩, hk⟩
  have nm := mins_names h1 h2 h
  have HM := hm
  obtain ⟨hM, hB, cur, ov, hb, hr, ho⟩ := hm
  obtain ⟨op, w0, d, a, b, c, imm⟩ := i
  obtain ⟨a0, a1⟩ := nm.a
  obtain ⟨b0, b1⟩ := nm.b
  dsimp only at *
  subst m1
  obtain ⟨a, rfl⟩ := Int.eq_ofNat_of_zero_le a0
  obtain ⟨b, rfl⟩ := Int.eq_ofNat_of_zero_le b0
  have ha : a < 130 := by omega
  have hbb : b < 130 := by omega
  have ga := g.regs a ha
  by_cases h32 : 32 ≤ s.regs a
  · have e : workM ⟨24, w0, d, (a : Int), (b : Int), c, imm⟩ s = (2, s) := by simp [workM, rg, h32]
    rw [e]
    refine (workI_24n M cur 78 w0 d c imm (s.regs b) (s.regs a) a b w hb ha hbb (hr.regs a ha) (hr.regs b hbb) h32).mono ?_
    rintro e w' ⟨rfl, hbl⟩
    exact ⟨rfl, mach_below HM hbl, Keeps.of_below hbl hB⟩
  · obtain ⟨x, hx⟩ := Int.eq_ofNat_of_zero_le ga.1
    have hx32 : x < 32 := by omega
    have e : workM ⟨24, w0, d, (a : Int), (b : Int), c, imm⟩ s = (0, { s with mem := upF s.mem x (s.regs b % 256) }) := by simp [workM, rg, hx]; omega
    rw [e]
    refine (workI_24y M cur 78 w0 d c imm (s.regs b) a b x w hb ha hbb (by rw [hr.regs a ha, hx]) (hr.regs b hbb) hx32 (s.mem x) (hr.mem x hx32)).mono ?_
    rintro e w' ⟨rfl, hb', hg⟩
    exact ⟨rfl, mach_grown (s := s) (s' := { s with mem := upF s.mem x (s.regs b % 256) }) hM hB ho hb' (hr.setMem x _ hx32) hg, Keeps.of_grown hg hB⟩
end Go.Proofs.Ytofgfiakccjimaa
