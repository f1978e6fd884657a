/- A machine: a step of the model's, in the words of the run. -/
import Derived.Test.YtofgfiakccjimaaMaU
import Derived.Test.YtofgfiakccjimaaMaV
import Derived.Test.YtofgfiakccjimaaMaV2Q
import Derived.Test.YtofgfiakccjimaaMaS
import Derived.Test.YtofgfiakccjimaaPgJ
import Derived.Lib.ConvBytes
import Derived.Laws.OwnMore
namespace Go.Proofs.Ytofgfiakccjimaa
open Go.RowKit
set_option linter.unusedVariables false
set_option linter.unusedSimpArgs false

theorem XAt.steps {w : World} {X G Y B R q : Nat} {s : MSt} {vl cd : Int} {dn : Bool} (h : XAt w X G Y B R q s vl cd dn) (k : Int) : XAt w X G Y B R q { s with steps := k } vl cd dn :=
  ⟨h.x, h.g, h.y, h.xg, h.xy, h.gy, h.b, h.hx, h.hg, h.hy⟩
/-- What a step leaves. -/
structure NOut where
  st : MSt
  value : Int
  code : Int
  done : Bool
def nxt (i : MInsD) (s : MSt) : NOut :=
  if i.op = 31 then ⟨{ s with steps := s.steps + 1, pc := i.imm }, 0, 0, false⟩
  else if i.op = 32 then (if (rg s i.a % 2 == 1) = true then ⟨{ s with steps := s.steps + 1, pc := i.imm }, 0, 0, false⟩ else ⟨{ s with steps := s.steps + 1, pc := s.pc + 1 }, 0, 0, false⟩)
  else if i.op = 33 then ⟨{ s with steps := s.steps + 1, pc := s.pc + 1 }, maskZ i.w (rg s i.a), 0, true⟩
  else if i.op = 34 then ⟨{ s with steps := s.steps + 1, pc := s.pc + 1 }, 0, 3, true⟩
  else if (workM i { s with steps := s.steps + 1, pc := s.pc + 1 }).1 = 0 then ⟨(workM i { s with steps := s.steps + 1, pc := s.pc + 1 }).2, 0, 0, false⟩
  else ⟨{ s with steps := s.steps + 1, pc := s.pc + 1 }, 0, (workM i { s with steps := s.steps + 1, pc := s.pc + 1 }).1, true⟩
theorem run_next (code : List MInsD) (n : Nat) (s : MSt) : runM code (n + 1) s = if (nxt (code.getD s.pc.toNat mins0) s).done = true then ⟨(nxt (code.getD s.pc.toNat mins0) s).code, (nxt (code.getD s.pc.toNat mins0) s).value, (nxt (code.getD s.pc.toNat mins0) s).st⟩ else runM code n (nxt (code.getD s.pc.toNat mins0) s).st := by
  generalize hi : code.getD s.pc.toNat mins0 = i
  simp only [runM, hi, nxt]
  by_cases e1 : i.op = 31
  · simp [e1]
  by_cases e2 : i.op = 32
  · simp only [e1, e2, if_true, if_false]
    simp only [show ¬ ((32 : Int) = 31) by decide, if_false]
    by_cases e : (rg s i.a % 2 == 1) = true
    · simp [e]
    · simp only [e, if_false]; simp
  by_cases e3 : i.op = 33
  · simp [e3]
  by_cases e4 : i.op = 34
  · simp [e4]
  simp only [e1, e2, e3, e4, if_false]
  by_cases e : (workM i { s with steps := s.steps + 1, pc := s.pc + 1 }).1 = 0
  · simp [e]
  · simp [e]
theorem names_R {i : MInsD} {R : Nat} {n : Int} (h1 : 1 ≤ R) (h : minsB i R n = true) : okU i.op = true ∧ (0 ≤ i.d ∧ i.d < R) ∧ (0 ≤ i.a ∧ i.a < R) ∧ (0 ≤ i.b ∧ i.b < R) ∧ (castOpB i.op = false → 0 ≤ i.c ∧ i.c < R) := by
  have hf := mins_fields (by omega) h
  simp [fieldsB] at hf
  obtain ⟨ho, _, ⟨hd, ha, hb⟩, hc⟩ := hf
  refine ⟨ho, below_yes hd, below_yes ha, below_yes hb, fun hk => ?_⟩
  rw [if_neg (by simp [hk])] at hc
  exact below_yes hc
set_option maxHeartbeats 2000000 in
theorem stepA (X G Y B R q : Nat) (i : MInsD) (n : Int) (s : MSt) (w : World) (hm : XAt w X G Y B R q s 0 0 false) (g : Good s) (h1 : 1 ≤ R) (h2 : R ≤ 130) (h : minsB i R n = true) (p0 : 0 ≤ s.pc) (p1 : s.pc ≤ 600) :
    Calls Try.prog 38 #[.pointer (some ⟨X, 0, none⟩), .agg #[.int .i64 i.op, .int .i64 i.w, .int .i64 i.d, .int .i64 i.a, .int .i64 i.b, .int .i64 i.c, .int .i64 i.imm]] w fun e w' => (∃ v, e = .returned v) ∧ XAt w' X G Y B R q (nxt i s).st (nxt i s).value (nxt i s).code (nxt i s).done ∧ Keep3 X G Y B w w' := by
  have nm := names_R h1 h
  obtain ⟨op, w0, d, a, b, c, imm⟩ := i
  obtain ⟨ok, ⟨d0, d1⟩, ⟨a0, a1⟩, ⟨b0, b1⟩, cc⟩ := nm
  dsimp only at *
  obtain ⟨d, rfl⟩ := Int.eq_ofNat_of_zero_le d0
  obtain ⟨a, rfl⟩ := Int.eq_ofNat_of_zero_le a0
  obtain ⟨b, rfl⟩ := Int.eq_ofNat_of_zero_le b0
  have hd : d < R := by omega
  have ha : a < R := by omega
  have hb : b < R := by omega
  have ga := g.regs a (by omega)
  by_cases m1 : op = 31
  · subst m1
    refine (stepS_31 X G Y B R q s 0 0 false w0 d b c imm a w hm p0 p1 ha).mono ?_
    rintro e w' ⟨he, A, K⟩
    exact ⟨he, A.steps (s.steps + 1), K⟩
  by_cases m2 : op = 32
  · subst m2
    by_cases ho : s.regs a % 2 = 1
    · have e : nxt ⟨32, w0, (d : Int), (a : Int), (b : Int), c, imm⟩ s = ⟨{ s with steps := s.steps + 1, pc := imm }, 0, 0, false⟩ := by simp [nxt, rg, ho]
      rw [e]
      refine (stepS_32t X G Y B R q s 0 0 false w0 d b c imm a w hm p0 p1 ha ga.1 ho).mono ?_
      rintro e w' ⟨he, A, K⟩
      exact ⟨he, A.steps (s.steps + 1), K⟩
    · have e : nxt ⟨32, w0, (d : Int), (a : Int), (b : Int), c, imm⟩ s = ⟨{ s with steps := s.steps + 1, pc := s.pc + 1 }, 0, 0, false⟩ := by simp [nxt, rg, ho]
      rw [e]
      refine (stepS_32f X G Y B R q s 0 0 false w0 d b c imm a w hm p0 p1 ha ga.1 ho).mono ?_
      rintro e w' ⟨he, A, K⟩
      exact ⟨he, A.steps (s.steps + 1), K⟩
  by_cases m3 : op = 33
  · subst m3
    have e : nxt ⟨33, w0, (d : Int), (a : Int), (b : Int), c, imm⟩ s = ⟨{ s with steps := s.steps + 1, pc := s.pc + 1 }, maskZ w0 (s.regs a), 0, true⟩ := by simp [nxt, rg]
    rw [e]
    refine (stepS_33 X G Y B R q s 0 0 false w0 d b c imm a w hm p0 p1 ha).mono ?_
    rintro e w' ⟨he, A, K⟩
    exact ⟨he, A.steps (s.steps + 1), K⟩
  by_cases m4 : op = 34
  · subst m4
    have e : nxt ⟨34, w0, (d : Int), (a : Int), (b : Int), c, imm⟩ s = ⟨{ s with steps := s.steps + 1, pc := s.pc + 1 }, 0, 3, true⟩ := by simp [nxt, rg]
    rw [e]
    refine (stepS_34 X G Y B R q s 0 0 false w0 d b c imm a w hm p0 p1 ha).mono ?_
    rintro e w' ⟨he, A, K⟩
    exact ⟨he, A.steps (s.steps + 1), K⟩
  have YES : ∀ s', workM ⟨op, w0, (d : Int), (a : Int), (b : Int), c, imm⟩ { s with steps := s.steps + 1, pc := s.pc + 1 } = (0, s') → nxt ⟨op, w0, (d : Int), (a : Int), (b : Int), c, imm⟩ s = ⟨s', 0, 0, false⟩ := fun s' e => by
    simp [nxt, m1, m2, m3, m4, e]
  have NO : ∀ k : Int, ¬ k = 0 → workM ⟨op, w0, (d : Int), (a : Int), (b : Int), c, imm⟩ { s with steps := s.steps + 1, pc := s.pc + 1 } = (k, { s with steps := s.steps + 1, pc := s.pc + 1 }) → nxt ⟨op, w0, (d : Int), (a : Int), (b : Int), c, imm⟩ s = ⟨{ s with steps := s.steps + 1, pc := s.pc + 1 }, 0, k, true⟩ := fun k hk e => by
    simp [nxt, m1, m2, m3, m4, e, hk]
  by_cases m5 : op = 24
  · subst m5
    by_cases h32 : 32 ≤ s.regs a
    · rw [NO 2 (by omega) (by simp [workM, rg, h32])]
      refine (stepS_24n X G Y B R q s 0 0 false w0 d b c imm a w hm p0 p1 ha h32).mono ?_
      rintro e w' ⟨he, A, K⟩
      exact ⟨he, A.steps (s.steps + 1), K⟩
    · obtain ⟨x, hx⟩ := Int.eq_ofNat_of_zero_le ga.1
      have hx32 : x < 32 := by omega
      rw [YES { s with steps := s.steps + 1, pc := s.pc + 1, mem := upF s.mem x (s.regs b % 256) } (by simp [workM, rg, hx]; omega)]
      refine (stepS_24y X G Y B R q s 0 0 false w0 d c imm a b x w hm p0 p1 ha hb hx hx32).mono ?_
      rintro e w' ⟨he, A, K⟩
      exact ⟨he, A.steps (s.steps + 1), K⟩
  by_cases m6 : op = 25
  · subst m6
    by_cases h30 : s.out.length = 30
    · rw [NO 7 (by omega) (by simp [workM, rg, h30])]
      refine (stepS_25n X G Y B R q s 0 0 false w0 d b c imm a w hm p0 p1 ha h30).mono ?_
      rintro e w' ⟨he, A, K⟩
      exact ⟨he, A.steps (s.steps + 1), K⟩
    · have := g.out
      rw [YES { s with steps := s.steps + 1, pc := s.pc + 1, out := s.out ++ [s.regs a] } (by simp [workM, rg, h30])]
      refine (stepS_25y X G Y B R q s 0 0 false w0 d b c imm a w hm p0 p1 ha (by omega)).mono ?_
      rintro e w' ⟨he, A, K⟩
      exact ⟨he, A.steps (s.steps + 1), K⟩
  have W : ∀ v : Int, valM ⟨op, w0, (d : Int), (a : Int), (b : Int), c, imm⟩ { s with steps := s.steps + 1, pc := s.pc + 1 } = (v, 0) → nxt ⟨op, w0, (d : Int), (a : Int), (b : Int), c, imm⟩ s = ⟨{ s with steps := s.steps + 1, pc := s.pc + 1, regs := upF s.regs d v }, 0, 0, false⟩ := fun v e => YES _ (by
    simp [workM, m5, m6, e])
  have W' : ∀ k : Int, ¬ k = 0 → valM ⟨op, w0, (d : Int), (a : Int), (b : Int), c, imm⟩ { s with steps := s.steps + 1, pc := s.pc + 1 } = (0, k) → nxt ⟨op, w0, (d : Int), (a : Int), (b : Int), c, imm⟩ s = ⟨{ s with steps := s.steps + 1, pc := s.pc + 1 }, 0, k, true⟩ := fun k hk e => NO k hk (by
    simp [workM, m5, m6, e, hk])
  cases hk : castOpB op with
  | true =>
    have hk2 := hk
    simp [castOpB] at hk2
    rw [W (castZ op c w0 (maskZ c (s.regs a))) (by simp [valM, hk, rg])]
    refine (stepS_cast X G Y B R q s 0 0 false op w0 b c imm a d w hm p0 p1 ha hd hk2.1 hk2.2).mono ?_
    rintro e w' ⟨he, A, K⟩
    exact ⟨he, A.steps (s.steps + 1), K⟩
  | false =>
  obtain ⟨c0, c1⟩ := cc hk
  obtain ⟨c, rfl⟩ := Int.eq_ofNat_of_zero_le c0
  have hc : c < R := by omega
  by_cases e1 : op = 21
  · subst e1
    rw [W imm (by simp [valM, hk])]
    refine (stepS_21 X G Y B R q s 0 0 false w0 b c imm a d w hm p0 p1 ha hd).mono ?_
    rintro e w' ⟨he, A, K⟩
    exact ⟨he, A.steps (s.steps + 1), K⟩
  by_cases e2 : op = 22
  · subst e2
    by_cases ho : s.regs a % 2 = 1
    · rw [W (maskZ w0 (s.regs b)) (by simp [valM, hk, rg, ho])]
      refine (stepS_22t X G Y B R q s 0 0 false w0 imm a b c d w hm p0 p1 ha hb hc hd ga.1 ho).mono ?_
      rintro e w' ⟨he, A, K⟩
      exact ⟨he, A.steps (s.steps + 1), K⟩
    · rw [W (maskZ w0 (s.regs c)) (by simp [valM, hk, rg, ho])]
      refine (stepS_22f X G Y B R q s 0 0 false w0 imm a b c d w hm p0 p1 ha hb hc hd ga.1 ho).mono ?_
      rintro e w' ⟨he, A, K⟩
      exact ⟨he, A.steps (s.steps + 1), K⟩
  by_cases e3 : op = 23
  · subst e3
    by_cases h32 : 32 ≤ s.regs a
    · rw [W' 2 (by omega) (by simp [valM, hk, rg, h32])]
      refine (stepS_23n X G Y B R q s 0 0 false w0 d b c imm a w hm p0 p1 ha h32).mono ?_
      rintro e w' ⟨he, A, K⟩
      exact ⟨he, A.steps (s.steps + 1), K⟩
    · obtain ⟨x, hx⟩ := Int.eq_ofNat_of_zero_le ga.1
      have hx32 : x < 32 := by omega
      have gm := g.mem x hx32
      rw [W (s.mem x) (by simp [valM, hk, rg, hx]; omega)]
      refine (stepS_23y X G Y B R q s 0 0 false w0 b c imm a d x w hm p0 p1 ha hd hx hx32 gm.1 gm.2).mono ?_
      rintro e w' ⟨he, A, K⟩
      exact ⟨he, A.steps (s.steps + 1), K⟩
  by_cases e4 : op = 35
  · subst e4
    rw [W (maskZ w0 (s.regs a)) (by simp [valM, hk, rg])]
    refine (stepS_35 X G Y B R q s 0 0 false w0 b c imm a d w hm p0 p1 ha hd).mono ?_
    rintro e w' ⟨he, A, K⟩
    exact ⟨he, A.steps (s.steps + 1), K⟩
  have hop : 1 ≤ op ∧ op ≤ 17 := by
    simp [okU, hk, m1, m2, m3, m4, m5, m6, e1, e2, e3, e4, opB] at ok
    exact ok
  by_cases hz : binC op w0 (maskZ w0 (s.regs a)) (maskZ w0 (s.regs b)) = 0
  · rw [W (binZ op w0 (maskZ w0 (s.regs a)) (maskZ w0 (s.regs b))) (by simp [valM, hk, rg, e1, e2, e3, e4, hz])]
    refine (stepS_bin0 X G Y B R q s 0 0 false op w0 c imm a b d w hm p0 p1 ha hb hd hop.1 hop.2 hz).mono ?_
    rintro e w' ⟨he, A, K⟩
    exact ⟨he, A.steps (s.steps + 1), K⟩
  · rw [W' 1 (by omega) (by simp [valM, hk, rg, e1, e2, e3, e4, hz])]
    refine (stepS_bin1 X G Y B R q s 0 0 false op w0 c imm a b d w hm p0 p1 ha hb hd hop.1 hop.2 hz).mono ?_
    rintro e w' ⟨he, A, K⟩
    exact ⟨he, A.steps (s.steps + 1), K⟩
end Go.Proofs.Ytofgfiakccjimaa
namespace Go.Proofs.Ytofgfiakccjimaa
open Go.RowKit
set_option linter.unusedVariables false
set_option linter.unusedSimpArgs false

set_option maxHeartbeats 2000000 in
theorem argsS (lo lo' : Nat) (a b : Option Addr) (ca cb : Nat) (ws l : List Int) (r : Value) (bs : Value) (w : World) (ha : IntsAt w lo a ws) (hb : IntsAt w lo' b l) :
    Calls Try.prog 36 #[.agg #[.slice a ws.length ca, r, bs], .slice b l.length cb] w fun e w' => e = .returned (.bool (valsB ws l)) ∧ Below w.heap.size w w' := by
  have ga := ha.1
  have gb := hb.1
  have B1 : Below w.heap.size w (w.alloc (.cells #[.slice a ws.length ca, r, bs] 65)) := (Below.refl _ _).alloc (Nat.le_refl _) _
  have HX : (w.alloc (.cells #[.slice a ws.length ca, r, bs] 65)).heap[w.heap.size]? = some (.cells #[.slice a ws.length ca, r, bs] 65 (0, 0)) := heap_alloc_at _ _
  by_cases hn : l.length = ws.length
  case neg =>
    have E : Hid (false = valsB ws l) := by show _ = _; simp [valsB, hn]
    have hn2 : ¬ (l.length : Int) = ws.length := by omega
    go_enter Try.func36, Try.ntmps36
    go_wp2_with fail
    go_ret
    exact ⟨ret_bool E.out, B1⟩
  have HN : Hid (l.length = ws.length) := hn
  have hn2 : (l.length : Int) = ws.length := by omega
  clear hn
  go_enter Try.func36, Try.ntmps36
  go_wp2_with fail
  clear hn2
  generalize hW0 : w.alloc (.cells #[.slice a ws.length ca, r, bs] 65) = W0 at B1 HX ⊢
  have hz : w.heap.size < W0.heap.size := by rw [← hW0]; simp
  clear hW0
  have K1 := ha.keep (agree_of_below B1 lo)
  have K2 := hb.keep (agree_of_below B1 lo')
  clear ha hb
  go_loopw [5] (fun i wr => ∃ k : Nat, k ≤ l.length ∧ i = .int .i64 k ∧ Hid (∀ j, j < k → valueB (ws.getD j 0) (l.getD j 0) = true) ∧ Below W0.heap.size W0 wr) (fun i _ => l.length - (intOf i).toNat)
  case atStart => exact ⟨0, by omega, rfl, fun j hj => by omega, Below.refl _ _⟩
  case round =>
    obtain ⟨k, hk, rfl, HD, hB⟩ := hrel
    obtain ⟨wq, hwq⟩ : ∃ wq, wq = wr := ⟨_, rfl⟩
    subst hwq
    have HX2 := row_below HX hB
    have x0 := (cell_of_heap (o := 0) HX2).trans rfl
    by_cases hlt : k < l.length
    · have hlw : k < ws.length := by have := HN.out; omega
      rcases K1.2 with h | ⟨ba, oa, rfl, _, hba, hca⟩
      · simp [h] at hlw
      rcases K2.2 with h | ⟨bb, ob, rfl, _, hbb, hcb⟩
      · simp [h] at hlt
      have e0 : wq.cell? ⟨ba, oa + k, none⟩ = some (.int .i64 (ws.getD k 0)) := (cell_block (hB.block ba hba)).trans (hca k hlw)
      have e1 : wq.cell? ⟨bb, ob + k, none⟩ = some (.int .i64 (l.getD k 0)) := (cell_block (hB.block bb hbb)).trans (hcb k hlt)
      have NO : Hid (valueB (ws.getD k 0) (l.getD k 0) = false → false = valsB ws l) := fun h => (vals_no hlt h).symm
      have YES : Hid (valueB (ws.getD k 0) (l.getD k 0) = true → ∀ j, j < k + 1 → valueB (ws.getD j 0) (l.getD j 0) = true) := fun h j hj => by
        by_cases e : j = k
        · subst e; exact h
        · exact HD.out j (by omega)
      generalize ws.getD k 0 = x at e0 NO YES
      generalize l.getD k 0 = y at e1 NO YES
      have HB : Hid (Below W0.heap.size W0 wq) := hB
      have VS : ∀ W, Calls Try.prog 46 #[.int .i64 x, .int .i64 y] W fun e w' => e = .returned (.bool (valueB x y)) ∧ w' = W := fun W => valueS x y W
      clear hca hcb K1 K2 HD hB HX HX2
      have hkl2 : (k : Int) < ws.length := by omega
      cases hv : valueB x y with
      | false =>
        have N : Hid (false = valsB ws l) := NO.out hv
        rw [hv] at VS
        clear NO YES
        go_wp2_with fail
        go_quiet (first | (go_at_call 46; refine Calls.quiet_of_same (VS _)))
        go_wp2_with fail
        go_ret
        exact ⟨ret_bool N.out, below_drewN (B1.trans (HB.out.mono B1.size)) _⟩
      | true =>
        have Y : Hid (∀ j, j < k + 1 → valueB (ws.getD j 0) (l.getD j 0) = true) := YES.out hv
        rw [hv] at VS
        clear NO YES
        go_wp2_with fail
        go_quiet (first | (go_at_call 46; refine Calls.quiet_of_same (VS _)))
        go_wp2_with fail
        go_roundw
        case rel => exact ⟨k + 1, by omega, by go_num, Y.out, below_drewN HB.out _⟩
        case measure => simp [intOf]; omega
    · have N : Hid (true = valsB ws l) := (vals_yes HN.out (fun j hj => HD.out j (by omega))).symm
      have hlt2 : ¬ (k : Int) < l.length := by omega
      have hlt3 : ¬ (k : Int) < ws.length := by have := HN.out; omega
      have HB : Hid (Below W0.heap.size W0 wq) := hB
      clear HD K1 K2 ga gb hk hlt hB HX HX2
      go_wp2_with fail
      go_ret
      exact ⟨ret_bool N.out, B1.trans (HB.out.mono B1.size)⟩
end Go.Proofs.Ytofgfiakccjimaa
namespace Go.Proofs.Ytofgfiakccjimaa
open Go.RowKit
set_option linter.unusedVariables false
set_option linter.unusedSimpArgs false

set_option maxHeartbeats 2000000 in
set_option maxRecDepth 100000 in
theorem machS_p (lo : Nat) (p : ProgD) (s1 : Option Addr) (c1 : Nat) (s2 : Option Addr) (c2 : Nat) (s3 : Option Addr) (c3 : Nat) (s4 : Option Addr) (c4 : Nat) (args : List Int) (mem : ByteArray) (fuel : Int) (w : World) (k1 : IntsAt w lo s1 p.params) (k2 : IntsAt w lo s2 p.widths) (k3 : MinsAt w lo s3 p.code) (k4 : IntsAt w lo s4 args) (hmsz : mem.size ≤ 1048576) (hp : progB p = false) :
    Calls Try.prog 13 #[.agg #[.int .i64 p.regs, .slice s1 p.params.length c1, .slice s2 p.widths.length c2, .slice s3 p.code.length c3], .slice s4 args.length c4, .string mem, .int .i64 fuel] w fun e w' => (∃ u q, e = .returned (resA (machR p args mem fuel) u q) ∧ w'.ownsRow w.heap.size 2 1 (.slice u (machR p args mem fuel).out.length q) (machR p args mem fuel).out.length ((machR p args mem fuel).out.map (Value.int .i64))) ∧ Below w.heap.size w w' := by
  have E : Hid (machR p args mem fuel = ⟨6, 0, [], ⟨#[]⟩, 0⟩) := by show _ = _; rw [machR, if_neg (by simp [okM, hp])]
  have hmz := hmsz
  obtain ⟨W1, hW1⟩ : ∃ W1, W1 = (w.alloc (.cells #[.int .i64 p.regs, .slice s1 p.params.length c1, .slice s2 p.widths.length c2, .slice s3 p.code.length c3] 30)).alloc (.cells #[.int .i64 0, .int .i64 0, .slice none 0 0, .string ⟨#[]⟩, .int .i64 0] 36) := ⟨_, rfl⟩
  have B1 : Below w.heap.size w W1 := by rw [hW1]; exact ((Below.refl _ _).alloc (Nat.le_refl _) _).alloc (by simp) _
  have PS := progS lo p s1 c1 s2 c2 s3 c3 W1 (k1.keep (agree_of_below B1 lo)) (k2.keep (agree_of_below B1 lo)) (k3.keep (agree_of_below B1 lo))
  have hz1 : w.heap.size + 2 = W1.heap.size := by rw [hW1]; simp
  have X1 : BoxP W1 w.heap.size p s1 c1 s2 c2 s3 c3 := by rw [hW1]; exact (BoxP.new w p s1 c1 s2 c2 s3 c3 _).below ((Below.refl _ _).alloc (Nat.le_refl _) _)
  have R1 : W1.heap[w.heap.size + 1]? = some (.cells #[.int .i64 0, .int .i64 0, .slice none 0 0, .string ⟨#[]⟩, .int .i64 0] 36 (0, 0)) := by rw [hW1]; exact heap_new2 _ _ _
  rw [hp] at PS
  go_enter Try.func13, Try.ntmps13
  go_upto_region 1 with fail
  rw [← hW1]
  clear hW1
  have XX := X1
  obtain ⟨_, y0, y1, y2, y3⟩ := XX
  go_wp2_with (go_at_call 7; refine PS.mono ?_; rintro e w2 ⟨rfl, hb2⟩; have R2 := row_below R1 hb2; have B2 := B1.trans (hb2.mono (by omega)); have r0 := (cell_of_heap (o := 0) R2).trans rfl; have r1 := (cell_of_heap (o := 1) R2).trans rfl; have r2 := (cell_of_heap (o := 2) R2).trans rfl; have r3 := (cell_of_heap (o := 3) R2).trans rfl; have r4 := (cell_of_heap (o := 4) R2).trans rfl; have z0 : w2.frozen? ⟨w.heap.size + 1, 0, none⟩ = false := froz_of_heap R2; have z1 : w2.frozen? ⟨w.heap.size + 1, 1, none⟩ = false := froz_of_heap R2; have z2 : w2.frozen? ⟨w.heap.size + 1, 2, none⟩ = false := froz_of_heap R2; have z3 : w2.frozen? ⟨w.heap.size + 1, 3, none⟩ = false := froz_of_heap R2; have z4 : w2.frozen? ⟨w.heap.size + 1, 4, none⟩ = false := froz_of_heap R2; have HR2 : Hid (w2.heap[w.heap.size + 1]? = some (.cells #[.int .i64 0, .int .i64 0, .slice none 0 0, .string ⟨#[]⟩, .int .i64 0] 36 (0, 0))) := R2; clear R2)
  refine bodyPost_ret (v := .agg #[.int .i64 6, .int .i64 0, .slice none 0 0, .string ⟨#[]⟩, .int .i64 0]) (results_cell_row Try.results13 _ _ (w.heap.size + 1) 36 _ (0, 0) _ rfl (five_set HR2.out _ _ _ _ _) Try.underlying36 rfl (by kernel_rfl)) rfl ⟨?_, five_below B2 (by omega) _ _ _ _ _⟩
  rw [E.out]
  exact ⟨none, 0, rfl, ⟨rfl, .inl ⟨rfl, rfl⟩⟩⟩
set_option maxHeartbeats 2000000 in
set_option maxRecDepth 100000 in
theorem machS_v (lo : Nat) (p : ProgD) (s1 : Option Addr) (c1 : Nat) (s2 : Option Addr) (c2 : Nat) (s3 : Option Addr) (c3 : Nat) (s4 : Option Addr) (c4 : Nat) (args : List Int) (mem : ByteArray) (fuel : Int) (w : World) (k1 : IntsAt w lo s1 p.params) (k2 : IntsAt w lo s2 p.widths) (k3 : MinsAt w lo s3 p.code) (k4 : IntsAt w lo s4 args) (hmsz : mem.size ≤ 1048576) (hp : progB p = true) (hv : valsB p.widths args = false) :
    Calls Try.prog 13 #[.agg #[.int .i64 p.regs, .slice s1 p.params.length c1, .slice s2 p.widths.length c2, .slice s3 p.code.length c3], .slice s4 args.length c4, .string mem, .int .i64 fuel] w fun e w' => (∃ u q, e = .returned (resA (machR p args mem fuel) u q) ∧ w'.ownsRow w.heap.size 2 1 (.slice u (machR p args mem fuel).out.length q) (machR p args mem fuel).out.length ((machR p args mem fuel).out.map (Value.int .i64))) ∧ Below w.heap.size w w' := by
  have E : Hid (machR p args mem fuel = ⟨6, 0, [], ⟨#[]⟩, 0⟩) := by show _ = _; rw [machR, if_neg (by simp [okM, hv])]
  have hmz := hmsz
  obtain ⟨W1, hW1⟩ : ∃ W1, W1 = (w.alloc (.cells #[.int .i64 p.regs, .slice s1 p.params.length c1, .slice s2 p.widths.length c2, .slice s3 p.code.length c3] 30)).alloc (.cells #[.int .i64 0, .int .i64 0, .slice none 0 0, .string ⟨#[]⟩, .int .i64 0] 36) := ⟨_, rfl⟩
  have B1 : Below w.heap.size w W1 := by rw [hW1]; exact ((Below.refl _ _).alloc (Nat.le_refl _) _).alloc (by simp) _
  have PS := progS lo p s1 c1 s2 c2 s3 c3 W1 (k1.keep (agree_of_below B1 lo)) (k2.keep (agree_of_below B1 lo)) (k3.keep (agree_of_below B1 lo))
  have hz1 : w.heap.size + 2 = W1.heap.size := by rw [hW1]; simp
  have X1 : BoxP W1 w.heap.size p s1 c1 s2 c2 s3 c3 := by rw [hW1]; exact (BoxP.new w p s1 c1 s2 c2 s3 c3 _).below ((Below.refl _ _).alloc (Nat.le_refl _) _)
  have R1 : W1.heap[w.heap.size + 1]? = some (.cells #[.int .i64 0, .int .i64 0, .slice none 0 0, .string ⟨#[]⟩, .int .i64 0] 36 (0, 0)) := by rw [hW1]; exact heap_new2 _ _ _
  rw [hp] at PS
  go_enter Try.func13, Try.ntmps13
  go_upto_region 1 with fail
  rw [← hW1]
  clear hW1
  have XX := X1
  obtain ⟨_, y0, y1, y2, y3⟩ := XX
  go_wp2_with (first | (go_at_call 7; refine PS.mono ?_; rintro e w2 ⟨rfl, hb2⟩; have R2 := row_below R1 hb2; have B2 := B1.trans (hb2.mono (by omega)); have RR2 : Hid _ := R2; clear R2; have X2 := X1.below hb2; have XX2 : Hid (BoxP w2 w.heap.size p s1 c1 s2 c2 s3 c3) := X2; obtain ⟨hx2, x0, x1, x2, x3⟩ := X2; have AS := argsS lo lo s2 s4 c2 c4 p.widths args (.int .i64 0) (.slice none 0 0) w2 (k2.keep (agree_of_below B2 lo)) (k4.keep (agree_of_below B2 lo)); rw [hv] at AS) | (go_at_call 36; refine AS.mono ?_; rintro e w3 ⟨rfl, hb3⟩; have R2 := row_below RR2.out hb3; have B3 := B2.trans (hb3.mono B2.size); have X3 := XX2.out.below hb3; obtain ⟨hx3, v0, v1, v2, v3⟩ := X3; have r0 := (cell_of_heap (o := 0) R2).trans rfl; have r1 := (cell_of_heap (o := 1) R2).trans rfl; have r2 := (cell_of_heap (o := 2) R2).trans rfl; have r3 := (cell_of_heap (o := 3) R2).trans rfl; have r4 := (cell_of_heap (o := 4) R2).trans rfl; have z0 : w3.frozen? ⟨w.heap.size + 1, 0, none⟩ = false := froz_of_heap R2; have z1 : w3.frozen? ⟨w.heap.size + 1, 1, none⟩ = false := froz_of_heap R2; have z2 : w3.frozen? ⟨w.heap.size + 1, 2, none⟩ = false := froz_of_heap R2; have z3 : w3.frozen? ⟨w.heap.size + 1, 3, none⟩ = false := froz_of_heap R2; have z4 : w3.frozen? ⟨w.heap.size + 1, 4, none⟩ = false := froz_of_heap R2; have HR2 : Hid (w3.heap[w.heap.size + 1]? = some (.cells #[.int .i64 0, .int .i64 0, .slice none 0 0, .string ⟨#[]⟩, .int .i64 0] 36 (0, 0))) := R2; clear R2))
  refine bodyPost_ret (v := .agg #[.int .i64 6, .int .i64 0, .slice none 0 0, .string ⟨#[]⟩, .int .i64 0]) (results_cell_row Try.results13 _ _ (w.heap.size + 1) 36 _ (0, 0) _ rfl (five_set HR2.out _ _ _ _ _) Try.underlying36 rfl (by kernel_rfl)) rfl ⟨?_, five_below B3 (by omega) _ _ _ _ _⟩
  rw [E.out]
  exact ⟨none, 0, rfl, ⟨rfl, .inl ⟨rfl, rfl⟩⟩⟩
set_option maxHeartbeats 2000000 in
set_option maxRecDepth 100000 in
theorem machS_m (lo : Nat) (p : ProgD) (s1 : Option Addr) (c1 : Nat) (s2 : Option Addr) (c2 : Nat) (s3 : Option Addr) (c3 : Nat) (s4 : Option Addr) (c4 : Nat) (args : List Int) (mem : ByteArray) (fuel : Int) (w : World) (k1 : IntsAt w lo s1 p.params) (k2 : IntsAt w lo s2 p.widths) (k3 : MinsAt w lo s3 p.code) (k4 : IntsAt w lo s4 args) (hmsz : mem.size ≤ 1048576) (hp : progB p = true) (hv : valsB p.widths args = true) (hm : ¬ mem.size = 32) :
    Calls Try.prog 13 #[.agg #[.int .i64 p.regs, .slice s1 p.params.length c1, .slice s2 p.widths.length c2, .slice s3 p.code.length c3], .slice s4 args.length c4, .string mem, .int .i64 fuel] w fun e w' => (∃ u q, e = .returned (resA (machR p args mem fuel) u q) ∧ w'.ownsRow w.heap.size 2 1 (.slice u (machR p args mem fuel).out.length q) (machR p args mem fuel).out.length ((machR p args mem fuel).out.map (Value.int .i64))) ∧ Below w.heap.size w w' := by
  have E : Hid (machR p args mem fuel = ⟨6, 0, [], ⟨#[]⟩, 0⟩) := by show _ = _; rw [machR, if_neg (by simp [okM, hm])]
  have hm2 : ¬ (mem.size : Int) = 32 := by omega
  have hmz := hmsz
  obtain ⟨W1, hW1⟩ : ∃ W1, W1 = (w.alloc (.cells #[.int .i64 p.regs, .slice s1 p.params.length c1, .slice s2 p.widths.length c2, .slice s3 p.code.length c3] 30)).alloc (.cells #[.int .i64 0, .int .i64 0, .slice none 0 0, .string ⟨#[]⟩, .int .i64 0] 36) := ⟨_, rfl⟩
  have B1 : Below w.heap.size w W1 := by rw [hW1]; exact ((Below.refl _ _).alloc (Nat.le_refl _) _).alloc (by simp) _
  have PS := progS lo p s1 c1 s2 c2 s3 c3 W1 (k1.keep (agree_of_below B1 lo)) (k2.keep (agree_of_below B1 lo)) (k3.keep (agree_of_below B1 lo))
  have hz1 : w.heap.size + 2 = W1.heap.size := by rw [hW1]; simp
  have X1 : BoxP W1 w.heap.size p s1 c1 s2 c2 s3 c3 := by rw [hW1]; exact (BoxP.new w p s1 c1 s2 c2 s3 c3 _).below ((Below.refl _ _).alloc (Nat.le_refl _) _)
  have R1 : W1.heap[w.heap.size + 1]? = some (.cells #[.int .i64 0, .int .i64 0, .slice none 0 0, .string ⟨#[]⟩, .int .i64 0] 36 (0, 0)) := by rw [hW1]; exact heap_new2 _ _ _
  rw [hp] at PS
  go_enter Try.func13, Try.ntmps13
  go_upto_region 1 with fail
  rw [← hW1]
  clear hW1
  have XX := X1
  obtain ⟨_, y0, y1, y2, y3⟩ := XX
  go_wp2_with (first | (go_at_call 7; refine PS.mono ?_; rintro e w2 ⟨rfl, hb2⟩; have R2 := row_below R1 hb2; have B2 := B1.trans (hb2.mono (by omega)); have RR2 : Hid _ := R2; clear R2; have X2 := X1.below hb2; have XX2 : Hid (BoxP w2 w.heap.size p s1 c1 s2 c2 s3 c3) := X2; obtain ⟨hx2, x0, x1, x2, x3⟩ := X2; have AS := argsS lo lo s2 s4 c2 c4 p.widths args (.int .i64 0) (.slice none 0 0) w2 (k2.keep (agree_of_below B2 lo)) (k4.keep (agree_of_below B2 lo)); rw [hv] at AS) | (go_at_call 36; refine AS.mono ?_; rintro e w3 ⟨rfl, hb3⟩; have R2 := row_below RR2.out hb3; have B3 := B2.trans (hb3.mono B2.size); have X3 := XX2.out.below hb3; obtain ⟨hx3, v0, v1, v2, v3⟩ := X3; have r0 := (cell_of_heap (o := 0) R2).trans rfl; have r1 := (cell_of_heap (o := 1) R2).trans rfl; have r2 := (cell_of_heap (o := 2) R2).trans rfl; have r3 := (cell_of_heap (o := 3) R2).trans rfl; have r4 := (cell_of_heap (o := 4) R2).trans rfl; have z0 : w3.frozen? ⟨w.heap.size + 1, 0, none⟩ = false := froz_of_heap R2; have z1 : w3.frozen? ⟨w.heap.size + 1, 1, none⟩ = false := froz_of_heap R2; have z2 : w3.frozen? ⟨w.heap.size + 1, 2, none⟩ = false := froz_of_heap R2; have z3 : w3.frozen? ⟨w.heap.size + 1, 3, none⟩ = false := froz_of_heap R2; have z4 : w3.frozen? ⟨w.heap.size + 1, 4, none⟩ = false := froz_of_heap R2; have HR2 : Hid (w3.heap[w.heap.size + 1]? = some (.cells #[.int .i64 0, .int .i64 0, .slice none 0 0, .string ⟨#[]⟩, .int .i64 0] 36 (0, 0))) := R2; clear R2))
  refine bodyPost_ret (v := .agg #[.int .i64 6, .int .i64 0, .slice none 0 0, .string ⟨#[]⟩, .int .i64 0]) (results_cell_row Try.results13 _ _ (w.heap.size + 1) 36 _ (0, 0) _ rfl (five_set HR2.out _ _ _ _ _) Try.underlying36 rfl (by kernel_rfl)) rfl ⟨?_, five_below B3 (by omega) _ _ _ _ _⟩
  rw [E.out]
  exact ⟨none, 0, rfl, ⟨rfl, .inl ⟨rfl, rfl⟩⟩⟩
set_option maxHeartbeats 2000000 in
set_option maxRecDepth 100000 in
theorem machS_f (lo : Nat) (p : ProgD) (s1 : Option Addr) (c1 : Nat) (s2 : Option Addr) (c2 : Nat) (s3 : Option Addr) (c3 : Nat) (s4 : Option Addr) (c4 : Nat) (args : List Int) (mem : ByteArray) (fuel : Int) (w : World) (k1 : IntsAt w lo s1 p.params) (k2 : IntsAt w lo s2 p.widths) (k3 : MinsAt w lo s3 p.code) (k4 : IntsAt w lo s4 args) (hmsz : mem.size ≤ 1048576) (hp : progB p = true) (hv : valsB p.widths args = true) (hm : mem.size = 32) (hf : (decide (0 ≤ fuel) && decide (fuel ≤ 20000)) = false) :
    Calls Try.prog 13 #[.agg #[.int .i64 p.regs, .slice s1 p.params.length c1, .slice s2 p.widths.length c2, .slice s3 p.code.length c3], .slice s4 args.length c4, .string mem, .int .i64 fuel] w fun e w' => (∃ u q, e = .returned (resA (machR p args mem fuel) u q) ∧ w'.ownsRow w.heap.size 2 1 (.slice u (machR p args mem fuel).out.length q) (machR p args mem fuel).out.length ((machR p args mem fuel).out.map (Value.int .i64))) ∧ Below w.heap.size w w' := by
  have E : Hid (machR p args mem fuel = ⟨6, 0, [], ⟨#[]⟩, 0⟩) := by show _ = _; rw [machR, if_neg (by rw [okM, hf]; simp)]
  have hm2 : (mem.size : Int) = 32 := by omega
  have hmz := hmsz
  obtain ⟨W1, hW1⟩ : ∃ W1, W1 = (w.alloc (.cells #[.int .i64 p.regs, .slice s1 p.params.length c1, .slice s2 p.widths.length c2, .slice s3 p.code.length c3] 30)).alloc (.cells #[.int .i64 0, .int .i64 0, .slice none 0 0, .string ⟨#[]⟩, .int .i64 0] 36) := ⟨_, rfl⟩
  have B1 : Below w.heap.size w W1 := by rw [hW1]; exact ((Below.refl _ _).alloc (Nat.le_refl _) _).alloc (by simp) _
  have PS := progS lo p s1 c1 s2 c2 s3 c3 W1 (k1.keep (agree_of_below B1 lo)) (k2.keep (agree_of_below B1 lo)) (k3.keep (agree_of_below B1 lo))
  have hz1 : w.heap.size + 2 = W1.heap.size := by rw [hW1]; simp
  have X1 : BoxP W1 w.heap.size p s1 c1 s2 c2 s3 c3 := by rw [hW1]; exact (BoxP.new w p s1 c1 s2 c2 s3 c3 _).below ((Below.refl _ _).alloc (Nat.le_refl _) _)
  have R1 : W1.heap[w.heap.size + 1]? = some (.cells #[.int .i64 0, .int .i64 0, .slice none 0 0, .string ⟨#[]⟩, .int .i64 0] 36 (0, 0)) := by rw [hW1]; exact heap_new2 _ _ _
  rw [hp] at PS
  go_enter Try.func13, Try.ntmps13
  go_upto_region 1 with fail
  rw [← hW1]
  clear hW1
  have XX := X1
  obtain ⟨_, y0, y1, y2, y3⟩ := XX
  go_wp2_with (first | (go_at_call 7; refine PS.mono ?_; rintro e w2 ⟨rfl, hb2⟩; have R2 := row_below R1 hb2; have B2 := B1.trans (hb2.mono (by omega)); have RR2 : Hid _ := R2; clear R2; have X2 := X1.below hb2; have XX2 : Hid (BoxP w2 w.heap.size p s1 c1 s2 c2 s3 c3) := X2; obtain ⟨hx2, x0, x1, x2, x3⟩ := X2; have AS := argsS lo lo s2 s4 c2 c4 p.widths args (.int .i64 0) (.slice none 0 0) w2 (k2.keep (agree_of_below B2 lo)) (k4.keep (agree_of_below B2 lo)); rw [hv] at AS) | (go_at_call 36; refine AS.mono ?_; rintro e w3 ⟨rfl, hb3⟩; have R2 := row_below RR2.out hb3; have B3 := B2.trans (hb3.mono B2.size); have X3 := XX2.out.below hb3; obtain ⟨hx3, v0, v1, v2, v3⟩ := X3; have r0 := (cell_of_heap (o := 0) R2).trans rfl; have r1 := (cell_of_heap (o := 1) R2).trans rfl; have r2 := (cell_of_heap (o := 2) R2).trans rfl; have r3 := (cell_of_heap (o := 3) R2).trans rfl; have r4 := (cell_of_heap (o := 4) R2).trans rfl; have z0 : w3.frozen? ⟨w.heap.size + 1, 0, none⟩ = false := froz_of_heap R2; have z1 : w3.frozen? ⟨w.heap.size + 1, 1, none⟩ = false := froz_of_heap R2; have z2 : w3.frozen? ⟨w.heap.size + 1, 2, none⟩ = false := froz_of_heap R2; have z3 : w3.frozen? ⟨w.heap.size + 1, 3, none⟩ = false := froz_of_heap R2; have z4 : w3.frozen? ⟨w.heap.size + 1, 4, none⟩ = false := froz_of_heap R2; have HR2 : Hid (w3.heap[w.heap.size + 1]? = some (.cells #[.int .i64 0, .int .i64 0, .slice none 0 0, .string ⟨#[]⟩, .int .i64 0] 36 (0, 0))) := R2; clear R2) | (go_at_call 24; refine (inS _ _ _ _).mono ?_; rintro e w9 ⟨rfl, h9⟩; have h8 := h9.symm; clear h9; subst h8))
  refine bodyPost_ret (v := .agg #[.int .i64 6, .int .i64 0, .slice none 0 0, .string ⟨#[]⟩, .int .i64 0]) (results_cell_row Try.results13 _ _ (w.heap.size + 1) 36 _ (0, 0) _ rfl (five_set HR2.out _ _ _ _ _) Try.underlying36 rfl (by kernel_rfl)) rfl ⟨?_, five_below B3 (by omega) _ _ _ _ _⟩
  rw [E.out]
  exact ⟨none, 0, rfl, ⟨rfl, .inl ⟨rfl, rfl⟩⟩⟩
end Go.Proofs.Ytofgfiakccjimaa
namespace Go.Proofs.Ytofgfiakccjimaa
open Go.RowKit
set_option linter.unusedVariables false
set_option linter.unusedSimpArgs false

theorem made_reg (n j : Nat) (h : j < n) : (madeCells #[Value.int .i64 0] n)[j]? = some (.int .i64 0) := by
  have e := toList_madeCells_one (Value.int .i64 0) n
  rw [← Array.getElem?_toList, e]
  simp [h]
theorem makeR (n : Nat) (w : World) (h : n ≤ 130) : (Instr.makeSlice 22 (.int .i64 (n : Int)) (.int .i64 (n : Int))).run Try.prog w = .ok (.slice (some ⟨w.heap.size, 0, none⟩) n n) (w.alloc (.cells (madeCells #[Value.int .i64 0] n) 2)) := by
  obtain ⟨i0, hi, hz0, hz1, hz2⟩ := info_parts infoI
  have hr := run_makeSlice (P := Try.prog) w 22 2 i0 (.int .i64 0) Try.underlying22 hi hz0 .i64 .i64 n n (by omega) (by omega) (by rw [hz1]; simp; omega) (by rw [hz2]; omega) (by omega)
  rw [hz1] at hr
  have zc : (Value.int .i64 0).cells = #[Value.int .i64 0] := rfl
  rw [zc] at hr
  simpa using hr
theorem convM (mem : ByteArray) (w : World) : (convert 9 67 (.string mem)).run Try.prog w = .ok (.slice (some ⟨w.heap.size, 0, none⟩) mem.size (grownCap w mem.size 0 5)) (Lib.bytesWorld w 5 mem) :=
  Lib.run_convert_string_bytes (P := Try.prog) w 9 67 5 mem Try.underlying9 Try.underlying67 Try.underlying5
theorem bytes_below (w : World) (T : TypeId) (mem : ByteArray) : Below w.heap.size w (Lib.bytesWorld w T mem) :=
  ⟨rfl, rfl, rfl, by rw [Lib.bytesWorld_size]; omega, fun b hb => Lib.bytesWorld_at_old w T mem b hb⟩
theorem bytes_cells (w : World) (mem : ByteArray) (hm : mem.size = 32) : 32 ≤ (Lib.bytesCells w 5 mem).size ∧ ∀ j, j < 32 → (Lib.bytesCells w 5 mem)[j]? = some (.int .u8 (memF mem j)) := by
  have hm2 : mem.data.size = 32 := hm
  refine ⟨by simp [Lib.bytesCells, hm2], fun j hj => ?_⟩
  have hj2 : j < mem.data.size := by omega
  simp [Lib.bytesCells, Array.getElem?_append, memF, List.getD]
  rw [if_pos (by omega), Array.getElem?_eq_getElem hj2]
  simp
/-- The three blocks that a machine begins with. -/
theorem made_x {W : World} {X G Y R q : Nat} {cy : Array Value} {fz : Nat × Nat} {mem : ByteArray} {p0 p1 p2 p3 : Value}
    (hX : W.heap[X]? = some (.cells #[p0, p1, p2, p3, .slice (some ⟨G, 0, none⟩) R R, .slice (some ⟨Y, 0, none⟩) 32 q, .slice none 0 0, .int .i64 0, .int .i64 0, .int .i64 0, .bool false] 69 (0, 0)))
    (hG : W.heap[G]? = some (.cells (madeCells #[Value.int .i64 0] R) 2 (0, 0)))
    (hY : W.heap[Y]? = some (.cells cy 5 fz)) (h1 : 32 ≤ cy.size) (h2 : 32 ≤ fz.1) (h3 : ∀ j, j < 32 → cy[j]? = some (.int .u8 (memF mem j))) (xg : X ≠ G) (xy : X ≠ Y) (gy : G ≠ Y) :
    XAt W X G Y W.heap.size R q ⟨memF mem, [], 0, fun _ => 0, 0⟩ 0 0 false :=
  ⟨(Array.getElem?_eq_some_iff.1 hX).1, (Array.getElem?_eq_some_iff.1 hG).1, (Array.getElem?_eq_some_iff.1 hY).1, xg, xy, gy, Nat.le_refl _, ⟨p0, p1, p2, p3, _, hX, ⟨rfl, .inl ⟨rfl, rfl⟩⟩⟩, ⟨_, hG, size_madeCells _ _, fun i hi => made_reg R i hi⟩, ⟨cy, fz, hY, h1, h2, h3⟩⟩
theorem heap_new_at {w : World} {n : Nat} (h : n = w.heap.size) (o : Obj) : (w.alloc o).heap[n]? = some o := by subst h; exact heap_alloc_at _ _
theorem frame103 (t : Array Value) (h : t.size = 103) : t = #[t.getD 0 undef, t.getD 1 undef, t.getD 2 undef, t.getD 3 undef, t.getD 4 undef, t.getD 5 undef, t.getD 6 undef, t.getD 7 undef, t.getD 8 undef, t.getD 9 undef, t.getD 10 undef, t.getD 11 undef, t.getD 12 undef, t.getD 13 undef, t.getD 14 undef, t.getD 15 undef, t.getD 16 undef, t.getD 17 undef, t.getD 18 undef, t.getD 19 undef, t.getD 20 undef, t.getD 21 undef, t.getD 22 undef, t.getD 23 undef, t.getD 24 undef, t.getD 25 undef, t.getD 26 undef, t.getD 27 undef, t.getD 28 undef, t.getD 29 undef, t.getD 30 undef, t.getD 31 undef, t.getD 32 undef, t.getD 33 undef, t.getD 34 undef, t.getD 35 undef, t.getD 36 undef, t.getD 37 undef, t.getD 38 undef, t.getD 39 undef, t.getD 40 undef, t.getD 41 undef, t.getD 42 undef, t.getD 43 undef, t.getD 44 undef, t.getD 45 undef, t.getD 46 undef, t.getD 47 undef, t.getD 48 undef, t.getD 49 undef, t.getD 50 undef, t.getD 51 undef, t.getD 52 undef, t.getD 53 undef, t.getD 54 undef, t.getD 55 undef, t.getD 56 undef, t.getD 57 undef, t.getD 58 undef, t.getD 59 undef, t.getD 60 undef, t.getD 61 undef, t.getD 62 undef, t.getD 63 undef, t.getD 64 undef, t.getD 65 undef, t.getD 66 undef, t.getD 67 undef, t.getD 68 undef, t.getD 69 undef, t.getD 70 undef, t.getD 71 undef, t.getD 72 undef, t.getD 73 undef, t.getD 74 undef, t.getD 75 undef, t.getD 76 undef, t.getD 77 undef, t.getD 78 undef, t.getD 79 undef, t.getD 80 undef, t.getD 81 undef, t.getD 82 undef, t.getD 83 undef, t.getD 84 undef, t.getD 85 undef, t.getD 86 undef, t.getD 87 undef, t.getD 88 undef, t.getD 89 undef, t.getD 90 undef, t.getD 91 undef, t.getD 92 undef, t.getD 93 undef, t.getD 94 undef, t.getD 95 undef, t.getD 96 undef, t.getD 97 undef, t.getD 98 undef, t.getD 99 undef, t.getD 100 undef, t.getD 101 undef, t.getD 102 undef] := by
  apply Array.ext
  · rw [h]; rfl
  · intro i h1 h2
    have h3 : i < 103 := by omega
    match i, h1, h2, h3 with
    | 0, h1, _, _ => exact (getD_some h1).symm
    | 1, h1, _, _ => exact (getD_some h1).symm
    | 2, h1, _, _ => exact (getD_some h1).symm
    | 3, h1, _, _ => exact (getD_some h1).symm
    | 4, h1, _, _ => exact (getD_some h1).symm
    | 5, h1, _, _ => exact (getD_some h1).symm
    | 6, h1, _, _ => exact (getD_some h1).symm
    | 7, h1, _, _ => exact (getD_some h1).symm
    | 8, h1, _, _ => exact (getD_some h1).symm
    | 9, h1, _, _ => exact (getD_some h1).symm
    | 10, h1, _, _ => exact (getD_some h1).symm
    | 11, h1, _, _ => exact (getD_some h1).symm
    | 12, h1, _, _ => exact (getD_some h1).symm
    | 13, h1, _, _ => exact (getD_some h1).symm
    | 14, h1, _, _ => exact (getD_some h1).symm
    | 15, h1, _, _ => exact (getD_some h1).symm
    | 16, h1, _, _ => exact (getD_some h1).symm
    | 17, h1, _, _ => exact (getD_some h1).symm
    | 18, h1, _, _ => exact (getD_some h1).symm
    | 19, h1, _, _ => exact (getD_some h1).symm
    | 20, h1, _, _ => exact (getD_some h1).symm
    | 21, h1, _, _ => exact (getD_some h1).symm
    | 22, h1, _, _ => exact (getD_some h1).symm
    | 23, h1, _, _ => exact (getD_some h1).symm
    | 24, h1, _, _ => exact (getD_some h1).symm
    | 25, h1, _, _ => exact (getD_some h1).symm
    | 26, h1, _, _ => exact (getD_some h1).symm
    | 27, h1, _, _ => exact (getD_some h1).symm
    | 28, h1, _, _ => exact (getD_some h1).symm
    | 29, h1, _, _ => exact (getD_some h1).symm
    | 30, h1, _, _ => exact (getD_some h1).symm
    | 31, h1, _, _ => exact (getD_some h1).symm
    | 32, h1, _, _ => exact (getD_some h1).symm
    | 33, h1, _, _ => exact (getD_some h1).symm
    | 34, h1, _, _ => exact (getD_some h1).symm
    | 35, h1, _, _ => exact (getD_some h1).symm
    | 36, h1, _, _ => exact (getD_some h1).symm
    | 37, h1, _, _ => exact (getD_some h1).symm
    | 38, h1, _, _ => exact (getD_some h1).symm
    | 39, h1, _, _ => exact (getD_some h1).symm
    | 40, h1, _, _ => exact (getD_some h1).symm
    | 41, h1, _, _ => exact (getD_some h1).symm
    | 42, h1, _, _ => exact (getD_some h1).symm
    | 43, h1, _, _ => exact (getD_some h1).symm
    | 44, h1, _, _ => exact (getD_some h1).symm
    | 45, h1, _, _ => exact (getD_some h1).symm
    | 46, h1, _, _ => exact (getD_some h1).symm
    | 47, h1, _, _ => exact (getD_some h1).symm
    | 48, h1, _, _ => exact (getD_some h1).symm
    | 49, h1, _, _ => exact (getD_some h1).symm
    | 50, h1, _, _ => exact (getD_some h1).symm
    | 51, h1, _, _ => exact (getD_some h1).symm
    | 52, h1, _, _ => exact (getD_some h1).symm
    | 53, h1, _, _ => exact (getD_some h1).symm
    | 54, h1, _, _ => exact (getD_some h1).symm
    | 55, h1, _, _ => exact (getD_some h1).symm
    | 56, h1, _, _ => exact (getD_some h1).symm
    | 57, h1, _, _ => exact (getD_some h1).symm
    | 58, h1, _, _ => exact (getD_some h1).symm
    | 59, h1, _, _ => exact (getD_some h1).symm
    | 60, h1, _, _ => exact (getD_some h1).symm
    | 61, h1, _, _ => exact (getD_some h1).symm
    | 62, h1, _, _ => exact (getD_some h1).symm
    | 63, h1, _, _ => exact (getD_some h1).symm
    | 64, h1, _, _ => exact (getD_some h1).symm
    | 65, h1, _, _ => exact (getD_some h1).symm
    | 66, h1, _, _ => exact (getD_some h1).symm
    | 67, h1, _, _ => exact (getD_some h1).symm
    | 68, h1, _, _ => exact (getD_some h1).symm
    | 69, h1, _, _ => exact (getD_some h1).symm
    | 70, h1, _, _ => exact (getD_some h1).symm
    | 71, h1, _, _ => exact (getD_some h1).symm
    | 72, h1, _, _ => exact (getD_some h1).symm
    | 73, h1, _, _ => exact (getD_some h1).symm
    | 74, h1, _, _ => exact (getD_some h1).symm
    | 75, h1, _, _ => exact (getD_some h1).symm
    | 76, h1, _, _ => exact (getD_some h1).symm
    | 77, h1, _, _ => exact (getD_some h1).symm
    | 78, h1, _, _ => exact (getD_some h1).symm
    | 79, h1, _, _ => exact (getD_some h1).symm
    | 80, h1, _, _ => exact (getD_some h1).symm
    | 81, h1, _, _ => exact (getD_some h1).symm
    | 82, h1, _, _ => exact (getD_some h1).symm
    | 83, h1, _, _ => exact (getD_some h1).symm
    | 84, h1, _, _ => exact (getD_some h1).symm
    | 85, h1, _, _ => exact (getD_some h1).symm
    | 86, h1, _, _ => exact (getD_some h1).symm
    | 87, h1, _, _ => exact (getD_some h1).symm
    | 88, h1, _, _ => exact (getD_some h1).symm
    | 89, h1, _, _ => exact (getD_some h1).symm
    | 90, h1, _, _ => exact (getD_some h1).symm
    | 91, h1, _, _ => exact (getD_some h1).symm
    | 92, h1, _, _ => exact (getD_some h1).symm
    | 93, h1, _, _ => exact (getD_some h1).symm
    | 94, h1, _, _ => exact (getD_some h1).symm
    | 95, h1, _, _ => exact (getD_some h1).symm
    | 96, h1, _, _ => exact (getD_some h1).symm
    | 97, h1, _, _ => exact (getD_some h1).symm
    | 98, h1, _, _ => exact (getD_some h1).symm
    | 99, h1, _, _ => exact (getD_some h1).symm
    | 100, h1, _, _ => exact (getD_some h1).symm
    | 101, h1, _, _ => exact (getD_some h1).symm
    | 102, h1, _, _ => exact (getD_some h1).symm
    | n + 103, _, _, h3 => exact absurd h3 (by omega)
theorem frame103_f (t : Array Value) (h : t.size = 103) : ∃ f : Nat → Value, t = #[f 0, f 1, f 2, f 3, f 4, f 5, f 6, f 7, f 8, f 9, f 10, f 11, f 12, f 13, f 14, f 15, f 16, f 17, f 18, f 19, f 20, f 21, f 22, f 23, f 24, f 25, f 26, f 27, f 28, f 29, f 30, f 31, f 32, f 33, f 34, f 35, f 36, f 37, f 38, f 39, f 40, f 41, f 42, f 43, f 44, f 45, f 46, f 47, f 48, f 49, f 50, f 51, f 52, f 53, f 54, f 55, f 56, f 57, f 58, f 59, f 60, f 61, f 62, f 63, f 64, f 65, f 66, f 67, f 68, f 69, f 70, f 71, f 72, f 73, f 74, f 75, f 76, f 77, f 78, f 79, f 80, f 81, f 82, f 83, f 84, f 85, f 86, f 87, f 88, f 89, f 90, f 91, f 92, f 93, f 94, f 95, f 96, f 97, f 98, f 99, f 100, f 101, f 102] := ⟨fun k => t.getD k undef, frame103 t h⟩
theorem Keep3.below {X G Y B : Nat} {w a b : World} (k : Keep3 X G Y B a b) (h : Below w.heap.size w a) (hB : w.heap.size ≤ B) (x : w.heap.size ≤ X) (g : w.heap.size ≤ G) (y : w.heap.size ≤ Y) : Below w.heap.size w b :=
  ⟨k.os.trans h.os, k.tape.trans h.tape, k.output.trans h.output, Nat.le_trans h.size k.size, fun i hi => (k.block i (by omega) (by omega) (by omega) (by omega)).trans (h.block i hi)⟩
/-- How far a run has come. -/
def RunX (code : List MInsD) (fuel : Int) (s0 st : MSt) (vl cd : Int) (dn : Bool) : Prop :=
  (dn = false → vl = 0 ∧ cd = 0 ∧ Good st ∧ 0 ≤ st.pc ∧ st.pc < code.length ∧ st.steps ≤ fuel ∧ runM code fuel.toNat s0 = runM code (fuel - st.steps).toNat st) ∧ (dn = true → runM code fuel.toNat s0 = ⟨cd, vl, st⟩)
theorem nxt_steps (i : MInsD) (s : MSt) : (nxt i s).st.steps = s.steps + 1 := by
  have wp := work_pc i { s with steps := s.steps + 1, pc := s.pc + 1 }
  unfold nxt
  split
  · rfl
  split
  · split <;> rfl
  split
  · rfl
  split
  · rfl
  split
  · exact wp.2
  · rfl
theorem nxt_zero (i : MInsD) (s : MSt) : (nxt i s).done = false → (nxt i s).value = 0 ∧ (nxt i s).code = 0 := by
  unfold nxt
  split
  · exact fun _ => ⟨rfl, rfl⟩
  split
  · split <;> exact fun _ => ⟨rfl, rfl⟩
  split
  · intro h; cases h
  split
  · intro h; cases h
  split
  · exact fun _ => ⟨rfl, rfl⟩
  · intro h; cases h
theorem nxt_good {l : List MInsD} {i : MInsD} {R : Int} {s : MSt} (h1 : 1 ≤ R) (h2 : R ≤ 130) (hi : minsB i R l.length = true) (hnx : goesB i.op = true → s.pc + 1 < l.length) (g : Good s) (p0 : 0 ≤ s.pc) (h : (nxt i s).done = false) : Good (nxt i s).st ∧ 0 ≤ (nxt i s).st.pc ∧ (nxt i s).st.pc < l.length := by
  have g5 : ∀ q : Int, Good { s with steps := s.steps + 1, pc := q } := fun q => ⟨g.regs, g.mem, g.out, by have := g.steps; show 0 ≤ s.steps + 1; omega⟩
  have wp := work_pc i { s with steps := s.steps + 1, pc := s.pc + 1 }
  by_cases e1 : i.op = 31
  · have e : nxt i s = ⟨{ s with steps := s.steps + 1, pc := i.imm }, 0, 0, false⟩ := by simp [nxt, e1]
    rw [e]
    exact ⟨g5 _, jump_imm h1 hi (.inl e1)⟩
  by_cases e2 : i.op = 32
  · by_cases ho : (rg s i.a % 2 == 1) = true
    · have e : nxt i s = ⟨{ s with steps := s.steps + 1, pc := i.imm }, 0, 0, false⟩ := by unfold nxt; rw [if_neg e1, if_pos e2, if_pos ho]
      rw [e]
      exact ⟨g5 _, jump_imm h1 hi (.inr e2)⟩
    · have e : nxt i s = ⟨{ s with steps := s.steps + 1, pc := s.pc + 1 }, 0, 0, false⟩ := by unfold nxt; rw [if_neg e1, if_pos e2, if_neg ho]
      rw [e]
      exact ⟨g5 _, by show (0 : Int) ≤ s.pc + 1; omega, hnx (by rw [e2]; rfl)⟩
  unfold nxt at h ⊢
  rw [if_neg e1, if_neg e2] at h ⊢
  by_cases e3 : i.op = 33
  · rw [if_pos e3] at h; cases h
  rw [if_neg e3] at h ⊢
  by_cases e4 : i.op = 34
  · rw [if_pos e4] at h; cases h
  rw [if_neg e4] at h ⊢
  split at h
  · rename_i hz
    rw [if_pos hz]
    exact ⟨work_good h1 h2 hi (g5 _), by show (0 : Int) ≤ (workM _ _).2.pc; rw [wp.1]; show (0 : Int) ≤ s.pc + 1; omega, by show (workM _ _).2.pc < _; rw [wp.1]; exact hnx (by simp [goesB, e1, e3, e4])⟩
  · cases h
theorem RunX.next {code : List MInsD} {fuel R : Int} {s0 st : MSt} {vl cd : Int} (h1 : 1 ≤ R) (h2 : R ≤ 130) (hok : ∀ i, i < code.length → minsB (code.getD i mins0) R code.length = true) (hlast : goesB (code.getD (code.length - 1) mins0).op = false)
    (h : RunX code fuel s0 st vl cd false) (hf : st.steps < fuel) : RunX code fuel s0 (nxt (code.getD st.pc.toNat mins0) st).st (nxt (code.getD st.pc.toNat mins0) st).value (nxt (code.getD st.pc.toNat mins0) st).code (nxt (code.getD st.pc.toNat mins0) st).done := by
  obtain ⟨_, _, g, p0, p1, _, hr⟩ := h.1 rfl
  have hi := hok st.pc.toNat (by omega)
  have hnx : goesB (code.getD st.pc.toNat mins0).op = true → st.pc + 1 < code.length := fun hg => by
    by_cases e : st.pc.toNat = code.length - 1
    · rw [e, hlast] at hg; cases hg
    · omega
  have hs := nxt_steps (code.getD st.pc.toNat mins0) st
  obtain ⟨n, hn⟩ : ∃ n, (fuel - st.steps).toNat = n + 1 := ⟨(fuel - st.steps).toNat - 1, by omega⟩
  rw [hn, run_next] at hr
  have hn2 : (fuel - (nxt (code.getD st.pc.toNat mins0) st).st.steps).toNat = n := by rw [hs]; omega
  refine ⟨fun hd => ?_, fun hd => ?_⟩
  · obtain ⟨z1, z2⟩ := nxt_zero _ _ hd
    obtain ⟨g1, g2, g3⟩ := nxt_good h1 h2 hi hnx g p0 hd
    rw [if_neg (by rw [hd]; decide)] at hr
    exact ⟨z1, z2, g1, g2, g3, by rw [hs]; omega, by rw [hn2]; exact hr⟩
  · rw [if_pos hd] at hr
    exact hr
theorem RunX.over {code : List MInsD} {fuel : Int} {s0 st : MSt} {vl cd : Int} (h : RunX code fuel s0 st vl cd false) (hf : ¬ st.steps < fuel) : runM code fuel.toNat s0 = ⟨4, 0, st⟩ := by
  obtain ⟨_, _, _, _, _, h6, hr⟩ := h.1 rfl
  rw [hr, show (fuel - st.steps).toNat = 0 by omega]
  rfl
def doneIn (W : World) (X : Nat) : Bool := match W.cell? ⟨X, 10, none⟩ with
  | some (.bool b) => b
  | _ => false
theorem done_of {w : World} {X G Y B R q : Nat} {s : MSt} {vl cd : Int} {dn : Bool} (h : XAt w X G Y B R q s vl cd dn) : doneIn w X = dn := by
  simp only [doneIn, h.cell10]
theorem own_final {w w' : World} {B C : Nat} {v : Value} {n : Nat} {xs : List Value} {T : TypeId} (hBC : C ≤ B) (h : w.ownsRow B T 1 v n xs) (k : ∀ g, v.ownBlock = some g → g < w.heap.size → w'.heap[g]? = w.heap[g]?) : w'.ownsRow C T 1 v n xs := by
  obtain ⟨hl, h⟩ := ownsRow_at h k
  refine ⟨hl, ?_⟩
  rcases h with h | ⟨g, cap, cur, hv, hb, rest⟩
  · exact .inl h
  · exact .inr ⟨g, cap, cur, hv, by omega, rest⟩
theorem conv_memX {w : World} {X G Y B R q : Nat} {s : MSt} {vl cd : Int} {dn : Bool} (h : XAt w X G Y B R q s vl cd dn) (hr : ∀ j, j < 32 → 0 ≤ s.mem j ∧ s.mem j ≤ 255) :
    (convert 67 9 (.slice (some ⟨Y, 0, none⟩) 32 q)).run Try.prog w = .ok (.string (memB s.mem)) w := by
  have h2 := run_convert_bytes_back (P := Try.prog) w 67 9 5 ⟨Y, 0, none⟩ q ((List.range 32).map fun j => UInt8.ofNat (s.mem j).toNat) Try.underlying67 Try.underlying5 Try.underlying9 (fun j hj => ?_)
  · unfold memB; simpa using h2
  · have hj : j < 32 := by simpa using hj
    have hat : (⟨Y, 0, none⟩ : Addr).add j = ⟨Y, j, none⟩ := by unfold Addr.add; split <;> simp_all
    rw [hat, h.mm j hj]
    simp only [List.getElem_map, List.getElem_range]
    rw [byte_back (hr j hj).1 (hr j hj).2]
/-- What holds when it has been made. -/
def Begun (w w3 : World) (s4 : Option Addr) (n c4 : Nat) (fuel : Int) (R : Nat) (mem : ByteArray) (e : Exit) (a' : Act) (W : World) : Prop :=
  e = .normal ∧ ∃ X G Y q, (a'.defers = [] ∧ a'.tmps.size = 103 ∧ a'.tmps.getD 1 undef = .slice s4 n c4 ∧ a'.tmps.getD 3 undef = .int .i64 fuel ∧ a'.tmps.getD 4 undef = .pointer (some ⟨w.heap.size, 0, none⟩) ∧ a'.tmps.getD 8 undef = .pointer (some ⟨w.heap.size + 1, 0, none⟩) ∧ a'.tmps.getD 9 undef = .pointer (some ⟨X, 0, none⟩)) ∧ w3.heap.size ≤ X ∧ w3.heap.size ≤ G ∧ w3.heap.size ≤ Y ∧ XAt W X G Y W.heap.size R q ⟨memF mem, [], 0, fun _ => 0, 0⟩ 0 0 false ∧ Below w3.heap.size w3 W
end Go.Proofs.Ytofgfiakccjimaa
