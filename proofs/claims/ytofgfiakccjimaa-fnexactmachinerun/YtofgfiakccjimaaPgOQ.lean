/- An argument that came in, opened: from the form's reading to lists of numbers and of records in memory. -/
import Derived.Test.YtofgfiakccjimaaPgM
import Derived.ProofKit
import Derived.OpenShut
import Derived.Deep.Slices
import Derived.Lib.SmallJoins
import Derived.Test.YtofgfiakccjimaaMaYQ
import Derived.BigRegion
import Derived.Deep.DeepCutAuto
import Derived.Test.YtofgfiakccjimaaTo1
import Derived.Laws.OwnMore
import Derived.Deep.QuietTactic
import Derived.BigQuiet
import Derived.Deep.RegionWith
import Derived.WalkSmall
import Derived.Test.YtofgfiakccjimaaMaK
import Derived.Test.YtofgfiakccjimaaMaM
import Derived.Deep.RegionHeld2
namespace Go.Proofs.Ytofgfiakccjimaa
open Go.ChangeShapes Go.WideShapes Go.ChangeAt Go.RowKit Go.Deep

section
variable {H : Type} {enc : TypeId × Value → H} {w : World}
theorem slice_of {α : Type} (z : α) {t e : TypeId} {sz fuel : Nat} {c : Value} {x : DataW H × List MemPlace} (Rep : List Value → α → Prop) (ht : Try.prog.underlying t = some (.slice e)) (hsz : Try.prog.cellsOf e = sz) (h0 : 0 < sz)
    (hrep : ∀ fuel cs x, DataW.trod enc Try.prog w 0 (fun _ => true) true fuel e cs = some x → ∃ d, Rep cs d) (h : DataW.trod enc Try.prog w 0 (fun _ => true) true fuel t [c] = some x) :
    ∃ (a : Option Addr) (l : List α) (cap : Nat), c = .slice a l.length cap ∧ l.length ≤ 9223372036854775807 ∧ (l = [] ∨ ∃ b off, a = some ⟨b, off, none⟩ ∧ 0 ≤ b ∧ b < w.heap.size ∧ ∀ i, i < l.length → ∃ cs : List Value, cs.length = sz ∧ (∀ j, j < sz → w.cell? ⟨b, off + i * sz + j, none⟩ = cs[j]?) ∧ Rep cs (l.getD i z)) := by
  rcases open_slice ht h with ⟨hc, _⟩ | ⟨a, len, cap, m, n, D, Pl, hc, _, hl, hm, hmm, _, hx⟩
  · simp at hc
    exact ⟨none, [], 0, by simpa using hc, by simp, .inl rfl⟩
  · simp at hc
    have hml : len ≤ m := by simp at hmm; omega
    rw [hsz] at hx
    have hy : ∀ i, i < len → ∃ d : α, ∃ cs' : List Value, w.cells? 0 (a.add (i * sz)) sz = some cs' ∧ Rep cs' d := fun i hi => by
      obtain ⟨cs', h1, h2⟩ := hx i (by omega)
      obtain ⟨d, hd⟩ := hrep _ _ _ h2
      exact ⟨d, cs', h1, hd⟩
    have hin : Inhabited α := ⟨z⟩
    obtain ⟨f, hf⟩ := choose_lt hy
    have hlen : ((List.range len).map f).length = len := by simp
    refine ⟨some a, (List.range len).map f, cap, by rw [hlen]; exact hc, ?_, ?_⟩
    · rw [hlen]; unfold maxLen at hm; omega
    · rw [hlen]
      by_cases hz : len = 0
      · left; simp [hz]
      right
      obtain ⟨b, off, spot⟩ := a
      have hcell : ∀ i, i < len → ∃ cs : List Value, cs.length = sz ∧ (∀ j, j < sz → w.cell? ((⟨b, off, spot⟩ : Addr).add (i * sz + j)) = cs[j]?) ∧ Rep cs (f i) := fun i hi => by
        obtain ⟨cs', h1, h2⟩ := hf i hi
        obtain ⟨_, h3, h4⟩ := World.cells?_some h1
        exact ⟨cs', h3, fun j hj => by rw [← add_add]; exact h4 j hj, h2⟩
      have hspot : spot = none := by
        obtain ⟨cs, h3, h4, _⟩ := hcell 0 (by omega)
        have h5 := h4 0 h0
        rw [List.getElem?_eq_getElem (by omega)] at h5
        simpa [Addr.add] using World.cell?_spot h5
      subst hspot
      have hat : ∀ k, (⟨b, off, none⟩ : Addr).add k = ⟨b, off + k, none⟩ := fun k => by unfold Addr.add; split <;> simp_all
      have hbl : b < w.heap.size := by
        obtain ⟨cs, h3, h4, _⟩ := hcell 0 (by omega)
        have h5 := h4 0 h0
        rw [hat, List.getElem?_eq_getElem (by omega)] at h5
        unfold World.cell? at h5
        cases hb : w.heap[b]? with
        | none => simp [hb] at h5
        | some x => exact (Array.getElem?_eq_some_iff.1 hb).1
      refine ⟨b, off, rfl, Nat.zero_le _, hbl, fun i hi => ?_⟩
      obtain ⟨cs, h3, h4, h5⟩ := hcell i hi
      refine ⟨cs, h3, fun j hj => ?_, ?_⟩
      · have := h4 j hj
        rw [hat] at this
        rw [Nat.add_assoc]; exact this
      · have e : ((List.range len).map f).getD i z = f i := by simp [List.getD, hi]
        rw [e]; exact h5

theorem int_of {fuel : Nat} {cs : List Value} {x : DataW H × List MemPlace} (h : DataW.trod enc Try.prog w 0 (fun _ => true) true fuel 2 cs = some x) : ∃ n : Int, cs = [.int .i64 n] := by
  obtain ⟨n, e, _⟩ := DataW.trod_int Try.underlying2 h
  exact ⟨n, e⟩
theorem ints_of {fuel : Nat} {c : Value} {x : DataW H × List MemPlace} (h : DataW.trod enc Try.prog w 0 (fun _ => true) true fuel 22 [c] = some x) : ∃ (u : Option Addr) (l : List Int) (q : Nat), c = .slice u l.length q ∧ IntsAt w 0 u l := by
  obtain ⟨a, l, cap, hc, hm, hl⟩ := slice_of (α := Int) 0 (sz := 1) (fun cs n => cs = [.int .i64 n]) Try.underlying22 (by kernel_rfl) (by omega) (fun _ _ _ h => int_of h) h
  refine ⟨a, l, cap, hc, hm, ?_⟩
  rcases hl with hl | ⟨b, off, ha, h0, hb, hcell⟩
  · exact .inl hl
  · refine .inr ⟨b, off, ha, h0, hb, fun i hi => ?_⟩
    obtain ⟨cs, _, h4, rfl⟩ := hcell i hi
    have := h4 0 (by omega)
    simpa using this
theorem list2 {l : List Value} (h : l.length = 2) : ∃ a b, l = [a, b] := by
  match l, h with
  | [a, b], _ => exact ⟨a, b, rfl⟩
theorem list3 {l : List Value} (h : l.length = 3) : ∃ a b c, l = [a, b, c] := by
  match l, h with
  | [a, b, c], _ => exact ⟨a, b, c, rfl⟩
theorem list4 {l : List Value} (h : l.length = 4) : ∃ a b c d, l = [a, b, c, d] := by
  match l, h with
  | [a, b, c, d], _ => exact ⟨a, b, c, d, rfl⟩
theorem list6 {l : List Value} (h : l.length = 6) : ∃ a b c d e f, l = [a, b, c, d, e, f] := by
  match l, h with
  | [a, b, c, d, e, f], _ => exact ⟨a, b, c, d, e, f, rfl⟩
theorem list7 {l : List Value} (h : l.length = 7) : ∃ a b c d e f g, l = [a, b, c, d, e, f, g] := by
  match l, h with
  | [a, b, c, d, e, f, g], _ => exact ⟨a, b, c, d, e, f, g, rfl⟩
theorem some_at {α : Type} {l : List α} {n i : Nat} (h : l.length = n) (hi : i < n) : ∃ y, l[i]? = some y := ⟨l[i]'(by omega), List.getElem?_eq_getElem (by omega)⟩
def MInsRep (cs : List Value) (d : MInsD) : Prop := cs = [.int .i64 d.op, .int .i64 d.w, .int .i64 d.d, .int .i64 d.a, .int .i64 d.b, .int .i64 d.c, .int .i64 d.imm]
set_option maxRecDepth 100000 in
theorem ofMIns {fuel : Nat} {cs : List Value} {x : DataW H × List MemPlace} (h : DataW.trod enc Try.prog w 0 (fun _ => true) true fuel 86 cs = some x) : ∃ d, MInsRep cs d := by
  obtain ⟨xs, n, _, _, hl, hlen, hf⟩ := DataW.trod_struct Try.underlying86 h
  have hl : cs.length = 7 := hl.trans (by kernel_rfl)
  obtain ⟨x0, x1, x2, x3, x4, x5, x6, rfl⟩ := list7 hl
  have hlen : xs.length = 7 := hlen
  obtain ⟨y0, hy0⟩ := some_at hlen (show 0 < 7 by omega)
  have t0 : DataW.trod enc Try.prog w 0 (fun _ => true) true n 2 [x0] = some y0 := (hf 0 _ rfl).trans hy0
  obtain ⟨z0, hz0⟩ := int_of t0
  simp only [List.cons.injEq, and_true] at hz0
  subst hz0
  obtain ⟨y1, hy1⟩ := some_at hlen (show 1 < 7 by omega)
  have t1 : DataW.trod enc Try.prog w 0 (fun _ => true) true n 2 [x1] = some y1 := (hf 1 _ rfl).trans hy1
  obtain ⟨z1, hz1⟩ := int_of t1
  simp only [List.cons.injEq, and_true] at hz1
  subst hz1
  obtain ⟨y2, hy2⟩ := some_at hlen (show 2 < 7 by omega)
  have t2 : DataW.trod enc Try.prog w 0 (fun _ => true) true n 2 [x2] = some y2 := (hf 2 _ rfl).trans hy2
  obtain ⟨z2, hz2⟩ := int_of t2
  simp only [List.cons.injEq, and_true] at hz2
  subst hz2
  obtain ⟨y3, hy3⟩ := some_at hlen (show 3 < 7 by omega)
  have t3 : DataW.trod enc Try.prog w 0 (fun _ => true) true n 2 [x3] = some y3 := (hf 3 _ rfl).trans hy3
  obtain ⟨z3, hz3⟩ := int_of t3
  simp only [List.cons.injEq, and_true] at hz3
  subst hz3
  obtain ⟨y4, hy4⟩ := some_at hlen (show 4 < 7 by omega)
  have t4 : DataW.trod enc Try.prog w 0 (fun _ => true) true n 2 [x4] = some y4 := (hf 4 _ rfl).trans hy4
  obtain ⟨z4, hz4⟩ := int_of t4
  simp only [List.cons.injEq, and_true] at hz4
  subst hz4
  obtain ⟨y5, hy5⟩ := some_at hlen (show 5 < 7 by omega)
  have t5 : DataW.trod enc Try.prog w 0 (fun _ => true) true n 2 [x5] = some y5 := (hf 5 _ rfl).trans hy5
  obtain ⟨z5, hz5⟩ := int_of t5
  simp only [List.cons.injEq, and_true] at hz5
  subst hz5
  obtain ⟨y6, hy6⟩ := some_at hlen (show 6 < 7 by omega)
  have t6 : DataW.trod enc Try.prog w 0 (fun _ => true) true n 2 [x6] = some y6 := (hf 6 _ rfl).trans hy6
  obtain ⟨z6, hz6⟩ := int_of t6
  simp only [List.cons.injEq, and_true] at hz6
  subst hz6
  exact ⟨⟨z0, z1, z2, z3, z4, z5, z6⟩, rfl⟩
theorem ofMInss {fuel : Nat} {c : Value} {x : DataW H × List MemPlace} (h : DataW.trod enc Try.prog w 0 (fun _ => true) true fuel 23 [c] = some x) : ∃ (u : Option Addr) (l : List MInsD) (q : Nat), c = .slice u l.length q ∧ MinsAt w 0 u l := by
  obtain ⟨a, l, cap, hc, hm, hl⟩ := slice_of (α := MInsD) mins0 (sz := 7) MInsRep Try.underlying23 (by kernel_rfl) (by omega) (fun _ _ _ h => ofMIns h) h
  refine ⟨a, l, cap, hc, hm, ?_⟩
  rcases hl with hl | ⟨b, off, ha, h0, hb, hcell⟩
  · exact .inl hl
  · refine .inr ⟨b, off, ha, h0, hb, fun i hi => ?_⟩
    obtain ⟨cs, _, h4, rfl⟩ := hcell i hi
    exact ⟨by have := h4 0 (by omega); simpa using this, by have := h4 1 (by omega); simpa using this, by have := h4 2 (by omega); simpa using this, by have := h4 3 (by omega); simpa using this, by have := h4 4 (by omega); simpa using this, by have := h4 5 (by omega); simpa using this, by have := h4 6 (by omega); simpa using this⟩
def ProgRep (w : World) (cs : List Value) (d : ProgD) : Prop := ∃ u1 q1 u2 q2 u3 q3, cs = [.int .i64 d.regs, .slice u1 d.params.length q1, .slice u2 d.widths.length q2, .slice u3 d.code.length q3] ∧ IntsAt w 0 u1 d.params ∧ IntsAt w 0 u2 d.widths ∧ MinsAt w 0 u3 d.code
set_option maxRecDepth 100000 in
theorem ofProgram {fuel : Nat} {cs : List Value} {x : DataW H × List MemPlace} (h : DataW.trod enc Try.prog w 0 (fun _ => true) true fuel 25 cs = some x) : ∃ d, ProgRep w cs d := by
  obtain ⟨xs, n, _, _, hl, hlen, hf⟩ := DataW.trod_struct Try.underlying25 h
  have hl : cs.length = 4 := hl.trans (by kernel_rfl)
  obtain ⟨x0, x1, x2, x3, rfl⟩ := list4 hl
  have hlen : xs.length = 4 := hlen
  obtain ⟨y0, hy0⟩ := some_at hlen (show 0 < 4 by omega)
  have t0 : DataW.trod enc Try.prog w 0 (fun _ => true) true n 2 [x0] = some y0 := (hf 0 _ rfl).trans hy0
  obtain ⟨z0, hz0⟩ := int_of t0
  simp only [List.cons.injEq, and_true] at hz0
  subst hz0
  obtain ⟨y1, hy1⟩ := some_at hlen (show 1 < 4 by omega)
  have t1 : DataW.trod enc Try.prog w 0 (fun _ => true) true n 22 [x1] = some y1 := (hf 1 _ rfl).trans hy1
  obtain ⟨u1, l1, q1, rfl, m1⟩ := ints_of t1
  obtain ⟨y2, hy2⟩ := some_at hlen (show 2 < 4 by omega)
  have t2 : DataW.trod enc Try.prog w 0 (fun _ => true) true n 22 [x2] = some y2 := (hf 2 _ rfl).trans hy2
  obtain ⟨u2, l2, q2, rfl, m2⟩ := ints_of t2
  obtain ⟨y3, hy3⟩ := some_at hlen (show 3 < 4 by omega)
  have t3 : DataW.trod enc Try.prog w 0 (fun _ => true) true n 23 [x3] = some y3 := (hf 3 _ rfl).trans hy3
  obtain ⟨u3, l3, q3, rfl, m3⟩ := ofMInss t3
  exact ⟨⟨z0, l1, l2, l3⟩, u1, q1, u2, q2, u3, q3, rfl, m1, m2, m3⟩
end
end Go.Proofs.Ytofgfiakccjimaa
namespace Go.Proofs.Ytofgfiakccjimaa
open Go.RowKit
set_option linter.unusedVariables false
set_option linter.unusedSimpArgs false

set_option maxHeartbeats 4000000 in
set_option maxRecDepth 100000 in
theorem machS_x (lo : Nat) (p : ProgD) (s1 : Option Addr) (c1 : Nat) (s2 : Option Addr) (c2 : Nat) (s3 : Option Addr) (c3 : Nat) (s4 : Option Addr) (c4 : Nat) (args : List Int) (mem : ByteArray) (fuel : Int) (w : World) (k1 : IntsAt w lo s1 p.params) (k2 : IntsAt w lo s2 p.widths) (k3 : MinsAt w lo s3 p.code) (k4 : IntsAt w lo s4 args) (hmsz : mem.size ≤ 1048576) (hp : progB p = true) (hv : valsB p.widths args = true) (hm : mem.size = 32) (f0 : 0 ≤ fuel) (f1 : fuel ≤ 20000) :
    Calls Try.prog 13 #[.agg #[.int .i64 p.regs, .slice s1 p.params.length c1, .slice s2 p.widths.length c2, .slice s3 p.code.length c3], .slice s4 args.length c4, .string mem, .int .i64 fuel] w fun e w' => (∃ u q, e = .returned (resA (machR p args mem fuel) u q) ∧ w'.ownsRow w.heap.size 2 1 (.slice u (machR p args mem fuel).out.length q) (machR p args mem fuel).out.length ((machR p args mem fuel).out.map (Value.int .i64))) ∧ Below w.heap.size w w' := by
  have E : Hid (okM p args mem fuel = true) := by show _ = _; simp [okM, hp, hv, hm, f0, f1]
  have hf : (decide (0 ≤ fuel) && decide (fuel ≤ 20000)) = true := by simp [f0, f1]
  have hm2 : (mem.size : Int) = 32 := by omega
  have PP := prog_parts hp
  obtain ⟨R, hR⟩ : ∃ R : Nat, Hid (p.regs = R) := ⟨p.regs.toNat, by show _ = _; have := PP.r1; omega⟩
  have HPP : Hid (ProgP p) := PP
  clear PP
  have hmz := hmsz
  obtain ⟨W1, hW1⟩ : ∃ W1, W1 = (w.alloc (.cells #[.int .i64 p.regs, .slice s1 p.params.length c1, .slice s2 p.widths.length c2, .slice s3 p.code.length c3] 30)).alloc (.cells #[.int .i64 0, .int .i64 0, .slice none 0 0, .string ⟨#[]⟩, .int .i64 0] 36) := ⟨_, rfl⟩
  have B1 : Below w.heap.size w W1 := by rw [hW1]; exact ((Below.refl _ _).alloc (Nat.le_refl _) _).alloc (by simp) _
  have PS := progS lo p s1 c1 s2 c2 s3 c3 W1 (k1.keep (agree_of_below B1 lo)) (k2.keep (agree_of_below B1 lo)) (k3.keep (agree_of_below B1 lo))
  have hz1 : w.heap.size + 2 = W1.heap.size := by rw [hW1]; simp
  have X1 : BoxP W1 w.heap.size p s1 c1 s2 c2 s3 c3 := by rw [hW1]; exact (BoxP.new w p s1 c1 s2 c2 s3 c3 _).below ((Below.refl _ _).alloc (Nat.le_refl _) _)
  have R1 : W1.heap[w.heap.size + 1]? = some (.cells #[.int .i64 0, .int .i64 0, .slice none 0 0, .string ⟨#[]⟩, .int .i64 0] 36 (0, 0)) := by rw [hW1]; exact heap_new2 _ _ _
  rw [hp] at PS
  go_enter Try.func13, Try.ntmps13
  go_upto_region 1 with fail
  rw [← hW1]
  clear hW1
  have XX := X1
  obtain ⟨_, y0, y1, y2, y3⟩ := XX
  go_wp2_with (first | (go_at_call 7; refine PS.mono ?_; rintro e w2 ⟨rfl, hb2⟩; have R2 := row_below R1 hb2; have B2 := B1.trans (hb2.mono (by omega)); have RR2 : Hid _ := R2; clear R2; have X2 := X1.below hb2; have XX2 : Hid (BoxP w2 w.heap.size p s1 c1 s2 c2 s3 c3) := X2; obtain ⟨hx2, x0, x1, x2, x3⟩ := X2; have AS := argsS lo lo s2 s4 c2 c4 p.widths args (.int .i64 0) (.slice none 0 0) w2 (k2.keep (agree_of_below B2 lo)) (k4.keep (agree_of_below B2 lo)); rw [hv] at AS) | (go_at_call 36; refine AS.mono ?_; rintro e w3 ⟨rfl, hb3⟩; have R2 := row_below RR2.out hb3; have B3 := B2.trans (hb3.mono B2.size); have X3 := XX2.out.below hb3; obtain ⟨hx3, v0, v1, v2, v3⟩ := X3; have r0 := (cell_of_heap (o := 0) R2).trans rfl; have r1 := (cell_of_heap (o := 1) R2).trans rfl; have r2 := (cell_of_heap (o := 2) R2).trans rfl; have r3 := (cell_of_heap (o := 3) R2).trans rfl; have r4 := (cell_of_heap (o := 4) R2).trans rfl; have z0 : w3.frozen? ⟨w.heap.size + 1, 0, none⟩ = false := froz_of_heap R2; have z1 : w3.frozen? ⟨w.heap.size + 1, 1, none⟩ = false := froz_of_heap R2; have z2 : w3.frozen? ⟨w.heap.size + 1, 2, none⟩ = false := froz_of_heap R2; have z3 : w3.frozen? ⟨w.heap.size + 1, 3, none⟩ = false := froz_of_heap R2; have z4 : w3.frozen? ⟨w.heap.size + 1, 4, none⟩ = false := froz_of_heap R2; have HR2 : Hid (w3.heap[w.heap.size + 1]? = some (.cells #[.int .i64 0, .int .i64 0, .slice none 0 0, .string ⟨#[]⟩, .int .i64 0] 36 (0, 0))) := R2; clear R2) | (go_at_call 24; refine (inS _ _ _ _).mono ?_; rintro e w9 ⟨rfl, h9⟩; have h8 := h9.symm; clear h9; subst h8))
  clear r0 r1 r2 r3 r4 z0 z1 z2 z3 z4 x0 x1 x2 x3 y0 y1 y2 y3 AS PS
  refine wp_mono (Q := Begun w w3 s4 args.length c4 fuel R mem) ?_ ?_
  · refine wp_region_held_drew (S := fun w' => Below w3.heap.size w3 w') (by kernel_rfl) ((Below.refl _ _).drew) (fun hHeld => ?_)
    refine wpAnyH_take (i := 0) (v := ?_) rfl (by kernel_rfl) (by kernel_rfl) (by kernel_rfl) (fun _ _ _ h => absurd h.1 (by intro e; cases e)) (Or.inl ⟨by rfl, ?_⟩) hHeld ?_
    rotate_left
    · intro w9 hS9
      have g0 := (bcell hS9 _ _ hx3).trans v0
      have g1 := (bcell hS9 _ _ hx3).trans v1
      have g2 := (bcell hS9 _ _ hx3).trans v2
      have g3 := (bcell hS9 _ _ hx3).trans v3
      go_simp
      try with_reducible rfl
    show wpAnyH _ _ _ _ _ _ _ (Act.put _ (some 34) _) _
    simp only [Act.put, List.setIfInBounds_toArray, List.set_cons_zero, List.set_cons_succ]
    refine wpAnyH_take (i := 1) (v := ?_) rfl (by kernel_rfl) (by kernel_rfl) (by kernel_rfl) (fun _ _ _ h => absurd h.1 (by intro e; cases e)) (Or.inl ⟨by rfl, ?_⟩) hHeld ?_
    rotate_left
    · intro w9 hS9
      go_simp
      try with_reducible rfl
    show wpAnyH _ _ _ _ _ _ _ (Act.put _ (some 35) _) _
    simp only [Act.put, List.setIfInBounds_toArray, List.set_cons_zero, List.set_cons_succ]
    refine wpAnyH_take (i := 2) (v := ?_) rfl (by kernel_rfl) (by kernel_rfl) (by kernel_rfl) (fun _ _ _ h => absurd h.1 (by intro e; cases e)) (Or.inl ⟨by rfl, ?_⟩) hHeld ?_
    rotate_left
    · intro w9 hS9
      have g0 := (bcell hS9 _ _ hx3).trans v0
      go_simp
      try with_reducible rfl
    show wpAnyH _ _ _ _ _ _ _ (Act.put _ (some 36) _) _
    simp only [Act.put, List.setIfInBounds_toArray, List.set_cons_zero, List.set_cons_succ]
    refine wpAnyH_take (i := 4) (v := ?_) rfl (by kernel_rfl) (by kernel_rfl) (by kernel_rfl) (fun _ _ _ h => absurd h.1 (by intro e; cases e)) (Or.inl ⟨by rfl, ?_⟩) hHeld ?_
    rotate_left
    · intro w9 hS9
      go_simp
      try with_reducible rfl
    show wpAnyH _ _ _ _ _ _ _ (Act.put _ (some 38) _) _
    simp only [Act.put, List.setIfInBounds_toArray, List.set_cons_zero, List.set_cons_succ]
    have hR2 : R ≤ 130 := by have := HPP.out.r2; have := hR.out; omega
    rw [hR.out]
    have m1 := makeR R w3.drew hR2
    have m2 := convM mem w3.drew
    refine wpAnyH_ready (rs := [3, 5]) (by kernel_rfl) (by simp) ?_
    refine AllReadyH.cons rfl (fun K hK => ?_) (AllReadyH.cons rfl (fun K hK => ?_) AllReadyH.nil)
    · go_simp
      have bA : Below w3.heap.size w3 (w3.alloc (Obj.cells (madeCells #[Value.int .i64 0] R) 2)).drew := ((Below.refl _ _).alloc (Nat.le_refl _) _).drew
      have gA : (w3.alloc (Obj.cells (madeCells #[Value.int .i64 0] R) 2)).drew.heap[w3.heap.size]? = some (.cells (madeCells #[Value.int .i64 0] R) 2 (0, 0)) := heap_alloc_at _ _
      have sA : (w3.alloc (Obj.cells (madeCells #[Value.int .i64 0] R) 2)).drew.heap.size = w3.heap.size + 1 := by simp
      refine hK.out _ _ ?_ (fun hHeld2 => ?_)
      · exact bA
      clear hK K hHeld hHeld2 m1 m2
      generalize (w3.alloc (Obj.cells (madeCells #[Value.int .i64 0] R) 2)).drew = WA at bA gA sA ⊢
      have m2 := convM mem WA
      refine wpAnyH_ready (rs := [5]) (by kernel_rfl) (by simp) ?_
      refine AllReadyH.cons rfl (fun K hK => ?_) AllReadyH.nil
      rw [if_pos (by rfl)]
      go_simp
      have bB := bytes_below WA 5 mem
      have gB := Lib.bytesWorld_at_new WA 5 mem
      have sB := Lib.bytesWorld_size WA 5 mem
      have cB := bytes_cells WA mem hm
      have gA2 := row_below gA bB
      have bB2 := bA.trans (bB.mono bA.size)
      refine hK.out _ _ ?_ (fun hHeld => ?_)
      · exact bB2
      clear hK K m2 gA bA bB
      generalize Lib.bytesWorld WA 5 mem = WB at gB sB gA2 bB2 hHeld ⊢
      generalize Lib.bytesCells WA 5 mem = cy at gB cB
      generalize grownCap WA 32 0 5 = q
      refine wpAnyH_take (i := 6) (v := ?_) rfl (by kernel_rfl) (by kernel_rfl) (by kernel_rfl) (fun _ _ _ h => absurd h.1 (by intro e; cases e)) (Or.inl ⟨by rfl, ?_⟩) hHeld ?_
      rotate_left
      · intro w9 hS9
        go_simp
        try with_reducible rfl
      show wpAnyH _ _ _ _ _ _ _ (Act.put _ (some 40) _) _
      simp only [Act.put, List.setIfInBounds_toArray, List.set_cons_zero, List.set_cons_succ]
      refine wpAnyH_ready (rs := [7]) (by kernel_rfl) (by simp) ?_
      refine AllReadyH.cons rfl (fun K hK => ?_) AllReadyH.nil
      go_simp
      refine hK.out _ _ ?_ (fun hHeld2 => ?_)
      · exact bB2.alloc bB2.size _
      clear hK K hHeld
      have hHeld := hHeld2
      clear hHeld2
      refine wpAnyH_take (i := 8) (v := ?_) rfl (by kernel_rfl) (by kernel_rfl) (by kernel_rfl) (fun _ _ _ h => absurd h.1 (by intro e; cases e)) (Or.inl ⟨by rfl, ?_⟩) hHeld ?_
      rotate_left
      · intro w9 hS9
        go_simp
        try with_reducible rfl
      show wpAnyH _ _ _ _ _ _ _ (Act.put _ (some 9) _) _
      simp only [Act.put, List.setIfInBounds_toArray, List.set_cons_zero, List.set_cons_succ]
      refine wpAnyH_done (by kernel_rfl) ?_ _
      rw [sA] at gB
      exact ⟨rfl, w3.heap.size + 1 + 1, w3.heap.size, w3.heap.size + 1, q, ⟨rfl, rfl, rfl, rfl, rfl, rfl, rfl⟩, by omega, by omega, by omega, made_x (heap_new_at (by omega) _) ((Below.heap_alloc _ _ _ (by omega)).trans gA2) ((Below.heap_alloc _ _ _ (by omega)).trans gB) cB.1 cB.1 cB.2 (by omega) (by omega) (by omega), hHeld⟩
    · go_simp
      have bA : Below w3.heap.size w3 (Lib.bytesWorld w3.drew 5 mem) := (drew_below (Below.refl _ _)).trans (bytes_below w3.drew 5 mem)
      have gA : (Lib.bytesWorld w3.drew 5 mem).heap[w3.heap.size]? = _ := Lib.bytesWorld_at_new w3.drew 5 mem
      have sA : (Lib.bytesWorld w3.drew 5 mem).heap.size = w3.heap.size + 1 := Lib.bytesWorld_size w3.drew 5 mem
      have cB := bytes_cells w3.drew mem hm
      refine hK.out _ _ ?_ (fun hHeld2 => ?_)
      · exact bA
      clear hK K hHeld hHeld2 m1 m2
      generalize Lib.bytesWorld w3.drew 5 mem = WA at bA gA sA ⊢
      generalize Lib.bytesCells w3.drew 5 mem = cy at gA cB
      generalize grownCap w3.drew 32 0 5 = q
      have m1 := makeR R WA hR2
      refine wpAnyH_ready (rs := [3]) (by kernel_rfl) (by simp) ?_
      refine AllReadyH.cons rfl (fun K hK => ?_) AllReadyH.nil
      rw [if_pos (by rfl)]
      go_simp
      have bB : Below WA.heap.size WA (WA.alloc (Obj.cells (madeCells #[Value.int .i64 0] R) 2)) := (Below.refl _ _).alloc (Nat.le_refl _) _
      have gB : (WA.alloc (Obj.cells (madeCells #[Value.int .i64 0] R) 2)).heap[WA.heap.size]? = some (.cells (madeCells #[Value.int .i64 0] R) 2 (0, 0)) := heap_alloc_at _ _
      have sB : (WA.alloc (Obj.cells (madeCells #[Value.int .i64 0] R) 2)).heap.size = WA.heap.size + 1 := by simp
      have gA2 := row_below gA bB
      have bB2 := bA.trans (bB.mono bA.size)
      refine hK.out _ _ ?_ (fun hHeld => ?_)
      · exact bB2
      clear hK K m1 gA bA bB
      generalize WA.alloc (Obj.cells (madeCells #[Value.int .i64 0] R) 2) = WB at gB sB gA2 bB2 hHeld ⊢
      refine wpAnyH_take (i := 6) (v := ?_) rfl (by kernel_rfl) (by kernel_rfl) (by kernel_rfl) (fun _ _ _ h => absurd h.1 (by intro e; cases e)) (Or.inl ⟨by rfl, ?_⟩) hHeld ?_
      rotate_left
      · intro w9 hS9
        go_simp
        try with_reducible rfl
      show wpAnyH _ _ _ _ _ _ _ (Act.put _ (some 40) _) _
      simp only [Act.put, List.setIfInBounds_toArray, List.set_cons_zero, List.set_cons_succ]
      refine wpAnyH_ready (rs := [7]) (by kernel_rfl) (by simp) ?_
      refine AllReadyH.cons rfl (fun K hK => ?_) AllReadyH.nil
      go_simp
      refine hK.out _ _ ?_ (fun hHeld2 => ?_)
      · exact bB2.alloc bB2.size _
      clear hK K hHeld
      have hHeld := hHeld2
      clear hHeld2
      refine wpAnyH_take (i := 8) (v := ?_) rfl (by kernel_rfl) (by kernel_rfl) (by kernel_rfl) (fun _ _ _ h => absurd h.1 (by intro e; cases e)) (Or.inl ⟨by rfl, ?_⟩) hHeld ?_
      rotate_left
      · intro w9 hS9
        go_simp
        try with_reducible rfl
      show wpAnyH _ _ _ _ _ _ _ (Act.put _ (some 9) _) _
      simp only [Act.put, List.setIfInBounds_toArray, List.set_cons_zero, List.set_cons_succ]
      refine wpAnyH_done (by kernel_rfl) ?_ _
      rw [sA] at gB
      exact ⟨rfl, w3.heap.size + 1 + 1, w3.heap.size + 1, w3.heap.size, q, ⟨rfl, rfl, rfl, rfl, rfl, rfl, rfl⟩, by omega, by omega, by omega, made_x (heap_new_at (by omega) _) ((Below.heap_alloc _ _ _ (by omega)).trans gB) ((Below.heap_alloc _ _ _ (by omega)).trans gA2) cB.1 cB.1 cB.2 (by omega) (by omega) (by omega), hHeld⟩
  · rintro e a' W ⟨rfl, X, G, Y, q, fr, hXw, hGw, hYw, hAt, hBW⟩
    obtain ⟨t, df⟩ := a'
    dsimp only at fr
    obtain ⟨rfl, fz, t1, t3, t4, t8, t9⟩ := fr
    obtain ⟨f, rfl⟩ := frame103_f t fz
    clear fz
    change f 1 = _ at t1
    change f 3 = _ at t3
    change f 4 = _ at t4
    change f 8 = _ at t8
    change f 9 = _ at t9
    rw [t1, t3, t4, t8, t9]
    clear t1 t3 t4 t8 t9
    have h3s := hb3.size
    have h2s := hb2.size
    have X5 : BoxP W w.heap.size p s1 c1 s2 c2 s3 c3 := (BoxP.below ⟨hx3, v0, v1, v2, v3⟩ hBW)
    have R5 := row_below HR2.out hBW
    have BW := B3.trans (hBW.mono B3.size)
    have HBW : Hid (Below w.heap.size w W) := BW
    have HX5 : Hid (BoxP W w.heap.size p s1 c1 s2 c2 s3 c3) := X5
    have HR5 : Hid (W.heap[w.heap.size + 1]? = some (.cells #[.int .i64 0, .int .i64 0, .slice none 0 0, .string ⟨#[]⟩, .int .i64 0] 36 (0, 0))) := R5
    have HN : Hid (w.heap.size + 2 ≤ X ∧ w.heap.size + 2 ≤ G ∧ w.heap.size + 2 ≤ Y ∧ w.heap.size + 2 ≤ W.heap.size) := by show _ ∧ _; have := hBW.size; omega
    have hal := vals_get hv
    have HVV : Hid (args.length = p.params.length) := by show _ = _; have := HPP.out.wid; omega
    have GS := start_good (mem := mem) HPP.out hv
    have HGS : Hid (Good (startM p args mem)) := GS
    have g1 := k1.1
    have g4 := k4.1
    have hal4 : args.length ≤ 4 := by have := HPP.out.p4; have := HVV.out; omega
    clear hv hal GS X5 R5 BW hBW hXw hGw hYw h3s h2s hb3 hb2 B3 B2 B1 hx3 v0 v1 v2 v3 HR2 XX2 RR2 X1 R1 hz1 k2
    go_wp2_with fail
    go_loopw [10] (fun i wr => ∃ k : Nat, k ≤ args.length ∧ i = .int .i64 k ∧ Hid (XAt wr X G Y W.heap.size R q ⟨memF mem, [], 0, regsK p.params args k, 0⟩ 0 0 false) ∧ Hid (Keep3 X G Y W.heap.size W wr)) (fun i _ => args.length - (intOf i).toNat)
    case atStart => exact ⟨0, by omega, rfl, hAt, Keep3.refl _ _ _ _ _⟩
    case round =>
      obtain ⟨k, hk, rfl, HA, HK⟩ := hrel
      obtain ⟨wq, hwq⟩ : ∃ wq, wq = wr := ⟨_, rfl⟩
      subst hwq
      clear hAt
      by_cases hka : k < args.length
      · have hkl : k < p.params.length := by have := HVV.out; omega
        rcases k1.2 with hn | ⟨b1, o1, rfl, _, hb1, hc1⟩
        · simp [hn] at hkl
        rcases k4.2 with hn | ⟨b4, o4, rfl, _, hb4, hc4⟩
        · simp [hn] at hka
        have hN := HN.out
        have hq0 : wq.heap[w.heap.size]? = W.heap[w.heap.size]? := HK.out.block _ (by omega) (by omega) (by omega) (by omega)
        have hq1 : wq.heap[b1]? = w.heap[b1]? := (HK.out.block b1 (by omega) (by omega) (by omega) (by omega)).trans (HBW.out.block b1 hb1)
        have hq4 : wq.heap[b4]? = w.heap[b4]? := (HK.out.block b4 (by omega) (by omega) (by omega) (by omega)).trans (HBW.out.block b4 hb4)
        have y1 := (cell_block hq0).trans HX5.out.2.2.1
        have e1 := (cell_block hq1).trans (hc1 k hkl)
        have e4 := (cell_block hq4).trans (hc4 k hka)
        obtain ⟨q0, q1⟩ := HPP.out.par k hkl
        obtain ⟨pk, hpk⟩ := Int.eq_ofNat_of_zero_le q0
        have hpk2 : pk < R := by have := hR.out; omega
        have hpk3 : (pk : Int) < R := by omega
        have HU : Hid (regsK p.params args (k + 1) = upF (regsK p.params args k) pk (args.getD k 0)) := by
          show upF _ _ _ = _
          rw [hpk]; rfl
        rw [hpk] at e1
        generalize args.getD k 0 = av at e4 HU
        have x4 := HA.out.cell4
        have rp := HA.out.reg pk hpk2
        have fp := HA.out.frozG pk
        have hka2 : (k : Int) < args.length := by omega
        have hkl2 : (k : Int) < p.params.length := by omega
        clear hc1 hc4 hpk q0 q1 k1 k4 hq0 hq1 hq4 hN
        go_wp2_with fail
        go_region
        go_wp2_with fail
        go_roundw
        case rel => exact ⟨k + 1, by omega, by go_num, by show XAt _ _ _ _ _ _ _ _ _ _ _; rw [HU.out]; exact (HA.out.below (drew_below (Below.refl _ _))).setReg pk av hpk2, (HK.out.trans (Keep3.of_below (drew_below (Below.refl _ _)) HA.out.b)).set G pk _ (.inr (.inl rfl))⟩
        case measure => simp [intOf]; omega
      · have hke : k = p.params.length := by have := HVV.out; omega
        have hka2 : ¬ (k : Int) < args.length := by omega
        have HA2 : Hid (XAt wq X G Y W.heap.size R q (startM p args mem) 0 0 false) := by rw [hke] at HA; exact HA
        clear HA hka hke hk k1 k4
        go_wp2_with fail
        have HB3 : Hid (Good (startM p args mem)) := HGS.out
        have R0 : RunX p.code fuel (startM p args mem) (startM p args mem) 0 0 false := ⟨fun _ => ⟨rfl, rfl, HGS.out, by show (0 : Int) ≤ 0; omega, by show (0 : Int) < _; have := HPP.out.c1; omega, by show (0 : Int) ≤ fuel; omega, by rw [show fuel - (startM p args mem).steps = fuel by show fuel - 0 = fuel; omega]⟩, fun h => by cases h⟩
        have HC : Hid (∃ cb off, s3 = some ⟨cb, off, none⟩ ∧ cb < w.heap.size ∧ ∀ i, i < p.code.length → w.cell? ⟨cb, off + i * 7, none⟩ = some (.int .i64 (p.code.getD i mins0).op) ∧ w.cell? ⟨cb, off + i * 7 + 1, none⟩ = some (.int .i64 (p.code.getD i mins0).w) ∧ w.cell? ⟨cb, off + i * 7 + 2, none⟩ = some (.int .i64 (p.code.getD i mins0).d) ∧ w.cell? ⟨cb, off + i * 7 + 3, none⟩ = some (.int .i64 (p.code.getD i mins0).a) ∧ w.cell? ⟨cb, off + i * 7 + 4, none⟩ = some (.int .i64 (p.code.getD i mins0).b) ∧ w.cell? ⟨cb, off + i * 7 + 5, none⟩ = some (.int .i64 (p.code.getD i mins0).c) ∧ w.cell? ⟨cb, off + i * 7 + 6, none⟩ = some (.int .i64 (p.code.getD i mins0).imm)) := by
          rcases k3.2 with hn | ⟨cb, off, e, _, hcb, hc⟩
          · have := HPP.out.c1; rw [hn] at this; simp at this
          · exact ⟨cb, off, e, hcb, hc⟩
        have gc := k3.1
        have hc600 := HPP.out.c2
        clear k3
        go_loopw [11] (fun i wr => ∃ st vl cd dn, i = .int .i64 st.steps ∧ Hid (XAt wr X G Y W.heap.size R q st vl cd dn) ∧ Hid (Keep3 X G Y W.heap.size W wr) ∧ Hid (RunX p.code fuel (startM p args mem) st vl cd dn)) (fun i wr => if doneIn wr X then 0 else (fuel + 1 - intOf i).toNat + 1)
        case atStart => exact ⟨startM p args mem, 0, 0, false, rfl, HA2, HK, R0⟩
        case round =>
          obtain ⟨st, vl, cd, dn, rfl, HZ, HKZ, HR⟩ := hrel
          obtain ⟨wz, hwz⟩ : ∃ wz, wz = wr := ⟨_, rfl⟩
          subst hwz
          clear R0 HA2 HK HB3
          have c10 := HZ.out.cell10
          cases dn with
          | true =>
            have HRUN : Hid (runM p.code fuel.toNat (startM p args mem) = ⟨cd, vl, st⟩) := HR.out.2 rfl
            have GT := run_good HPP.out.r1 HPP.out.r2 HPP.out.ins HPP.out.last fuel.toNat (startM p args mem) HGS.out (by show (0 : Int) ≤ 0; omega) (by show (0 : Int) < _; have := HPP.out.c1; omega)
            rw [HRUN.out] at GT
            have hN := HN.out
            have c9 := HZ.out.cell9
            have c8 := HZ.out.cell8
            have c5 := HZ.out.cell5
            obtain ⟨u, cc, c6, hO⟩ := HZ.out.told
            have cv := conv_memX (w := wz.drew) (HZ.out.below (drew_below (Below.refl _ _))) GT.mem
            have R9 : wz.heap[w.heap.size + 1]? = some (.cells #[.int .i64 0, .int .i64 0, .slice none 0 0, .string ⟨#[]⟩, .int .i64 0] 36 (0, 0)) := (HKZ.out.block _ (by omega) (by omega) (by omega) (by omega)).trans HR5.out
            have r0 := (cell_of_heap (o := 0) R9).trans rfl
            have r1 := (cell_of_heap (o := 1) R9).trans rfl
            have r2 := (cell_of_heap (o := 2) R9).trans rfl
            have r3 := (cell_of_heap (o := 3) R9).trans rfl
            have r4 := (cell_of_heap (o := 4) R9).trans rfl
            have z0 : wz.frozen? ⟨w.heap.size + 1, 0, none⟩ = false := froz_of_heap R9
            have z1 : wz.frozen? ⟨w.heap.size + 1, 1, none⟩ = false := froz_of_heap R9
            have z2 : wz.frozen? ⟨w.heap.size + 1, 2, none⟩ = false := froz_of_heap R9
            have z3 : wz.frozen? ⟨w.heap.size + 1, 3, none⟩ = false := froz_of_heap R9
            have z4 : wz.frozen? ⟨w.heap.size + 1, 4, none⟩ = false := froz_of_heap R9
            have HR9 : Hid (wz.heap[w.heap.size + 1]? = some (.cells #[.int .i64 0, .int .i64 0, .slice none 0 0, .string ⟨#[]⟩, .int .i64 0] 36 (0, 0))) := R9
            have HO : Hid (wz.ownsRow W.heap.size 2 1 (.slice u st.out.length cc) st.out.length (st.out.map (Value.int .i64))) := hO
            have BZ : Hid (Below w.heap.size w wz) := HKZ.out.below HBW.out (by omega) (by omega) (by omega) (by omega)
            have HN2 : Hid (w.heap.size + 2 ≤ W.heap.size) := by show _ ≤ _; omega
            clear R9 hO hN GT
            go_wp2_with fail
            go_region
            go_wp2_with fail
            refine bodyPost_ret (v := .agg #[.int .i64 cd, .int .i64 vl, .slice u st.out.length cc, .string (memB st.mem), .int .i64 st.steps]) (results_cell_row Try.results13 _ _ (w.heap.size + 1) 36 _ (0, 0) _ rfl (five_set HR9.out _ _ _ _ _) Try.underlying36 rfl (by kernel_rfl)) rfl ⟨?_, (five_below BZ.out (by omega) _ _ _ _ _).drew⟩
            have EE : machR p args mem fuel = ⟨cd, vl, st.out, memB st.mem, st.steps⟩ := by rw [machR, if_pos E.out, HRUN.out]
            rw [EE]
            refine ⟨u, cc, rfl, ?_⟩
            refine own_final (B := W.heap.size) (by have := HN2.out; omega) HO.out (fun g hg hz => ?_)
            have := ownsRow_ge HO.out hg
            have := HN2.out
            refine (drew_at _ _).trans ?_
            repeat refine (Below.heap_setCell _ _ _ _ (by show g ≠ w.heap.size + 1; omega)).trans ?_
            rfl
          | false =>
            obtain ⟨rfl, rfl, hgood, pc0, pc1, st1, _⟩ := HR.out.1 rfl
            have st0 := hgood.steps
            by_cases hlt : st.steps < fuel
            · have hlt2 : ¬ fuel ≤ st.steps := by omega
              obtain ⟨kp, hkp⟩ := Int.eq_ofNat_of_zero_le pc0
              have hkc : kp < p.code.length := by omega
              have hkc2 : (kp : Int) < p.code.length := by omega
              obtain ⟨cb, off, hs3, hcb, hc⟩ := HC.out
              subst hs3
              have hN := HN.out
              have hq0 : wz.heap[w.heap.size]? = W.heap[w.heap.size]? := HKZ.out.block _ (by omega) (by omega) (by omega) (by omega)
              have hqc : wz.heap[cb]? = w.heap[cb]? := (HKZ.out.block cb (by omega) (by omega) (by omega) (by omega)).trans (HBW.out.block cb hcb)
              have y3 := (cell_block hq0).trans HX5.out.2.2.2.2
              obtain ⟨a0, a1, a2, a3, a4, a5, a6⟩ := hc kp hkc
              have e0 := (cell_block hqc).trans a0
              have e1 := (cell_block hqc).trans a1
              have e2 := (cell_block hqc).trans a2
              have e3 := (cell_block hqc).trans a3
              have e4 := (cell_block hqc).trans a4
              have e5 := (cell_block hqc).trans a5
              have e6 := (cell_block hqc).trans a6
              have c7 := HZ.out.cell7
              have NX := HR.out.next HPP.out.r1 HPP.out.r2 HPP.out.ins HPP.out.last hlt
              have hmi := HPP.out.ins kp hkc
              rw [hR.out] at hmi
              rw [show st.pc.toNat = kp by omega] at NX
              generalize p.code.getD kp mins0 = i at e0 e1 e2 e3 e4 e5 e6 hmi NX
              have ST := fun (wx : World) (A : XAt wx X G Y W.heap.size R q st 0 0 false) => stepA X G Y W.heap.size R q i p.code.length st wx A hgood (by have := HPP.out.r1; have := hR.out; omega) (by have := HPP.out.r2; have := hR.out; omega) hmi pc0 (by omega)
              have HNX : Hid _ := NX
              have HST : Hid (st.steps < fuel ∧ 0 ≤ st.steps) := ⟨hlt, st0⟩
              rw [hkp] at c7
              clear a0 a1 a2 a3 a4 a5 a6 hc hqc hq0 hN NX hmi hgood hkp pc0 pc1 HC
              go_wp2_with fail
              go_region_with (go_at_call 38; refine (ST _ (HZ.out.below (drew_below (Below.refl _ _)))).mono ?_; rintro e w4 ⟨⟨v4, rfl⟩, A4, K4⟩)
              all_goals
                go_wp2_with fail

                go_roundw
                case rel => exact ⟨(nxt i st).st, (nxt i st).value, (nxt i st).code, (nxt i st).done, by rw [nxt_steps], A4, HKZ.out.trans ((Keep3.of_below (drew_below (Below.refl _ _)) HZ.out.b).trans K4), HNX.out⟩
                case measure =>
                  have := HST.out
                  rw [done_of HZ.out, done_of A4]
                  simp [intOf]
                  split <;> omega
            · have hlt2 : fuel ≤ st.steps := by omega
              have HRUN : Hid (runM p.code fuel.toNat (startM p args mem) = ⟨4, 0, st⟩) := HR.out.over hlt
              have GT := run_good HPP.out.r1 HPP.out.r2 HPP.out.ins HPP.out.last fuel.toNat (startM p args mem) HGS.out (by show (0 : Int) ≤ 0; omega) (by show (0 : Int) < _; have := HPP.out.c1; omega)
              rw [HRUN.out] at GT
              clear hlt
              go_wp2_with (go_at_call 37; refine (failS _ X G Y W.heap.size R q _ _ _ _ _ HZ.out).mono ?_; rintro e w4 ⟨⟨v4, rfl⟩, A4, K4⟩)
              have KK := HKZ.out.trans K4
              have hN := HN.out
              have c9 := A4.cell9
              have c8 := A4.cell8
              have c5 := A4.cell5
              obtain ⟨u, cc, c6, hO⟩ := A4.told
              have cv := conv_memX (w := w4.drew) (A4.below (drew_below (Below.refl _ _))) GT.mem
              have R9 : w4.heap[w.heap.size + 1]? = some (.cells #[.int .i64 0, .int .i64 0, .slice none 0 0, .string ⟨#[]⟩, .int .i64 0] 36 (0, 0)) := (KK.block _ (by omega) (by omega) (by omega) (by omega)).trans HR5.out
              have r0 := (cell_of_heap (o := 0) R9).trans rfl
              have r1 := (cell_of_heap (o := 1) R9).trans rfl
              have r2 := (cell_of_heap (o := 2) R9).trans rfl
              have r3 := (cell_of_heap (o := 3) R9).trans rfl
              have r4 := (cell_of_heap (o := 4) R9).trans rfl
              have z0 : w4.frozen? ⟨w.heap.size + 1, 0, none⟩ = false := froz_of_heap R9
              have z1 : w4.frozen? ⟨w.heap.size + 1, 1, none⟩ = false := froz_of_heap R9
              have z2 : w4.frozen? ⟨w.heap.size + 1, 2, none⟩ = false := froz_of_heap R9
              have z3 : w4.frozen? ⟨w.heap.size + 1, 3, none⟩ = false := froz_of_heap R9
              have z4 : w4.frozen? ⟨w.heap.size + 1, 4, none⟩ = false := froz_of_heap R9
              have HR9 : Hid (w4.heap[w.heap.size + 1]? = some (.cells #[.int .i64 0, .int .i64 0, .slice none 0 0, .string ⟨#[]⟩, .int .i64 0] 36 (0, 0))) := R9
              have HO : Hid (w4.ownsRow W.heap.size 2 1 (.slice u st.out.length cc) st.out.length (st.out.map (Value.int .i64))) := hO
              have BZ : Hid (Below w.heap.size w w4) := KK.below HBW.out (by omega) (by omega) (by omega) (by omega)
              have HN2 : Hid (w.heap.size + 2 ≤ W.heap.size) := by show _ ≤ _; omega
              clear R9 hO hN GT
              go_region
              go_wp2_with fail
              refine bodyPost_ret (v := .agg #[.int .i64 4, .int .i64 0, .slice u st.out.length cc, .string (memB st.mem), .int .i64 st.steps]) (results_cell_row Try.results13 _ _ (w.heap.size + 1) 36 _ (0, 0) _ rfl (five_set HR9.out _ _ _ _ _) Try.underlying36 rfl (by kernel_rfl)) rfl ⟨?_, (five_below BZ.out (by omega) _ _ _ _ _).drew⟩
              have EE : machR p args mem fuel = ⟨4, 0, st.out, memB st.mem, st.steps⟩ := by rw [machR, if_pos E.out, HRUN.out]
              rw [EE]
              refine ⟨u, cc, rfl, ?_⟩
              refine own_final (B := W.heap.size) (by have := HN2.out; omega) HO.out (fun g hg hz => ?_)
              have := ownsRow_ge HO.out hg
              have := HN2.out
              refine (drew_at _ _).trans ?_
              repeat refine (Below.heap_setCell _ _ _ _ (by show g ≠ w.heap.size + 1; omega)).trans ?_
              rfl
end Go.Proofs.Ytofgfiakccjimaa
namespace Go.Proofs.Ytofgfiakccjimaa
open Go.RowKit
set_option linter.unusedVariables false
set_option linter.unusedSimpArgs false

theorem machS (lo : Nat) (p : ProgD) (s1 : Option Addr) (c1 : Nat) (s2 : Option Addr) (c2 : Nat) (s3 : Option Addr) (c3 : Nat) (s4 : Option Addr) (c4 : Nat) (args : List Int) (mem : ByteArray) (fuel : Int) (w : World) (k1 : IntsAt w lo s1 p.params) (k2 : IntsAt w lo s2 p.widths) (k3 : MinsAt w lo s3 p.code) (k4 : IntsAt w lo s4 args) (hmsz : mem.size ≤ 1048576) :
    Calls Try.prog 13 #[.agg #[.int .i64 p.regs, .slice s1 p.params.length c1, .slice s2 p.widths.length c2, .slice s3 p.code.length c3], .slice s4 args.length c4, .string mem, .int .i64 fuel] w fun e w' => (∃ u q, e = .returned (resA (machR p args mem fuel) u q) ∧ w'.ownsRow w.heap.size 2 1 (.slice u (machR p args mem fuel).out.length q) (machR p args mem fuel).out.length ((machR p args mem fuel).out.map (Value.int .i64))) ∧ Below w.heap.size w w' := by
  by_cases hp : progB p = true
  · by_cases hv : valsB p.widths args = true
    · by_cases hm : mem.size = 32
      · cases hf : (decide (0 ≤ fuel) && decide (fuel ≤ 20000)) with
        | false => exact machS_f lo p s1 c1 s2 c2 s3 c3 s4 c4 args mem fuel w k1 k2 k3 k4 hmsz hp hv hm hf
        | true =>
          simp at hf
          exact machS_x lo p s1 c1 s2 c2 s3 c3 s4 c4 args mem fuel w k1 k2 k3 k4 hmsz hp hv hm hf.1 hf.2
      · exact machS_m lo p s1 c1 s2 c2 s3 c3 s4 c4 args mem fuel w k1 k2 k3 k4 hmsz hp hv hm
    · exact machS_v lo p s1 c1 s2 c2 s3 c3 s4 c4 args mem fuel w k1 k2 k3 k4 hmsz hp (by simpa using hv)
  · exact machS_p lo p s1 c1 s2 c2 s3 c3 s4 c4 args mem fuel w k1 k2 k3 k4 hmsz (by simpa using hp)
end Go.Proofs.Ytofgfiakccjimaa
namespace Go.Proofs.Ytofgfiakccjimaa
open Go.RowKit
set_option linter.unusedVariables false


def OI (w : World) (lo : Nat) (a : Option Addr) (l : List Int) : Prop :=
  l.length ≤ 9223372036854775807 ∧ (l = [] ∨ ∃ g cur, a = some ⟨g, 0, none⟩ ∧ lo ≤ g ∧ w.heap[g]? = some (.cells cur 2 (0, 0)) ∧ ∀ i, i < l.length → cur[i]? = some (.int .i64 (l.getD i 0)))
theorem OI.keep {w w' : World} {lo : Nat} {a : Option Addr} {l : List Int} (h : OI w lo a l) (k : Agree lo w w') : OI w' lo a l := by
  obtain ⟨hm, h⟩ := h
  refine ⟨hm, ?_⟩
  rcases h with h | ⟨g, cur, ha, hl, hb, hc⟩
  · exact .inl h
  · exact .inr ⟨g, cur, ha, hl, (k.2 g hl (Array.getElem?_eq_some_iff.1 hb).1).trans hb, hc⟩
theorem OI.low {w : World} {lo lo' : Nat} {a : Option Addr} {l : List Int} (h : OI w lo a l) (k : lo' ≤ lo) : OI w lo' a l := by
  obtain ⟨hm, h⟩ := h
  refine ⟨hm, ?_⟩
  rcases h with h | ⟨g, cur, ha, hl, hb, hc⟩
  · exact .inl h
  · exact .inr ⟨g, cur, ha, Nat.le_trans k hl, hb, hc⟩
theorem OI.at {w : World} {lo : Nat} {a : Option Addr} {l : List Int} (h : OI w lo a l) : IntsAt w lo a l := by
  obtain ⟨hm, h⟩ := h
  refine ⟨hm, ?_⟩
  rcases h with h | ⟨g, cur, ha, hl, hb, hc⟩
  · exact .inl h
  · exact .inr ⟨g, 0, ha, hl, (Array.getElem?_eq_some_iff.1 hb).1, fun i hi => (cell_of_heap hb).trans (by simpa using hc i hi)⟩
set_option maxHeartbeats 1000000 in
theorem toInts_own (lo : Nat) (a : Option Addr) (cap : Nat) (l : List Int) (w : World) (hl : l.length ≤ 1048576) (hv : IntsAt w lo a l) :
    Calls Try.prog 14 #[.slice a l.length cap] w fun e w' => ∃ u c, e = .returned (.slice u l.length c) ∧ OI w' w.heap.size u l ∧ Below w.heap.size w w' := by
  obtain ⟨i0, hi, hz0, hz1, hz2⟩ := info_parts infoI
  have hmk := mk_any (t := 22) l.length Try.underlying22 hi hz0 hz1 hz2 (by omega) hl
  clear hi hz0 hz1 hz2
  have hm := hv.1
  go_enter Try.func14, Try.ntmps14
  go_wp2_with fail
  go_loopw [4] (fun i wr => ∃ (k : Nat) (cur : Array Value), k ≤ l.length ∧ i = .int .i64 k ∧ cur.size = l.length ∧ wr.heap[w.heap.size]? = some (.cells cur 2 (0, 0)) ∧ (∀ j, j < k → cur[j]? = some (.int .i64 (l.getD j 0))) ∧ Below w.heap.size w wr) (fun i _ => l.length - (intOf i).toNat)
  case atStart => exact ⟨0, _, by omega, rfl, by simp [size_madeCells], heap_alloc_at _ _, fun j hj => by omega, (Below.refl _ _).alloc (Nat.le_refl _) _⟩
  case round =>
    obtain ⟨k, cur, hk, rfl, hcs, hblk, hdone, hB⟩ := hrel
    by_cases hlt : k < l.length
    · rcases hv.2 with rfl | ⟨b, off, rfl, hlo, hb, hcell⟩
      · simp at hlt
      have e0 : wr.cell? ⟨b, off + k, none⟩ = some (.int .i64 (l.getD k 0)) := (cell_block (hB.block b hb)).trans (hcell k hlt)
      have e1 : wr.cell? ⟨w.heap.size, k, none⟩ = some (cur[k]'(by omega)) := by rw [cell_of_heap hblk]; simp [hcs, hlt]
      have e2 : wr.frozen? ⟨w.heap.size, k, none⟩ = false := froz_of_heap hblk
      have hdone2 : ∀ j, j < k + 1 → (cur.setIfInBounds k (.int .i64 (l.getD k 0)))[j]? = some (.int .i64 (l.getD j 0)) := fun j hj => by
        by_cases hjk : j = k
        · subst hjk; simp [hcs, hlt]
        · rw [Array.getElem?_setIfInBounds_ne (by omega)]; exact hdone j (by omega)
      have HD : Hid (∀ j, j < k + 1 → (cur.setIfInBounds k (.int .i64 (l.getD k 0)))[j]? = some (.int .i64 (l.getD j 0))) := hdone2
      have HH : Hid ((wr.setCell ⟨w.heap.size, k, none⟩ (.int .i64 (l.getD k 0))).heap[w.heap.size]? = some (.cells (cur.setIfInBounds k (.int .i64 (l.getD k 0))) 2 (0, 0))) := heap_set hblk
      generalize l.getD k 0 = d at e0 HD HH
      clear hmk hdone hdone2 hblk
      go_wp2_with fail
      go_roundw
      case rel => exact ⟨k + 1, _, by omega, by go_num, by simpa using hcs, HH.out, HD.out, hB.setCell (Nat.le_refl _) _⟩
      case measure => simp [intOf]; omega
    · have hke : k = l.length := by omega
      have HH : Hid (wr.heap[w.heap.size]? = some (.cells cur 2 (0, 0))) := hblk
      clear hmk hblk
      go_wp2_with fail
      go_ret
      refine ⟨_, _, rfl, ⟨hm, .inr ⟨w.heap.size, cur, rfl, Nat.le_refl _, HH.out, fun i hi => ?_⟩⟩, hB⟩
      · exact hdone i (by omega)



def isI : Value → Bool | .int .i64 _ => true | _ => false
theorem isI_yes {v : Value} (h : isI v = true) : ∃ z, v = .int .i64 z := by
  unfold isI at h
  split at h
  · exact ⟨_, rfl⟩
  · cases h
/-- Where a cell held a number it holds one, else what it held. -/
def Cur (cur cur' : Array Value) : Prop := ∀ (j : Nat) (v : Value), cur[j]? = some v → ∃ v', cur'[j]? = some v' ∧ (isI v = true → isI v' = true) ∧ (isI v = false → v' = v)
theorem Cur.int {cur cur' : Array Value} (h : Cur cur cur') {j : Nat} {z : Int} (hj : cur[j]? = some (.int .i64 z)) : ∃ z : Int, cur'[j]? = some (.int .i64 z) := by
  obtain ⟨v', h1, h2, _⟩ := h j _ hj
  obtain ⟨y, rfl⟩ := isI_yes (h2 rfl)
  exact ⟨y, h1⟩
theorem Cur.slice {cur cur' : Array Value} (h : Cur cur cur') {j : Nat} {u : Option Addr} {n c : Nat} (hj : cur[j]? = some (.slice u n c)) : cur'[j]? = some (.slice u n c) := by
  obtain ⟨v', h1, _, h3⟩ := h j _ hj
  rw [h1, h3 rfl]
theorem Cur.refl (cur : Array Value) : Cur cur cur := fun _ v h => ⟨v, h, fun h => h, fun _ => rfl⟩
theorem Cur.trans {a b c : Array Value} (h : Cur a b) (k : Cur b c) : Cur a c := fun j v hv => by
  obtain ⟨v1, h1, h2, h3⟩ := h j v hv
  obtain ⟨v2, k1, k2, k3⟩ := k j v1 h1
  refine ⟨v2, k1, fun e => k2 (h2 e), fun e => ?_⟩
  have e1 := h3 e
  subst e1
  exact k3 e
theorem Cur.set {cur : Array Value} {o : Nat} {z : Int} (h : cur[o]? = some (.int .i64 z)) (y : Int) : Cur cur (cur.setIfInBounds o (.int .i64 y)) := fun j v hv => by
  by_cases e : o = j
  · subst e
    rw [h] at hv
    cases hv
    have hlt := (Array.getElem?_eq_some_iff.1 h).1
    exact ⟨.int .i64 y, by simp [hlt], fun _ => rfl, fun e => by cases e⟩
  · exact ⟨v, by rw [Array.getElem?_setIfInBounds_ne e]; exact hv, fun h => h, fun _ => rfl⟩
/-- Of the blocks from lo to hi only numbers were turned; no other block was touched. -/
structure Hdr (lo hi : Nat) (w w' : World) : Prop where
  os : w'.os = w.os
  tape : w'.tape = w.tape
  output : w'.output = w.output
  size : w.heap.size ≤ w'.heap.size
  out : ∀ g : Nat, g < lo ∨ hi ≤ g → g < w.heap.size → w'.heap[g]? = w.heap[g]?
  cells : ∀ (g : Nat) (cur : Array Value) (T : TypeId), w.heap[g]? = some (.cells cur T (0, 0)) → ∃ cur', w'.heap[g]? = some (.cells cur' T (0, 0)) ∧ Cur cur cur'
theorem Hdr.refl (lo hi : Nat) (w : World) : Hdr lo hi w w := ⟨rfl, rfl, rfl, Nat.le_refl _, fun _ _ _ => rfl, fun _ cur _ h => ⟨cur, h, Cur.refl _⟩⟩
theorem Hdr.trans {lo hi : Nat} {a b c : World} (h : Hdr lo hi a b) (k : Hdr lo hi b c) : Hdr lo hi a c :=
  ⟨k.os.trans h.os, k.tape.trans h.tape, k.output.trans h.output, Nat.le_trans h.size k.size, fun g hg hl => (k.out g hg (Nat.lt_of_lt_of_le hl h.size)).trans (h.out g hg hl), fun g cur T hc => by
    obtain ⟨c1, h1, h2⟩ := h.cells g cur T hc
    obtain ⟨c2, k1, k2⟩ := k.cells g c1 T h1
    exact ⟨c2, k1, h2.trans k2⟩⟩
theorem Hdr.alloc (lo hi : Nat) (w : World) (o : Obj) : Hdr lo hi w (w.alloc o) :=
  ⟨rfl, rfl, rfl, by simp, fun g _ hl => Below.heap_alloc w o g hl, fun g cur T hc => ⟨cur, (Below.heap_alloc w o g (Array.getElem?_eq_some_iff.1 hc).1).trans hc, Cur.refl _⟩⟩
theorem Hdr.store {lo hi : Nat} {w w1 : World} (h : Hdr lo hi w w1) {g o : Nat} {cur : Array Value} {T : TypeId} {z : Int} (hc : w.heap[g]? = some (.cells cur T (0, 0))) (ho : cur[o]? = some (.int .i64 z)) (hl : lo ≤ g) (hh : g < hi) (y : Int) :
    Hdr lo hi w (w1.setCell ⟨g, o, none⟩ (.int .i64 y)) := by
  refine h.trans ⟨rfl, rfl, rfl, by simp [World.setCell], fun k hk _ => Below.heap_setCell _ _ _ _ (by show k ≠ g; omega), fun k c1 T1 h1 => ?_⟩
  by_cases e : k = g
  · subst e
    obtain ⟨c2, h2, h3⟩ := h.cells k cur T hc
    rw [h2] at h1
    cases h1
    obtain ⟨z1, hz1⟩ := h3.int ho
    exact ⟨_, heap_set h2, Cur.set hz1 y⟩
  · exact ⟨c1, (Below.heap_setCell _ _ _ _ (by show k ≠ g; omega)).trans h1, Cur.refl _⟩
/-- What a store wants to know, behind other stores. -/
theorem Hdr.cell {lo hi : Nat} {w w1 : World} (h : Hdr lo hi w w1) {g o : Nat} {cur : Array Value} {T : TypeId} {z : Int} (hc : w.heap[g]? = some (.cells cur T (0, 0))) (ho : cur[o]? = some (.int .i64 z)) :
    (∃ y : Int, w1.cell? ⟨g, o, none⟩ = some (.int .i64 y)) ∧ w1.frozen? ⟨g, o, none⟩ = false := by
  obtain ⟨c2, h2, h3⟩ := h.cells g cur T hc
  obtain ⟨z1, hz1⟩ := h3.int ho
  exact ⟨⟨z1, (cell_of_heap h2).trans hz1⟩, froz_of_heap h2⟩
theorem Hdr.head {lo hi : Nat} {w w1 : World} (h : Hdr lo hi w w1) {g o : Nat} {cur : Array Value} {T : TypeId} {u : Option Addr} {n c : Nat} (hc : w.heap[g]? = some (.cells cur T (0, 0))) (ho : cur[o]? = some (.slice u n c)) :
    w1.cell? ⟨g, o, none⟩ = some (.slice u n c) := by
  obtain ⟨c2, h2, h3⟩ := h.cells g cur T hc
  exact (cell_of_heap h2).trans (h3.slice ho)
def SI (w : World) (lo hi : Nat) (a : Option Addr) (n : Nat) : Prop :=
  n = 0 ∨ ∃ g cur, a = some ⟨g, 0, none⟩ ∧ lo ≤ g ∧ g < hi ∧ w.heap[g]? = some (.cells cur 2 (0, 0)) ∧ ∀ i, i < n → ∃ z : Int, cur[i]? = some (.int .i64 z)
theorem SI.keep {w w' : World} {lo hi : Nat} {a : Option Addr} {n : Nat} (h : SI w lo hi a n) (k : Hdr lo hi w w') : SI w' lo hi a n := by
  rcases h with h | ⟨g, cur, ha, hl, hh, hb, hc⟩
  · exact .inl h
  · obtain ⟨cur', hb', hi⟩ := k.cells g cur _ hb
    exact .inr ⟨g, cur', ha, hl, hh, hb', fun i hi' => by obtain ⟨z, hz⟩ := hc i hi'; exact hi.int hz⟩
theorem OI.sh {w : World} {lo : Nat} {a : Option Addr} {l : List Int} (h : OI w lo a l) : SI w lo w.heap.size a l.length := by
  rcases h.2 with h | ⟨g, cur, ha, hl, hb, hc⟩
  · exact .inl (by simp [h])
  · exact .inr ⟨g, cur, ha, hl, (Array.getElem?_eq_some_iff.1 hb).1, hb, fun i hi' => ⟨_, hc i hi'⟩⟩


/-- Only one block was touched. -/
structure Only (g : Nat) (w w' : World) : Prop where
  os : w'.os = w.os
  tape : w'.tape = w.tape
  output : w'.output = w.output
  size : w'.heap.size = w.heap.size
  other : ∀ k : Nat, k ≠ g → w'.heap[k]? = w.heap[k]?
theorem Only.refl (g : Nat) (w : World) : Only g w w := ⟨rfl, rfl, rfl, rfl, fun _ _ => rfl⟩
theorem Only.set {g : Nat} {w w1 : World} (h : Only g w w1) (o : Nat) (v : Value) : Only g w (w1.setCell ⟨g, o, none⟩ v) :=
  ⟨h.os, h.tape, h.output, by simp [World.setCell]; exact h.size, fun k hk => (Below.heap_setCell _ _ _ _ hk).trans (h.other k hk)⟩
/-- The numbers from k on. -/
def marks (k : Int) (n : Nat) : List Int := (List.range n).map fun i : Nat => k + (i : Int)
theorem marks_len (k : Int) (n : Nat) : (marks k n).length = n := by simp [marks]
theorem marks_at (k : Int) {n i : Nat} (h : i < n) : (marks k n).getD i 0 = k + i := by simp [marks, List.getD, h]

set_option maxHeartbeats 1000000 in
theorem markVals (g c n : Nat) (k : Int) (cur : Array Value) (w : World) (hn : n ≤ 1048576) (hk0 : 0 ≤ k) (hk : k ≤ 4611686018427387904) (hb : w.heap[g]? = some (.cells cur 2 (0, 0))) (hc : ∀ i, i < n → ∃ z : Int, cur[i]? = some (.int .i64 z)) :
    Calls Try.prog 19 #[.slice (some ⟨g, 0, none⟩) n c, .int .i64 k] w fun e w' => e = .returned (.int .i64 (k + n)) ∧ Only g w w' ∧ ∃ cur', w'.heap[g]? = some (.cells cur' 2 (0, 0)) ∧ Cur cur cur' ∧ ∀ i, i < n → cur'[i]? = some (.int .i64 (k + i)) := by
  have HB : Hid (w.heap[g]? = some (.cells cur 2 (0, 0))) := hb
  have HC : Hid (∀ i, i < n → ∃ z : Int, cur[i]? = some (.int .i64 z)) := hc
  clear hb hc
  go_enter Try.func19, Try.ntmps19
  go_wp2_with fail
  go_loopw [1, 5] (fun q i wr => ∃ (j : Nat) (cj : Array Value), j ≤ n ∧ i = .int .i64 j ∧ q = .int .i64 (k + j) ∧ Hid (wr.heap[g]? = some (.cells cj 2 (0, 0))) ∧ Hid (Cur cur cj) ∧ Hid (∀ i, i < j → cj[i]? = some (.int .i64 (k + i))) ∧ Hid (Only g w wr)) (fun _ i _ => n - (intOf i).toNat)
  case atStart => exact ⟨0, cur, by omega, rfl, by simp, HB.out, Cur.refl _, fun i hi => by omega, Only.refl _ _⟩
  case round =>
    obtain ⟨j, cj, hj, rfl, rfl, HJ, HCu, HD, HO⟩ := hrel
    by_cases hlt : j < n
    · obtain ⟨z, hz⟩ := HC.out j hlt
      obtain ⟨y, hy⟩ := HCu.out.int hz
      have e1 : wr.cell? ⟨g, j, none⟩ = some (.int .i64 y) := (cell_of_heap HJ.out).trans hy
      have e2 : wr.frozen? ⟨g, j, none⟩ = false := froz_of_heap HJ.out
      have HH : Hid ((wr.setCell ⟨g, j, none⟩ (.int .i64 (k + j))).heap[g]? = some (.cells (cj.setIfInBounds j (.int .i64 (k + j))) 2 (0, 0))) := heap_set HJ.out
      have HC2 : Hid (Cur cur (cj.setIfInBounds j (.int .i64 (k + j)))) := HCu.out.trans (Cur.set hy _)
      have HD2 : Hid (∀ i, i < j + 1 → (cj.setIfInBounds j (.int .i64 (k + j)))[i]? = some (.int .i64 (k + i))) := fun i hi => by
        by_cases e : i = j
        · subst e
          have hl := (Array.getElem?_eq_some_iff.1 hy).1
          simp [hl]
        · rw [Array.getElem?_setIfInBounds_ne (by omega)]; exact HD.out i (by omega)
      clear hz hy
      go_wp2_with fail
      go_roundw
      case rel => exact ⟨j + 1, _, by omega, by go_num, by refine congrArg (Value.int .i64) ?_; first | omega | (unfold wrap64; omega), HH.out, HC2.out, HD2.out, HO.out.set _ _⟩
      case measure => simp [intOf]; omega
    · have hke : j = n := by omega
      subst hke
      go_wp2_with fail
      go_ret
      exact ⟨rfl, HO.out, cj, HJ.out, HCu.out, HD.out⟩
set_option maxHeartbeats 1000000 in
theorem markZero (a : Option Addr) (c : Nat) (k : Int) (w : World) :
    Calls Try.prog 19 #[.slice a 0 c, .int .i64 k] w fun e w' => e = .returned (.int .i64 k) ∧ w' = w := by
  go_enter Try.func19, Try.ntmps19
  go_wp2_with fail
  go_loop [1, 5] (fun q i => q = .int .i64 k ∧ i = .int .i64 0) (fun _ _ => 0)
  case atStart => exact ⟨rfl, rfl⟩
  case round =>
    obtain ⟨rfl, rfl⟩ := hrel
    go_wp2_with fail
    go_ret
    exact ⟨rfl, rfl⟩
theorem only_hdr {g lo hi : Nat} {w w' : World} {cur cur' : Array Value} {T : TypeId} (h : Only g w w') (hb : w.heap[g]? = some (.cells cur T (0, 0))) (hb' : w'.heap[g]? = some (.cells cur' T (0, 0))) (hc : Cur cur cur') (hl : lo ≤ g) (hh : g < hi) : Hdr lo hi w w' :=
  ⟨h.os, h.tape, h.output, by rw [h.size]; exact Nat.le_refl _, fun k hk _ => h.other k (by omega), fun k c1 T1 h1 => by
    by_cases e : k = g
    · subst e
      rw [hb] at h1
      cases h1
      exact ⟨cur', hb', hc⟩
    · exact ⟨c1, (h.other k e).trans h1, Cur.refl _⟩⟩
theorem markInts (lo hi : Nat) (a : Option Addr) (c n : Nat) (k : Int) (w : World) (hn : n ≤ 1048576) (hk0 : 0 ≤ k) (hk : k ≤ 4611686018427387904) (hv : SI w lo hi a n) :
    Calls Try.prog 19 #[.slice a n c, .int .i64 k] w fun e w' => e = .returned (.int .i64 (k + n)) ∧ Hdr lo hi w w' := by
  rcases hv with rfl | ⟨g, cur, rfl, hl, hh, hb, hc⟩
  · refine (markZero a c k w).mono ?_
    rintro e w1 ⟨rfl, rfl⟩
    exact ⟨by simp, Hdr.refl _ _ _⟩
  · refine (markVals g c n k cur w hn hk0 hk hb hc).mono ?_
    rintro e w1 ⟨rfl, ho, cur', hb', hcu, _⟩
    exact ⟨rfl, only_hdr ho hb hb' hcu hl hh⟩
set_option maxHeartbeats 1000000 in
theorem heldInts (lo : Nat) (a : Option Addr) (c n : Nat) (k : Int) (w : World) (hn : n ≤ 1048576) (hk0 : 0 ≤ k) (hk : k ≤ 4611686018427387904) (hv : IntsAt w lo a (marks k n)) :
    Calls Try.prog 44 #[.slice a n c, .int .i64 k] w fun e w' => e = .returned (.int .i64 (k + n)) ∧ w' = w := by
  have HV : Hid (n = 0 ∨ ∃ b off, a = some ⟨b, off, none⟩ ∧ ∀ i, i < n → w.cell? ⟨b, off + i, none⟩ = some (.int .i64 (k + i))) := by
    rcases hv.2 with h | ⟨b, off, ha, _, _, hc⟩
    · exact .inl (by have := congrArg List.length h; simpa [marks_len] using this)
    · exact .inr ⟨b, off, ha, fun i hi => by rw [hc i (by rw [marks_len]; exact hi), marks_at k hi]⟩
  clear hv
  go_enter Try.func44, Try.ntmps44
  go_wp2_with fail
  go_loop [1, 5] (fun q i => ∃ j : Nat, j ≤ n ∧ i = .int .i64 j ∧ q = .int .i64 (k + j)) (fun _ i => n - (intOf i).toNat)
  case atStart => exact ⟨0, by omega, rfl, by simp⟩
  case round =>
    obtain ⟨j, hj, rfl, rfl⟩ := hrel
    by_cases hlt : j < n
    · rcases HV.out with h | ⟨b, off, rfl, hc⟩
      · omega
      have e1 := hc j hlt
      clear hc
      go_wp2_with fail
      exact ⟨⟨j + 1, by omega, by go_num, by refine congrArg (Value.int .i64) ?_; first | omega | (unfold wrap64; omega)⟩, by simp only [intOf]; omega⟩
    · have hke : j = n := by omega
      subst hke
      go_wp2_with fail
      go_ret
      exact ⟨rfl, rfl⟩



theorem below_hdr {B lo hi : Nat} {w a b : World} (h : Below B w a) (k : Hdr lo hi a b) (hB : B ≤ lo) (hz : B ≤ a.heap.size) : Below B w b :=
  ⟨k.os.trans h.os, k.tape.trans h.tape, k.output.trans h.output, Nat.le_trans h.size k.size, fun g hg => (k.out g (.inl (by omega)) (by omega)).trans (h.block g hg)⟩
theorem below_only {B g : Nat} {w a b : World} (h : Below B w a) (k : Only g a b) (hB : B ≤ g) : Below B w b :=
  ⟨k.os.trans h.os, k.tape.trans h.tape, k.output.trans h.output, by rw [k.size]; exact h.size, fun i hi => (k.other i (by omega)).trans (h.block i hi)⟩
theorem row_own {w : World} {base : Nat} {v : Value} {l : List Int} (hm : l.length ≤ 1048576) (h : w.ownsRow base 2 1 v l.length (l.map (Value.int .i64))) : ∃ u c, v = .slice u l.length c ∧ OI w base u l := by
  rcases h.2 with ⟨hv, hn⟩ | ⟨g, cap, cur, hv, hb, hg, hnc, _, hcs, htk⟩
  · exact ⟨none, 0, by rw [hv, hn], by omega, .inl (List.length_eq_zero_iff.1 hn)⟩
  · refine ⟨_, cap, hv, by omega, .inr ⟨g, cur, rfl, hb, hg, fun i hi => ?_⟩⟩
    have e : (cur.toList.take (l.length * 1))[i]? = (l.map (Value.int .i64))[i]? := by rw [htk]
    rw [List.getElem?_take, if_pos (by omega)] at e
    simp [hi] at e
    simpa [List.getD, hi] using e
theorem hdr_below {lo hi : Nat} {w w' : World} (h : Below w.heap.size w w') : Hdr lo hi w w' :=
  ⟨h.os, h.tape, h.output, h.size, fun g _ hg => h.block g hg, fun g cur _ hc => ⟨cur, (h.block g (Array.getElem?_eq_some_iff.1 hc).1).trans hc, Cur.refl _⟩⟩
theorem agree_hdr {lo' lo hi : Nat} {a b c : World} (h : Agree lo' a b) (k : Hdr lo hi b c) (hz : a.heap.size ≤ lo) : Agree lo' a c :=
  ⟨Nat.le_trans h.1 k.size, fun g hg hl => (k.out g (.inl (by omega)) (Nat.lt_of_lt_of_le hl h.1)).trans (h.2 g hg hl)⟩
theorem agree_only {lo' g : Nat} {a b c : World} (h : Agree lo' a b) (k : Only g b c) (hz : a.heap.size ≤ g) : Agree lo' a c :=
  ⟨by rw [k.size]; exact h.1, fun i hi hl => (k.other i (by omega)).trans (h.2 i hi hl)⟩
theorem agree_below {lo' : Nat} {a b c : World} (h : Agree lo' a b) (k : Below b.heap.size b c) : Agree lo' a c := h.trans (agree_of_below k _)
/-- What numbers written into a list of the call's own leave. -/
theorem mark_own (lo : Nat) (a : Option Addr) (c : Nat) (l : List Int) (w : World) (hl : l.length ≤ 1048576) (hv : OI w lo a l) :
    Calls Try.prog 19 #[.slice a l.length c, .int .i64 1] w fun e w' => e = .returned (.int .i64 (1 + l.length)) ∧ OI w' lo a (marks 1 l.length) ∧ ∃ g, lo ≤ g ∧ Only g w w' := by
  rcases hv.2 with h | ⟨g, cur, rfl, hlo, hb, hc⟩
  · subst h
    refine (markZero a c 1 w).mono ?_
    rintro e w1 ⟨rfl, rfl⟩
    exact ⟨by simp, ⟨by simp [marks], .inl (by simp [marks])⟩, lo, Nat.le_refl _, Only.refl _ _⟩
  · refine (markVals g c l.length 1 cur w hl (by omega) (by omega) hb (fun i hi => ⟨_, hc i hi⟩)).mono ?_
    rintro e w1 ⟨rfl, ho, cur', hb', _, hd⟩
    exact ⟨rfl, ⟨by rw [marks_len]; omega, .inr ⟨g, cur', rfl, hlo, hb', fun i hi => by rw [marks_len] at hi; rw [hd i hi, marks_at 1 hi]⟩⟩, g, hlo, ho⟩


end Go.Proofs.Ytofgfiakccjimaa
namespace Go.Proofs.Ytofgfiakccjimaa
open Go.RowKit
set_option linter.unusedVariables false

set_option maxHeartbeats 1000000 in
theorem toMIns_any (d : MInsD) (w : World) :
    Calls Try.prog 47 #[.agg #[.int .i64 d.op, .int .i64 d.w, .int .i64 d.d, .int .i64 d.a, .int .i64 d.b, .int .i64 d.c, .int .i64 d.imm]] w fun e w' => e = .returned (.agg #[.int .i64 d.op, .int .i64 d.w, .int .i64 d.d, .int .i64 d.a, .int .i64 d.b, .int .i64 d.c, .int .i64 d.imm]) ∧ Below w.heap.size w w' := by
  go_enter Try.func47, Try.ntmps47
  go_wp2_with fail
  refine bodyPost_ret (v := .agg #[.int .i64 d.op, .int .i64 d.w, .int .i64 d.d, .int .i64 d.a, .int .i64 d.b, .int .i64 d.c, .int .i64 d.imm]) (by simp [results, Try.results47, go_sem]) rfl ⟨rfl, ?_⟩
  exact (((Below.refl w.heap.size w).alloc (Nat.le_refl _) _).alloc (by first | (simp; done) | (simp; omega)) _).alloc (by first | (simp; done) | (simp; omega)) _
theorem infoMIns : (Try.prog.info? 50).map (fun i => (i.zero, i.size, i.bytes)) = some (some (.agg #[.int .i64 0, .int .i64 0, .int .i64 0, .int .i64 0, .int .i64 0, .int .i64 0, .int .i64 0]), 7, 56) := by kernel_rfl
set_option maxHeartbeats 2000000 in
theorem toMInsS_any (lo : Nat) (a : Option Addr) (cap : Nat) (l : List MInsD) (w : World) (hl : l.length ≤ 1048576) (hv : MinsAt w lo a l) :
    Calls Try.prog 27 #[.slice a l.length cap] w fun e w' => ∃ u c, e = .returned (.slice u l.length c) ∧ MinsAt w' w.heap.size u l ∧ Below w.heap.size w w' := by
  obtain ⟨i0, hi, hz0, hz1, hz2⟩ := info_parts infoMIns
  have hmk := mk_any (t := 28) l.length Try.underlying28 hi hz0 hz1 hz2 (by omega) hl
  clear hi hz0 hz1 hz2
  have hm := hv.1
  go_enter Try.func27, Try.ntmps27
  go_wp2_with fail
  go_loopw [4] (fun i wr => ∃ (k : Nat) (cur : Array Value), k ≤ l.length ∧ i = .int .i64 k ∧ cur.size = l.length * 7 ∧ wr.heap[w.heap.size]? = some (.cells cur 50 (0, 0)) ∧ (∀ j, j < k → cur[j * 7]? = some (.int .i64 (l.getD j mins0).op) ∧ cur[j * 7 + 1]? = some (.int .i64 (l.getD j mins0).w) ∧ cur[j * 7 + 2]? = some (.int .i64 (l.getD j mins0).d) ∧ cur[j * 7 + 3]? = some (.int .i64 (l.getD j mins0).a) ∧ cur[j * 7 + 4]? = some (.int .i64 (l.getD j mins0).b) ∧ cur[j * 7 + 5]? = some (.int .i64 (l.getD j mins0).c) ∧ cur[j * 7 + 6]? = some (.int .i64 (l.getD j mins0).imm)) ∧ Below w.heap.size w wr) (fun i _ => l.length - (intOf i).toNat)
  case atStart => exact ⟨0, _, by omega, rfl, by simp [size_madeCells], heap_alloc_at _ _, fun j hj => by omega, (Below.refl _ _).alloc (Nat.le_refl _) _⟩
  case round =>
    obtain ⟨k, cur, hk, rfl, hcs, hblk, hdone, hB⟩ := hrel
    by_cases hlt : k < l.length
    · rcases hv.2 with rfl | ⟨b, off, rfl, hlo, hb, hcell⟩
      · simp at hlt
      obtain ⟨h0, h1, h2, h3, h4, h5, h6⟩ := hcell k hlt
      generalize hd : l.getD k mins0 = d at h0 h1 h2 h3 h4 h5 h6
      have e0 : wr.cell? ⟨b, off + k * 7, none⟩ = some (.int .i64 d.op) := (cell_block (hB.block b hb)).trans h0
      have e1 : wr.cell? ⟨b, off + k * 7 + 1, none⟩ = some (.int .i64 d.w) := (cell_block (hB.block b hb)).trans h1
      have e2 : wr.cell? ⟨b, off + k * 7 + 2, none⟩ = some (.int .i64 d.d) := (cell_block (hB.block b hb)).trans h2
      have e3 : wr.cell? ⟨b, off + k * 7 + 3, none⟩ = some (.int .i64 d.a) := (cell_block (hB.block b hb)).trans h3
      have e4 : wr.cell? ⟨b, off + k * 7 + 4, none⟩ = some (.int .i64 d.b) := (cell_block (hB.block b hb)).trans h4
      have e5 : wr.cell? ⟨b, off + k * 7 + 5, none⟩ = some (.int .i64 d.c) := (cell_block (hB.block b hb)).trans h5
      have e6 : wr.cell? ⟨b, off + k * 7 + 6, none⟩ = some (.int .i64 d.imm) := (cell_block (hB.block b hb)).trans h6
      have HD : Hid (l.getD k mins0 = d) := hd
      have HDN : Hid (∀ j, j < k → cur[j * 7]? = some (.int .i64 (l.getD j mins0).op) ∧ cur[j * 7 + 1]? = some (.int .i64 (l.getD j mins0).w) ∧ cur[j * 7 + 2]? = some (.int .i64 (l.getD j mins0).d) ∧ cur[j * 7 + 3]? = some (.int .i64 (l.getD j mins0).a) ∧ cur[j * 7 + 4]? = some (.int .i64 (l.getD j mins0).b) ∧ cur[j * 7 + 5]? = some (.int .i64 (l.getD j mins0).c) ∧ cur[j * 7 + 6]? = some (.int .i64 (l.getD j mins0).imm)) := hdone
      have HBK : Hid (wr.heap[w.heap.size]? = some (.cells cur 50 (0, 0))) := hblk
      have HB : Hid (Below w.heap.size w wr) := hB
      have hgl : w.heap.size < wr.heap.size := (Array.getElem?_eq_some_iff.1 hblk).1
      clear hcell hmk hdone hblk hB hd h0 h1 h2 h3 h4 h5 h6
      go_wp2_with (go_at_call 47; refine (toMIns_any d _).mono ?_; rintro e w1 ⟨rfl, hb1⟩; have hblk1 := (hb1.block w.heap.size hgl).trans HBK.out; have g0 : w1.cell? ⟨w.heap.size, k * 7, none⟩ = some (cur[k * 7]'(by omega)) := (by rw [cell_of_heap hblk1]; simp [show k * 7 < cur.size by omega]); have f0 : w1.frozen? ⟨w.heap.size, k * 7, none⟩ = false := froz_of_heap hblk1; have g1 : w1.cell? ⟨w.heap.size, k * 7 + 1, none⟩ = some (cur[k * 7 + 1]'(by omega)) := (by rw [cell_of_heap hblk1]; simp [show k * 7 + 1 < cur.size by omega]); have f1 : w1.frozen? ⟨w.heap.size, k * 7 + 1, none⟩ = false := froz_of_heap hblk1; have g2 : w1.cell? ⟨w.heap.size, k * 7 + 2, none⟩ = some (cur[k * 7 + 2]'(by omega)) := (by rw [cell_of_heap hblk1]; simp [show k * 7 + 2 < cur.size by omega]); have f2 : w1.frozen? ⟨w.heap.size, k * 7 + 2, none⟩ = false := froz_of_heap hblk1; have g3 : w1.cell? ⟨w.heap.size, k * 7 + 3, none⟩ = some (cur[k * 7 + 3]'(by omega)) := (by rw [cell_of_heap hblk1]; simp [show k * 7 + 3 < cur.size by omega]); have f3 : w1.frozen? ⟨w.heap.size, k * 7 + 3, none⟩ = false := froz_of_heap hblk1; have g4 : w1.cell? ⟨w.heap.size, k * 7 + 4, none⟩ = some (cur[k * 7 + 4]'(by omega)) := (by rw [cell_of_heap hblk1]; simp [show k * 7 + 4 < cur.size by omega]); have f4 : w1.frozen? ⟨w.heap.size, k * 7 + 4, none⟩ = false := froz_of_heap hblk1; have g5 : w1.cell? ⟨w.heap.size, k * 7 + 5, none⟩ = some (cur[k * 7 + 5]'(by omega)) := (by rw [cell_of_heap hblk1]; simp [show k * 7 + 5 < cur.size by omega]); have f5 : w1.frozen? ⟨w.heap.size, k * 7 + 5, none⟩ = false := froz_of_heap hblk1; have g6 : w1.cell? ⟨w.heap.size, k * 7 + 6, none⟩ = some (cur[k * 7 + 6]'(by omega)) := (by rw [cell_of_heap hblk1]; simp [show k * 7 + 6 < cur.size by omega]); have f6 : w1.frozen? ⟨w.heap.size, k * 7 + 6, none⟩ = false := froz_of_heap hblk1; have HBK1 : Hid (w1.heap[w.heap.size]? = some (.cells cur 50 (0, 0))) := hblk1; clear hblk1)
      go_roundw
      case rel =>
        have hblk1 := HBK1.out
        have hB := HB.out
        have hd := HD.out
        refine ⟨k + 1, (((((((cur.setIfInBounds (k * 7) (.int .i64 d.op)).setIfInBounds (k * 7 + 1) (.int .i64 d.w)).setIfInBounds (k * 7 + 2) (.int .i64 d.d)).setIfInBounds (k * 7 + 3) (.int .i64 d.a)).setIfInBounds (k * 7 + 4) (.int .i64 d.b)).setIfInBounds (k * 7 + 5) (.int .i64 d.c)).setIfInBounds (k * 7 + 6) (.int .i64 d.imm)), by omega, by go_num, by simpa using hcs, (heap_set (heap_set (heap_set (heap_set (heap_set (heap_set (heap_set hblk1))))))), fun j hj => ?_, ?_⟩
        · by_cases hjk : j = k
          · subst hjk
            rw [hd]
            refine ⟨?_, ?_, ?_, ?_, ?_, ?_, ?_⟩
            all_goals (repeat rw [Array.getElem?_setIfInBounds_ne (by omega)])
            all_goals (rw [Array.getElem?_setIfInBounds_self]; simp; omega)
          · obtain ⟨p0, p1, p2, p3, p4, p5, p6⟩ := HDN.out j (by omega)
            refine ⟨?_, ?_, ?_, ?_, ?_, ?_, ?_⟩
            all_goals (repeat rw [Array.getElem?_setIfInBounds_ne (by omega)])
            all_goals assumption
        · have hB1 := hB.trans (hb1.mono hB.size)
          repeat (first | refine Below.setCell ?_ (by first | (dsimp only; omega) | exact Nat.le_refl _) _ | exact hB1)
      case measure => simp [intOf]; omega
    · have hke : k = l.length := by omega
      have HH : Hid (wr.heap[w.heap.size]? = some (.cells cur 50 (0, 0))) := hblk
      have HDN : Hid (∀ j, j < k → cur[j * 7]? = some (.int .i64 (l.getD j mins0).op) ∧ cur[j * 7 + 1]? = some (.int .i64 (l.getD j mins0).w) ∧ cur[j * 7 + 2]? = some (.int .i64 (l.getD j mins0).d) ∧ cur[j * 7 + 3]? = some (.int .i64 (l.getD j mins0).a) ∧ cur[j * 7 + 4]? = some (.int .i64 (l.getD j mins0).b) ∧ cur[j * 7 + 5]? = some (.int .i64 (l.getD j mins0).c) ∧ cur[j * 7 + 6]? = some (.int .i64 (l.getD j mins0).imm)) := hdone
      clear hmk hblk hdone
      go_wp2_with fail
      go_ret
      refine ⟨_, _, rfl, ⟨hm, .inr ⟨w.heap.size, 0, rfl, Nat.le_refl _, ?_, fun i hi => ?_⟩⟩, hB⟩
      · exact (Array.getElem?_eq_some_iff.1 HH.out).1
      · obtain ⟨p0, p1, p2, p3, p4, p5, p6⟩ := HDN.out i (by omega)
        simp only [Nat.zero_add, cell_of_heap HH.out]
        exact ⟨p0, p1, p2, p3, p4, p5, p6⟩
set_option maxHeartbeats 2000000 in
theorem toProgram_any (lo : Nat) (d : ProgD) (u1 : Option Addr) (c1 : Nat) (u2 : Option Addr) (c2 : Nat) (u3 : Option Addr) (c3 : Nat) (w : World) (hs : SmProg d) (k1 : IntsAt w lo u1 d.params) (k2 : IntsAt w lo u2 d.widths) (k3 : MinsAt w lo u3 d.code) :
    Calls Try.prog 8 #[.agg #[.int .i64 d.regs, .slice u1 d.params.length c1, .slice u2 d.widths.length c2, .slice u3 d.code.length c3]] w fun e w' => ∃ v1 q1 v2 q2 v3 q3, e = .returned (.agg #[.int .i64 d.regs, .slice v1 d.params.length q1, .slice v2 d.widths.length q2, .slice v3 d.code.length q3]) ∧ IntsAt w' w.heap.size v1 d.params ∧ IntsAt w' w.heap.size v2 d.widths ∧ MinsAt w' w.heap.size v3 d.code ∧ Below w.heap.size w w' := by
  go_enter Try.func8, Try.ntmps8
  go_wp2_with fail
  refine (toInts_any lo _ _ _ _ hs.1 (k1.keep (((agree_alloc _ _ _).trans (agree_alloc _ _ _)).trans (agree_alloc _ _ _)))).mono ?_
  rintro e w1 ⟨v1, q1, rfl, n1, hb1⟩
  have hcc1 := bcell hb1
  have hff1 := bfroz hb1
  have z1a : w.heap.size < w1.heap.size := (by have := hb1.size; simp at this; omega)
  have z1b : w.heap.size + 1 < w1.heap.size := (by have := hb1.size; simp at this; omega)
  have z1c : w.heap.size + 1 + 1 < w1.heap.size := (by have := hb1.size; simp at this; omega)
  have hB1 : Below w.heap.size w w1 := ((((Below.refl w.heap.size w).alloc (Nat.le_refl _) _).alloc (by first | (simp; done) | (simp; omega)) _).alloc (by first | (simp; done) | (simp; omega)) _).trans (hb1.mono (by first | (simp; done) | (simp; omega)))
  go_wp2_with fail
  refine (toInts_any lo _ _ _ _ hs.2.1 (k2.keep (agree_of_below (by repeat (first | refine Below.setCell ?_ (by dsimp only; omega) _ | exact hB1)) lo))).mono ?_
  rintro e w2 ⟨v2, q2, rfl, n2, hb2⟩
  have hcc2 := bcell hb2
  have hff2 := bfroz hb2
  have z2a : w.heap.size < w2.heap.size := (by have := hb2.size; simp at this; omega)
  have z2b : w.heap.size + 1 < w2.heap.size := (by have := hb2.size; simp at this; omega)
  have z2c : w.heap.size + 1 + 1 < w2.heap.size := (by have := hb2.size; simp at this; omega)
  have hB2 : Below w.heap.size w w2 := Below.trans (b := _) (by repeat (first | refine Below.setCell ?_ (by dsimp only; omega) _ | exact hB1)) (hb2.mono (by first | (simp; omega) | (simp; done)))
  go_wp2_with fail
  refine (toMInsS_any lo _ _ _ _ hs.2.2 (k3.keep (agree_of_below (by repeat (first | refine Below.setCell ?_ (by dsimp only; omega) _ | exact hB2)) lo))).mono ?_
  rintro e w3 ⟨v3, q3, rfl, n3, hb3⟩
  have hcc3 := bcell hb3
  have hff3 := bfroz hb3
  have z3a : w.heap.size < w3.heap.size := (by have := hb3.size; simp at this; omega)
  have z3b : w.heap.size + 1 < w3.heap.size := (by have := hb3.size; simp at this; omega)
  have z3c : w.heap.size + 1 + 1 < w3.heap.size := (by have := hb3.size; simp at this; omega)
  have hB3 : Below w.heap.size w w3 := Below.trans (b := _) (by repeat (first | refine Below.setCell ?_ (by dsimp only; omega) _ | exact hB2)) (hb3.mono (by first | (simp; omega) | (simp; done)))
  go_wp2_with fail
  have hr := (heap_set (o := 3) (v := .slice v3 d.code.length q3) (heap_set (o := 2) (v := .slice v2 d.widths.length q2) (heap_set (o := 1) (v := .slice v1 d.params.length q1) (heap_set (o := 0) (v := .int .i64 d.regs) (heap_other (g := w.heap.size + 1) (p := ⟨w.heap.size + 1 + 1, 3, none⟩) (v := .slice v3 d.code.length q3) (by simp) ((hb3.block (w.heap.size + 1) (by first | (simp; done) | (simp; omega))).trans (heap_other (g := w.heap.size + 1) (p := ⟨w.heap.size + 1 + 1, 2, none⟩) (v := .slice v2 d.widths.length q2) (by simp) ((hb2.block (w.heap.size + 1) (by first | (simp; done) | (simp; omega))).trans (heap_other (g := w.heap.size + 1) (p := ⟨w.heap.size + 1 + 1, 1, none⟩) (v := .slice v1 d.params.length q1) (by simp) ((hb1.block (w.heap.size + 1) (by first | (simp; done) | (simp; omega))).trans (heap_mid _ _ _ _)))))))))))
  refine bodyPost_ret (v := .agg #[.int .i64 d.regs, .slice v1 d.params.length q1, .slice v2 d.widths.length q2, .slice v3 d.code.length q3]) ((results_cell_row Try.results8 _ _ (w.heap.size + 1) 30 _ (0, 0) _ rfl hr Try.underlying30 rfl (by kernel_rfl)).trans (by rfl)) rfl ⟨v1, q1, v2, q2, v3, q3, rfl, ?_, ?_, ?_, ?_⟩
  · exact ((n1.low (lo' := w.heap.size + 3) (by first | (simp; done) | (simp; omega))).keep (by repeat (first | refine Agree.trans ?_ (agree_setCell _ _ _ _ _ (by omega)) | refine Agree.trans ?_ (agree_of_below hb3 _) | refine Agree.trans ?_ (agree_of_below hb2 _) | exact Agree.refl _ _))).low (by omega)
  · exact ((n2.low (lo' := w.heap.size + 3) (by first | (simp; omega) | (simp; done))).keep (by repeat (first | refine Agree.trans ?_ (agree_setCell _ _ _ _ _ (by omega)) | refine Agree.trans ?_ (agree_of_below hb3 _) | exact Agree.refl _ _))).low (by omega)
  · exact ((n3.low (lo' := w.heap.size + 3) (by first | (simp; omega) | (simp; done))).keep (by repeat (first | refine Agree.trans ?_ (agree_setCell _ _ _ _ _ (by omega)) | exact Agree.refl _ _))).low (by omega)
  · repeat (first | refine Below.setCell ?_ (by dsimp only; omega) _ | exact hB3)
end Go.Proofs.Ytofgfiakccjimaa
namespace Go.Proofs.Ytofgfiakccjimaa
open Go.RowKit
set_option linter.unusedVariables false
def OM (w : World) (lo : Nat) (a : Option Addr) (l : List MInsD) : Prop :=
  l.length ≤ 9223372036854775807 ∧ (l = [] ∨ ∃ g cur, a = some ⟨g, 0, none⟩ ∧ lo ≤ g ∧ w.heap[g]? = some (.cells cur 50 (0, 0)) ∧ ∀ i, i < l.length → cur[i * 7]? = some (.int .i64 (l.getD i mins0).op) ∧ cur[i * 7 + 1]? = some (.int .i64 (l.getD i mins0).w) ∧ cur[i * 7 + 2]? = some (.int .i64 (l.getD i mins0).d) ∧ cur[i * 7 + 3]? = some (.int .i64 (l.getD i mins0).a) ∧ cur[i * 7 + 4]? = some (.int .i64 (l.getD i mins0).b) ∧ cur[i * 7 + 5]? = some (.int .i64 (l.getD i mins0).c) ∧ cur[i * 7 + 6]? = some (.int .i64 (l.getD i mins0).imm))
theorem OM.keep {w w' : World} {lo : Nat} {a : Option Addr} {l : List MInsD} (h : OM w lo a l) (k : Agree lo w w') : OM w' lo a l := by
  obtain ⟨hm, h⟩ := h
  refine ⟨hm, ?_⟩
  rcases h with h | ⟨g, cur, ha, hl, hb, hc⟩
  · exact .inl h
  · exact .inr ⟨g, cur, ha, hl, (k.2 g hl (Array.getElem?_eq_some_iff.1 hb).1).trans hb, hc⟩
theorem OM.low {w : World} {lo lo' : Nat} {a : Option Addr} {l : List MInsD} (h : OM w lo a l) (k : lo' ≤ lo) : OM w lo' a l := by
  obtain ⟨hm, h⟩ := h
  refine ⟨hm, ?_⟩
  rcases h with h | ⟨g, cur, ha, hl, hb, hc⟩
  · exact .inl h
  · exact .inr ⟨g, cur, ha, Nat.le_trans k hl, hb, hc⟩
theorem OM.at {w : World} {lo : Nat} {a : Option Addr} {l : List MInsD} (h : OM w lo a l) : MinsAt w lo a l := by
  obtain ⟨hm, h⟩ := h
  refine ⟨hm, ?_⟩
  rcases h with h | ⟨g, cur, ha, hl, hb, hc⟩
  · exact .inl h
  · refine .inr ⟨g, 0, ha, hl, (Array.getElem?_eq_some_iff.1 hb).1, fun i hi => ?_⟩
    obtain ⟨p0, p1, p2, p3, p4, p5, p6⟩ := hc i hi
    simp only [Nat.zero_add, cell_of_heap hb]
    exact ⟨p0, p1, p2, p3, p4, p5, p6⟩
set_option maxHeartbeats 2000000 in
theorem toMInsS_own (lo : Nat) (a : Option Addr) (cap : Nat) (l : List MInsD) (w : World) (hl : l.length ≤ 1048576) (hv : MinsAt w lo a l) :
    Calls Try.prog 27 #[.slice a l.length cap] w fun e w' => ∃ u c, e = .returned (.slice u l.length c) ∧ OM w' w.heap.size u l ∧ Below w.heap.size w w' := by
  obtain ⟨i0, hi, hz0, hz1, hz2⟩ := info_parts infoMIns
  have hmk := mk_any (t := 28) l.length Try.underlying28 hi hz0 hz1 hz2 (by omega) hl
  clear hi hz0 hz1 hz2
  have hm := hv.1
  go_enter Try.func27, Try.ntmps27
  go_wp2_with fail
  go_loopw [4] (fun i wr => ∃ (k : Nat) (cur : Array Value), k ≤ l.length ∧ i = .int .i64 k ∧ cur.size = l.length * 7 ∧ wr.heap[w.heap.size]? = some (.cells cur 50 (0, 0)) ∧ (∀ j, j < k → cur[j * 7]? = some (.int .i64 (l.getD j mins0).op) ∧ cur[j * 7 + 1]? = some (.int .i64 (l.getD j mins0).w) ∧ cur[j * 7 + 2]? = some (.int .i64 (l.getD j mins0).d) ∧ cur[j * 7 + 3]? = some (.int .i64 (l.getD j mins0).a) ∧ cur[j * 7 + 4]? = some (.int .i64 (l.getD j mins0).b) ∧ cur[j * 7 + 5]? = some (.int .i64 (l.getD j mins0).c) ∧ cur[j * 7 + 6]? = some (.int .i64 (l.getD j mins0).imm)) ∧ Below w.heap.size w wr) (fun i _ => l.length - (intOf i).toNat)
  case atStart => exact ⟨0, _, by omega, rfl, by simp [size_madeCells], heap_alloc_at _ _, fun j hj => by omega, (Below.refl _ _).alloc (Nat.le_refl _) _⟩
  case round =>
    obtain ⟨k, cur, hk, rfl, hcs, hblk, hdone, hB⟩ := hrel
    by_cases hlt : k < l.length
    · rcases hv.2 with rfl | ⟨b, off, rfl, hlo, hb, hcell⟩
      · simp at hlt
      obtain ⟨h0, h1, h2, h3, h4, h5, h6⟩ := hcell k hlt
      generalize hd : l.getD k mins0 = d at h0 h1 h2 h3 h4 h5 h6
      have e0 : wr.cell? ⟨b, off + k * 7, none⟩ = some (.int .i64 d.op) := (cell_block (hB.block b hb)).trans h0
      have e1 : wr.cell? ⟨b, off + k * 7 + 1, none⟩ = some (.int .i64 d.w) := (cell_block (hB.block b hb)).trans h1
      have e2 : wr.cell? ⟨b, off + k * 7 + 2, none⟩ = some (.int .i64 d.d) := (cell_block (hB.block b hb)).trans h2
      have e3 : wr.cell? ⟨b, off + k * 7 + 3, none⟩ = some (.int .i64 d.a) := (cell_block (hB.block b hb)).trans h3
      have e4 : wr.cell? ⟨b, off + k * 7 + 4, none⟩ = some (.int .i64 d.b) := (cell_block (hB.block b hb)).trans h4
      have e5 : wr.cell? ⟨b, off + k * 7 + 5, none⟩ = some (.int .i64 d.c) := (cell_block (hB.block b hb)).trans h5
      have e6 : wr.cell? ⟨b, off + k * 7 + 6, none⟩ = some (.int .i64 d.imm) := (cell_block (hB.block b hb)).trans h6
      have HD : Hid (l.getD k mins0 = d) := hd
      have HDN : Hid (∀ j, j < k → cur[j * 7]? = some (.int .i64 (l.getD j mins0).op) ∧ cur[j * 7 + 1]? = some (.int .i64 (l.getD j mins0).w) ∧ cur[j * 7 + 2]? = some (.int .i64 (l.getD j mins0).d) ∧ cur[j * 7 + 3]? = some (.int .i64 (l.getD j mins0).a) ∧ cur[j * 7 + 4]? = some (.int .i64 (l.getD j mins0).b) ∧ cur[j * 7 + 5]? = some (.int .i64 (l.getD j mins0).c) ∧ cur[j * 7 + 6]? = some (.int .i64 (l.getD j mins0).imm)) := hdone
      have HBK : Hid (wr.heap[w.heap.size]? = some (.cells cur 50 (0, 0))) := hblk
      have HB : Hid (Below w.heap.size w wr) := hB
      have hgl : w.heap.size < wr.heap.size := (Array.getElem?_eq_some_iff.1 hblk).1
      clear hcell hmk hdone hblk hB hd h0 h1 h2 h3 h4 h5 h6
      go_wp2_with (go_at_call 47; refine (toMIns_any d _).mono ?_; rintro e w1 ⟨rfl, hb1⟩; have hblk1 := (hb1.block w.heap.size hgl).trans HBK.out; have g0 : w1.cell? ⟨w.heap.size, k * 7, none⟩ = some (cur[k * 7]'(by omega)) := (by rw [cell_of_heap hblk1]; simp [show k * 7 < cur.size by omega]); have f0 : w1.frozen? ⟨w.heap.size, k * 7, none⟩ = false := froz_of_heap hblk1; have g1 : w1.cell? ⟨w.heap.size, k * 7 + 1, none⟩ = some (cur[k * 7 + 1]'(by omega)) := (by rw [cell_of_heap hblk1]; simp [show k * 7 + 1 < cur.size by omega]); have f1 : w1.frozen? ⟨w.heap.size, k * 7 + 1, none⟩ = false := froz_of_heap hblk1; have g2 : w1.cell? ⟨w.heap.size, k * 7 + 2, none⟩ = some (cur[k * 7 + 2]'(by omega)) := (by rw [cell_of_heap hblk1]; simp [show k * 7 + 2 < cur.size by omega]); have f2 : w1.frozen? ⟨w.heap.size, k * 7 + 2, none⟩ = false := froz_of_heap hblk1; have g3 : w1.cell? ⟨w.heap.size, k * 7 + 3, none⟩ = some (cur[k * 7 + 3]'(by omega)) := (by rw [cell_of_heap hblk1]; simp [show k * 7 + 3 < cur.size by omega]); have f3 : w1.frozen? ⟨w.heap.size, k * 7 + 3, none⟩ = false := froz_of_heap hblk1; have g4 : w1.cell? ⟨w.heap.size, k * 7 + 4, none⟩ = some (cur[k * 7 + 4]'(by omega)) := (by rw [cell_of_heap hblk1]; simp [show k * 7 + 4 < cur.size by omega]); have f4 : w1.frozen? ⟨w.heap.size, k * 7 + 4, none⟩ = false := froz_of_heap hblk1; have g5 : w1.cell? ⟨w.heap.size, k * 7 + 5, none⟩ = some (cur[k * 7 + 5]'(by omega)) := (by rw [cell_of_heap hblk1]; simp [show k * 7 + 5 < cur.size by omega]); have f5 : w1.frozen? ⟨w.heap.size, k * 7 + 5, none⟩ = false := froz_of_heap hblk1; have g6 : w1.cell? ⟨w.heap.size, k * 7 + 6, none⟩ = some (cur[k * 7 + 6]'(by omega)) := (by rw [cell_of_heap hblk1]; simp [show k * 7 + 6 < cur.size by omega]); have f6 : w1.frozen? ⟨w.heap.size, k * 7 + 6, none⟩ = false := froz_of_heap hblk1; have HBK1 : Hid (w1.heap[w.heap.size]? = some (.cells cur 50 (0, 0))) := hblk1; clear hblk1)
      go_roundw
      case rel =>
        have hblk1 := HBK1.out
        have hB := HB.out
        have hd := HD.out
        refine ⟨k + 1, (((((((cur.setIfInBounds (k * 7) (.int .i64 d.op)).setIfInBounds (k * 7 + 1) (.int .i64 d.w)).setIfInBounds (k * 7 + 2) (.int .i64 d.d)).setIfInBounds (k * 7 + 3) (.int .i64 d.a)).setIfInBounds (k * 7 + 4) (.int .i64 d.b)).setIfInBounds (k * 7 + 5) (.int .i64 d.c)).setIfInBounds (k * 7 + 6) (.int .i64 d.imm)), by omega, by go_num, by simpa using hcs, (heap_set (heap_set (heap_set (heap_set (heap_set (heap_set (heap_set hblk1))))))), fun j hj => ?_, ?_⟩
        · by_cases hjk : j = k
          · subst hjk
            rw [hd]
            refine ⟨?_, ?_, ?_, ?_, ?_, ?_, ?_⟩
            all_goals (repeat rw [Array.getElem?_setIfInBounds_ne (by omega)])
            all_goals (rw [Array.getElem?_setIfInBounds_self]; simp; omega)
          · obtain ⟨p0, p1, p2, p3, p4, p5, p6⟩ := HDN.out j (by omega)
            refine ⟨?_, ?_, ?_, ?_, ?_, ?_, ?_⟩
            all_goals (repeat rw [Array.getElem?_setIfInBounds_ne (by omega)])
            all_goals assumption
        · have hB1 := hB.trans (hb1.mono hB.size)
          repeat (first | refine Below.setCell ?_ (by first | (dsimp only; omega) | exact Nat.le_refl _) _ | exact hB1)
      case measure => simp [intOf]; omega
    · have hke : k = l.length := by omega
      have HH : Hid (wr.heap[w.heap.size]? = some (.cells cur 50 (0, 0))) := hblk
      have HDN : Hid (∀ j, j < k → cur[j * 7]? = some (.int .i64 (l.getD j mins0).op) ∧ cur[j * 7 + 1]? = some (.int .i64 (l.getD j mins0).w) ∧ cur[j * 7 + 2]? = some (.int .i64 (l.getD j mins0).d) ∧ cur[j * 7 + 3]? = some (.int .i64 (l.getD j mins0).a) ∧ cur[j * 7 + 4]? = some (.int .i64 (l.getD j mins0).b) ∧ cur[j * 7 + 5]? = some (.int .i64 (l.getD j mins0).c) ∧ cur[j * 7 + 6]? = some (.int .i64 (l.getD j mins0).imm)) := hdone
      clear hmk hblk hdone
      go_wp2_with fail
      go_ret
      exact ⟨_, _, rfl, ⟨hm, .inr ⟨w.heap.size, cur, rfl, Nat.le_refl _, HH.out, fun i hi => HDN.out i (by omega)⟩⟩, hB⟩
set_option maxHeartbeats 2000000 in
theorem toProgram_own (lo : Nat) (d : ProgD) (u1 : Option Addr) (c1 : Nat) (u2 : Option Addr) (c2 : Nat) (u3 : Option Addr) (c3 : Nat) (w : World) (hs : SmProg d) (k1 : IntsAt w lo u1 d.params) (k2 : IntsAt w lo u2 d.widths) (k3 : MinsAt w lo u3 d.code) :
    Calls Try.prog 8 #[.agg #[.int .i64 d.regs, .slice u1 d.params.length c1, .slice u2 d.widths.length c2, .slice u3 d.code.length c3]] w fun e w' => ∃ v1 q1 v2 q2 v3 q3, e = .returned (.agg #[.int .i64 d.regs, .slice v1 d.params.length q1, .slice v2 d.widths.length q2, .slice v3 d.code.length q3]) ∧ OI w' w.heap.size v1 d.params ∧ OI w' w.heap.size v2 d.widths ∧ OM w' w.heap.size v3 d.code ∧ Below w.heap.size w w' := by
  go_enter Try.func8, Try.ntmps8
  go_wp2_with fail
  refine (toInts_own lo _ _ _ _ hs.1 (k1.keep (((agree_alloc _ _ _).trans (agree_alloc _ _ _)).trans (agree_alloc _ _ _)))).mono ?_
  rintro e w1 ⟨v1, q1, rfl, n1, hb1⟩
  have hcc1 := bcell hb1
  have hff1 := bfroz hb1
  have z1a : w.heap.size < w1.heap.size := (by have := hb1.size; simp at this; omega)
  have z1b : w.heap.size + 1 < w1.heap.size := (by have := hb1.size; simp at this; omega)
  have z1c : w.heap.size + 1 + 1 < w1.heap.size := (by have := hb1.size; simp at this; omega)
  have hB1 : Below w.heap.size w w1 := ((((Below.refl w.heap.size w).alloc (Nat.le_refl _) _).alloc (by first | (simp; done) | (simp; omega)) _).alloc (by first | (simp; done) | (simp; omega)) _).trans (hb1.mono (by first | (simp; done) | (simp; omega)))
  go_wp2_with fail
  refine (toInts_own lo _ _ _ _ hs.2.1 (k2.keep (agree_of_below (by repeat (first | refine Below.setCell ?_ (by dsimp only; omega) _ | exact hB1)) lo))).mono ?_
  rintro e w2 ⟨v2, q2, rfl, n2, hb2⟩
  have hcc2 := bcell hb2
  have hff2 := bfroz hb2
  have z2a : w.heap.size < w2.heap.size := (by have := hb2.size; simp at this; omega)
  have z2b : w.heap.size + 1 < w2.heap.size := (by have := hb2.size; simp at this; omega)
  have z2c : w.heap.size + 1 + 1 < w2.heap.size := (by have := hb2.size; simp at this; omega)
  have hB2 : Below w.heap.size w w2 := Below.trans (b := _) (by repeat (first | refine Below.setCell ?_ (by dsimp only; omega) _ | exact hB1)) (hb2.mono (by first | (simp; omega) | (simp; done)))
  go_wp2_with fail
  refine (toMInsS_own lo _ _ _ _ hs.2.2 (k3.keep (agree_of_below (by repeat (first | refine Below.setCell ?_ (by dsimp only; omega) _ | exact hB2)) lo))).mono ?_
  rintro e w3 ⟨v3, q3, rfl, n3, hb3⟩
  have hcc3 := bcell hb3
  have hff3 := bfroz hb3
  have z3a : w.heap.size < w3.heap.size := (by have := hb3.size; simp at this; omega)
  have z3b : w.heap.size + 1 < w3.heap.size := (by have := hb3.size; simp at this; omega)
  have z3c : w.heap.size + 1 + 1 < w3.heap.size := (by have := hb3.size; simp at this; omega)
  have hB3 : Below w.heap.size w w3 := Below.trans (b := _) (by repeat (first | refine Below.setCell ?_ (by dsimp only; omega) _ | exact hB2)) (hb3.mono (by first | (simp; omega) | (simp; done)))
  go_wp2_with fail
  have hr := (heap_set (o := 3) (v := .slice v3 d.code.length q3) (heap_set (o := 2) (v := .slice v2 d.widths.length q2) (heap_set (o := 1) (v := .slice v1 d.params.length q1) (heap_set (o := 0) (v := .int .i64 d.regs) (heap_other (g := w.heap.size + 1) (p := ⟨w.heap.size + 1 + 1, 3, none⟩) (v := .slice v3 d.code.length q3) (by simp) ((hb3.block (w.heap.size + 1) (by first | (simp; done) | (simp; omega))).trans (heap_other (g := w.heap.size + 1) (p := ⟨w.heap.size + 1 + 1, 2, none⟩) (v := .slice v2 d.widths.length q2) (by simp) ((hb2.block (w.heap.size + 1) (by first | (simp; done) | (simp; omega))).trans (heap_other (g := w.heap.size + 1) (p := ⟨w.heap.size + 1 + 1, 1, none⟩) (v := .slice v1 d.params.length q1) (by simp) ((hb1.block (w.heap.size + 1) (by first | (simp; done) | (simp; omega))).trans (heap_mid _ _ _ _)))))))))))
  refine bodyPost_ret (v := .agg #[.int .i64 d.regs, .slice v1 d.params.length q1, .slice v2 d.widths.length q2, .slice v3 d.code.length q3]) ((results_cell_row Try.results8 _ _ (w.heap.size + 1) 30 _ (0, 0) _ rfl hr Try.underlying30 rfl (by kernel_rfl)).trans (by rfl)) rfl ⟨v1, q1, v2, q2, v3, q3, rfl, ?_, ?_, ?_, ?_⟩
  · exact ((n1.low (lo' := w.heap.size + 3) (by first | (simp; done) | (simp; omega))).keep (by repeat (first | refine Agree.trans ?_ (agree_setCell _ _ _ _ _ (by omega)) | refine Agree.trans ?_ (agree_of_below hb3 _) | refine Agree.trans ?_ (agree_of_below hb2 _) | exact Agree.refl _ _))).low (by omega)
  · exact ((n2.low (lo' := w.heap.size + 3) (by first | (simp; omega) | (simp; done))).keep (by repeat (first | refine Agree.trans ?_ (agree_setCell _ _ _ _ _ (by omega)) | refine Agree.trans ?_ (agree_of_below hb3 _) | exact Agree.refl _ _))).low (by omega)
  · exact ((n3.low (lo' := w.heap.size + 3) (by first | (simp; omega) | (simp; done))).keep (by repeat (first | refine Agree.trans ?_ (agree_setCell _ _ _ _ _ (by omega)) | exact Agree.refl _ _))).low (by omega)
  · repeat (first | refine Below.setCell ?_ (by dsimp only; omega) _ | exact hB3)

def SM (w : World) (lo hi : Nat) (a : Option Addr) (n : Nat) : Prop :=
  n = 0 ∨ ∃ g cur, a = some ⟨g, 0, none⟩ ∧ lo ≤ g ∧ g < hi ∧ w.heap[g]? = some (.cells cur 50 (0, 0)) ∧ ∀ i, i < n * 7 → ∃ z : Int, cur[i]? = some (.int .i64 z)
theorem SM.keep {w w' : World} {lo hi : Nat} {a : Option Addr} {n : Nat} (h : SM w lo hi a n) (k : Hdr lo hi w w') : SM w' lo hi a n := by
  rcases h with h | ⟨g, cur, ha, hl, hh, hb, hc⟩
  · exact .inl h
  · obtain ⟨cur', hb', hcu⟩ := k.cells g cur _ hb
    exact .inr ⟨g, cur', ha, hl, hh, hb', fun i hi => by obtain ⟨z, hz⟩ := hc i hi; exact hcu.int hz⟩
theorem OM.sh {w : World} {lo : Nat} {a : Option Addr} {l : List MInsD} (h : OM w lo a l) : SM w lo w.heap.size a l.length := by
  rcases h.2 with h | ⟨g, cur, ha, hl, hb, hc⟩
  · exact .inl (by rw [h]; rfl)
  · refine .inr ⟨g, cur, ha, hl, (Array.getElem?_eq_some_iff.1 hb).1, hb, fun i hi => ?_⟩
    obtain ⟨p0, p1, p2, p3, p4, p5, p6⟩ := hc (i / 7) (by omega)
    have hr : i = i / 7 * 7 + i % 7 := by omega
    have h7 : i % 7 < 7 := Nat.mod_lt _ (by omega)
    rw [hr]
    match hm : i % 7, h7 with
    | 0, _ => exact ⟨_, p0⟩
    | 1, _ => exact ⟨_, p1⟩
    | 2, _ => exact ⟨_, p2⟩
    | 3, _ => exact ⟨_, p3⟩
    | 4, _ => exact ⟨_, p4⟩
    | 5, _ => exact ⟨_, p5⟩
    | 6, _ => exact ⟨_, p6⟩
end Go.Proofs.Ytofgfiakccjimaa
namespace Go.Proofs.Ytofgfiakccjimaa
open Go.RowKit

set_option maxHeartbeats 1000000 in
theorem eqInts_any (lo lo' : Nat) (a b : Option Addr) (ca cb : Nat) (l : List Int) (w : World) (ha : IntsAt w lo a l) (hb : IntsAt w lo' b l) :
    Calls Try.prog 17 #[.slice a l.length ca, .slice b l.length cb] w fun e w' => e = .returned (.bool true) ∧ Below w.heap.size w w' := by
  have hm := ha.1
  go_enter Try.func17, Try.ntmps17
  go_wp2_with fail
  go_loopw [5] (fun i wr => ∃ (k : Nat), k ≤ l.length ∧ i = .int .i64 k ∧ Below w.heap.size w wr) (fun i _ => l.length - (intOf i).toNat)
  case atStart => exact ⟨0, by omega, rfl, Below.refl _ _⟩
  case round =>
    obtain ⟨k, hk, rfl, hB⟩ := hrel
    by_cases hlt : k < l.length
    · rcases ha.2 with rfl | ⟨ba, offa, rfl, hla, hba, hca⟩
      · simp at hlt
      rcases hb.2 with rfl | ⟨bb, offb, rfl, hlb, hbb, hcb⟩
      · simp at hlt
      have e0 : wr.cell? ⟨ba, offa + k, none⟩ = some (.int .i64 (l.getD k 0)) := (cell_block (hB.block ba hba)).trans (hca k hlt)
      have e1 : wr.cell? ⟨bb, offb + k, none⟩ = some (.int .i64 (l.getD k 0)) := (cell_block (hB.block bb hbb)).trans (hcb k hlt)
      generalize l.getD k 0 = d at e0 e1
      have HB : Hid (Below w.heap.size w wr) := hB
      clear hca hcb hB ha hb
      go_wp2_with fail
      go_quiet (fail)
      go_wp2_with fail
      go_roundw
      case rel => exact ⟨k + 1, by omega, by go_num, below_drewN HB.out _⟩
      case measure => simp [intOf]; omega
    · go_wp2_with fail
      go_ret
      exact ⟨rfl, hB⟩
end Go.Proofs.Ytofgfiakccjimaa
namespace Go.Proofs.Ytofgfiakccjimaa
open Go.RowKit
set_option linter.unusedVariables false
set_option maxHeartbeats 2000000 in
theorem markMs (g c n : Nat) (k : Int) (cur : Array Value) (w : World) (hn : n ≤ 1048576) (hk0 : 0 ≤ k) (hk : k ≤ 4611686018427387904) (hb : w.heap[g]? = some (.cells cur 50 (0, 0))) (hc : ∀ i, i < n * 7 → ∃ z : Int, cur[i]? = some (.int .i64 z)) :
    Calls Try.prog 43 #[.slice (some ⟨g, 0, none⟩) n c, .int .i64 k] w fun e w' => e = .returned (.int .i64 (k + 7 * n)) ∧ Only g w w' ∧ ∃ cur', w'.heap[g]? = some (.cells cur' 50 (0, 0)) ∧ Cur cur cur' := by
  have HB : Hid (w.heap[g]? = some (.cells cur 50 (0, 0))) := hb
  have HC : Hid (∀ i, i < n * 7 → ∃ z : Int, cur[i]? = some (.int .i64 z)) := hc
  clear hb hc
  go_enter Try.func43, Try.ntmps43
  go_wp2_with fail
  go_loopw [1, 5] (fun q i wr => ∃ (j : Nat) (cj : Array Value), j ≤ n ∧ i = .int .i64 j ∧ q = .int .i64 (k + 7 * j) ∧ Hid (wr.heap[g]? = some (.cells cj 50 (0, 0))) ∧ Hid (Cur cur cj) ∧ Hid (Only g w wr)) (fun _ i _ => n - (intOf i).toNat)
  case atStart => exact ⟨0, cur, by omega, rfl, by simp, HB.out, Cur.refl _, Only.refl _ _⟩
  case round =>
    obtain ⟨j, cj, hj, rfl, rfl, HJ, HCu, HO⟩ := hrel
    by_cases hlt : j < n
    · have hjn : (j : Int) < n := by omega
      obtain ⟨z0, hz0⟩ := HC.out (j * 7) (by omega)
      obtain ⟨y0, hy0⟩ := HCu.out.int hz0
      have e0 : wr.cell? ⟨g, j * 7, none⟩ = some (.int .i64 y0) := (cell_of_heap HJ.out).trans hy0
      have f0 : wr.frozen? ⟨g, j * 7, none⟩ = false := froz_of_heap HJ.out
      obtain ⟨z1, hz1⟩ := HC.out (j * 7 + 1) (by omega)
      obtain ⟨y1, hy1⟩ := HCu.out.int hz1
      have e1 : wr.cell? ⟨g, j * 7 + 1, none⟩ = some (.int .i64 y1) := (cell_of_heap HJ.out).trans hy1
      have f1 : wr.frozen? ⟨g, j * 7 + 1, none⟩ = false := froz_of_heap HJ.out
      obtain ⟨z2, hz2⟩ := HC.out (j * 7 + 2) (by omega)
      obtain ⟨y2, hy2⟩ := HCu.out.int hz2
      have e2 : wr.cell? ⟨g, j * 7 + 2, none⟩ = some (.int .i64 y2) := (cell_of_heap HJ.out).trans hy2
      have f2 : wr.frozen? ⟨g, j * 7 + 2, none⟩ = false := froz_of_heap HJ.out
      obtain ⟨z3, hz3⟩ := HC.out (j * 7 + 3) (by omega)
      obtain ⟨y3, hy3⟩ := HCu.out.int hz3
      have e3 : wr.cell? ⟨g, j * 7 + 3, none⟩ = some (.int .i64 y3) := (cell_of_heap HJ.out).trans hy3
      have f3 : wr.frozen? ⟨g, j * 7 + 3, none⟩ = false := froz_of_heap HJ.out
      obtain ⟨z4, hz4⟩ := HC.out (j * 7 + 4) (by omega)
      obtain ⟨y4, hy4⟩ := HCu.out.int hz4
      have e4 : wr.cell? ⟨g, j * 7 + 4, none⟩ = some (.int .i64 y4) := (cell_of_heap HJ.out).trans hy4
      have f4 : wr.frozen? ⟨g, j * 7 + 4, none⟩ = false := froz_of_heap HJ.out
      obtain ⟨z5, hz5⟩ := HC.out (j * 7 + 5) (by omega)
      obtain ⟨y5, hy5⟩ := HCu.out.int hz5
      have e5 : wr.cell? ⟨g, j * 7 + 5, none⟩ = some (.int .i64 y5) := (cell_of_heap HJ.out).trans hy5
      have f5 : wr.frozen? ⟨g, j * 7 + 5, none⟩ = false := froz_of_heap HJ.out
      obtain ⟨z6, hz6⟩ := HC.out (j * 7 + 6) (by omega)
      obtain ⟨y6, hy6⟩ := HCu.out.int hz6
      have e6 : wr.cell? ⟨g, j * 7 + 6, none⟩ = some (.int .i64 y6) := (cell_of_heap HJ.out).trans hy6
      have f6 : wr.frozen? ⟨g, j * 7 + 6, none⟩ = false := froz_of_heap HJ.out
      have U0 := HCu.out.trans (Cur.set hy0 (k + 7 * j))
      have V0 := Cur.set hy0 (k + 7 * j)
      obtain ⟨x1, hx1⟩ := V0.int hy1
      have V1 := V0.trans (Cur.set hx1 (k + 7 * j + 1))
      obtain ⟨x2, hx2⟩ := V1.int hy2
      have V2 := V1.trans (Cur.set hx2 (k + 7 * j + 1 + 1))
      obtain ⟨x3, hx3⟩ := V2.int hy3
      have V3 := V2.trans (Cur.set hx3 (k + 7 * j + 1 + 1 + 1))
      obtain ⟨x4, hx4⟩ := V3.int hy4
      have V4 := V3.trans (Cur.set hx4 (k + 7 * j + 1 + 1 + 1 + 1))
      obtain ⟨x5, hx5⟩ := V4.int hy5
      have V5 := V4.trans (Cur.set hx5 (k + 7 * j + 1 + 1 + 1 + 1 + 1))
      obtain ⟨x6, hx6⟩ := V5.int hy6
      have V6 := V5.trans (Cur.set hx6 (k + 7 * j + 1 + 1 + 1 + 1 + 1 + 1))
      have HV : Hid _ := HCu.out.trans V6
      have HH : Hid ((((((((wr.setCell ⟨g, j * 7, none⟩ (.int .i64 (k + 7 * j))).setCell ⟨g, j * 7 + 1, none⟩ (.int .i64 (k + 7 * j + 1))).setCell ⟨g, j * 7 + 2, none⟩ (.int .i64 (k + 7 * j + 1 + 1))).setCell ⟨g, j * 7 + 3, none⟩ (.int .i64 (k + 7 * j + 1 + 1 + 1))).setCell ⟨g, j * 7 + 4, none⟩ (.int .i64 (k + 7 * j + 1 + 1 + 1 + 1))).setCell ⟨g, j * 7 + 5, none⟩ (.int .i64 (k + 7 * j + 1 + 1 + 1 + 1 + 1))).setCell ⟨g, j * 7 + 6, none⟩ (.int .i64 (k + 7 * j + 1 + 1 + 1 + 1 + 1 + 1))).heap[g]? = some (.cells (((((((cj.setIfInBounds (j * 7) (.int .i64 (k + 7 * j))).setIfInBounds (j * 7 + 1) (.int .i64 (k + 7 * j + 1))).setIfInBounds (j * 7 + 2) (.int .i64 (k + 7 * j + 1 + 1))).setIfInBounds (j * 7 + 3) (.int .i64 (k + 7 * j + 1 + 1 + 1))).setIfInBounds (j * 7 + 4) (.int .i64 (k + 7 * j + 1 + 1 + 1 + 1))).setIfInBounds (j * 7 + 5) (.int .i64 (k + 7 * j + 1 + 1 + 1 + 1 + 1))).setIfInBounds (j * 7 + 6) (.int .i64 (k + 7 * j + 1 + 1 + 1 + 1 + 1 + 1))) 50 (0, 0))) := heap_set (heap_set (heap_set (heap_set (heap_set (heap_set (heap_set HJ.out))))))
      clear hz0 hy0 hz1 hy1 hz2 hy2 hz3 hy3 hz4 hy4 hz5 hy5 hz6 hy6 V0 V1 V2 V3 V4 V5 V6 hx1 hx2 hx3 hx4 hx5 hx6 U0
      go_wp2_with fail
      go_roundw
      case rel => exact ⟨j + 1, _, by omega, by go_num, by refine congrArg (Value.int .i64) ?_; first | omega | (unfold wrap64; omega), HH.out, HV.out, ((((((HO.out.set _ _).set _ _).set _ _).set _ _).set _ _).set _ _).set _ _⟩
      case measure => simp [intOf]; omega
    · have hke : j = n := by omega
      subst hke
      go_wp2_with fail
      go_ret
      exact ⟨rfl, HO.out, cj, HJ.out, HCu.out⟩
set_option maxHeartbeats 1000000 in
theorem markMs0 (a : Option Addr) (c : Nat) (k : Int) (w : World) :
    Calls Try.prog 43 #[.slice a 0 c, .int .i64 k] w fun e w' => e = .returned (.int .i64 k) ∧ w' = w := by
  go_enter Try.func43, Try.ntmps43
  go_wp2_with fail
  go_loop [1, 5] (fun q i => q = .int .i64 k ∧ i = .int .i64 0) (fun _ _ => 0)
  case atStart => exact ⟨rfl, rfl⟩
  case round =>
    obtain ⟨rfl, rfl⟩ := hrel
    go_wp2_with fail
    go_ret
    exact ⟨rfl, rfl⟩
theorem markMins (lo hi : Nat) (a : Option Addr) (c n : Nat) (k : Int) (w : World) (hn : n ≤ 1048576) (hk0 : 0 ≤ k) (hk : k ≤ 4611686018427387904) (hv : SM w lo hi a n) :
    Calls Try.prog 43 #[.slice a n c, .int .i64 k] w fun e w' => e = .returned (.int .i64 (k + 7 * n)) ∧ Hdr lo hi w w' := by
  rcases hv with h | ⟨g, cur, rfl, hl, hh, hb, hc⟩
  · subst h
    refine (markMs0 a c k w).mono ?_
    rintro e w1 ⟨rfl, rfl⟩
    exact ⟨by simp, Hdr.refl _ _ _⟩
  · refine (markMs g c n k cur w hn hk0 hk hb hc).mono ?_
    rintro e w1 ⟨rfl, ho, cur', hb', hcu⟩
    exact ⟨rfl, only_hdr ho hb hb' hcu hl hh⟩
set_option maxHeartbeats 2000000 in
theorem markProg (lo hi : Nat) (d : ProgD) (u1 : Option Addr) (c1 : Nat) (u2 : Option Addr) (c2 : Nat) (u3 : Option Addr) (c3 : Nat) (w : World) (hs : SmProg d) (hhi : hi ≤ w.heap.size) (s1 : SI w lo hi u1 d.params.length) (s2 : SI w lo hi u2 d.widths.length) (s3 : SM w lo hi u3 d.code.length) :
    Calls Try.prog 18 #[.agg #[.int .i64 d.regs, .slice u1 d.params.length c1, .slice u2 d.widths.length c2, .slice u3 d.code.length c3], .int .i64 1] w fun e w' => e = .returned (.int .i64 (1 + d.params.length + d.widths.length + 7 * d.code.length)) ∧ Hdr lo hi w w' := by
  obtain ⟨h1, h2, h3⟩ := hs
  have D1 : Hdr lo hi w (w.alloc (.cells #[.int .i64 d.regs, .slice u1 d.params.length c1, .slice u2 d.widths.length c2, .slice u3 d.code.length c3] 30)) := Hdr.alloc _ _ _ _
  have R1 : (w.alloc (.cells #[.int .i64 d.regs, .slice u1 d.params.length c1, .slice u2 d.widths.length c2, .slice u3 d.code.length c3] 30)).heap[w.heap.size]? = some (.cells #[.int .i64 d.regs, .slice u1 d.params.length c1, .slice u2 d.widths.length c2, .slice u3 d.code.length c3] 30 (0, 0)) := heap_alloc_at _ _
  have z1 : w.heap.size < (w.alloc (.cells #[.int .i64 d.regs, .slice u1 d.params.length c1, .slice u2 d.widths.length c2, .slice u3 d.code.length c3] 30)).heap.size := by simp
  go_enter Try.func18, Try.ntmps18
  go_wp2_with fail
  refine (markInts lo hi _ _ _ 1 _ h1 (by omega) (by omega) (s1.keep D1)).mono ?_
  rintro e w1 ⟨rfl, k1⟩
  have R2 := (k1.out w.heap.size (.inr hhi) z1).trans R1
  have D2 := D1.trans k1
  have r2 := (cell_of_heap (o := 2) R2).trans rfl
  have r3 := (cell_of_heap (o := 3) R2).trans rfl
  clear R1
  go_wp2_with fail
  refine (markInts lo hi _ _ _ _ _ h2 (by omega) (by omega) (s2.keep D2)).mono ?_
  rintro e w2 ⟨rfl, k2⟩
  have R3 := (k2.out w.heap.size (.inr hhi) (by have := k1.size; omega)).trans R2
  have D3 := D2.trans k2
  clear r2 r3
  have r3 := (cell_of_heap (o := 3) R3).trans rfl
  clear R2
  go_wp2_with fail
  refine (markMins lo hi _ _ _ _ _ h3 (by omega) (by omega) (s3.keep D3)).mono ?_
  rintro e w3 ⟨rfl, k3⟩
  go_wp2_with fail
  go_ret
  exact ⟨rfl, D3.trans k3⟩
set_option maxHeartbeats 2000000 in
theorem eqRes (lo lo' : Nat) (d : ResD) (u : Option Addr) (c : Nat) (u' : Option Addr) (c' : Nat) (w : World) (k : IntsAt w lo u d.out) (k' : IntsAt w lo' u' d.out) :
    Calls Try.prog 16 #[resA d u c, resA d u' c'] w fun e w' => e = .returned (.bool true) ∧ Below w.heap.size w w' := by
  unfold resA
  go_enter Try.func16, Try.ntmps16
  go_wp2_with (first | (go_at_call 17; refine (eqInts_any lo lo' _ _ _ _ _ _ (k.keep (agree_of_below (((Below.refl w.heap.size w).alloc (Nat.le_refl _) _).alloc (by first | (simp; done) | (simp; omega)) _) _)) (k'.keep (agree_of_below (((Below.refl w.heap.size w).alloc (Nat.le_refl _) _).alloc (by first | (simp; done) | (simp; omega)) _) _))).mono ?_; rintro e w1 ⟨rfl, hb1⟩; have hcc1 := bcell hb1; have z1a : w.heap.size < w1.heap.size := (by have := hb1.size; (try simp at this); omega); have z1b : w.heap.size + 1 < w1.heap.size := (by have := hb1.size; (try simp at this); omega); have hB1 : Below w.heap.size w w1 := (((Below.refl w.heap.size w).alloc (Nat.le_refl _) _).alloc (by first | (simp; done) | (simp; omega)) _).trans (hb1.mono (by first | (simp; done) | (simp; omega)))))
  go_ret
  exact ⟨rfl, hB1⟩
theorem markRes (lo hi : Nat) (d : ResD) (u : Option Addr) (c : Nat) (w : World) (hs : d.out.length ≤ 1048576) (k : OI w lo u d.out) (hh : SI w lo hi u d.out.length) :
    Calls Try.prog 20 #[resA d u c, .int .i64 1] w fun e w' => e = .returned (.int .i64 (1 + d.out.length)) ∧ OI w' lo u (marks 1 d.out.length) ∧ Hdr lo hi w w' := by
  have key : ∀ w0 : World, OI w0 lo u d.out → SI w0 lo hi u d.out.length → Calls Try.prog 19 #[.slice u d.out.length c, .int .i64 1] w0 fun e w' => e = .returned (.int .i64 (1 + d.out.length)) ∧ OI w' lo u (marks 1 d.out.length) ∧ Hdr lo hi w0 w' := fun w0 k hh => by
    rcases hh with h | ⟨g, cur, rfl, hl, hhi, hb, hc⟩
    · rw [h]
      refine (markZero u c 1 w0).mono ?_
      rintro e w1 ⟨rfl, rfl⟩
      exact ⟨by simp, ⟨by simp [marks], .inl (by simp [marks])⟩, Hdr.refl _ _ _⟩
    · refine (markVals g c d.out.length 1 cur w0 hs (by omega) (by omega) hb hc).mono ?_
      rintro e w1 ⟨rfl, ho, cur', hb', hcu, hd⟩
      exact ⟨rfl, ⟨by rw [marks_len]; omega, .inr ⟨g, cur', rfl, hl, hb', fun i hi => by rw [marks_len] at hi; rw [hd i hi, marks_at 1 hi]⟩⟩, only_hdr ho hb hb' hcu hl hhi⟩
  have K := key _ (k.keep (agree_alloc w (.cells #[.int .i64 d.code, .int .i64 d.value, .slice u d.out.length c, .string d.mem, .int .i64 d.steps] 36) _)) (hh.keep (Hdr.alloc _ _ _ _))
  clear key
  unfold resA
  go_enter Try.func20, Try.ntmps20
  go_wp2_with fail
  refine K.mono ?_
  rintro e w1 ⟨rfl, g11, hd⟩
  go_wp2_with fail
  go_ret
  exact ⟨rfl, g11, (Hdr.alloc _ _ _ _).trans hd⟩
theorem heldRes (lo : Nat) (d : ResD) (u : Option Addr) (c : Nat) (w : World) (hs : d.out.length ≤ 1048576) (k : IntsAt w lo u (marks 1 d.out.length)) :
    Calls Try.prog 21 #[resA d u c, .int .i64 1] w fun e w' => e = .returned (.int .i64 (1 + d.out.length)) ∧ Below w.heap.size w w' := by
  unfold resA
  have hn : ¬ (1 : Int) + d.out.length < 0 := by omega
  go_enter Try.func21, Try.ntmps21
  go_wp2_with fail
  refine (heldInts _ _ _ _ 1 _ hs (by omega) (by omega) (k.keep (agree_alloc _ _ _))).mono ?_
  rintro e w1 ⟨rfl, rfl⟩
  go_wp2_with fail
  go_ret
  exact ⟨rfl, (Below.refl _ _).alloc (Nat.le_refl _) _⟩
end Go.Proofs.Ytofgfiakccjimaa
namespace Go.Proofs.Ytofgfiakccjimaa
open Go.RowKit
set_option linter.unusedVariables false

set_option maxHeartbeats 2000000 in
theorem eqMIns_any (d : MInsD) (w : World) :
    Calls Try.prog 54 #[.agg #[.int .i64 d.op, .int .i64 d.w, .int .i64 d.d, .int .i64 d.a, .int .i64 d.b, .int .i64 d.c, .int .i64 d.imm], .agg #[.int .i64 d.op, .int .i64 d.w, .int .i64 d.d, .int .i64 d.a, .int .i64 d.b, .int .i64 d.c, .int .i64 d.imm]] w fun e w' => e = .returned (.bool true) ∧ Below w.heap.size w w' := by
  go_enter Try.func54, Try.ntmps54
  go_wp2_with fail
  go_ret
  exact ⟨rfl, ((Below.refl w.heap.size w).alloc (Nat.le_refl _) _).alloc (by first | (simp; done) | (simp; omega)) _⟩
set_option maxHeartbeats 2000000 in
theorem eqMInsS_any (lo lo' : Nat) (a b : Option Addr) (ca cb : Nat) (l : List MInsD) (w : World) (ha : MinsAt w lo a l) (hb : MinsAt w lo' b l) :
    Calls Try.prog 31 #[.slice a l.length ca, .slice b l.length cb] w fun e w' => e = .returned (.bool true) ∧ Below w.heap.size w w' := by
  have hm := ha.1
  go_enter Try.func31, Try.ntmps31
  go_wp2_with fail
  go_loopw [5] (fun i wr => ∃ (k : Nat), k ≤ l.length ∧ i = .int .i64 k ∧ Below w.heap.size w wr) (fun i _ => l.length - (intOf i).toNat)
  case atStart => exact ⟨0, by omega, rfl, Below.refl _ _⟩
  case round =>
    obtain ⟨k, hk, rfl, hB⟩ := hrel
    by_cases hlt : k < l.length
    · rcases ha.2 with rfl | ⟨ba, offa, rfl, hla, hba, hca⟩
      · simp at hlt
      rcases hb.2 with rfl | ⟨bb, offb, rfl, hlb, hbb, hcb⟩
      · simp at hlt
      obtain ⟨h0, h1, h2, h3, h4, h5, h6⟩ := hca k hlt
      obtain ⟨g0, g1, g2, g3, g4, g5, g6⟩ := hcb k hlt
      generalize l.getD k mins0 = d at h0 g0 h1 g1 h2 g2 h3 g3 h4 g4 h5 g5 h6 g6 
      have e0 : wr.cell? ⟨ba, offa + k * 7, none⟩ = some (.int .i64 d.op) := (cell_block (hB.block ba hba)).trans h0
      have f0 : wr.cell? ⟨bb, offb + k * 7, none⟩ = some (.int .i64 d.op) := (cell_block (hB.block bb hbb)).trans g0
      have e1 : wr.cell? ⟨ba, offa + k * 7 + 1, none⟩ = some (.int .i64 d.w) := (cell_block (hB.block ba hba)).trans h1
      have f1 : wr.cell? ⟨bb, offb + k * 7 + 1, none⟩ = some (.int .i64 d.w) := (cell_block (hB.block bb hbb)).trans g1
      have e2 : wr.cell? ⟨ba, offa + k * 7 + 2, none⟩ = some (.int .i64 d.d) := (cell_block (hB.block ba hba)).trans h2
      have f2 : wr.cell? ⟨bb, offb + k * 7 + 2, none⟩ = some (.int .i64 d.d) := (cell_block (hB.block bb hbb)).trans g2
      have e3 : wr.cell? ⟨ba, offa + k * 7 + 3, none⟩ = some (.int .i64 d.a) := (cell_block (hB.block ba hba)).trans h3
      have f3 : wr.cell? ⟨bb, offb + k * 7 + 3, none⟩ = some (.int .i64 d.a) := (cell_block (hB.block bb hbb)).trans g3
      have e4 : wr.cell? ⟨ba, offa + k * 7 + 4, none⟩ = some (.int .i64 d.b) := (cell_block (hB.block ba hba)).trans h4
      have f4 : wr.cell? ⟨bb, offb + k * 7 + 4, none⟩ = some (.int .i64 d.b) := (cell_block (hB.block bb hbb)).trans g4
      have e5 : wr.cell? ⟨ba, offa + k * 7 + 5, none⟩ = some (.int .i64 d.c) := (cell_block (hB.block ba hba)).trans h5
      have f5 : wr.cell? ⟨bb, offb + k * 7 + 5, none⟩ = some (.int .i64 d.c) := (cell_block (hB.block bb hbb)).trans g5
      have e6 : wr.cell? ⟨ba, offa + k * 7 + 6, none⟩ = some (.int .i64 d.imm) := (cell_block (hB.block ba hba)).trans h6
      have f6 : wr.cell? ⟨bb, offb + k * 7 + 6, none⟩ = some (.int .i64 d.imm) := (cell_block (hB.block bb hbb)).trans g6
      have HB : Hid (Below w.heap.size w wr) := hB
      clear hca hcb hB ha hb h0 g0 h1 g1 h2 g2 h3 g3 h4 g4 h5 g5 h6 g6 
      go_wp2_with fail
      go_region_with (go_at_call 54; refine (eqMIns_any d _).mono ?_; rintro e w1 ⟨rfl, hb1⟩)
      all_goals
        go_wp2_with fail
        go_roundw
        case rel =>
          have hx := HB.out
          have hy := hb1.mono (B' := w.heap.size) hx.size
          exact ⟨k + 1, by omega, by go_num, ⟨hy.os.trans hx.os, hy.tape.trans hx.tape, hy.output.trans hx.output, Nat.le_trans hx.size hy.size, fun i hi => (hy.block i hi).trans (hx.block i hi)⟩⟩
        case measure => simp [intOf]; omega
    · go_wp2_with fail
      go_ret
      exact ⟨rfl, hB⟩
set_option maxHeartbeats 2000000 in
theorem eqProgram_any (lo lo' : Nat) (d : ProgD) (u1 : Option Addr) (c1 : Nat) (u2 : Option Addr) (c2 : Nat) (u3 : Option Addr) (c3 : Nat) (v1 : Option Addr) (q1 : Nat) (v2 : Option Addr) (q2 : Nat) (v3 : Option Addr) (q3 : Nat) (w : World) (k1 : IntsAt w lo u1 d.params) (k2 : IntsAt w lo u2 d.widths) (k3 : MinsAt w lo u3 d.code) (n1 : IntsAt w lo' v1 d.params) (n2 : IntsAt w lo' v2 d.widths) (n3 : MinsAt w lo' v3 d.code) :
    Calls Try.prog 10 #[.agg #[.int .i64 d.regs, .slice u1 d.params.length c1, .slice u2 d.widths.length c2, .slice u3 d.code.length c3], .agg #[.int .i64 d.regs, .slice v1 d.params.length q1, .slice v2 d.widths.length q2, .slice v3 d.code.length q3]] w fun e w' => e = .returned (.bool true) ∧ Below w.heap.size w w' := by
  go_enter Try.func10, Try.ntmps10
  go_wp2_with fail
  refine (eqInts_any lo lo' _ _ _ _ _ _ (k1.keep (agree_of_below (((Below.refl w.heap.size w).alloc (Nat.le_refl _) _).alloc (by first | (simp; done) | (simp; omega)) _) _)) (n1.keep (agree_of_below (((Below.refl w.heap.size w).alloc (Nat.le_refl _) _).alloc (by first | (simp; done) | (simp; omega)) _) _))).mono ?_
  rintro e w1 ⟨rfl, hb1⟩
  have hcc1 := bcell hb1
  have z1a : w.heap.size < w1.heap.size := (by have := hb1.size; (try simp at this); omega)
  have z1b : w.heap.size + 1 < w1.heap.size := (by have := hb1.size; (try simp at this); omega)
  have hB1 : Below w.heap.size w w1 := (((Below.refl w.heap.size w).alloc (Nat.le_refl _) _).alloc (by first | (simp; done) | (simp; omega)) _).trans (hb1.mono (by first | (simp; done) | (simp; omega)))
  go_wp2_with fail
  refine (eqInts_any lo lo' _ _ _ _ _ _ (k2.keep (agree_of_below hB1 _)) (n2.keep (agree_of_below hB1 _))).mono ?_
  rintro e w2 ⟨rfl, hb2⟩
  have hcc2 := bcell hb2
  have z2a : w.heap.size < w2.heap.size := (by have := hb2.size; (try simp at this); omega)
  have z2b : w.heap.size + 1 < w2.heap.size := (by have := hb2.size; (try simp at this); omega)
  have hB2 : Below w.heap.size w w2 := hB1.trans (hb2.mono hB1.size)
  go_wp2_with fail
  refine (eqMInsS_any lo lo' _ _ _ _ _ _ (k3.keep (agree_of_below hB2 _)) (n3.keep (agree_of_below hB2 _))).mono ?_
  rintro e w3 ⟨rfl, hb3⟩
  have hcc3 := bcell hb3
  have z3a : w.heap.size < w3.heap.size := (by have := hb3.size; (try simp at this); omega)
  have z3b : w.heap.size + 1 < w3.heap.size := (by have := hb3.size; (try simp at this); omega)
  have hB3 : Below w.heap.size w w3 := hB2.trans (hb3.mono hB2.size)
  go_wp2_with fail
  go_ret
  exact ⟨rfl, hB3⟩
end Go.Proofs.Ytofgfiakccjimaa
namespace Go.Proofs.Ytofgfiakccjimaa
open Go.RowKit
set_option linter.unusedVariables false
set_option linter.unusedSimpArgs false

theorem bel_drewM {w w' : World} (h : Below w.drew.heap.size w.drew w') : Below w.heap.size w w' := ⟨h.os, h.tape, h.output, h.size, h.block⟩
theorem machR_len (p : ProgD) (args : List Int) (mem : ByteArray) (fuel : Int) : (machR p args mem fuel).out.length ≤ 30 := by
  unfold machR
  split
  · rename_i h
    simp [okM] at h
    have PP := prog_parts h.1
    exact (run_good PP.r1 PP.r2 PP.ins PP.last fuel.toNat _ (start_good PP h.2.1) (by show (0 : Int) ≤ 0; omega) (by show (0 : Int) < _; have := PP.c1; omega)).out
  · show ([] : List Int).length ≤ 30
    simp
theorem own_oi {w : World} {base : Nat} {u : Option Addr} {q : Nat} {l : List Int} (hm : l.length ≤ 1048576) (h : w.ownsRow base 2 1 (.slice u l.length q) l.length (l.map (Value.int .i64))) : OI w base u l := by
  obtain ⟨u', c', e, h⟩ := row_own hm h
  cases e
  exact h
theorem agree_hi {lo hi : Nat} {a b c : World} (h : Agree hi a b) (k : Hdr lo hi b c) : Agree hi a c :=
  ⟨Nat.le_trans h.1 k.size, fun g hg hl => (k.out g (.inr hg) (Nat.lt_of_lt_of_le hl h.1)).trans (h.2 g hg hl)⟩
theorem SI.of_agree {w w' : World} {lo hi : Nat} {a : Option Addr} {n : Nat} (h : SI w lo hi a n) (k : Agree lo w w') : SI w' lo hi a n := by
  rcases h with h | ⟨g, cur, ha, hl, hh, hb, hc⟩
  · exact .inl h
  · exact .inr ⟨g, cur, ha, hl, hh, (k.2 g hl (Array.getElem?_eq_some_iff.1 hb).1).trans hb, hc⟩
set_option maxHeartbeats 8000000 in
set_option maxRecDepth 100000 in
theorem fnExactMachineRun_core (lo : Nat) (d : ProgD) (s1 : Option Addr) (c1 : Nat) (s2 : Option Addr) (c2 : Nat) (s3 : Option Addr) (c3 : Nat) (s4 : Option Addr) (c4 : Nat) (args : List Int) (mem : ByteArray) (fuel : Int) (w : World) (k1 : IntsAt w lo s1 d.params) (k2 : IntsAt w lo s2 d.widths) (k3 : MinsAt w lo s3 d.code) (k4 : IntsAt w lo s4 args) (hms : mem.size ≤ maxLen) :
    Calls Try.prog 5 #[.agg #[.int .i64 d.regs, .slice s1 d.params.length c1, .slice s2 d.widths.length c2, .slice s3 d.code.length c3], .slice s4 args.length c4, .string mem, .int .i64 fuel] w fun e w' => e = .returned (.bool true) ∧ Below w.heap.size w w' := by
  have hms : mem.size ≤ 9223372036854775807 := by simpa [maxLen] using hms
  have g4 := k4.1
  have X0 := BoxP.new w d s1 c1 s2 c2 s3 c3 25
  have B0 : Below w.heap.size w (w.alloc (.cells #[.int .i64 d.regs, .slice s1 d.params.length c1, .slice s2 d.widths.length c2, .slice s3 d.code.length c3] 25)) := (Below.refl _ w).alloc (Nat.le_refl _) _
  have z0 : w.heap.size < (w.alloc (.cells #[.int .i64 d.regs, .slice s1 d.params.length c1, .slice s2 d.widths.length c2, .slice s3 d.code.length c3] 25)).heap.size := by simp
  by_cases ha : args.length ≤ 1048576
  case neg =>
    have ha2 : (1048576 : Int) < args.length := by omega
    go_enter Try.func5, Try.ntmps5
    go_wp2_with fail
    go_ret
    exact ⟨rfl, B0⟩
  have ha2 : ¬ (1048576 : Int) < args.length := by omega
  by_cases hm : mem.size ≤ 1048576
  case neg =>
    have hm2 : (1048576 : Int) < mem.size := by omega
    go_enter Try.func5, Try.ntmps5
    go_wp2_with fail
    go_ret
    exact ⟨rfl, B0⟩
  have hm2 : ¬ (1048576 : Int) < mem.size := by omega
  go_enter Try.func5, Try.ntmps5
  go_upto_region 6 with fail
  generalize hA0 : w.alloc (.cells #[.int .i64 d.regs, .slice s1 d.params.length c1, .slice s2 d.widths.length c2, .slice s3 d.code.length c3] 25) = A0 at X0 B0 z0 ⊢
  clear hA0 ha2 hm2
  have K1 := k1.keep (agree_of_below B0 lo)
  have K2 := k2.keep (agree_of_below B0 lo)
  have K3 := k3.keep (agree_of_below B0 lo)
  have K4 := k4.keep (agree_of_below B0 lo)
  have HB0 : Hid (Below w.heap.size w A0) := B0
  have HX0 : Hid (BoxP A0 w.heap.size d s1 c1 s2 c2 s3 c3) := X0
  clear k1 k2 k3 k4 B0
  obtain ⟨_, y0, y1, y2, y3⟩ := X0
  go_wp2_with fail
  refine (szProgram_any d s1 s2 s3 c1 c2 c3 _ _ (by omega) (by omega) K1.1 K2.1 K3.1).mono ?_
  rintro e w1 ⟨rfl, P1⟩
  clear y0 y1 y2 y3
  obtain ⟨_, y0, y1, y2, y3⟩ := HX0.out.below P1
  by_cases hz : szProg d 1048576 < 0
  · go_wp2_with fail
    go_ret
    exact ⟨rfl, HB0.out.trans (P1.mono HB0.out.size)⟩
  · have hs := szProg_small (by omega) (show 0 ≤ szProg d 1048576 by omega)
    have hr30 := machR_len d args mem fuel
    go_wp2_with fail
    refine (toProgram_own lo d s1 c1 s2 c2 s3 c3 _ hs (K1.keep (agree_of_below P1 lo)) (K2.keep (agree_of_below P1 lo)) (K3.keep (agree_of_below P1 lo))).mono ?_
    rintro e w2 ⟨v1, q1, v2, q2, v3, q3, rfl, n1, n2, n3, hb2⟩
    have P2 := P1.trans (hb2.mono P1.size)
    clear y0 y1 y2 y3
    go_wp2_with fail
    refine (toInts_own lo _ _ _ _ ha (K4.keep (agree_of_below P2 lo))).mono ?_
    rintro e w3 ⟨v4, q4, rfl, n4, hb3⟩
    have P3 := P2.trans (hb3.mono P2.size)
    go_wp2_with fail
    refine (machS w1.heap.size d v1 q1 v2 q2 v3 q3 v4 q4 args mem fuel w3 (n1.at.keep (agree_of_below hb3 _)) (n2.at.keep (agree_of_below hb3 _)) (n3.at.keep (agree_of_below hb3 _)) (n4.at.low hb2.size) hm).mono ?_
    have MI := fun (lo : Nat) (s1 s2 s3 s4 : Option Addr) (c1 c2 c3 c4 : Nat) (w : World) (k1 : IntsAt w lo s1 d.params) (k2 : IntsAt w lo s2 d.widths) (k3 : MinsAt w lo s3 d.code) (k4 : IntsAt w lo s4 args) => machI lo d s1 c1 s2 c2 s3 c3 s4 c4 args mem fuel w k1 k2 k3 k4 hm
    generalize machR d args mem fuel = r at hr30 MI ⊢
    rintro e w4 ⟨⟨u, q, rfl, hO⟩, hb4⟩
    unfold resA
    have P4 := P3.trans (hb4.mono P3.size)
    have OW := own_oi (by omega) hO
    clear hO n1 n2 n3 n4 hb2 hb3 hb4 P1 P2 P3
    go_upto_region 10 with fail
    have PA : Below A0.heap.size A0 (w4.alloc (.cells #[.int .i64 r.code, .int .i64 r.value, .slice u r.out.length q, .string r.mem, .int .i64 r.steps] 36)) := P4.alloc P4.size _
    have RW : (w4.alloc (.cells #[.int .i64 r.code, .int .i64 r.value, .slice u r.out.length q, .string r.mem, .int .i64 r.steps] 36)).heap[w4.heap.size]? = some (.cells #[.int .i64 r.code, .int .i64 r.value, .slice u r.out.length q, .string r.mem, .int .i64 r.steps] 36 (0, 0)) := heap_alloc_at _ _
    have zA : w4.heap.size < (w4.alloc (.cells #[.int .i64 r.code, .int .i64 r.value, .slice u r.out.length q, .string r.mem, .int .i64 r.steps] 36)).heap.size := by simp
    have OW1 := OW.at.keep (agree_alloc w4 (.cells #[.int .i64 r.code, .int .i64 r.value, .slice u r.out.length q, .string r.mem, .int .i64 r.steps] 36) _)
    generalize hA1 : w4.alloc (.cells #[.int .i64 r.code, .int .i64 r.value, .slice u r.out.length q, .string r.mem, .int .i64 r.steps] 36) = A1 at PA RW zA OW1 ⊢
    clear hA1 P4 OW
    have HRW : Hid (A1.heap[w4.heap.size]? = some (.cells #[.int .i64 r.code, .int .i64 r.value, .slice u r.out.length q, .string r.mem, .int .i64 r.steps] 36 (0, 0))) := RW
    clear RW
    obtain ⟨_, y0, y1, y2, y3⟩ := HX0.out.below PA
    go_wp2_with fail
    refine (toProgram_own lo d s1 c1 s2 c2 s3 c3 _ hs (K1.keep (agree_of_below PA lo)) (K2.keep (agree_of_below PA lo)) (K3.keep (agree_of_below PA lo))).mono ?_
    rintro e w5 ⟨x1, r1, x2, r2, x3, r3, rfl, m1, m2, m3, hb5⟩
    clear y0 y1 y2 y3
    go_upto_region 11 with fail
    have Q5 : Below A1.heap.size A1 (w5.alloc (.cells #[.int .i64 d.regs, .slice x1 d.params.length r1, .slice x2 d.widths.length r2, .slice x3 d.code.length r3] 30)) := hb5.alloc hb5.size _
    have XB := BoxP.new w5 d x1 r1 x2 r2 x3 r3 30
    have m1' := m1.keep (agree_alloc w5 (.cells #[.int .i64 d.regs, .slice x1 d.params.length r1, .slice x2 d.widths.length r2, .slice x3 d.code.length r3] 30) _)
    have m2' := m2.keep (agree_alloc w5 (.cells #[.int .i64 d.regs, .slice x1 d.params.length r1, .slice x2 d.widths.length r2, .slice x3 d.code.length r3] 30) _)
    have m3' := m3.keep (agree_alloc w5 (.cells #[.int .i64 d.regs, .slice x1 d.params.length r1, .slice x2 d.widths.length r2, .slice x3 d.code.length r3] 30) _)
    generalize hA5 : w5.alloc (.cells #[.int .i64 d.regs, .slice x1 d.params.length r1, .slice x2 d.widths.length r2, .slice x3 d.code.length r3] 30) = A5 at Q5 XB m1' m2' m3' ⊢
    clear hA5 m1 m2 m3
    have P5 := PA.trans (Q5.mono PA.size)
    go_wp2_with fail
    refine (toInts_own lo _ _ _ _ ha (K4.keep (agree_of_below P5 lo))).mono ?_
    rintro e w6 ⟨x4, r4, rfl, m4, hb6⟩
    have Q6 := Q5.trans (hb6.mono Q5.size)
    have o1 := m1'.keep (agree_of_below hb6 _)
    have o2 := m2'.keep (agree_of_below hb6 _)
    have o3 := m3'.keep (agree_of_below hb6 _)
    have o4 := m4.low Q5.size
    have XB6 := XB.below hb6
    clear m1' m2' m3' m4 XB P5 hb5 hb6 Q5
    have HXB6 : Hid (BoxP w6 w5.heap.size d x1 r1 x2 r2 x3 r3) := XB6
    obtain ⟨_, f0, f1, f2, f3⟩ := XB6
    go_wp2_with fail
    refine (MI A1.heap.size x1 x2 x3 x4 r1 r2 r3 r4 w6 o1.at o2.at o3.at o4.at).mono ?_
    rintro e w7 ⟨⟨u7, q7, rfl, hO7⟩, hb7⟩
    unfold resA
    have OG := own_oi (by omega) hO7
    clear f0 f1 f2 f3 hO7
    go_upto_region 13 with fail
    have Q3 : Below w6.heap.size w6 (w7.alloc (.cells #[.int .i64 r.code, .int .i64 r.value, .slice u7 r.out.length q7, .string r.mem, .int .i64 r.steps] 36)) := hb7.alloc hb7.size _
    have RG : (w7.alloc (.cells #[.int .i64 r.code, .int .i64 r.value, .slice u7 r.out.length q7, .string r.mem, .int .i64 r.steps] 36)).heap[w7.heap.size]? = some (.cells #[.int .i64 r.code, .int .i64 r.value, .slice u7 r.out.length q7, .string r.mem, .int .i64 r.steps] 36 (0, 0)) := heap_alloc_at _ _
    have zG : w7.heap.size < (w7.alloc (.cells #[.int .i64 r.code, .int .i64 r.value, .slice u7 r.out.length q7, .string r.mem, .int .i64 r.steps] 36)).heap.size := by simp
    have SG0 := OG.sh.of_agree (agree_alloc w7 (.cells #[.int .i64 r.code, .int .i64 r.value, .slice u7 r.out.length q7, .string r.mem, .int .i64 r.steps] 36) w6.heap.size)
    have OG3 := OG.keep (agree_alloc w7 (.cells #[.int .i64 r.code, .int .i64 r.value, .slice u7 r.out.length q7, .string r.mem, .int .i64 r.steps] 36) _)
    generalize hA3 : w7.alloc (.cells #[.int .i64 r.code, .int .i64 r.value, .slice u7 r.out.length q7, .string r.mem, .int .i64 r.steps] 36) = A3 at Q3 RG zG OG3 SG0 ⊢
    clear hA3 OG
    have HRG : Hid (A3.heap[w7.heap.size]? = some (.cells #[.int .i64 r.code, .int .i64 r.value, .slice u7 r.out.length q7, .string r.mem, .int .i64 r.steps] 36 (0, 0))) := RG
    have z67 := hb7.size
    clear hb7 RG
    have B3 := Q6.trans (Q3.mono Q6.size)
    have RG := HRG.out
    have RW := (B3.block w4.heap.size zA).trans HRW.out
    have a0 := (cell_of_heap (o := 0) RG).trans rfl
    have a1 := (cell_of_heap (o := 1) RG).trans rfl
    have a2 := (cell_of_heap (o := 2) RG).trans rfl
    have a3 := (cell_of_heap (o := 3) RG).trans rfl
    have a4 := (cell_of_heap (o := 4) RG).trans rfl
    have b0 := (cell_of_heap (o := 0) RW).trans rfl
    have b1 := (cell_of_heap (o := 1) RW).trans rfl
    have b2 := (cell_of_heap (o := 2) RW).trans rfl
    have b3 := (cell_of_heap (o := 3) RW).trans rfl
    have b4 := (cell_of_heap (o := 4) RW).trans rfl
    clear RG RW
    go_wp2_with fail
    refine (eqRes w6.heap.size w3.heap.size r u7 q7 u q _ OG3.at (OW1.keep (agree_of_below B3 _))).mono ?_
    rintro e w8 ⟨rfl, hb8⟩
    clear a0 a1 a2 a3 a4
    clear b0 b1 b2 b3 b4
    have Q8 := Q3.trans (hb8.mono Q3.size)
    have D8 := hb8
    have B8 := Q6.trans (Q8.mono Q6.size)
    have P8 := PA.trans (B8.mono PA.size)
    have Y5 := HX0.out.below P8
    have X5 := HXB6.out.below Q8
    have n1 := o1.at.keep (agree_of_below Q8 _)
    have n2 := o2.at.keep (agree_of_below Q8 _)
    have n3 := o3.at.keep (agree_of_below Q8 _)
    have L1 := K1.keep (agree_of_below P8 lo)
    have L2 := K2.keep (agree_of_below P8 lo)
    have L3 := K3.keep (agree_of_below P8 lo)
    obtain ⟨_, y0, y1, y2, y3⟩ := Y5.below (Below.refl _ _).drew
    obtain ⟨_, x0, x1', x2', x3'⟩ := X5.below (Below.refl _ _).drew
    clear hb8
    go_wp2_with fail
    go_region_held2 (fun w' => w'.cell? ⟨w.heap.size, 0, none⟩ = some (.int .i64 d.regs) ∧ w'.cell? ⟨w.heap.size, 1, none⟩ = some (.slice s1 d.params.length c1) ∧ w'.cell? ⟨w.heap.size, 2, none⟩ = some (.slice s2 d.widths.length c2) ∧ w'.cell? ⟨w.heap.size, 3, none⟩ = some (.slice s3 d.code.length c3) ∧ w'.cell? ⟨w5.heap.size, 0, none⟩ = some (.int .i64 d.regs) ∧ w'.cell? ⟨w5.heap.size, 1, none⟩ = some (.slice x1 d.params.length r1) ∧ w'.cell? ⟨w5.heap.size, 2, none⟩ = some (.slice x2 d.widths.length r2) ∧ w'.cell? ⟨w5.heap.size, 3, none⟩ = some (.slice x3 d.code.length r3)) (first | with_reducible exact ⟨y0, y1, y2, y3, x0, x1', x2', x3'⟩ | with_reducible exact ⟨p0, p1, p2, p3, r0', r1', r2', r3'⟩ | with_reducible exact ⟨g0, g1, g2, g3, h0, h1, h2, h3⟩) (first | (go_at_call 8; refine (toProgram_any lo d s1 c1 s2 c2 s3 c3 _ hs (by exact L1) (by exact L2) (by exact L3)).mono ?_; rintro e wA ⟨t1, o1t, t2, o2t, t3, o3t, rfl, l1, l2, l3, hbA⟩; have hbA := bel_drewM hbA; obtain ⟨_, p0, p1, p2, p3⟩ := Y5.below hbA; obtain ⟨_, r0', r1', r2', r3'⟩ := X5.below hbA) | (go_at_call 10; refine (eqProgram_any _ _ d x1 r1 x2 r2 x3 r3 t1 o1t t2 o2t t3 o3t _ (n1.keep (agree_of_below hbA _)) (n2.keep (agree_of_below hbA _)) (n3.keep (agree_of_below hbA _)) l1 l2 l3).mono ?_; rintro e wB ⟨rfl, hbB⟩; obtain ⟨_, g0, g1, g2, g3⟩ := (Y5.below hbA).below hbB; obtain ⟨_, h0, h1, h2, h3⟩ := (X5.below hbA).below hbB))
    all_goals
      have hb58 : Below w8.heap.size w8 wB := hbA.trans (hbB.mono hbA.size)
      clear y0 y1 y2 y3 x0 x1' x2' x3' n1 n2 n3 L1 L2 L3 Y5 X5 l1 l2 l3
      have QB := Q8.trans (hb58.mono Q8.size)
      have DB := D8.trans (hb58.mono D8.size)
      have BB := Q6.trans (QB.mono Q6.size)
      have PB := PA.trans (BB.mono PA.size)
      clear Q8 B8 P8 D8 hb58 hbA hbB
      go_wp2_with fail
      refine (toInts_own lo _ _ _ _ ha (K4.keep (agree_of_below PB lo))).mono ?_
      rintro e wC ⟨v9, q9, rfl, n9, hbC⟩
      have QC := QB.trans (hbC.mono QB.size)
      have DC := DB.trans (hbC.mono DB.size)
      go_wp2_with fail
      refine (eqInts_any A1.heap.size _ _ _ _ _ _ _ (o4.at.keep (agree_of_below QC _)) n9.at).mono ?_
      rintro e wD ⟨rfl, hbD⟩
      have QD := QC.trans (hbD.mono QC.size)
      have DD := DC.trans (hbD.mono DC.size)
      clear n9 hbC hbD QB DB BB PB QC DC
      obtain ⟨_, f0, f1, f2, f3⟩ := HXB6.out.below QD
      go_wp2_with fail
      refine (markProg A1.heap.size w6.heap.size d x1 r1 x2 r2 x3 r3 _ hs QD.size (o1.sh.keep (hdr_below QD)) (o2.sh.keep (hdr_below QD)) (o3.sh.keep (hdr_below QD))).mono ?_
      rintro e wE ⟨rfl, h1⟩
      clear f0 f1 f2 f3
      have H1 := (hdr_below (lo := A1.heap.size) (hi := w6.heap.size) QD).trans h1
      go_wp2_with fail
      refine (markInts A1.heap.size w6.heap.size _ _ _ _ _ ha (by omega) (by obtain ⟨b1, b2, b3⟩ := hs; omega) (o4.sh.keep H1)).mono ?_
      rintro e wF ⟨rfl, h2⟩
      have hD := h1.trans h2
      have BD := Q6.trans (QD.mono Q6.size)
      have BF : Below A1.heap.size A1 wF := below_hdr BD hD (Nat.le_refl _) BD.size
      have AF : Agree w6.heap.size A3 wF := agree_hi (agree_of_below DD _) hD
      have hk : ¬ (1 + (d.params.length : Int) + d.widths.length + 7 * d.code.length + args.length) < 0 := by omega
      clear H1 h1 h2 hD BD QD DD
      have RG := (AF.2 w7.heap.size (by omega) zG).trans HRG.out
      have RW := (BF.block w4.heap.size zA).trans HRW.out
      have a0 := (cell_of_heap (o := 0) RG).trans rfl
      have a1 := (cell_of_heap (o := 1) RG).trans rfl
      have a2 := (cell_of_heap (o := 2) RG).trans rfl
      have a3 := (cell_of_heap (o := 3) RG).trans rfl
      have a4 := (cell_of_heap (o := 4) RG).trans rfl
      have b0 := (cell_of_heap (o := 0) RW).trans rfl
      have b1 := (cell_of_heap (o := 1) RW).trans rfl
      have b2 := (cell_of_heap (o := 2) RW).trans rfl
      have b3 := (cell_of_heap (o := 3) RW).trans rfl
      have b4 := (cell_of_heap (o := 4) RW).trans rfl
      clear RG RW
      go_wp2_with fail
      refine (eqRes w6.heap.size w3.heap.size r u7 q7 u q _ (OG3.keep AF).at (OW1.keep (agree_of_below BF _))).mono ?_
      rintro e wG ⟨rfl, hbG⟩
      clear a0 a1 a2 a3 a4
      clear b0 b1 b2 b3 b4
      have BG := BF.trans (hbG.mono BF.size)
      have AG := AF.trans (agree_of_below hbG _)
      clear BF AF hbG hk
      have RG := (AG.2 w7.heap.size (by omega) zG).trans HRG.out
      have a0 := (cell_of_heap (o := 0) RG).trans rfl
      have a1 := (cell_of_heap (o := 1) RG).trans rfl
      have a2 := (cell_of_heap (o := 2) RG).trans rfl
      have a3 := (cell_of_heap (o := 3) RG).trans rfl
      have a4 := (cell_of_heap (o := 4) RG).trans rfl
      have OGG := OG3.keep AG
      have SG : SI wG w6.heap.size w7.heap.size u7 r.out.length := SG0.of_agree AG
      go_wp2_with fail
      refine (markRes w6.heap.size w7.heap.size r u7 q7 _ (by omega) OGG SG).mono ?_
      rintro e wH ⟨rfl, OH, hH⟩
      clear a0 a1 a2 a3 a4
      have zG2 : w7.heap.size < wG.heap.size := Nat.lt_of_lt_of_le zG AG.1
      have RH := (hH.out w7.heap.size (.inr (Nat.le_refl _)) zG2).trans RG
      have BH : Below A1.heap.size A1 wH := below_hdr BG hH Q6.size BG.size
      have HRH : Hid (wH.heap[w7.heap.size]? = some (.cells #[.int .i64 r.code, .int .i64 r.value, .slice u7 r.out.length q7, .string r.mem, .int .i64 r.steps] 36 (0, 0))) := RH
      have zH := Nat.lt_of_lt_of_le zG2 hH.size
      clear RG OGG SG AG BG hH zG2
      have a0 := (cell_of_heap (o := 0) RH).trans rfl
      have a1 := (cell_of_heap (o := 1) RH).trans rfl
      have a2 := (cell_of_heap (o := 2) RH).trans rfl
      have a3 := (cell_of_heap (o := 3) RH).trans rfl
      have a4 := (cell_of_heap (o := 4) RH).trans rfl
      clear RH
      go_wp2_with fail
      refine (heldRes w6.heap.size r u7 q7 _ (by omega) OH.at).mono ?_
      rintro e wI ⟨rfl, hbI⟩
      clear a0 a1 a2 a3 a4
      have hn1 : ¬ (1 + (r.out.length : Int)) < 0 := by omega
      have BI := BH.trans (hbI.mono BH.size)
      have PI := PA.trans (BI.mono PA.size)
      have YI := HX0.out.below PI
      obtain ⟨_, y0, y1, y2, y3⟩ := YI
      go_wp2_with fail
      refine (toProgram_own lo d s1 c1 s2 c2 s3 c3 _ hs (K1.keep (agree_of_below PI lo)) (K2.keep (agree_of_below PI lo)) (K3.keep (agree_of_below PI lo))).mono ?_
      rintro e wJ ⟨v1, q1, v2, q2, v3, q3, rfl, n1, n2, n3, hbJ⟩
      have PJ := PI.trans (hbJ.mono PI.size)
      have EJ := hbI.trans (hbJ.mono hbI.size)
      clear y0 y1 y2 y3
      go_wp2_with fail
      refine (toInts_own lo _ _ _ _ ha (K4.keep (agree_of_below PJ lo))).mono ?_
      rintro e wK ⟨v4, q4, rfl, n4, hbK⟩
      have EK := EJ.trans (hbK.mono EJ.size)
      go_wp2_with fail
      refine (MI wI.heap.size v1 v2 v3 v4 q1 q2 q3 q4 wK (n1.at.keep (agree_of_below hbK _)) (n2.at.keep (agree_of_below hbK _)) (n3.at.keep (agree_of_below hbK _)) (n4.at.low hbJ.size)).mono ?_
      rintro e wL ⟨⟨u9, q9, rfl, hO9⟩, hbL⟩
      unfold resA
      have OL := own_oi (by omega) hO9
      have EL := EK.trans (hbL.mono EK.size)
      clear hO9 n1 n2 n3 n4 hbJ hbK PJ EJ EK BI PI hbI
      go_upto_region 33 with fail
      have EM : Below wH.heap.size wH (wL.alloc (.cells #[.int .i64 r.code, .int .i64 r.value, .slice u9 r.out.length q9, .string r.mem, .int .i64 r.steps] 36)) := EL.alloc EL.size _
      have RL : (wL.alloc (.cells #[.int .i64 r.code, .int .i64 r.value, .slice u9 r.out.length q9, .string r.mem, .int .i64 r.steps] 36)).heap[wL.heap.size]? = some (.cells #[.int .i64 r.code, .int .i64 r.value, .slice u9 r.out.length q9, .string r.mem, .int .i64 r.steps] 36 (0, 0)) := heap_alloc_at _ _
      have OM := OL.keep (agree_alloc wL (.cells #[.int .i64 r.code, .int .i64 r.value, .slice u9 r.out.length q9, .string r.mem, .int .i64 r.steps] 36) _)
      generalize hAM : wL.alloc (.cells #[.int .i64 r.code, .int .i64 r.value, .slice u9 r.out.length q9, .string r.mem, .int .i64 r.steps] 36) = wM at EM RL OM ⊢
      clear hAM OL EL hbL
      have BM := BH.trans (EM.mono BH.size)
      have RW := (BM.block w4.heap.size zA).trans HRW.out
      have a0 := (cell_of_heap (o := 0) RL).trans rfl
      have a1 := (cell_of_heap (o := 1) RL).trans rfl
      have a2 := (cell_of_heap (o := 2) RL).trans rfl
      have a3 := (cell_of_heap (o := 3) RL).trans rfl
      have a4 := (cell_of_heap (o := 4) RL).trans rfl
      have b0 := (cell_of_heap (o := 0) RW).trans rfl
      have b1 := (cell_of_heap (o := 1) RW).trans rfl
      have b2 := (cell_of_heap (o := 2) RW).trans rfl
      have b3 := (cell_of_heap (o := 3) RW).trans rfl
      have b4 := (cell_of_heap (o := 4) RW).trans rfl
      clear RL RW
      go_wp2_with fail
      refine (eqRes wK.heap.size w3.heap.size r u9 q9 u q _ OM.at (OW1.keep (agree_of_below BM _))).mono ?_
      rintro e wN ⟨rfl, hbN⟩
      clear a0 a1 a2 a3 a4
      clear b0 b1 b2 b3 b4
      have EN := EM.trans (hbN.mono EM.size)
      have BN := BM.trans (hbN.mono BM.size)
      have RG := (EN.block w7.heap.size zH).trans HRH.out
      have a0 := (cell_of_heap (o := 0) RG).trans rfl
      have a1 := (cell_of_heap (o := 1) RG).trans rfl
      have a2 := (cell_of_heap (o := 2) RG).trans rfl
      have a3 := (cell_of_heap (o := 3) RG).trans rfl
      have a4 := (cell_of_heap (o := 4) RG).trans rfl
      clear RG
      go_wp2_with fail
      refine (heldRes w6.heap.size r u7 q7 _ (by omega) (OH.at.keep (agree_of_below EN _))).mono ?_
      rintro e wO ⟨rfl, hbO⟩
      have BO := BN.trans (hbO.mono BN.size)
      have PO := PA.trans (BO.mono PA.size)
      go_wp2_with fail
      go_ret
      exact ⟨rfl, HB0.out.trans (PO.mono HB0.out.size)⟩
end Go.Proofs.Ytofgfiakccjimaa
