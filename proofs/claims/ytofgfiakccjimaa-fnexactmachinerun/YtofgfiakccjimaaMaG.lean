/- A machine: it runs to its end. -/
import Derived.Test.YtofgfiakccjimaaMaF
import Derived.Test.YtofgfiakccjimaaJmp
import Derived.BigRegion
import Derived.Deep.DeepCutAuto
namespace Go.Proofs.Ytofgfiakccjimaa
open Go.RowKit
set_option linter.unusedVariables false
set_option linter.unusedSimpArgs false

theorem getD_some {t : Array Value} {k : Nat} (h : k < t.size) : t.getD k undef = t[k] := by simp [Array.getD, h]
theorem frame60 (t : Array Value) (h : t.size = 60) : t = #[t.getD 0 undef, t.getD 1 undef, t.getD 2 undef, t.getD 3 undef, t.getD 4 undef, t.getD 5 undef, t.getD 6 undef, t.getD 7 undef, t.getD 8 undef, t.getD 9 undef, t.getD 10 undef, t.getD 11 undef, t.getD 12 undef, t.getD 13 undef, t.getD 14 undef, t.getD 15 undef, t.getD 16 undef, t.getD 17 undef, t.getD 18 undef, t.getD 19 undef, t.getD 20 undef, t.getD 21 undef, t.getD 22 undef, t.getD 23 undef, t.getD 24 undef, t.getD 25 undef, t.getD 26 undef, t.getD 27 undef, t.getD 28 undef, t.getD 29 undef, t.getD 30 undef, t.getD 31 undef, t.getD 32 undef, t.getD 33 undef, t.getD 34 undef, t.getD 35 undef, t.getD 36 undef, t.getD 37 undef, t.getD 38 undef, t.getD 39 undef, t.getD 40 undef, t.getD 41 undef, t.getD 42 undef, t.getD 43 undef, t.getD 44 undef, t.getD 45 undef, t.getD 46 undef, t.getD 47 undef, t.getD 48 undef, t.getD 49 undef, t.getD 50 undef, t.getD 51 undef, t.getD 52 undef, t.getD 53 undef, t.getD 54 undef, t.getD 55 undef, t.getD 56 undef, t.getD 57 undef, t.getD 58 undef, t.getD 59 undef] := by
  apply Array.ext
  · rw [h]; rfl
  · intro i h1 h2
    have h3 : i < 60 := by omega
    match i, h1, h2, h3 with
    | 0, h1, _, _ => exact (getD_some h1).symm
    | 1, h1, _, _ => exact (getD_some h1).symm
    | 2, h1, _, _ => exact (getD_some h1).symm
    | 3, h1, _, _ => exact (getD_some h1).symm
    | 4, h1, _, _ => exact (getD_some h1).symm
    | 5, h1, _, _ => exact (getD_some h1).symm
    | 6, h1, _, _ => exact (getD_some h1).symm
    | 7, h1, _, _ => exact (getD_some h1).symm
    | 8, h1, _, _ => exact (getD_some h1).symm
    | 9, h1, _, _ => exact (getD_some h1).symm
    | 10, h1, _, _ => exact (getD_some h1).symm
    | 11, h1, _, _ => exact (getD_some h1).symm
    | 12, h1, _, _ => exact (getD_some h1).symm
    | 13, h1, _, _ => exact (getD_some h1).symm
    | 14, h1, _, _ => exact (getD_some h1).symm
    | 15, h1, _, _ => exact (getD_some h1).symm
    | 16, h1, _, _ => exact (getD_some h1).symm
    | 17, h1, _, _ => exact (getD_some h1).symm
    | 18, h1, _, _ => exact (getD_some h1).symm
    | 19, h1, _, _ => exact (getD_some h1).symm
    | 20, h1, _, _ => exact (getD_some h1).symm
    | 21, h1, _, _ => exact (getD_some h1).symm
    | 22, h1, _, _ => exact (getD_some h1).symm
    | 23, h1, _, _ => exact (getD_some h1).symm
    | 24, h1, _, _ => exact (getD_some h1).symm
    | 25, h1, _, _ => exact (getD_some h1).symm
    | 26, h1, _, _ => exact (getD_some h1).symm
    | 27, h1, _, _ => exact (getD_some h1).symm
    | 28, h1, _, _ => exact (getD_some h1).symm
    | 29, h1, _, _ => exact (getD_some h1).symm
    | 30, h1, _, _ => exact (getD_some h1).symm
    | 31, h1, _, _ => exact (getD_some h1).symm
    | 32, h1, _, _ => exact (getD_some h1).symm
    | 33, h1, _, _ => exact (getD_some h1).symm
    | 34, h1, _, _ => exact (getD_some h1).symm
    | 35, h1, _, _ => exact (getD_some h1).symm
    | 36, h1, _, _ => exact (getD_some h1).symm
    | 37, h1, _, _ => exact (getD_some h1).symm
    | 38, h1, _, _ => exact (getD_some h1).symm
    | 39, h1, _, _ => exact (getD_some h1).symm
    | 40, h1, _, _ => exact (getD_some h1).symm
    | 41, h1, _, _ => exact (getD_some h1).symm
    | 42, h1, _, _ => exact (getD_some h1).symm
    | 43, h1, _, _ => exact (getD_some h1).symm
    | 44, h1, _, _ => exact (getD_some h1).symm
    | 45, h1, _, _ => exact (getD_some h1).symm
    | 46, h1, _, _ => exact (getD_some h1).symm
    | 47, h1, _, _ => exact (getD_some h1).symm
    | 48, h1, _, _ => exact (getD_some h1).symm
    | 49, h1, _, _ => exact (getD_some h1).symm
    | 50, h1, _, _ => exact (getD_some h1).symm
    | 51, h1, _, _ => exact (getD_some h1).symm
    | 52, h1, _, _ => exact (getD_some h1).symm
    | 53, h1, _, _ => exact (getD_some h1).symm
    | 54, h1, _, _ => exact (getD_some h1).symm
    | 55, h1, _, _ => exact (getD_some h1).symm
    | 56, h1, _, _ => exact (getD_some h1).symm
    | 57, h1, _, _ => exact (getD_some h1).symm
    | 58, h1, _, _ => exact (getD_some h1).symm
    | 59, h1, _, _ => exact (getD_some h1).symm
    | n + 60, _, _, h3 => exact absurd h3 (by omega)
theorem frame_f (t : Array Value) (h : t.size = 60) : ∃ f : Nat → Value, t = #[f 0, f 1, f 2, f 3, f 4, f 5, f 6, f 7, f 8, f 9, f 10, f 11, f 12, f 13, f 14, f 15, f 16, f 17, f 18, f 19, f 20, f 21, f 22, f 23, f 24, f 25, f 26, f 27, f 28, f 29, f 30, f 31, f 32, f 33, f 34, f 35, f 36, f 37, f 38, f 39, f 40, f 41, f 42, f 43, f 44, f 45, f 46, f 47, f 48, f 49, f 50, f 51, f 52, f 53, f 54, f 55, f 56, f 57, f 58, f 59] := ⟨fun k => t.getD k undef, frame60 t h⟩
theorem then_goto {K : Act → World → Prop} {Q : Exit → Act → World → Prop} {l : Nat} {a : Act} {w : World} (h : Q (.goto l) a w) : Exit.then K Q (.goto l) a w := h
structure MOut where
  code : Int
  value : Int
  st : MSt
/-- So many steps at most. -/
def runM (code : List MInsD) : Nat → MSt → MOut
  | 0, s => ⟨4, 0, s⟩
  | n + 1, s =>
    if (code.getD s.pc.toNat mins0).op = 31 then runM code n { s with steps := s.steps + 1, pc := (code.getD s.pc.toNat mins0).imm }
    else if (code.getD s.pc.toNat mins0).op = 32 then (if (rg s (code.getD s.pc.toNat mins0).a % 2 == 1) = true then runM code n { s with steps := s.steps + 1, pc := (code.getD s.pc.toNat mins0).imm } else runM code n { s with steps := s.steps + 1, pc := s.pc + 1 })
    else if (code.getD s.pc.toNat mins0).op = 33 then ⟨0, maskZ (code.getD s.pc.toNat mins0).w (rg s (code.getD s.pc.toNat mins0).a), { s with steps := s.steps + 1, pc := s.pc + 1 }⟩
    else if (code.getD s.pc.toNat mins0).op = 34 then ⟨3, 0, { s with steps := s.steps + 1, pc := s.pc + 1 }⟩
    else if (workM (code.getD s.pc.toNat mins0) { s with steps := s.steps + 1, pc := s.pc + 1 }).1 = 0 then runM code n (workM (code.getD s.pc.toNat mins0) { s with steps := s.steps + 1, pc := s.pc + 1 }).2
    else ⟨(workM (code.getD s.pc.toNat mins0) { s with steps := s.steps + 1, pc := s.pc + 1 }).1, 0, { s with steps := s.steps + 1, pc := s.pc + 1 }⟩
/-- The steps that a machine in block M has made. -/
def stepsIn (W : World) (M : Nat) : Nat := match W.cell? ⟨M, 34, none⟩ with
  | some (.int _ n) => n.toNat
  | _ => 0
theorem steps_of {W : World} {M B : Nat} {s : MSt} {fuel : Int} {cv : Value} (h : MachAt W M B s fuel cv) : stepsIn W M = s.steps.toNat := by
  obtain ⟨_, _, cur, ov, hb, hr, _⟩ := h
  simp only [stepsIn, (cell_of_heap (o := 34) hb).trans hr.steps]
theorem set_os (w : World) (a : Addr) (v : Value) : (w.setCell a v).os = w.os := rfl
theorem set_tape (w : World) (a : Addr) (v : Value) : (w.setCell a v).tape = w.tape := rfl
theorem set_output (w : World) (a : Addr) (v : Value) : (w.setCell a v).output = w.output := rfl
theorem drew_os (w : World) : w.drew.os = w.os := rfl
theorem drew_tape (w : World) : w.drew.tape = w.tape := rfl
theorem drew_output (w : World) : w.drew.output = w.output := rfl
theorem drew_size (w : World) : w.drew.heap.size = w.heap.size := rfl
theorem set_size (w : World) (a : Addr) (v : Value) : (w.setCell a v).heap.size = w.heap.size := by simp [World.setCell]
theorem drew_at (w : World) (k : Nat) : w.drew.heap[k]? = w.heap[k]? := rfl
theorem jump_imm {i : MInsD} {R n : Int} (h1 : 1 ≤ R) (h : minsB i R n = true) (e : i.op = 31 ∨ i.op = 32) : 0 ≤ i.imm ∧ i.imm < n := by
  rw [← mins_asks i R n h1] at h
  simp at h
  obtain ⟨_, _, hm⟩ := h
  rw [miB, if_neg (by omega), if_pos e] at hm
  exact below_yes hm
set_option maxHeartbeats 2000000 in
theorem fetched {w2 : World} {M X : Nat} {cur : Array Value} {i i' : MInsD} {v : Value} {T T1 : TypeId} (hM : M < X) (hx : w2.heap[X]? = some (.cells #[.int .i64 i'.op, .int .i64 i'.w, .int .i64 i'.d, .int .i64 i'.a, .int .i64 i'.b, .int .i64 i'.c, .int .i64 i'.imm] T (0, 0))) (hb : w2.heap[M]? = some (.cells cur T1 (0, 0))) :
    (((((((((w2.setCell ⟨X, 0, none⟩ (.int .i64 i.op)).setCell ⟨X, 1, none⟩ (.int .i64 i.w)).setCell ⟨X, 2, none⟩ (.int .i64 i.d)).setCell ⟨X, 3, none⟩ (.int .i64 i.a)).setCell ⟨X, 4, none⟩ (.int .i64 i.b)).setCell ⟨X, 5, none⟩ (.int .i64 i.c)).setCell ⟨X, 6, none⟩ (.int .i64 i.imm)).setCell ⟨M, 166, none⟩ v).drew).heap[X]? = some (.cells #[.int .i64 i.op, .int .i64 i.w, .int .i64 i.d, .int .i64 i.a, .int .i64 i.b, .int .i64 i.c, .int .i64 i.imm] T (0, 0)) ∧ (((((((((w2.setCell ⟨X, 0, none⟩ (.int .i64 i.op)).setCell ⟨X, 1, none⟩ (.int .i64 i.w)).setCell ⟨X, 2, none⟩ (.int .i64 i.d)).setCell ⟨X, 3, none⟩ (.int .i64 i.a)).setCell ⟨X, 4, none⟩ (.int .i64 i.b)).setCell ⟨X, 5, none⟩ (.int .i64 i.c)).setCell ⟨X, 6, none⟩ (.int .i64 i.imm)).setCell ⟨M, 166, none⟩ v).drew).heap[M]? = some (.cells (cur.setIfInBounds 166 v) T1 (0, 0)) ∧ (∀ b, b ≠ M → b ≠ X → (((((((((w2.setCell ⟨X, 0, none⟩ (.int .i64 i.op)).setCell ⟨X, 1, none⟩ (.int .i64 i.w)).setCell ⟨X, 2, none⟩ (.int .i64 i.d)).setCell ⟨X, 3, none⟩ (.int .i64 i.a)).setCell ⟨X, 4, none⟩ (.int .i64 i.b)).setCell ⟨X, 5, none⟩ (.int .i64 i.c)).setCell ⟨X, 6, none⟩ (.int .i64 i.imm)).setCell ⟨M, 166, none⟩ v).drew).heap[b]? = w2.heap[b]?) ∧ (((((((((w2.setCell ⟨X, 0, none⟩ (.int .i64 i.op)).setCell ⟨X, 1, none⟩ (.int .i64 i.w)).setCell ⟨X, 2, none⟩ (.int .i64 i.d)).setCell ⟨X, 3, none⟩ (.int .i64 i.a)).setCell ⟨X, 4, none⟩ (.int .i64 i.b)).setCell ⟨X, 5, none⟩ (.int .i64 i.c)).setCell ⟨X, 6, none⟩ (.int .i64 i.imm)).setCell ⟨M, 166, none⟩ v).drew).os = w2.os ∧ (((((((((w2.setCell ⟨X, 0, none⟩ (.int .i64 i.op)).setCell ⟨X, 1, none⟩ (.int .i64 i.w)).setCell ⟨X, 2, none⟩ (.int .i64 i.d)).setCell ⟨X, 3, none⟩ (.int .i64 i.a)).setCell ⟨X, 4, none⟩ (.int .i64 i.b)).setCell ⟨X, 5, none⟩ (.int .i64 i.c)).setCell ⟨X, 6, none⟩ (.int .i64 i.imm)).setCell ⟨M, 166, none⟩ v).drew).tape = w2.tape ∧ (((((((((w2.setCell ⟨X, 0, none⟩ (.int .i64 i.op)).setCell ⟨X, 1, none⟩ (.int .i64 i.w)).setCell ⟨X, 2, none⟩ (.int .i64 i.d)).setCell ⟨X, 3, none⟩ (.int .i64 i.a)).setCell ⟨X, 4, none⟩ (.int .i64 i.b)).setCell ⟨X, 5, none⟩ (.int .i64 i.c)).setCell ⟨X, 6, none⟩ (.int .i64 i.imm)).setCell ⟨M, 166, none⟩ v).drew).output = w2.output ∧ (((((((((w2.setCell ⟨X, 0, none⟩ (.int .i64 i.op)).setCell ⟨X, 1, none⟩ (.int .i64 i.w)).setCell ⟨X, 2, none⟩ (.int .i64 i.d)).setCell ⟨X, 3, none⟩ (.int .i64 i.a)).setCell ⟨X, 4, none⟩ (.int .i64 i.b)).setCell ⟨X, 5, none⟩ (.int .i64 i.c)).setCell ⟨X, 6, none⟩ (.int .i64 i.imm)).setCell ⟨M, 166, none⟩ v).drew).heap.size = w2.heap.size := by
  refine ⟨?_, ?_, ?_, by simp only [drew_os, set_os], by simp only [drew_tape, set_tape], by simp only [drew_output, set_output], by simp only [drew_size, set_size]⟩
  · rw [drew_at]
    exact (Below.heap_setCell _ _ _ _ (by show X ≠ M; omega)).trans ((heap_set (o := 6) (v := .int .i64 i.imm) (heap_set (o := 5) (v := .int .i64 i.c) (heap_set (o := 4) (v := .int .i64 i.b) (heap_set (o := 3) (v := .int .i64 i.a) (heap_set (o := 2) (v := .int .i64 i.d) (heap_set (o := 1) (v := .int .i64 i.w) (heap_set (o := 0) (v := .int .i64 i.op) hx))))))).trans rfl)
  · rw [drew_at]
    refine heap_set ?_
    repeat refine (Below.heap_setCell _ _ _ _ (by show M ≠ X; omega)).trans ?_
    exact hb
  · intro b hb1 hb2
    rw [drew_at]
    refine (Below.heap_setCell _ _ _ _ (by show b ≠ M; exact hb1)).trans ?_
    repeat refine (Below.heap_setCell _ _ _ _ (by show b ≠ X; exact hb2)).trans ?_
    rfl
theorem work_pc (i : MInsD) (s : MSt) : (workM i s).2.pc = s.pc ∧ (workM i s).2.steps = s.steps := by
  unfold workM
  split
  · split <;> exact ⟨rfl, rfl⟩
  · split
    · split <;> exact ⟨rfl, rfl⟩
    · split <;> exact ⟨rfl, rfl⟩
theorem work_same (i : MInsD) (s : MSt) (h : ¬ (workM i s).1 = 0) : (workM i s).2 = s := by
  unfold workM at h ⊢
  split
  · split
    · rfl
    · rename_i h1 h2; simp [h1, h2] at h
  · split
    · split
      · rfl
      · rename_i h1 h2 h3; simp [h1, h2, h3] at h
    · split
      · rename_i h1 h2 h3; simp [h1, h2, h3] at h
      · rfl
/-- What holds of a run on its way: the machine in block M, an instruction's box in block X, and where it leads. -/
structure OnWay (w W : World) (M X : Nat) (l : List MInsD) (fuel : Int) (cv : Value) (T : MOut) (s : MSt) : Prop where
  mach : MachAt W M (X + 1) s fuel cv
  good : Good s
  keeps : Keeps M X w W
  fuel0 : s.steps ≤ fuel
  pc0 : 0 ≤ s.pc
  pc1 : s.pc < l.length
  box : ∃ i : MInsD, W.heap[X]? = some (.cells #[.int .i64 i.op, .int .i64 i.w, .int .i64 i.d, .int .i64 i.a, .int .i64 i.b, .int .i64 i.c, .int .i64 i.imm] 50 (0, 0))
  leads : runM l (fuel - s.steps).toNat s = T
set_option maxHeartbeats 4000000 in
theorem endI (M : Nat) (l : List MInsD) (cb off cc : Nat) (R fuel : Int) (s0 : MSt) (w : World) (h1 : 1 ≤ R) (h2 : R ≤ 130) (hl : l.length ≤ 600) (hcb : cb < M) (hMw : M < w.heap.size) (f1 : fuel ≤ 20000)
    (hcell : ∀ i, i < l.length → w.cell? ⟨cb, off + i * 7, none⟩ = some (.int .i64 (l.getD i mins0).op) ∧ w.cell? ⟨cb, off + i * 7 + 1, none⟩ = some (.int .i64 (l.getD i mins0).w) ∧ w.cell? ⟨cb, off + i * 7 + 2, none⟩ = some (.int .i64 (l.getD i mins0).d) ∧ w.cell? ⟨cb, off + i * 7 + 3, none⟩ = some (.int .i64 (l.getD i mins0).a) ∧ w.cell? ⟨cb, off + i * 7 + 4, none⟩ = some (.int .i64 (l.getD i mins0).b) ∧ w.cell? ⟨cb, off + i * 7 + 5, none⟩ = some (.int .i64 (l.getD i mins0).c) ∧ w.cell? ⟨cb, off + i * 7 + 6, none⟩ = some (.int .i64 (l.getD i mins0).imm))
    (hok : ∀ i, i < l.length → minsB (l.getD i mins0) R l.length = true) (hlast : goesB (l.getD (l.length - 1) mins0).op = false)
    (cur0 : Array Value) (hb0 : w.heap[M]? = some (.cells cur0 78 (0, 0))) (hr0 : RowM cur0 s0 fuel (.slice none 0 0) (.slice (some ⟨cb, off, none⟩) l.length cc)) (hout : s0.out = []) (g : Good s0) (p0 : 0 ≤ s0.pc) (p1 : s0.pc < l.length) (q1 : s0.steps ≤ fuel) :
    Calls Try.prog 41 #[.pointer (some ⟨M, 0, none⟩)] w fun e w' => ∃ T, T = runM l (fuel - s0.steps).toNat s0 ∧ e = .returned (.tuple #[.int .i64 T.value, .int .i64 T.code]) ∧ MachAt w' M (w.heap.size + 1) T.st fuel (.slice (some ⟨cb, off, none⟩) l.length cc) ∧ Keeps M w.heap.size w w' := by
  generalize hT : runM l (fuel - s0.steps).toNat s0 = T
  go_enter Try.func41, Try.ntmps41
  go_wp2_with fail
  generalize hX : w.heap.size = X at hMw ⊢
  refine wp_scope_three
    (fun a' W => ∃ (s : MSt) (k : Int), (a'.defers = [] ∧ a'.tmps.size = 60 ∧ a'.tmps.getD 0 undef = .pointer (some ⟨M, 0, none⟩) ∧ a'.tmps.getD 1 undef = undef ∧ a'.tmps.getD 2 undef = .int .i64 0 ∧ a'.tmps.getD 3 undef = .int .i64 0 ∧ a'.tmps.getD 4 undef = .pointer (some ⟨X, 0, none⟩)) ∧ a'.tmps.getD 5 undef = .int .i64 k ∧ MachAt W M (X + 1) s fuel (.slice (some ⟨cb, off, none⟩) l.length cc) ∧ Keeps M X w W ∧ T = ⟨k, 0, s⟩)
    (fun a' W => ∃ (s : MSt), (a'.defers = [] ∧ a'.tmps.size = 60 ∧ a'.tmps.getD 0 undef = .pointer (some ⟨M, 0, none⟩) ∧ a'.tmps.getD 1 undef = undef ∧ a'.tmps.getD 2 undef = .int .i64 0 ∧ a'.tmps.getD 3 undef = .int .i64 0 ∧ a'.tmps.getD 4 undef = .pointer (some ⟨X, 0, none⟩)) ∧ OnWay w W M X l fuel (.slice (some ⟨cb, off, none⟩) l.length cc) T s)
    (fun a' W => ∃ (s : MSt) (i : MInsD), (a'.defers = [] ∧ a'.tmps.size = 60 ∧ a'.tmps.getD 0 undef = .pointer (some ⟨M, 0, none⟩) ∧ a'.tmps.getD 1 undef = undef ∧ a'.tmps.getD 2 undef = .int .i64 0 ∧ a'.tmps.getD 3 undef = .int .i64 0 ∧ a'.tmps.getD 4 undef = .pointer (some ⟨X, 0, none⟩)) ∧ W.heap[X]? = some (.cells #[.int .i64 i.op, .int .i64 i.w, .int .i64 i.d, .int .i64 i.a, .int .i64 i.b, .int .i64 i.c, .int .i64 i.imm] 50 (0, 0)) ∧ MachAt W M (X + 1) s fuel (.slice (some ⟨cb, off, none⟩) l.length cc) ∧ Good s ∧ Keeps M X w W ∧ s.steps ≤ fuel ∧ 0 ≤ i.imm ∧ i.imm < l.length ∧ runM l (fuel - s.steps).toNat { s with pc := i.imm } = T)
    (fun _ _ => 0) (fun _ W => 3 * (fuel.toNat - stepsIn W M) + 1) (fun _ W => 3 * (fuel.toNat - stepsIn W M) + 2) rfl rfl rfl ?_ ?_ ?_ ?_
  · go_wp2_with fail
    have B0 : Below w.heap.size w (w.alloc (.cells #[.int .i64 0, .int .i64 0, .int .i64 0, .int .i64 0, .int .i64 0, .int .i64 0, .int .i64 0] 50)) := (Below.refl _ _).alloc (Nat.le_refl _) _
    obtain ⟨s, hs0⟩ : ∃ s, s = s0 := ⟨_, rfl⟩
    have ow : OnWay w (w.alloc (.cells #[.int .i64 0, .int .i64 0, .int .i64 0, .int .i64 0, .int .i64 0, .int .i64 0, .int .i64 0] 50)) M X l fuel (.slice (some ⟨cb, off, none⟩) l.length cc) T s := by
      rw [hs0, ← hX]
      exact ⟨⟨by omega, by simp, cur0, .slice none 0 0, row_below hb0 B0, hr0, ⟨by rw [hout]; rfl, .inl ⟨rfl, by rw [hout]; rfl⟩⟩⟩, g, Keeps.of_below B0 (Nat.le_refl _), q1, p0, p1, ⟨mins0, heap_alloc_at _ _⟩, hT⟩
    generalize w.alloc (.cells #[.int .i64 0, .int .i64 0, .int .i64 0, .int .i64 0, .int .i64 0, .int .i64 0, .int .i64 0] 50) = W at ow ⊢
    clear B0 hs0 hb0 hr0 hout g p0 p1 q1 hT
    go_step3
    obtain ⟨hm, g, hk, hf, pc0, pc1, ⟨i', hbx⟩, hlead⟩ := ow
    have hst' := steps_of hm
    have HM := hm
    obtain ⟨hM, hB, cur, ov, hb, hr, ho⟩ := hm
    by_cases hsf : s.steps = fuel
    · have SN := stepI_no M cur 78 fuel W hb hr.fuel (by rw [hr.steps, hsf])
      have HL : Hid (T = ⟨4, 0, s⟩) := by show _ = _; rw [← hlead, hsf, Int.sub_self]; rfl
      go_wp2_with (go_at_call 66; refine SN.mono ?_; rintro e w2 ⟨rfl, hb2⟩)
      go_step3
      repeat refine then_goto ?_
      exact ⟨s, 4, ⟨rfl, rfl, rfl, rfl, rfl, rfl, rfl⟩, rfl, mach_below HM hb2, hk.trans (Keeps.of_below hb2 (by omega)), HL.out⟩
    · obtain ⟨k, hpc⟩ := Int.eq_ofNat_of_zero_le pc0
      have hkl : k < l.length := by omega
      obtain ⟨n, hn⟩ : ∃ n, (fuel - s.steps).toNat = n + 1 := ⟨(fuel - s.steps).toNat - 1, by omega⟩
      have hs20 : s.steps ≤ 20000 := by omega
      have hwb : W.heap[cb]? = w.heap[cb]? := hk.block cb (by omega) (by omega)
      obtain ⟨i0, i1, i2, i3, i4, i5, i6⟩ := hcell k hkl
      have hmi := hok k hkl
      have SN := stepI_ok M cur 78 fuel s.steps W hb hr.fuel hr.steps hsf g.steps hs20
      generalize hi : l.getD k mins0 = i at i0 i1 i2 i3 i4 i5 i6 hmi
      have HX : Hid (W.heap[X]? = some (.cells #[.int .i64 i'.op, .int .i64 i'.w, .int .i64 i'.d, .int .i64 i'.a, .int .i64 i'.b, .int .i64 i'.c, .int .i64 i'.imm] 50 (0, 0))) := hbx
      have HR : Hid (RowM cur s fuel ov (.slice (some ⟨cb, off, none⟩) l.length cc)) := hr
      clear hcell hok hbx hr hb
      have hkl2 : (k : Int) < l.length := by omega
      go_wp2_with (go_at_call 66; refine SN.mono ?_; rintro e w2 ⟨rfl, hb2, hg2⟩; have hr2 := HR.out.setSteps (s.steps + 1); have hx2 := (hg2.block X (by omega) (by simp; omega)).trans HX.out; have hc2 := (hg2.block cb (by omega) (by simp; omega)).trans hwb; have c0 : w2.cell? ⟨cb, off + k * 7, none⟩ = some (.int .i64 i.op) := (cell_block hc2).trans i0; have c1 : w2.cell? ⟨cb, off + k * 7 + 1, none⟩ = some (.int .i64 i.w) := (cell_block hc2).trans i1; have c2 : w2.cell? ⟨cb, off + k * 7 + 2, none⟩ = some (.int .i64 i.d) := (cell_block hc2).trans i2; have c3 : w2.cell? ⟨cb, off + k * 7 + 3, none⟩ = some (.int .i64 i.a) := (cell_block hc2).trans i3; have c4 : w2.cell? ⟨cb, off + k * 7 + 4, none⟩ = some (.int .i64 i.b) := (cell_block hc2).trans i4; have c5 : w2.cell? ⟨cb, off + k * 7 + 5, none⟩ = some (.int .i64 i.c) := (cell_block hc2).trans i5; have c6 : w2.cell? ⟨cb, off + k * 7 + 6, none⟩ = some (.int .i64 i.imm) := (cell_block hc2).trans i6; have m5 : w2.cell? ⟨M, 35, none⟩ = _ := (cell_of_heap hb2).trans hr2.code; have m6 : w2.cell? ⟨M, 166, none⟩ = some (.int .i64 (k : Int)) := ((cell_of_heap hb2).trans hr2.pc).trans (by rw [← hpc]); have b0 : w2.cell? ⟨X, 0, none⟩ = some (.int .i64 i'.op) := (cell_of_heap hx2).trans rfl; have z0 : w2.frozen? ⟨X, 0, none⟩ = false := froz_of_heap hx2; have b1 : w2.cell? ⟨X, 1, none⟩ = some (.int .i64 i'.w) := (cell_of_heap hx2).trans rfl; have z1 : w2.frozen? ⟨X, 1, none⟩ = false := froz_of_heap hx2; have b2 : w2.cell? ⟨X, 2, none⟩ = some (.int .i64 i'.d) := (cell_of_heap hx2).trans rfl; have z2 : w2.frozen? ⟨X, 2, none⟩ = false := froz_of_heap hx2; have b3 : w2.cell? ⟨X, 3, none⟩ = some (.int .i64 i'.a) := (cell_of_heap hx2).trans rfl; have z3 : w2.frozen? ⟨X, 3, none⟩ = false := froz_of_heap hx2; have b4 : w2.cell? ⟨X, 4, none⟩ = some (.int .i64 i'.b) := (cell_of_heap hx2).trans rfl; have z4 : w2.frozen? ⟨X, 4, none⟩ = false := froz_of_heap hx2; have b5 : w2.cell? ⟨X, 5, none⟩ = some (.int .i64 i'.c) := (cell_of_heap hx2).trans rfl; have z5 : w2.frozen? ⟨X, 5, none⟩ = false := froz_of_heap hx2; have b6 : w2.cell? ⟨X, 6, none⟩ = some (.int .i64 i'.imm) := (cell_of_heap hx2).trans rfl; have z6 : w2.frozen? ⟨X, 6, none⟩ = false := froz_of_heap hx2; have zM : w2.frozen? ⟨M, 166, none⟩ = false := froz_of_heap hb2)
      go_region
      go_upto_region 7 with fail
      have hXs : X < w2.heap.size := (Array.getElem?_eq_some_iff.1 hx2).1
      have ho2 := own_apart ho (by omega) hg2
      obtain ⟨fX, fM, fb, fo, ft, fu, fs⟩ := fetched (i := i) (v := .int .i64 ((k : Int) + 1)) (by omega) hx2 hb2
      clear c0 b0 z0 c1 b1 z1 c2 b2 z2 c3 b3 z3 c4 b4 z4 c5 b5 z5 c6 b6 z6 m5 m6 zM hc2
      generalize (((((((((w2.setCell ⟨X, 0, none⟩ (.int .i64 i.op)).setCell ⟨X, 1, none⟩ (.int .i64 i.w)).setCell ⟨X, 2, none⟩ (.int .i64 i.d)).setCell ⟨X, 3, none⟩ (.int .i64 i.a)).setCell ⟨X, 4, none⟩ (.int .i64 i.b)).setCell ⟨X, 5, none⟩ (.int .i64 i.c)).setCell ⟨X, 6, none⟩ (.int .i64 i.imm)).setCell ⟨M, 166, none⟩ (.int .i64 ((k : Int) + 1))).drew) = W5 at fX fM fb fo ft fu fs ⊢
      have hr5 := hr2.setPc ((k : Int) + 1)
      have ho5 : W5.ownsRow (X + 1) 2 1 ov s.out.length (s.out.map (Value.int .i64)) := ownsRow_at ho2 fun g' hg' _ => fb g' (by have := ownsRow_ge ho2 hg'; omega) (by have := ownsRow_ge ho2 hg'; omega)
      have m5 : MachAt W5 M (X + 1) { s with steps := s.steps + 1, pc := (k : Int) + 1 } fuel (.slice (some ⟨cb, off, none⟩) l.length cc) := ⟨by omega, by omega, _, ov, fM, hr5, ho5⟩
      have g5 : Good { s with steps := s.steps + 1, pc := (k : Int) + 1 } := ⟨g.regs, g.mem, g.out, by have := g.steps; show 0 ≤ s.steps + 1; omega⟩
      have hk5 : Keeps M X w W5 := ⟨fo.trans (hg2.os.trans hk.os), ft.trans (hg2.tape.trans hk.tape), fu.trans (hg2.output.trans hk.output), by have := hk.size; have := hg2.size; omega, fun b hb1 hb2 => (fb b hb2 (by omega)).trans ((hg2.block b (by omega) (by simpa using hb2)).trans (hk.block b hb1 hb2))⟩
      have hst5 := steps_of m5
      have HN5 : Hid ((fuel - (s.steps + 1)).toNat = n) := by show _ = _; omega
      have hf5 : s.steps + 1 ≤ fuel := by omega
      have hlead : runM l (n + 1) s = T := by rw [← hn]; exact hlead
      have hpk : s.pc.toNat = k := by omega
      have nm := mins_names h1 h2 hmi
      have x0 : W5.cell? ⟨X, 0, none⟩ = some (.int .i64 i.op) := (cell_of_heap fX).trans rfl
      have x1 : W5.cell? ⟨X, 1, none⟩ = some (.int .i64 i.w) := (cell_of_heap fX).trans rfl
      have x2 : W5.cell? ⟨X, 2, none⟩ = some (.int .i64 i.d) := (cell_of_heap fX).trans rfl
      have x3 : W5.cell? ⟨X, 3, none⟩ = some (.int .i64 i.a) := (cell_of_heap fX).trans rfl
      have x4 : W5.cell? ⟨X, 4, none⟩ = some (.int .i64 i.b) := (cell_of_heap fX).trans rfl
      have x5 : W5.cell? ⟨X, 5, none⟩ = some (.int .i64 i.c) := (cell_of_heap fX).trans rfl
      have x6 : W5.cell? ⟨X, 6, none⟩ = some (.int .i64 i.imm) := (cell_of_heap fX).trans rfl
      have hgo : goesB i.op = true → (k : Int) + 1 < l.length := fun hgo => by
        by_cases e : k = l.length - 1
        · subst e; rw [hi, hgo] at hlast; cases hlast
        · omega
      have RUN : runM l (n + 1) s = if i.op = 31 then runM l n { s with steps := s.steps + 1, pc := i.imm } else if i.op = 32 then (if (rg s i.a % 2 == 1) = true then runM l n { s with steps := s.steps + 1, pc := i.imm } else runM l n { s with steps := s.steps + 1, pc := (k : Int) + 1 }) else if i.op = 33 then ⟨0, maskZ i.w (rg s i.a), { s with steps := s.steps + 1, pc := (k : Int) + 1 }⟩ else if i.op = 34 then ⟨3, 0, { s with steps := s.steps + 1, pc := (k : Int) + 1 }⟩ else if (workM i { s with steps := s.steps + 1, pc := (k : Int) + 1 }).1 = 0 then runM l n (workM i { s with steps := s.steps + 1, pc := (k : Int) + 1 }).2 else ⟨(workM i { s with steps := s.steps + 1, pc := (k : Int) + 1 }).1, 0, { s with steps := s.steps + 1, pc := (k : Int) + 1 }⟩ := by
        conv => lhs; unfold runM
        rw [hpk, hi, show s.pc + 1 = (k : Int) + 1 by omega]
      rw [RUN] at hlead
      have HLD : Hid (_ = T) := hlead
      clear RUN hlead hr2 hg2 ho2 hk
      obtain ⟨⟨d0, d1⟩, ⟨a0, a1⟩, ⟨b0, b1⟩, _⟩ := nm
      by_cases e1 : i.op = 31
      · have him := jump_imm h1 hmi (.inl e1)
        have HT2 : Hid (runM l n { s with steps := s.steps + 1, pc := i.imm } = T) := by have h := HLD.out; rw [if_pos e1] at h; exact h
        rw [e1] at x0
        go_wp2_with fail
        go_step3
        repeat refine then_goto ?_
        exact ⟨{ s with steps := s.steps + 1, pc := (k : Int) + 1 }, i, ⟨rfl, rfl, rfl, rfl, rfl, rfl, rfl⟩, fX, m5, g5, hk5, hf5, him.1, him.2, by have h := HT2.out; rw [← HN5.out] at h; exact h⟩
      by_cases e2 : i.op = 32
      · have him := jump_imm h1 hmi (.inr e2)
        obtain ⟨ra, hra⟩ := Int.eq_ofNat_of_zero_le a0
        have hra2 : ra < 130 := by omega
        have OD := oddI M _ 78 ra (s.regs ra) W5 fM hra2 (hr5.regs ra hra2) (g.regs ra hra2).1
        have hrg : rg s i.a = s.regs ra := by rw [hra]; rfl
        cases hod : (s.regs ra % 2 == 1) with
        | true =>
          rw [hod] at OD
          have HT2 : Hid (runM l n { s with steps := s.steps + 1, pc := i.imm } = T) := by have h := HLD.out; rw [if_neg e1, if_pos e2, hrg, if_pos hod] at h; exact h
          rw [e2] at x0
          rw [hra] at x3
          go_wp2_with (go_at_call 67; refine OD.mono ?_; rintro e w9 ⟨rfl, h9⟩; have h8 := h9.symm; clear h9; subst h8)
          go_step3
          repeat refine then_goto ?_
          exact ⟨{ s with steps := s.steps + 1, pc := (k : Int) + 1 }, i, ⟨rfl, rfl, rfl, rfl, rfl, rfl, rfl⟩, fX, m5, g5, hk5, hf5, him.1, him.2, by have h := HT2.out; rw [← HN5.out] at h; exact h⟩
        | false =>
          rw [hod] at OD
          have HT2 : Hid (runM l n { s with steps := s.steps + 1, pc := (k : Int) + 1 } = T) := by have h := HLD.out; rw [if_neg e1, if_pos e2, hrg, if_neg (by rw [hod]; decide)] at h; exact h
          have hp := hgo (by rw [e2]; rfl)
          rw [e2] at x0
          rw [hra] at x3
          go_wp2_with (go_at_call 67; refine OD.mono ?_; rintro e w9 ⟨rfl, h9⟩; have h8 := h9.symm; clear h9; subst h8)
          go_step3
          repeat refine then_goto ?_
          exact ⟨{ s with steps := s.steps + 1, pc := (k : Int) + 1 }, ⟨rfl, rfl, rfl, rfl, rfl, rfl, rfl⟩, ⟨m5, g5, hk5, hf5, by show (0 : Int) ≤ (k : Int) + 1; omega, hp, ⟨i, fX⟩, by have h := HT2.out; rw [← HN5.out] at h; exact h⟩⟩
      by_cases e3 : i.op = 33
      · obtain ⟨ra, hra⟩ := Int.eq_ofNat_of_zero_le a0
        have hra2 : ra < 130 := by omega
        have CU := cutI M _ 78 ra i.w (s.regs ra) W5 fM hra2 (hr5.regs ra hra2)
        have hrg : rg s i.a = s.regs ra := by rw [hra]; rfl
        have HT2 : Hid ((⟨0, maskZ i.w (s.regs ra), { s with steps := s.steps + 1, pc := (k : Int) + 1 }⟩ : MOut) = T) := by have h := HLD.out; rw [if_neg e1, if_neg e2, if_pos e3, hrg] at h; exact h
        rw [e3] at x0
        rw [hra] at x3
        go_wp2_with (go_at_call 68; refine CU.mono ?_; rintro e w9 ⟨rfl, h9⟩; have h8 := h9.symm; clear h9; subst h8)
        simp only [leaps]
        go_ret2
        subst hX
        refine ⟨T, rfl, ?_, ?_, hk5⟩
        · rw [← HT2.out]; rfl
        · rw [← HT2.out]; exact m5
      by_cases e4 : i.op = 34
      · have HT2 : Hid (T = ⟨3, 0, { s with steps := s.steps + 1, pc := (k : Int) + 1 }⟩) := by have h := HLD.out; rw [if_neg e1, if_neg e2, if_neg e3, if_pos e4] at h; exact h.symm
        rw [e4] at x0
        go_wp2_with fail
        go_step3
        repeat refine then_goto ?_
        exact ⟨{ s with steps := s.steps + 1, pc := (k : Int) + 1 }, 3, ⟨rfl, rfl, rfl, rfl, rfl, rfl, rfl⟩, rfl, m5, hk5, HT2.out⟩
      have WA := workA M (X + 1) i R l.length fuel { s with steps := s.steps + 1, pc := (k : Int) + 1 } (.slice (some ⟨cb, off, none⟩) l.length cc) W5 m5 g5 h1 h2 hmi e1 e2 e3 e4
      have gw := work_good h1 h2 hmi g5
      have wp := work_pc i { s with steps := s.steps + 1, pc := (k : Int) + 1 }
      by_cases e5 : (workM i { s with steps := s.steps + 1, pc := (k : Int) + 1 }).1 = 0
      · have HT2 : Hid (runM l n (workM i { s with steps := s.steps + 1, pc := (k : Int) + 1 }).2 = T) := by have h := HLD.out; rw [if_neg e1, if_neg e2, if_neg e3, if_neg e4, if_pos e5] at h; exact h
        have hp := hgo (by simp [goesB, e1, e3, e4])
        rw [e5] at WA
        generalize workM i { s with steps := s.steps + 1, pc := (k : Int) + 1 } = ws at WA gw wp HT2
        go_wp2_with (go_at_call 69; refine WA.mono ?_; rintro e w6 ⟨rfl, m6, k6⟩)
        go_step3
        repeat refine then_goto ?_
        have hst6 := steps_of m6
        exact ⟨ws.2, ⟨rfl, rfl, rfl, rfl, rfl, rfl, rfl⟩, ⟨m6, gw, hk5.trans (k6.mono (by omega)), by rw [wp.2]; exact hf5, by rw [wp.1]; show (0 : Int) ≤ (k : Int) + 1; omega, by rw [wp.1]; exact hp, ⟨i, (k6.block X (by omega) (by omega)).trans fX⟩, by have h := HT2.out; rw [← HN5.out] at h; rw [wp.2]; exact h⟩⟩
      · have HT2 : Hid (T = ⟨(workM i { s with steps := s.steps + 1, pc := (k : Int) + 1 }).1, 0, { s with steps := s.steps + 1, pc := (k : Int) + 1 }⟩) := by have h := HLD.out; rw [if_neg e1, if_neg e2, if_neg e3, if_neg e4, if_neg e5] at h; exact h.symm
        have hsm := work_same i { s with steps := s.steps + 1, pc := (k : Int) + 1 } e5
        rw [hsm] at WA
        generalize (workM i { s with steps := s.steps + 1, pc := (k : Int) + 1 }).1 = wc at WA HT2 e5
        go_wp2_with (go_at_call 69; refine WA.mono ?_; rintro e w6 ⟨rfl, m6, k6⟩)
        go_step3
        go_wp2_with fail
        simp only [leaps]
        go_ret2
        subst hX
        refine ⟨T, rfl, ?_, ?_, hk5.trans (k6.mono (by omega))⟩
        · rw [HT2.out]; rfl
        · rw [HT2.out]; exact m6
  · rintro a' W ⟨s, k, fr, t5, hm, hk, hTT⟩
    obtain ⟨t, df⟩ := a'
    dsimp only at fr t5
    obtain ⟨rfl, fz, t0, t1, t2, t3, t4⟩ := fr
    rw [frame60 t fz, t0, t1, t2, t3, t4, t5]
    go_wp2_with fail
    simp only [leaps]
    go_ret2
    subst hX
    refine ⟨T, rfl, ?_, ?_, hk⟩
    · rw [hTT]; rfl
    · rw [hTT]; exact hm
  · rintro a' W ⟨s, fr, ow⟩
    obtain ⟨t, df⟩ := a'
    dsimp only at fr
    obtain ⟨rfl, fz, t0, t1, t2, t3, t4⟩ := fr
    obtain ⟨f, rfl⟩ := frame_f t fz
    clear fz
    change f 0 = _ at t0
    change f 1 = _ at t1
    change f 2 = _ at t2
    change f 3 = _ at t3
    change f 4 = _ at t4
    rw [t0, t1, t2, t3, t4]
    clear t0 t1 t2 t3 t4
    obtain ⟨hm, g, hk, hf, pc0, pc1, ⟨i', hbx⟩, hlead⟩ := ow
    have hst' := steps_of hm
    have HM := hm
    obtain ⟨hM, hB, cur, ov, hb, hr, ho⟩ := hm
    by_cases hsf : s.steps = fuel
    · have SN := stepI_no M cur 78 fuel W hb hr.fuel (by rw [hr.steps, hsf])
      have HL : Hid (T = ⟨4, 0, s⟩) := by show _ = _; rw [← hlead, hsf, Int.sub_self]; rfl
      go_wp2_with (go_at_call 66; refine SN.mono ?_; rintro e w2 ⟨rfl, hb2⟩)
      go_step3
      repeat refine then_goto ?_
      refine ⟨⟨s, 4, ⟨rfl, rfl, rfl, rfl, rfl, rfl, rfl⟩, rfl, mach_below HM hb2, hk.trans (Keeps.of_below hb2 (by omega)), HL.out⟩, ?_⟩
      show 0 < 3 * _ + 1
      omega
    · obtain ⟨k, hpc⟩ := Int.eq_ofNat_of_zero_le pc0
      have hkl : k < l.length := by omega
      obtain ⟨n, hn⟩ : ∃ n, (fuel - s.steps).toNat = n + 1 := ⟨(fuel - s.steps).toNat - 1, by omega⟩
      have hs20 : s.steps ≤ 20000 := by omega
      have hwb : W.heap[cb]? = w.heap[cb]? := hk.block cb (by omega) (by omega)
      obtain ⟨i0, i1, i2, i3, i4, i5, i6⟩ := hcell k hkl
      have hmi := hok k hkl
      have SN := stepI_ok M cur 78 fuel s.steps W hb hr.fuel hr.steps hsf g.steps hs20
      generalize hi : l.getD k mins0 = i at i0 i1 i2 i3 i4 i5 i6 hmi
      have HX : Hid (W.heap[X]? = some (.cells #[.int .i64 i'.op, .int .i64 i'.w, .int .i64 i'.d, .int .i64 i'.a, .int .i64 i'.b, .int .i64 i'.c, .int .i64 i'.imm] 50 (0, 0))) := hbx
      have HR : Hid (RowM cur s fuel ov (.slice (some ⟨cb, off, none⟩) l.length cc)) := hr
      clear hcell hok hbx hr hb
      have hkl2 : (k : Int) < l.length := by omega
      go_wp2_with (go_at_call 66; refine SN.mono ?_; rintro e w2 ⟨rfl, hb2, hg2⟩; have hr2 := HR.out.setSteps (s.steps + 1); have hx2 := (hg2.block X (by omega) (by simp; omega)).trans HX.out; have hc2 := (hg2.block cb (by omega) (by simp; omega)).trans hwb; have c0 : w2.cell? ⟨cb, off + k * 7, none⟩ = some (.int .i64 i.op) := (cell_block hc2).trans i0; have c1 : w2.cell? ⟨cb, off + k * 7 + 1, none⟩ = some (.int .i64 i.w) := (cell_block hc2).trans i1; have c2 : w2.cell? ⟨cb, off + k * 7 + 2, none⟩ = some (.int .i64 i.d) := (cell_block hc2).trans i2; have c3 : w2.cell? ⟨cb, off + k * 7 + 3, none⟩ = some (.int .i64 i.a) := (cell_block hc2).trans i3; have c4 : w2.cell? ⟨cb, off + k * 7 + 4, none⟩ = some (.int .i64 i.b) := (cell_block hc2).trans i4; have c5 : w2.cell? ⟨cb, off + k * 7 + 5, none⟩ = some (.int .i64 i.c) := (cell_block hc2).trans i5; have c6 : w2.cell? ⟨cb, off + k * 7 + 6, none⟩ = some (.int .i64 i.imm) := (cell_block hc2).trans i6; have m5 : w2.cell? ⟨M, 35, none⟩ = _ := (cell_of_heap hb2).trans hr2.code; have m6 : w2.cell? ⟨M, 166, none⟩ = some (.int .i64 (k : Int)) := ((cell_of_heap hb2).trans hr2.pc).trans (by rw [← hpc]); have b0 : w2.cell? ⟨X, 0, none⟩ = some (.int .i64 i'.op) := (cell_of_heap hx2).trans rfl; have z0 : w2.frozen? ⟨X, 0, none⟩ = false := froz_of_heap hx2; have b1 : w2.cell? ⟨X, 1, none⟩ = some (.int .i64 i'.w) := (cell_of_heap hx2).trans rfl; have z1 : w2.frozen? ⟨X, 1, none⟩ = false := froz_of_heap hx2; have b2 : w2.cell? ⟨X, 2, none⟩ = some (.int .i64 i'.d) := (cell_of_heap hx2).trans rfl; have z2 : w2.frozen? ⟨X, 2, none⟩ = false := froz_of_heap hx2; have b3 : w2.cell? ⟨X, 3, none⟩ = some (.int .i64 i'.a) := (cell_of_heap hx2).trans rfl; have z3 : w2.frozen? ⟨X, 3, none⟩ = false := froz_of_heap hx2; have b4 : w2.cell? ⟨X, 4, none⟩ = some (.int .i64 i'.b) := (cell_of_heap hx2).trans rfl; have z4 : w2.frozen? ⟨X, 4, none⟩ = false := froz_of_heap hx2; have b5 : w2.cell? ⟨X, 5, none⟩ = some (.int .i64 i'.c) := (cell_of_heap hx2).trans rfl; have z5 : w2.frozen? ⟨X, 5, none⟩ = false := froz_of_heap hx2; have b6 : w2.cell? ⟨X, 6, none⟩ = some (.int .i64 i'.imm) := (cell_of_heap hx2).trans rfl; have z6 : w2.frozen? ⟨X, 6, none⟩ = false := froz_of_heap hx2; have zM : w2.frozen? ⟨M, 166, none⟩ = false := froz_of_heap hb2)
      go_region
      go_upto_region 7 with fail
      have hXs : X < w2.heap.size := (Array.getElem?_eq_some_iff.1 hx2).1
      have ho2 := own_apart ho (by omega) hg2
      obtain ⟨fX, fM, fb, fo, ft, fu, fs⟩ := fetched (i := i) (v := .int .i64 ((k : Int) + 1)) (by omega) hx2 hb2
      clear c0 b0 z0 c1 b1 z1 c2 b2 z2 c3 b3 z3 c4 b4 z4 c5 b5 z5 c6 b6 z6 m5 m6 zM hc2
      generalize (((((((((w2.setCell ⟨X, 0, none⟩ (.int .i64 i.op)).setCell ⟨X, 1, none⟩ (.int .i64 i.w)).setCell ⟨X, 2, none⟩ (.int .i64 i.d)).setCell ⟨X, 3, none⟩ (.int .i64 i.a)).setCell ⟨X, 4, none⟩ (.int .i64 i.b)).setCell ⟨X, 5, none⟩ (.int .i64 i.c)).setCell ⟨X, 6, none⟩ (.int .i64 i.imm)).setCell ⟨M, 166, none⟩ (.int .i64 ((k : Int) + 1))).drew) = W5 at fX fM fb fo ft fu fs ⊢
      have hr5 := hr2.setPc ((k : Int) + 1)
      have ho5 : W5.ownsRow (X + 1) 2 1 ov s.out.length (s.out.map (Value.int .i64)) := ownsRow_at ho2 fun g' hg' _ => fb g' (by have := ownsRow_ge ho2 hg'; omega) (by have := ownsRow_ge ho2 hg'; omega)
      have m5 : MachAt W5 M (X + 1) { s with steps := s.steps + 1, pc := (k : Int) + 1 } fuel (.slice (some ⟨cb, off, none⟩) l.length cc) := ⟨by omega, by omega, _, ov, fM, hr5, ho5⟩
      have g5 : Good { s with steps := s.steps + 1, pc := (k : Int) + 1 } := ⟨g.regs, g.mem, g.out, by have := g.steps; show 0 ≤ s.steps + 1; omega⟩
      have hk5 : Keeps M X w W5 := ⟨fo.trans (hg2.os.trans hk.os), ft.trans (hg2.tape.trans hk.tape), fu.trans (hg2.output.trans hk.output), by have := hk.size; have := hg2.size; omega, fun b hb1 hb2 => (fb b hb2 (by omega)).trans ((hg2.block b (by omega) (by simpa using hb2)).trans (hk.block b hb1 hb2))⟩
      have hst5 := steps_of m5
      have HN5 : Hid ((fuel - (s.steps + 1)).toNat = n) := by show _ = _; omega
      have hf5 : s.steps + 1 ≤ fuel := by omega
      have hlead : runM l (n + 1) s = T := by rw [← hn]; exact hlead
      have hpk : s.pc.toNat = k := by omega
      have nm := mins_names h1 h2 hmi
      have x0 : W5.cell? ⟨X, 0, none⟩ = some (.int .i64 i.op) := (cell_of_heap fX).trans rfl
      have x1 : W5.cell? ⟨X, 1, none⟩ = some (.int .i64 i.w) := (cell_of_heap fX).trans rfl
      have x2 : W5.cell? ⟨X, 2, none⟩ = some (.int .i64 i.d) := (cell_of_heap fX).trans rfl
      have x3 : W5.cell? ⟨X, 3, none⟩ = some (.int .i64 i.a) := (cell_of_heap fX).trans rfl
      have x4 : W5.cell? ⟨X, 4, none⟩ = some (.int .i64 i.b) := (cell_of_heap fX).trans rfl
      have x5 : W5.cell? ⟨X, 5, none⟩ = some (.int .i64 i.c) := (cell_of_heap fX).trans rfl
      have x6 : W5.cell? ⟨X, 6, none⟩ = some (.int .i64 i.imm) := (cell_of_heap fX).trans rfl
      have hgo : goesB i.op = true → (k : Int) + 1 < l.length := fun hgo => by
        by_cases e : k = l.length - 1
        · subst e; rw [hi, hgo] at hlast; cases hlast
        · omega
      have RUN : runM l (n + 1) s = if i.op = 31 then runM l n { s with steps := s.steps + 1, pc := i.imm } else if i.op = 32 then (if (rg s i.a % 2 == 1) = true then runM l n { s with steps := s.steps + 1, pc := i.imm } else runM l n { s with steps := s.steps + 1, pc := (k : Int) + 1 }) else if i.op = 33 then ⟨0, maskZ i.w (rg s i.a), { s with steps := s.steps + 1, pc := (k : Int) + 1 }⟩ else if i.op = 34 then ⟨3, 0, { s with steps := s.steps + 1, pc := (k : Int) + 1 }⟩ else if (workM i { s with steps := s.steps + 1, pc := (k : Int) + 1 }).1 = 0 then runM l n (workM i { s with steps := s.steps + 1, pc := (k : Int) + 1 }).2 else ⟨(workM i { s with steps := s.steps + 1, pc := (k : Int) + 1 }).1, 0, { s with steps := s.steps + 1, pc := (k : Int) + 1 }⟩ := by
        conv => lhs; unfold runM
        rw [hpk, hi, show s.pc + 1 = (k : Int) + 1 by omega]
      rw [RUN] at hlead
      have HLD : Hid (_ = T) := hlead
      clear RUN hlead hr2 hg2 ho2 hk
      obtain ⟨⟨d0, d1⟩, ⟨a0, a1⟩, ⟨b0, b1⟩, _⟩ := nm
      by_cases e1 : i.op = 31
      · have him := jump_imm h1 hmi (.inl e1)
        have HT2 : Hid (runM l n { s with steps := s.steps + 1, pc := i.imm } = T) := by have h := HLD.out; rw [if_pos e1] at h; exact h
        rw [e1] at x0
        go_wp2_with fail
        go_step3
        repeat refine then_goto ?_
        refine ⟨⟨{ s with steps := s.steps + 1, pc := (k : Int) + 1 }, i, ⟨rfl, rfl, rfl, rfl, rfl, rfl, rfl⟩, fX, m5, g5, hk5, hf5, him.1, him.2, by have h := HT2.out; rw [← HN5.out] at h; exact h⟩, ?_⟩
        show 3 * (fuel.toNat - stepsIn W5 M) + 2 < 3 * (fuel.toNat - stepsIn W M) + 1
        rw [hst5, hst']
        show 3 * (fuel.toNat - (s.steps + 1).toNat) + 2 < _
        have := g.steps
        omega
      by_cases e2 : i.op = 32
      · have him := jump_imm h1 hmi (.inr e2)
        obtain ⟨ra, hra⟩ := Int.eq_ofNat_of_zero_le a0
        have hra2 : ra < 130 := by omega
        have OD := oddI M _ 78 ra (s.regs ra) W5 fM hra2 (hr5.regs ra hra2) (g.regs ra hra2).1
        have hrg : rg s i.a = s.regs ra := by rw [hra]; rfl
        cases hod : (s.regs ra % 2 == 1) with
        | true =>
          rw [hod] at OD
          have HT2 : Hid (runM l n { s with steps := s.steps + 1, pc := i.imm } = T) := by have h := HLD.out; rw [if_neg e1, if_pos e2, hrg, if_pos hod] at h; exact h
          rw [e2] at x0
          rw [hra] at x3
          go_wp2_with (go_at_call 67; refine OD.mono ?_; rintro e w9 ⟨rfl, h9⟩; have h8 := h9.symm; clear h9; subst h8)
          go_step3
          repeat refine then_goto ?_
          refine ⟨⟨{ s with steps := s.steps + 1, pc := (k : Int) + 1 }, i, ⟨rfl, rfl, rfl, rfl, rfl, rfl, rfl⟩, fX, m5, g5, hk5, hf5, him.1, him.2, by have h := HT2.out; rw [← HN5.out] at h; exact h⟩, ?_⟩
          show 3 * (fuel.toNat - stepsIn W5 M) + 2 < 3 * (fuel.toNat - stepsIn W M) + 1
          rw [hst5, hst']
          show 3 * (fuel.toNat - (s.steps + 1).toNat) + 2 < _
          have := g.steps
          omega
        | false =>
          rw [hod] at OD
          have HT2 : Hid (runM l n { s with steps := s.steps + 1, pc := (k : Int) + 1 } = T) := by have h := HLD.out; rw [if_neg e1, if_pos e2, hrg, if_neg (by rw [hod]; decide)] at h; exact h
          have hp := hgo (by rw [e2]; rfl)
          rw [e2] at x0
          rw [hra] at x3
          go_wp2_with (go_at_call 67; refine OD.mono ?_; rintro e w9 ⟨rfl, h9⟩; have h8 := h9.symm; clear h9; subst h8)
          go_step3
          repeat refine then_goto ?_
          refine ⟨⟨{ s with steps := s.steps + 1, pc := (k : Int) + 1 }, ⟨rfl, rfl, rfl, rfl, rfl, rfl, rfl⟩, ⟨m5, g5, hk5, hf5, by show (0 : Int) ≤ (k : Int) + 1; omega, hp, ⟨i, fX⟩, by have h := HT2.out; rw [← HN5.out] at h; exact h⟩⟩, ?_⟩
          show 3 * (fuel.toNat - stepsIn W5 M) + 1 < 3 * (fuel.toNat - stepsIn W M) + 1
          rw [hst5, hst']
          show 3 * (fuel.toNat - (s.steps + 1).toNat) + 1 < _
          have := g.steps
          omega
      by_cases e3 : i.op = 33
      · obtain ⟨ra, hra⟩ := Int.eq_ofNat_of_zero_le a0
        have hra2 : ra < 130 := by omega
        have CU := cutI M _ 78 ra i.w (s.regs ra) W5 fM hra2 (hr5.regs ra hra2)
        have hrg : rg s i.a = s.regs ra := by rw [hra]; rfl
        have HT2 : Hid ((⟨0, maskZ i.w (s.regs ra), { s with steps := s.steps + 1, pc := (k : Int) + 1 }⟩ : MOut) = T) := by have h := HLD.out; rw [if_neg e1, if_neg e2, if_pos e3, hrg] at h; exact h
        rw [e3] at x0
        rw [hra] at x3
        go_wp2_with (go_at_call 68; refine CU.mono ?_; rintro e w9 ⟨rfl, h9⟩; have h8 := h9.symm; clear h9; subst h8)
        simp only [leaps]
        go_ret2
        subst hX
        refine ⟨T, rfl, ?_, ?_, hk5⟩
        · rw [← HT2.out]; rfl
        · rw [← HT2.out]; exact m5
      by_cases e4 : i.op = 34
      · have HT2 : Hid (T = ⟨3, 0, { s with steps := s.steps + 1, pc := (k : Int) + 1 }⟩) := by have h := HLD.out; rw [if_neg e1, if_neg e2, if_neg e3, if_pos e4] at h; exact h.symm
        rw [e4] at x0
        go_wp2_with fail
        go_step3
        repeat refine then_goto ?_
        refine ⟨⟨{ s with steps := s.steps + 1, pc := (k : Int) + 1 }, 3, ⟨rfl, rfl, rfl, rfl, rfl, rfl, rfl⟩, rfl, m5, hk5, HT2.out⟩, ?_⟩
        show 0 < 3 * _ + 1
        omega
      have WA := workA M (X + 1) i R l.length fuel { s with steps := s.steps + 1, pc := (k : Int) + 1 } (.slice (some ⟨cb, off, none⟩) l.length cc) W5 m5 g5 h1 h2 hmi e1 e2 e3 e4
      have gw := work_good h1 h2 hmi g5
      have wp := work_pc i { s with steps := s.steps + 1, pc := (k : Int) + 1 }
      by_cases e5 : (workM i { s with steps := s.steps + 1, pc := (k : Int) + 1 }).1 = 0
      · have HT2 : Hid (runM l n (workM i { s with steps := s.steps + 1, pc := (k : Int) + 1 }).2 = T) := by have h := HLD.out; rw [if_neg e1, if_neg e2, if_neg e3, if_neg e4, if_pos e5] at h; exact h
        have hp := hgo (by simp [goesB, e1, e3, e4])
        rw [e5] at WA
        generalize workM i { s with steps := s.steps + 1, pc := (k : Int) + 1 } = ws at WA gw wp HT2
        go_wp2_with (go_at_call 69; refine WA.mono ?_; rintro e w6 ⟨rfl, m6, k6⟩)
        go_step3
        repeat refine then_goto ?_
        have hst6 := steps_of m6
        refine ⟨⟨ws.2, ⟨rfl, rfl, rfl, rfl, rfl, rfl, rfl⟩, ⟨m6, gw, hk5.trans (k6.mono (by omega)), by rw [wp.2]; exact hf5, by rw [wp.1]; show (0 : Int) ≤ (k : Int) + 1; omega, by rw [wp.1]; exact hp, ⟨i, (k6.block X (by omega) (by omega)).trans fX⟩, by have h := HT2.out; rw [← HN5.out] at h; rw [wp.2]; exact h⟩⟩, ?_⟩
        show 3 * (fuel.toNat - stepsIn w6 M) + 1 < 3 * (fuel.toNat - stepsIn W M) + 1
        rw [hst6, hst', wp.2]
        show 3 * (fuel.toNat - (s.steps + 1).toNat) + 1 < _
        have := g.steps
        omega
      · have HT2 : Hid (T = ⟨(workM i { s with steps := s.steps + 1, pc := (k : Int) + 1 }).1, 0, { s with steps := s.steps + 1, pc := (k : Int) + 1 }⟩) := by have h := HLD.out; rw [if_neg e1, if_neg e2, if_neg e3, if_neg e4, if_neg e5] at h; exact h.symm
        have hsm := work_same i { s with steps := s.steps + 1, pc := (k : Int) + 1 } e5
        rw [hsm] at WA
        generalize (workM i { s with steps := s.steps + 1, pc := (k : Int) + 1 }).1 = wc at WA HT2 e5
        go_wp2_with (go_at_call 69; refine WA.mono ?_; rintro e w6 ⟨rfl, m6, k6⟩)
        go_step3
        go_wp2_with fail
        simp only [leaps]
        go_ret2
        subst hX
        refine ⟨T, rfl, ?_, ?_, hk5.trans (k6.mono (by omega))⟩
        · rw [HT2.out]; rfl
        · rw [HT2.out]; exact m6
  · rintro a' W ⟨s, i, fr, hx, hm, hg, hk, hst, i0, i1, hrun⟩
    obtain ⟨t, df⟩ := a'
    dsimp only at fr
    obtain ⟨rfl, fz, t0, t1, t2, t3, t4⟩ := fr
    rw [frame60 t fz, t0, t1, t2, t3, t4]
    have hst' := steps_of hm
    obtain ⟨hM, hB, cur, ov, hb, hr, ho⟩ := hm
    have x6 : W.cell? ⟨X, 6, none⟩ = some (.int .i64 i.imm) := (cell_of_heap hx).trans rfl
    have y := (cell_of_heap (o := 166) hb).trans hr.pc
    have fzz : W.frozen? ⟨M, 166, none⟩ = false := froz_of_heap hb
    have HX : Hid (W.heap[X]? = some (.cells #[.int .i64 i.op, .int .i64 i.w, .int .i64 i.d, .int .i64 i.a, .int .i64 i.b, .int .i64 i.c, .int .i64 i.imm] 50 (0, 0))) := hx
    have HH : Hid (W.heap[M]? = some (.cells cur 78 (0, 0))) := hb
    clear hx hb
    go_wp2_with fail
    go_step3
    have gr := grown_set (grown_refl W (some M)) 166 (.int .i64 i.imm)
    have hm2 : MachAt (W.setCell ⟨M, 166, none⟩ (.int .i64 i.imm)) M (X + 1) { s with pc := i.imm } fuel (.slice (some ⟨cb, off, none⟩) l.length cc) := mach_grown (s := s) (s' := { s with pc := i.imm }) hM hB ho (heap_set HH.out) (hr.setPc i.imm) gr
    refine ⟨⟨{ s with pc := i.imm }, ⟨rfl, rfl, rfl, rfl, rfl, rfl, rfl⟩, ⟨hm2, ⟨hg.regs, hg.mem, hg.out, hg.steps⟩, hk.set _ _, hst, i0, i1, ⟨i, (gr.block X (by omega) (by simp; omega)).trans HX.out⟩, hrun⟩⟩, ?_⟩
    have hst2 := steps_of hm2
    show 3 * (fuel.toNat - stepsIn (W.setCell ⟨M, 166, none⟩ (.int .i64 i.imm)) M) + 1 < 3 * (fuel.toNat - stepsIn W M) + 2
    rw [hst2, hst']
    show 3 * (fuel.toNat - s.steps.toNat) + 1 < _
    omega
end Go.Proofs.Ytofgfiakccjimaa
