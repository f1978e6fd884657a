/- A machine: its state, what an instruction makes of it, and the contract of work in these words. -/
import Derived.Test.YtofgfiakccjimaaMaD
import Derived.Test.YtofgfiakccjimaaPgG
namespace Go.Proofs.Ytofgfiakccjimaa
open Go.RowKit
set_option linter.unusedVariables false
set_option linter.unusedSimpArgs false

structure MSt where
  mem : Nat → Int
  out : List Int
  steps : Int
  regs : Nat → Int
  pc : Int
def upF (f : Nat → Int) (i : Nat) (v : Int) : Nat → Int := fun j => if j = i then v else f j
def rg (s : MSt) (r : Int) : Int := s.regs r.toNat
def valM (i : MInsD) (s : MSt) : Int × Int :=
  if castOpB i.op = true then (castZ i.op i.c i.w (maskZ i.c (rg s i.a)), 0)
  else if i.op = 21 then (i.imm, 0)
  else if i.op = 22 then (maskZ i.w (if (rg s i.a % 2 == 1) = true then rg s i.b else rg s i.c), 0)
  else if i.op = 23 then (if 32 ≤ rg s i.a then (0, 2) else (s.mem (rg s i.a).toNat, 0))
  else if i.op = 35 then (maskZ i.w (rg s i.a), 0)
  else if binC i.op i.w (maskZ i.w (rg s i.a)) (maskZ i.w (rg s i.b)) = 0 then (binZ i.op i.w (maskZ i.w (rg s i.a)) (maskZ i.w (rg s i.b)), 0) else (0, 1)
def workM (i : MInsD) (s : MSt) : Int × MSt :=
  if i.op = 24 then (if 32 ≤ rg s i.a then (2, s) else (0, { s with mem := upF s.mem (rg s i.a).toNat (rg s i.b % 256) }))
  else if i.op = 25 then (if s.out.length = 30 then (7, s) else (0, { s with out := s.out ++ [rg s i.a] }))
  else if (valM i s).2 = 0 then (0, { s with regs := upF s.regs i.d.toNat (valM i s).1 }) else ((valM i s).2, s)
structure Good (s : MSt) : Prop where
  regs : ∀ j, j < 130 → 0 ≤ s.regs j ∧ s.regs j ≤ 4294967295
  mem : ∀ j, j < 32 → 0 ≤ s.mem j ∧ s.mem j ≤ 255
  out : s.out.length ≤ 30
  steps : 0 ≤ s.steps
structure RowM (cur : Array Value) (s : MSt) (fuel : Int) (ov cv : Value) : Prop where
  size : cur.size = 167
  mem : ∀ i, i < 32 → cur[i]? = some (.int .u8 (s.mem i))
  out : cur[32]? = some ov
  fuel : cur[33]? = some (.int .i64 fuel)
  steps : cur[34]? = some (.int .i64 s.steps)
  code : cur[35]? = some cv
  regs : ∀ i, i < 130 → cur[36 + i]? = some (.int .i64 (s.regs i))
  pc : cur[166]? = some (.int .i64 s.pc)
def MachAt (w : World) (M B : Nat) (s : MSt) (fuel : Int) (cv : Value) : Prop :=
  M < B ∧ B ≤ w.heap.size ∧ ∃ cur ov, w.heap[M]? = some (.cells cur 78 (0, 0)) ∧ RowM cur s fuel ov cv ∧ w.ownsRow B 2 1 ov s.out.length (s.out.map (Value.int .i64))
theorem RowM.setReg {cur : Array Value} {s : MSt} {fuel : Int} {ov cv : Value} (h : RowM cur s fuel ov cv) (d : Nat) (v : Int) (hd : d < 130) : RowM (cur.setIfInBounds (36 + d) (.int .i64 v)) { s with regs := upF s.regs d v } fuel ov cv where
  size := by simp [h.size]
  mem := fun i hi => (setI_other (by omega)).trans (h.mem i hi)
  out := (setI_other (by omega)).trans h.out
  fuel := (setI_other (by omega)).trans h.fuel
  steps := (setI_other (by omega)).trans h.steps
  code := (setI_other (by omega)).trans h.code
  regs := fun i hi => by
    by_cases e : i = d
    · subst e; rw [setI_same (by rw [h.size]; omega)]; simp [upF]
    · rw [setI_other (by omega), h.regs i hi]; simp [upF, e]
  pc := (setI_other (by omega)).trans h.pc
theorem RowM.setMem {cur : Array Value} {s : MSt} {fuel : Int} {ov cv : Value} (h : RowM cur s fuel ov cv) (d : Nat) (v : Int) (hd : d < 32) : RowM (cur.setIfInBounds d (.int .u8 v)) { s with mem := upF s.mem d v } fuel ov cv where
  size := by simp [h.size]
  mem := fun i hi => by
    by_cases e : i = d
    · subst e; rw [setI_same (by rw [h.size]; omega)]; simp [upF]
    · rw [setI_other (by omega), h.mem i hi]; simp [upF, e]
  out := (setI_other (by omega)).trans h.out
  fuel := (setI_other (by omega)).trans h.fuel
  steps := (setI_other (by omega)).trans h.steps
  code := (setI_other (by omega)).trans h.code
  regs := fun i hi => (setI_other (by omega)).trans (h.regs i hi)
  pc := (setI_other (by omega)).trans h.pc
theorem RowM.setOut {cur : Array Value} {s : MSt} {fuel : Int} {ov cv : Value} (h : RowM cur s fuel ov cv) (v : Value) (l : List Int) : RowM (cur.setIfInBounds 32 v) { s with out := l } fuel v cv where
  size := by simp [h.size]
  mem := fun i hi => (setI_other (by omega)).trans (h.mem i hi)
  out := setI_same (by rw [h.size]; omega)
  fuel := (setI_other (by omega)).trans h.fuel
  steps := (setI_other (by omega)).trans h.steps
  code := (setI_other (by omega)).trans h.code
  regs := fun i hi => (setI_other (by omega)).trans (h.regs i hi)
  pc := (setI_other (by omega)).trans h.pc
theorem RowM.setSteps {cur : Array Value} {s : MSt} {fuel : Int} {ov cv : Value} (h : RowM cur s fuel ov cv) (v : Int) : RowM (cur.setIfInBounds 34 (.int .i64 v)) { s with steps := v } fuel ov cv where
  size := by simp [h.size]
  mem := fun i hi => (setI_other (by omega)).trans (h.mem i hi)
  out := (setI_other (by omega)).trans h.out
  fuel := (setI_other (by omega)).trans h.fuel
  steps := setI_same (by rw [h.size]; omega)
  code := (setI_other (by omega)).trans h.code
  regs := fun i hi => (setI_other (by omega)).trans (h.regs i hi)
  pc := (setI_other (by omega)).trans h.pc
theorem RowM.setPc {cur : Array Value} {s : MSt} {fuel : Int} {ov cv : Value} (h : RowM cur s fuel ov cv) (v : Int) : RowM (cur.setIfInBounds 166 (.int .i64 v)) { s with pc := v } fuel ov cv where
  size := by simp [h.size]
  mem := fun i hi => (setI_other (by omega)).trans (h.mem i hi)
  out := (setI_other (by omega)).trans h.out
  fuel := (setI_other (by omega)).trans h.fuel
  steps := (setI_other (by omega)).trans h.steps
  code := (setI_other (by omega)).trans h.code
  regs := fun i hi => (setI_other (by omega)).trans (h.regs i hi)
  pc := setI_same (by rw [h.size]; omega)
/-- The registers that a right instruction names. -/
structure Names (i : MInsD) : Prop where
  d : 0 ≤ i.d ∧ i.d < 130
  a : 0 ≤ i.a ∧ i.a < 130
  b : 0 ≤ i.b ∧ i.b < 130
  c : castOpB i.op = false → 0 ≤ i.c ∧ i.c < 130
theorem below_yes {n c : Int} (h : belowB n c = true) : 0 ≤ n ∧ n < c := by simp [belowB] at h; exact h
theorem mins_fields {i : MInsD} {R n : Int} (h1 : 1 ≤ R) (h : minsB i R n = true) : fieldsB i R = true := by
  rw [← mins_asks i R n h1] at h
  simp at h
  exact h.1
theorem mins_names {i : MInsD} {R n : Int} (h1 : 1 ≤ R) (h2 : R ≤ 130) (h : minsB i R n = true) : Names i := by
  have hf := mins_fields h1 h
  simp [fieldsB] at hf
  obtain ⟨_, _, ⟨hd, ha, hb⟩, hc⟩ := hf
  have hd := below_yes hd
  have ha := below_yes ha
  have hb := below_yes hb
  refine ⟨by omega, by omega, by omega, fun hk => ?_⟩
  rw [if_neg (by simp [hk])] at hc
  have hc := below_yes hc
  omega
theorem mask_rng (a n : Int) : 0 ≤ maskZ a n ∧ maskZ a n ≤ 4294967295 := by
  have := top_pos a
  unfold maskZ
  split
  · have h1 := Int.emod_nonneg n (show topZ a ≠ 0 by omega)
    have h2 := Int.emod_lt_of_pos n (show 0 < topZ a by omega)
    omega
  · omega
theorem cast_rng (op c w n : Int) : 0 ≤ castZ op c w (maskZ c n) ∧ castZ op c w (maskZ c n) ≤ 4294967295 := by
  unfold castZ
  split
  · split
    · exact mask_rng _ _
    · split
      · exact mask_rng _ _
      · split
        · exact mask_rng _ _
        · omega
  · omega
theorem bin_rng (op a x y : Int) : 0 ≤ binZ op a x y ∧ binZ op a x y ≤ 4294967295 := by
  unfold binZ
  split
  · exact mask_rng _ _
  · omega
theorem val_rng {i : MInsD} {R n : Int} {s : MSt} (h1 : 1 ≤ R) (h2 : R ≤ 130) (h : minsB i R n = true) (g : Good s) : 0 ≤ (valM i s).1 ∧ (valM i s).1 ≤ 4294967295 := by
  have nm := mins_names h1 h2 h
  unfold valM
  split
  · exact cast_rng _ _ _ _
  · split
    · rename_i _ e
      have : valueB i.w i.imm = true := by
        simp [minsB, e] at h
        exact h.1.1.1.2
      obtain ⟨_, p, q⟩ := value_yes this
      have := top_pos i.w
      show 0 ≤ i.imm ∧ i.imm ≤ _
      omega
    · split
      · exact mask_rng _ _
      · split
        · split
          · show (0 : Int) ≤ 0 ∧ (0 : Int) ≤ _; omega
          · have ha := nm.a
            have hr := g.regs i.a.toNat (by omega)
            have := g.mem (rg s i.a).toNat (by unfold rg at *; omega)
            show 0 ≤ s.mem _ ∧ s.mem _ ≤ _
            omega
        · split
          · exact mask_rng _ _
          · split
            · exact bin_rng _ _ _ _
            · show (0 : Int) ≤ 0 ∧ (0 : Int) ≤ _; omega
theorem work_good {i : MInsD} {R n : Int} {s : MSt} (h1 : 1 ≤ R) (h2 : R ≤ 130) (h : minsB i R n = true) (g : Good s) : Good (workM i s).2 := by
  have nm := mins_names h1 h2 h
  unfold workM
  split
  · split
    · exact g
    · refine ⟨g.regs, fun j hj => ?_, g.out, g.steps⟩
      show 0 ≤ upF _ _ _ j ∧ upF _ _ _ j ≤ 255
      unfold upF
      split
      · omega
      · exact g.mem j hj
  · split
    · split
      · exact g
      · refine ⟨g.regs, g.mem, ?_, g.steps⟩
        have := g.out
        show (s.out ++ [_]).length ≤ 30
        simp; omega
    · split
      · refine ⟨fun j hj => ?_, g.mem, g.out, g.steps⟩
        show 0 ≤ upF _ _ _ j ∧ upF _ _ _ j ≤ 4294967295
        unfold upF
        split
        · exact val_rng h1 h2 h g
        · exact g.regs j hj
      · exact g
end Go.Proofs.Ytofgfiakccjimaa
