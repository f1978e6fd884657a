/- Instructions of a machine: what the program asks is what the model asks. -/
import Derived.Test.YtpmanjkaiknlhaaDoorPgF
namespace Go.Proofs.YtpmanjkaiknlhaaDoor
open Go.RowKit
set_option linter.unusedVariables false
set_option linter.unusedSimpArgs false

theorem val0 (c : Int) : valueB c 0 = widthB c := by
  have := top_pos c
  simp [valueB]; omega
theorem below0 {r : Int} (h : 1 ≤ r) : belowB 0 r = true := by simp [belowB]; omega
theorem mins_asks (i : MInsD) (regs n : Int) (h : 1 ≤ regs) : (fieldsB i regs && (mwB i && miB i n)) = minsB i regs n := by
  obtain ⟨op, w0, d, a, b, c, imm⟩ := i
  have z := below0 h
  by_cases n31 : op = 31
  · subst n31
    simp [fieldsB, mwB, miB, minsB, okU, usedD, opB, castOpB, sameB, regB, castB, castOk, val0]
    try (rw [Bool.eq_iff_iff]; simp; constructor <;> (intro hh; simp_all <;> omega))
  by_cases n32 : op = 32
  · subst n32
    simp [fieldsB, mwB, miB, minsB, okU, usedD, opB, castOpB, sameB, regB, castB, castOk, val0]
    try (rw [Bool.eq_iff_iff]; simp; constructor <;> (intro hh; simp_all <;> omega))
  by_cases n34 : op = 34
  · subst n34
    simp [fieldsB, mwB, miB, minsB, okU, usedD, opB, castOpB, sameB, regB]
    rintro rfl rfl rfl rfl rfl rfl
    simp [z]
  by_cases n33 : op = 33
  · subst n33
    simp [fieldsB, mwB, miB, minsB, okU, usedD, opB, castOpB, sameB, regB, castB, castOk, val0]
    try (rw [Bool.eq_iff_iff]; simp; constructor <;> (intro hh; simp_all <;> omega))
  by_cases n35 : op = 35
  · subst n35
    simp [fieldsB, mwB, miB, minsB, okU, usedD, opB, castOpB, sameB, regB, castB, castOk, val0]
    try (rw [Bool.eq_iff_iff]; simp; constructor <;> (intro hh; simp_all <;> omega))
  by_cases n21 : op = 21
  · subst n21
    simp [fieldsB, mwB, miB, minsB, okU, usedD, opB, castOpB, sameB, regB]
    rw [Bool.eq_iff_iff]; simp [valueB]; constructor <;> (intro hh; simp_all)
  by_cases n22 : op = 22
  · subst n22
    simp [fieldsB, mwB, miB, minsB, okU, usedD, opB, castOpB, sameB, regB, castB, castOk, val0]
    try (rw [Bool.eq_iff_iff]; simp; constructor <;> (intro hh; simp_all <;> omega))
  by_cases n23 : op = 23
  · subst n23
    simp [fieldsB, mwB, miB, minsB, okU, usedD, opB, castOpB, sameB, regB, castB, castOk, val0]
    try (rw [Bool.eq_iff_iff]; simp; constructor <;> (intro hh; simp_all <;> omega))
  by_cases n24 : op = 24
  · subst n24
    simp [fieldsB, mwB, miB, minsB, okU, usedD, opB, castOpB, sameB, regB, castB, castOk, val0]
    try (rw [Bool.eq_iff_iff]; simp; constructor <;> (intro hh; simp_all <;> omega))
  by_cases n25 : op = 25
  · subst n25
    simp [fieldsB, mwB, miB, minsB, okU, usedD, opB, castOpB, sameB, regB, castB, castOk, val0]
    try (rw [Bool.eq_iff_iff]; simp; constructor <;> (intro hh; simp_all <;> omega))
  by_cases n18 : op = 18
  · subst n18
    simp [fieldsB, mwB, miB, minsB, okU, usedD, opB, castOpB, sameB, regB, castB, castOk, val0]
    try (rw [Bool.eq_iff_iff]; simp; constructor <;> (intro hh; simp_all <;> omega))
  by_cases n19 : op = 19
  · subst n19
    simp [fieldsB, mwB, miB, minsB, okU, usedD, opB, castOpB, sameB, regB, castB, castOk, val0]
    try (rw [Bool.eq_iff_iff]; simp; constructor <;> (intro hh; simp_all <;> omega))
  by_cases n20 : op = 20
  · subst n20
    simp [fieldsB, mwB, miB, minsB, okU, usedD, opB, castOpB, sameB, regB, castB, castOk, val0]
    try (rw [Bool.eq_iff_iff]; simp; constructor <;> (intro hh; simp_all <;> omega))
  by_cases q : 1 ≤ op ∧ op ≤ 17
  · have q1 := q.1
    have q2 := q.2
    have o1 : opB op = true := by simp [opB, q1, q2]
    have o2 : castOpB op = false := by simp [castOpB]; omega
    simp only [fieldsB, mwB, miB, minsB, okU, usedD, sameB, regB, o1, o2, if_pos q, n31, n32, n34, n33, n35, n21, n22, n23, n24, n25]
    simp
    by_cases hi : imm = 0 <;> simp [hi]
    rw [Bool.eq_iff_iff]; simp; constructor <;> (intro hh; simp_all)
  · have o1 : opB op = false := by simp [opB]; omega
    have o2 : castOpB op = false := by simp [castOpB]; omega
    have q2 : ¬ (18 ≤ op ∧ op ≤ 20) := by omega
    simp [fieldsB, minsB, okU, o1, o2, if_neg q, if_neg q2, n31, n32, n34, n33, n35, n21, n22, n23, n24, n25]
end Go.Proofs.YtpmanjkaiknlhaaDoor
