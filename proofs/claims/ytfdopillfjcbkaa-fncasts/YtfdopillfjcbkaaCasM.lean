/- Plain arithmetic of casts: what is made wider and cut again is what it was; with its sign it is the same number. -/
import Derived.Test.YtfdopillfjcbkaaCas
namespace Go.Proofs.Ytfdopillfjcbkaa

theorem cast_yes {op f t v : Int} (h : castB op f t v = true) : valueB f v = true ∧ widthB t = true ∧ ((op = 18 ∧ f < t) ∨ (op = 19 ∧ f < t) ∨ (op = 20 ∧ t < f)) := by
  simp [castB, castOk] at h
  obtain ⟨⟨h1, h2⟩, h3⟩ := h
  exact ⟨h1, h2, by rcases h3 with (h3 | h3) | h3 <;> simp [h3]⟩
theorem cast18 {f t v : Int} (hv : valueB f v = true) (ht : widthB t = true) (h : f < t) : castZ 18 f t v = v ∧ castZ 20 t f v = v ∧ castB 20 t f v = true := by
  obtain ⟨hf, h0, h1⟩ := value_yes hv
  rcases width_yes hf with rfl | rfl | rfl | rfl <;> rcases width_yes ht with rfl | rfl | rfl | rfl <;> first | omega | skip
  all_goals
    simp only [castZ, castB, castOk, valueB, maskZ, hf, ht, top1, top8, top16, top32] at *
    simp [h0, h1]
    try omega
theorem cast19 {f t v : Int} (hv : valueB f v = true) (ht : widthB t = true) (h : f < t) : signZ t (castZ 19 f t v) = signZ f v ∧ castZ 20 t f (castZ 19 f t v) = v ∧ castB 20 t f (castZ 19 f t v) = true := by
  have hz : castZ 19 f t v = maskZ t (sgnZ f v) := by simp [castZ, castOk, hv, ht, h]
  obtain ⟨hf, h0, h1⟩ := value_yes hv
  have e1 : signZ f v = sgnZ f v := by rw [signZ, if_pos hv]
  have e2 : maskZ t (sgnZ f v) = sgnZ f v % topZ t := by rw [maskZ, if_pos ht]
  have e3 : valueB t (sgnZ f v % topZ t) = true := value_mk ht (Int.emod_nonneg _ (by have := top_pos t; omega)) (Int.emod_lt_of_pos _ (by have := top_pos t; omega))
  have e4 : signZ t (sgnZ f v % topZ t) = sgnZ t (sgnZ f v % topZ t) := by rw [signZ, if_pos e3]
  have e5 : castZ 20 t f (sgnZ f v % topZ t) = sgnZ f v % topZ t % topZ f := by simp [castZ, castOk, e3, hf, h, maskZ]
  have e6 : castB 20 t f (sgnZ f v % topZ t) = true := by simp [castB, castOk, e3, hf, h]
  rw [hz, e2, e4, e1, e5]
  refine ⟨?_, ?_, e6⟩
  all_goals
    clear e1 e2 e3 e4 e5 e6 hz hv
    unfold sgnZ
    rcases width_yes hf with rfl | rfl | rfl | rfl <;> rcases width_yes ht with rfl | rfl | rfl | rfl
    all_goals first | omega | (simp only [top1, top8, top16, top32] at *; first | omega | (repeat' split) <;> omega)
theorem cast20 {f t v : Int} (hv : valueB f v = true) (ht : widthB t = true) (h : t < f) : castZ 20 f t v = maskZ t v := by
  simp [castZ, castOk, hv, ht, h]
end Go.Proofs.Ytfdopillfjcbkaa
