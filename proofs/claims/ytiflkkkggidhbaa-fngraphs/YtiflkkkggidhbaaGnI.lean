/- A function that grows: how far it is, and each step in those words. -/
import Derived.Test.YtiflkkkggidhbaaGnH
namespace Go.Proofs.Ytiflkkkggidhbaa
open Go.RowKit Go.Deep
set_option linter.unusedVariables false

/-- So far: the function of the beginning, with at most so many steps more. -/
def St (base g G : Nat) (a0 : Option Addr) (len cap : Nat) (M : Tmap) (N : Nat) (S : GRec) (v : World) (j : Nat) (w : World) : Prop := ∃ M' S', Gok base g G a0 len cap M' (N + j) S' w ∧ Same S S' ∧ Mov g G M M' v w
variable {base g G len cap N j : Nat} {a0 : Option Addr} {M : Tmap} {S : GRec} {v w : World}
theorem Gok.st (h : Gok base g G a0 len cap M N S v) : St base g G a0 len cap M N S v 0 v := ⟨M, S, h, Same.refl _, Mov.refl _ _ _ _⟩
theorem St.cell0 (h : St base g G a0 len cap M N S v j w) : w.cell? ⟨G, 0, none⟩ = some (.pointer (some ⟨g, 0, none⟩)) := by
  obtain ⟨M', S', H, _, _⟩ := h
  exact (gcell H.cells 0).1.trans rfl
theorem St.cell10 (h : St base g G a0 len cap M N S v j w) : ∃ nx : Int, w.cell? ⟨G, 10, none⟩ = some (.int .i64 nx) := by
  obtain ⟨M', S', H, _, _⟩ := h
  exact ⟨S'.nx, (gcell H.cells 10).1.trans rfl⟩
theorem St.glt (h : St base g G a0 len cap M N S v j w) : g < w.heap.size := by
  obtain ⟨M', S', H, _, _⟩ := h
  exact H.rd.lt
theorem St.Glt (h : St base g G a0 len cap M N S v j w) : G < w.heap.size := by
  obtain ⟨M', S', H, _, _⟩ := h
  exact (Array.getElem?_eq_some_iff.1 H.cells).1
theorem St.mono {i : Nat} (h : St base g G a0 len cap M N S v j w) (hj : j ≤ i) (hN : N + i ≤ 10000) : St base g G a0 len cap M N S v i w := by
  obtain ⟨M', S', H, hS, V⟩ := h
  exact ⟨M', S', H.mono (by omega) hN, hS, V⟩
theorem St.below {w' : World} (h : St base g G a0 len cap M N S v j w) (k : Below w.heap.size w w') : St base g G a0 len cap M N S v j w' := by
  obtain ⟨M', S', H, hS, V⟩ := h
  obtain ⟨H2, V2⟩ := H.below k
  exact ⟨M', S', H2, hS, V.trans V2⟩
theorem St.alloc (h : St base g G a0 len cap M N S v j w) (o : Obj) : St base g G a0 len cap M N S v j (w.alloc o) := h.below ((Below.refl _ _).alloc (Nat.le_refl _) _)
theorem St.drew (h : St base g G a0 len cap M N S v j w) : St base g G a0 len cap M N S v j w.drew := h.below (Below.refl _ _).drew
theorem St.trans {i : Nat} {u : World} {M' : Tmap} {S' : GRec} (hG : Gok base g G a0 len cap M' (N + j) S' w) (hS : Same S S') (hV : Mov g G M M' v w) (k : St base g G a0 len cap M' (N + j) S' w i u) : St base g G a0 len cap M N S v (j + i) u := by
  obtain ⟨M2, S2, H2, hS2, V2⟩ := k
  exact ⟨M2, S2, by rw [← Nat.add_assoc]; exact H2, hS.trans hS2, hV.trans V2⟩
theorem St.read {w' : World} (h : St base g G a0 len cap M N S v j w) (hr : Rd g a0 len cap w') (k : w.grownBy w' (some g)) : St base g G a0 len cap M N S v j w' := by
  obtain ⟨M', S', H, hS, V⟩ := h
  obtain ⟨H2, V2⟩ := H.read hr k
  exact ⟨M', S', H2, hS, V.trans V2⟩
theorem below_st (h : St base g G a0 len cap M N S v j w) (m : Int) (hm : 1 ≤ m) :
    Calls Try.prog 41 #[.pointer (some ⟨g, 0, none⟩), .int .i64 m] w fun e w' => ∃ k : Nat, e = .returned (.int .i64 k) ∧ (k : Int) < m ∧ St base g G a0 len cap M N S v j w' ∧ w.grownBy w' (some g) := by
  have hr : Rd g a0 len cap w := by obtain ⟨M', S', H, _, _⟩ := h; exact H.rd
  refine (below_any g a0 len cap m w hr).mono ?_
  rintro e w' ⟨n, rfl, h0, h1, hr', hg'⟩
  obtain ⟨k, rfl⟩ := Int.eq_ofNat_of_zero_le h0
  exact ⟨k, rfl, by omega, h.read hr' hg', hg'⟩
theorem width_st (h : St base g G a0 len cap M N S v j w) :
    Calls Try.prog 62 #[.pointer (some ⟨g, 0, none⟩)] w fun e w' => ∃ x : Int, e = .returned (.int .i64 x) ∧ (x = 1 ∨ x = 8 ∨ x = 16 ∨ x = 32) ∧ St base g G a0 len cap M N S v j w' ∧ w.grownBy w' (some g) := by
  have hr : Rd g a0 len cap w := by obtain ⟨M', S', H, _, _⟩ := h; exact H.rd
  refine (width_any g a0 len cap w hr).mono ?_
  rintro e w' ⟨n, rfl, h0, hr', hg'⟩
  exact ⟨n, rfl, h0, h.read hr' hg', hg'⟩
theorem value_st (h : St base g G a0 len cap M N S v j w) (x : Int) (hx : x = 1 ∨ x = 8 ∨ x = 16 ∨ x = 32) :
    Calls Try.prog 70 #[.pointer (some ⟨g, 0, none⟩), .int .i64 x] w fun e w' => ∃ n : Int, e = .returned (.int .i64 n) ∧ St base g G a0 len cap M N S v j w' := by
  have hr : Rd g a0 len cap w := by obtain ⟨M', S', H, _, _⟩ := h; exact H.rd
  refine (value_any g a0 len cap x w hr hx).mono ?_
  rintro e w' ⟨n, rfl, _, _, hr', hg'⟩
  exact ⟨n, rfl, h.read hr' hg'⟩
theorem pick_st (h : St base g G a0 len cap M N S v j w) (x : Int) (hx : x = 1 ∨ x = 8 ∨ x = 16 ∨ x = 32) (hN : N + j + 2 ≤ 10000) :
    Calls Try.prog 71 #[.pointer (some ⟨G, 0, none⟩), .int .i64 x] w fun e w' => ∃ n : Int, e = .returned (.int .i64 n) ∧ St base g G a0 len cap M N S v (j + 2) w' := by
  obtain ⟨M', S', H, hS, V⟩ := h
  refine (pick_any base g G a0 len cap M' (N + j) S' x w H hN hx).mono ?_
  rintro e w' ⟨n, rfl, M2, S2, H2, hS2, V2⟩
  exact ⟨n, rfl, M2, S2, H2, hS.trans hS2, V.trans V2⟩
theorem put_st (h : St base g G a0 len cap M N S v j w) (op iw a b c imm : Int) (hN : N + j + 2 ≤ 10000) :
    Calls Try.prog 69 #[.pointer (some ⟨G, 0, none⟩), .agg #[.int .i64 op, .int .i64 iw, .int .i64 a, .int .i64 b, .int .i64 c, .int .i64 imm, .slice none 0 0]] w fun e w' => ∃ n : Int, e = .returned (.int .i64 n) ∧ St base g G a0 len cap M N S v (j + 2) w' := by
  obtain ⟨M', S', H, hS, V⟩ := h
  refine (put_any base g G a0 len cap M' (N + j) S' op iw a b c imm none 0 0 w H hN ⟨none, 0, rfl, .inl rfl⟩ (by omega)).mono ?_
  rintro e w' ⟨n, rfl, M2, S2, H2, hS2, _, V2⟩
  exact ⟨n, rfl, M2, S2, H2, hS.trans hS2, V.trans V2⟩
theorem call_st (h : St base g G a0 len cap M N S v j w) (hp : ParW M S v) (hN : N + j + 6 ≤ 10000) :
    Calls Try.prog 72 #[.pointer (some ⟨G, 0, none⟩)] w fun e w' => (∃ r, e = .returned r) ∧ St base g G a0 len cap M N S v (j + 6) w' := by
  obtain ⟨M', S', H, hS, V⟩ := h
  refine (call_any base g G a0 len cap M' (N + j) S' w H hN (hp.mov hS V)).mono ?_
  rintro e w' ⟨hr, M2, S2, H2, hS2, V2⟩
  exact ⟨hr, M2, S2, H2, hS.trans hS2, V.trans V2⟩
end Go.Proofs.Ytiflkkkggidhbaa
