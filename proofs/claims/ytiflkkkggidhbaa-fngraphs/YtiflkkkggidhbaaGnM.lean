/- A function that grows: the block ends. -/
import Derived.Test.YtiflkkkggidhbaaGnL
namespace Go.Proofs.Ytiflkkkggidhbaa
open Go.RowKit Go.Deep
set_option linter.unusedVariables false

theorem set_os (w : World) (a : Addr) (x : Value) : (w.setCell a x).os = w.os := rfl
theorem set_tape (w : World) (a : Addr) (x : Value) : (w.setCell a x).tape = w.tape := rfl
theorem set_output (w : World) (a : Addr) (x : Value) : (w.setCell a x).output = w.output := rfl
/-- What closing leaves. -/
def Closed (S : GRec) (s' : Value) : GRec := { S with bv := s', nb := S.nb + 1, phv := .slice none 0 0, nph := 0, iv := .slice none 0 0, ni := 0, kd := 0, ta := 0, tx := 0, ty := 0 }
set_option maxHeartbeats 600000 in
set_option maxRecDepth 100000 in
theorem close_any (base g G : Nat) (a0 : Option Addr) (len cap : Nat) (M : Tmap) (N : Nat) (S : GRec) (kd ta tx ty : Int) (v : World) (h : Gok base g G a0 len cap M N S v) (hN : N + 1 ≤ 10000) :
    Calls Try.prog 73 #[.pointer (some ⟨G, 0, none⟩), .agg #[.int .i64 kd, .int .i64 ta, .int .i64 tx, .int .i64 ty]] v fun e v' => (∃ r, e = .returned r) ∧ ∃ M' s', Gok base g G a0 len cap M' (N + 1) (Closed S s') v' ∧ Mv g G M M' v v' := by
  have hGl := (Array.getElem?_eq_some_iff.1 h.cells).1
  have B1 : Below v.heap.size v (v.alloc (.cells #[.int .i64 kd, .int .i64 ta, .int .i64 tx, .int .i64 ty] 45)) := (Below.refl _ _).alloc (Nat.le_refl _) _
  have HH : Hid (Gok base g G a0 len cap M N S (v.alloc (.cells #[.int .i64 kd, .int .i64 ta, .int .i64 tx, .int .i64 ty] 45)) ∧ Mov g G M M v (v.alloc (.cells #[.int .i64 kd, .int .i64 ta, .int .i64 tx, .int .i64 ty] 45))) := h.below B1
  have q0 : v.heap[G]? = some (.cells (gcells g S) 101 (0, 0)) := h.cells
  have q1 : (v.setCell ⟨G, 6, none⟩ (.int .i64 kd)).heap[G]? = some (.cells (gcells g { S with kd := kd }) 101 (0, 0)) := (heap_set q0).trans rfl
  have q2 : ((v.setCell ⟨G, 6, none⟩ (.int .i64 kd)).setCell ⟨G, 7, none⟩ (.int .i64 ta)).heap[G]? = some (.cells (gcells g { S with kd := kd, ta := ta }) 101 (0, 0)) := (heap_set q1).trans rfl
  have q3 : (((v.setCell ⟨G, 6, none⟩ (.int .i64 kd)).setCell ⟨G, 7, none⟩ (.int .i64 ta)).setCell ⟨G, 8, none⟩ (.int .i64 tx)).heap[G]? = some (.cells (gcells g { S with kd := kd, ta := ta, tx := tx }) 101 (0, 0)) := (heap_set q2).trans rfl
  have q4 : ((((v.setCell ⟨G, 6, none⟩ (.int .i64 kd)).setCell ⟨G, 7, none⟩ (.int .i64 ta)).setCell ⟨G, 8, none⟩ (.int .i64 tx)).setCell ⟨G, 9, none⟩ (.int .i64 ty)).heap[G]? = some (.cells (gcells g { S with kd := kd, ta := ta, tx := tx, ty := ty }) 101 (0, 0)) := (heap_set q3).trans rfl
  have p0 : (v.alloc (.cells #[.int .i64 kd, .int .i64 ta, .int .i64 tx, .int .i64 ty] 45)).heap[G]? = some (.cells (gcells g S) 101 (0, 0)) := (Below.heap_alloc _ _ _ (by simpa [World.setCell] using hGl)).trans q0
  have p1 : ((v.setCell ⟨G, 6, none⟩ (.int .i64 kd)).alloc (.cells #[.int .i64 kd, .int .i64 ta, .int .i64 tx, .int .i64 ty] 45)).heap[G]? = some (.cells (gcells g { S with kd := kd }) 101 (0, 0)) := (Below.heap_alloc _ _ _ (by simpa [World.setCell] using hGl)).trans q1
  have p2 : (((v.setCell ⟨G, 6, none⟩ (.int .i64 kd)).setCell ⟨G, 7, none⟩ (.int .i64 ta)).alloc (.cells #[.int .i64 kd, .int .i64 ta, .int .i64 tx, .int .i64 ty] 45)).heap[G]? = some (.cells (gcells g { S with kd := kd, ta := ta }) 101 (0, 0)) := (Below.heap_alloc _ _ _ (by simpa [World.setCell] using hGl)).trans q2
  have p3 : ((((v.setCell ⟨G, 6, none⟩ (.int .i64 kd)).setCell ⟨G, 7, none⟩ (.int .i64 ta)).setCell ⟨G, 8, none⟩ (.int .i64 tx)).alloc (.cells #[.int .i64 kd, .int .i64 ta, .int .i64 tx, .int .i64 ty] 45)).heap[G]? = some (.cells (gcells g { S with kd := kd, ta := ta, tx := tx }) 101 (0, 0)) := (Below.heap_alloc _ _ _ (by simpa [World.setCell] using hGl)).trans q3
  have p4 : (((((v.setCell ⟨G, 6, none⟩ (.int .i64 kd)).setCell ⟨G, 7, none⟩ (.int .i64 ta)).setCell ⟨G, 8, none⟩ (.int .i64 tx)).setCell ⟨G, 9, none⟩ (.int .i64 ty)).alloc (.cells #[.int .i64 kd, .int .i64 ta, .int .i64 tx, .int .i64 ty] 45)).heap[G]? = some (.cells (gcells g { S with kd := kd, ta := ta, tx := tx, ty := ty }) 101 (0, 0)) := (Below.heap_alloc _ _ _ (by simpa [World.setCell] using hGl)).trans q4
  have c0 : (v.alloc (.cells #[.int .i64 kd, .int .i64 ta, .int .i64 tx, .int .i64 ty] 45)).cell? ⟨G, 6, none⟩ = some (.int .i64 S.kd) := (gcell p0 6).1.trans rfl
  have z0 : (v.alloc (.cells #[.int .i64 kd, .int .i64 ta, .int .i64 tx, .int .i64 ty] 45)).frozen? ⟨G, 6, none⟩ = false := (gcell p0 6).2
  have c1 : ((v.setCell ⟨G, 6, none⟩ (.int .i64 kd)).alloc (.cells #[.int .i64 kd, .int .i64 ta, .int .i64 tx, .int .i64 ty] 45)).cell? ⟨G, 7, none⟩ = some (.int .i64 S.ta) := (gcell p1 7).1.trans rfl
  have z1 : ((v.setCell ⟨G, 6, none⟩ (.int .i64 kd)).alloc (.cells #[.int .i64 kd, .int .i64 ta, .int .i64 tx, .int .i64 ty] 45)).frozen? ⟨G, 7, none⟩ = false := (gcell p1 7).2
  have c2 : (((v.setCell ⟨G, 6, none⟩ (.int .i64 kd)).setCell ⟨G, 7, none⟩ (.int .i64 ta)).alloc (.cells #[.int .i64 kd, .int .i64 ta, .int .i64 tx, .int .i64 ty] 45)).cell? ⟨G, 8, none⟩ = some (.int .i64 S.tx) := (gcell p2 8).1.trans rfl
  have z2 : (((v.setCell ⟨G, 6, none⟩ (.int .i64 kd)).setCell ⟨G, 7, none⟩ (.int .i64 ta)).alloc (.cells #[.int .i64 kd, .int .i64 ta, .int .i64 tx, .int .i64 ty] 45)).frozen? ⟨G, 8, none⟩ = false := (gcell p2 8).2
  have c3 : ((((v.setCell ⟨G, 6, none⟩ (.int .i64 kd)).setCell ⟨G, 7, none⟩ (.int .i64 ta)).setCell ⟨G, 8, none⟩ (.int .i64 tx)).alloc (.cells #[.int .i64 kd, .int .i64 ta, .int .i64 tx, .int .i64 ty] 45)).cell? ⟨G, 9, none⟩ = some (.int .i64 S.ty) := (gcell p3 9).1.trans rfl
  have z3 : ((((v.setCell ⟨G, 6, none⟩ (.int .i64 kd)).setCell ⟨G, 7, none⟩ (.int .i64 ta)).setCell ⟨G, 8, none⟩ (.int .i64 tx)).alloc (.cells #[.int .i64 kd, .int .i64 ta, .int .i64 tx, .int .i64 ty] 45)).frozen? ⟨G, 9, none⟩ = false := (gcell p3 9).2
  clear q0 q1 q2 q3 q4 p0 p1 p2 p3
  go_enter Try.func73, Try.ntmps73
  obtain ⟨i0, hi, hz0, hz1, hz2⟩ := info_parts infoB
  have HX : Gok base g G a0 len cap M N { S with kd := kd, ta := ta, tx := tx, ty := ty } (((((v.setCell ⟨G, 6, none⟩ (.int .i64 kd)).setCell ⟨G, 7, none⟩ (.int .i64 ta)).setCell ⟨G, 8, none⟩ (.int .i64 tx)).setCell ⟨G, 9, none⟩ (.int .i64 ty)).alloc (.cells #[.int .i64 kd, .int .i64 ta, .int .i64 tx, .int .i64 ty] 45)) ∧ Mov g G M M v (((((v.setCell ⟨G, 6, none⟩ (.int .i64 kd)).setCell ⟨G, 7, none⟩ (.int .i64 ta)).setCell ⟨G, 8, none⟩ (.int .i64 tx)).setCell ⟨G, 9, none⟩ (.int .i64 ty)).alloc (.cells #[.int .i64 kd, .int .i64 ta, .int .i64 tx, .int .i64 ty] 45)) := h.grew (Nat.le_refl _) (fun b hb hn => (Below.heap_alloc _ _ _ (by simpa [World.setCell] using hb)).trans (by rw [Below.heap_setCell _ _ _ _ hn, Below.heap_setCell _ _ _ _ hn, Below.heap_setCell _ _ _ _ hn, Below.heap_setCell _ _ _ _ hn])) (by simp [World.setCell]) rfl rfl rfl (fun _ _ => rfl) (fun b T m hb hm => by rw [h.th.none hb] at hm; cases hm) p4 ⟨rfl, rfl, rfl, rfl, rfl, rfl, rfl, rfl, rfl, rfl, rfl⟩ h.ids (by have := h.bn; dsimp only; omega)
  go_wp2_with fail
  clear c0 c1 c2 c3 z0 z1 z2 z3
  generalize (((((v.setCell ⟨G, 6, none⟩ (.int .i64 kd)).setCell ⟨G, 7, none⟩ (.int .i64 ta)).setCell ⟨G, 8, none⟩ (.int .i64 tx)).setCell ⟨G, 9, none⟩ (.int .i64 ty)).alloc (.cells #[.int .i64 kd, .int .i64 ta, .int .i64 tx, .int .i64 ty] 45)) = wx at p4 HX ⊢
  obtain ⟨HX, VX⟩ := HX
  have hbn := HX.bn
  dsimp only at hbn
  have hGx := (Array.getElem?_eq_some_iff.1 p4).1
  have B2 : Below wx.heap.size wx (wx.drew.alloc (.cells #[S.phv, S.iv, .int .i64 kd, .int .i64 ta, .int .i64 tx, .int .i64 ty] 47)) := (Below.refl _ _).drew.alloc (Nat.le_refl _) _
  have HH2 : Hid (Gok base g G a0 len cap M N { S with kd := kd, ta := ta, tx := tx, ty := ty } (wx.drew.alloc (.cells #[S.phv, S.iv, .int .i64 kd, .int .i64 ta, .int .i64 tx, .int .i64 ty] 47)) ∧ Mov g G M M wx (wx.drew.alloc (.cells #[S.phv, S.iv, .int .i64 kd, .int .i64 ta, .int .i64 tx, .int .i64 ty] 47))) := HX.below B2
  have LAW : Hid (∀ ty', ∃ s' w' M', (Builtin.append_ #[25, 25] ty' #[S.bv, .slice (some ⟨wx.heap.size, 0, none⟩) 1 1]).run Try.prog (wx.drew.alloc (.cells #[S.phv, S.iv, .int .i64 kd, .int .i64 ta, .int .i64 tx, .int .i64 ty] 47)) = .ok s' w' ∧ Pushed base M M' (N + 1) 47 S.nb (wx.drew.alloc (.cells #[S.phv, S.iv, .int .i64 kd, .int .i64 ta, .int .i64 tx, .int .i64 ty] 47)) w' s') := fun ty' =>
    run_row i0 _ 80 Try.underlying25 hi hz0 hz1 hz2 (by decide) (by omega) HH2.out.1.b HH2.out.1.th (by omega) (.inr (.inr (.inr (.inr rfl)))) HH2.out.1.bv (by dsimp only; omega) ⟨wx.heap.size, 0, none⟩ 1 [S.phv, S.iv, .int .i64 kd, .int .i64 ta, .int .i64 tx, .int .i64 ty] rfl (six_of (heap_alloc_last wx.drew _)) (by
      have o1 := HX.ph.sl
      have o2 := HX.i.sl
      obtain ⟨_, _, e1, _⟩ := o1
      obtain ⟨_, _, e2, _⟩ := o2
      dsimp only at e1 e2
      simp [Value.oneCell', e1, e2]) (el_block ⟨S.nph, by omega, HX.ph.sl⟩ ⟨S.ni, by omega, HX.i.sl⟩)
  clear hi hz0 hz1 hz2
  have k3 : wx.cell? ⟨G, 3, none⟩ = some S.bv := (gcell p4 3).1.trans rfl
  have k4 : wx.cell? ⟨G, 4, none⟩ = some S.phv := (gcell p4 4).1.trans rfl
  have k5 : wx.cell? ⟨G, 5, none⟩ = some S.iv := (gcell p4 5).1.trans rfl
  have k6 : wx.cell? ⟨G, 6, none⟩ = some (.int .i64 kd) := (gcell p4 6).1.trans rfl
  have k7 : wx.cell? ⟨G, 7, none⟩ = some (.int .i64 ta) := (gcell p4 7).1.trans rfl
  have k8 : wx.cell? ⟨G, 8, none⟩ = some (.int .i64 tx) := (gcell p4 8).1.trans rfl
  have k9 : wx.cell? ⟨G, 9, none⟩ = some (.int .i64 ty) := (gcell p4 9).1.trans rfl
  have x3 := (cell_block (o := 3) (B2.block G hGx)).trans k3
  go_cut [0] (fun s0 wz => s0 = .pointer (some ⟨G, 0, none⟩) ∧ ∃ w2 s' M', Pushed base M M' (N + 1) 47 S.nb (wx.drew.alloc (.cells #[S.phv, S.iv, .int .i64 kd, .int .i64 ta, .int .i64 tx, .int .i64 ty] 47)) w2 s' ∧ wz = w2.setCell ⟨G, 3, none⟩ s')
  case first =>
    go_region_law (refine step_row rfl (.tmp 14) (.tmp 19) 25 rfl rfl rfl LAW.out ?_; intro s' w2 M' hP; obtain ⟨gs, qs, rfl⟩ := hP.row.form; have y0 := (hP.out G (by exact Nat.lt_of_lt_of_le hGx B2.size) h.mG).1.trans ((B2.block G hGx).trans p4); have y3 : w2.cell? ⟨G, 3, none⟩ = some S.bv := (gcell y0 3).1.trans rfl; have z3 := (gcell y0 3).2; clear y0)
    all_goals
      go_wp2_with fail
      go_meet
      case rel => exact ⟨rfl, w2, _, M', hP, rfl⟩
  case rest =>
    obtain ⟨rfl, w2, s', M', hP, rfl⟩ := hcut
    obtain ⟨H1, V1⟩ := HH2.out
    obtain ⟨H2, V2⟩ := H1.pushB (by omega) hP
    clear k3 k4 k5 k6 k7 k8 k9 x3 LAW HH2 B2
    generalize w2.setCell ⟨G, 3, none⟩ s' = wy at H2 V2 ⊢
    have q0 : wy.heap[G]? = some (.cells (gcells g { S with bv := s', nb := S.nb + 1, kd := kd, ta := ta, tx := tx, ty := ty }) 101 (0, 0)) := H2.cells
    have q1 : (wy.setCell ⟨G, 4, none⟩ (.slice none 0 0)).heap[G]? = some (.cells (gcells g { S with bv := s', nb := S.nb + 1, kd := kd, ta := ta, tx := tx, ty := ty, phv := .slice none 0 0 }) 101 (0, 0)) := (heap_set q0).trans rfl
    have q2 : ((wy.setCell ⟨G, 4, none⟩ (.slice none 0 0)).setCell ⟨G, 5, none⟩ (.slice none 0 0)).heap[G]? = some (.cells (gcells g { S with bv := s', nb := S.nb + 1, kd := kd, ta := ta, tx := tx, ty := ty, phv := .slice none 0 0, iv := .slice none 0 0 }) 101 (0, 0)) := (heap_set q1).trans rfl
    have q3 : (((wy.setCell ⟨G, 4, none⟩ (.slice none 0 0)).setCell ⟨G, 5, none⟩ (.slice none 0 0)).setCell ⟨G, 6, none⟩ (.int .i64 0)).heap[G]? = some (.cells (gcells g { S with bv := s', nb := S.nb + 1, kd := 0, ta := ta, tx := tx, ty := ty, phv := .slice none 0 0, iv := .slice none 0 0 }) 101 (0, 0)) := (heap_set q2).trans rfl
    have q4 : ((((wy.setCell ⟨G, 4, none⟩ (.slice none 0 0)).setCell ⟨G, 5, none⟩ (.slice none 0 0)).setCell ⟨G, 6, none⟩ (.int .i64 0)).setCell ⟨G, 7, none⟩ (.int .i64 0)).heap[G]? = some (.cells (gcells g { S with bv := s', nb := S.nb + 1, kd := 0, ta := 0, tx := tx, ty := ty, phv := .slice none 0 0, iv := .slice none 0 0 }) 101 (0, 0)) := (heap_set q3).trans rfl
    have q5 : (((((wy.setCell ⟨G, 4, none⟩ (.slice none 0 0)).setCell ⟨G, 5, none⟩ (.slice none 0 0)).setCell ⟨G, 6, none⟩ (.int .i64 0)).setCell ⟨G, 7, none⟩ (.int .i64 0)).setCell ⟨G, 8, none⟩ (.int .i64 0)).heap[G]? = some (.cells (gcells g { S with bv := s', nb := S.nb + 1, kd := 0, ta := 0, tx := 0, ty := ty, phv := .slice none 0 0, iv := .slice none 0 0 }) 101 (0, 0)) := (heap_set q4).trans rfl
    have q6 : ((((((wy.setCell ⟨G, 4, none⟩ (.slice none 0 0)).setCell ⟨G, 5, none⟩ (.slice none 0 0)).setCell ⟨G, 6, none⟩ (.int .i64 0)).setCell ⟨G, 7, none⟩ (.int .i64 0)).setCell ⟨G, 8, none⟩ (.int .i64 0)).setCell ⟨G, 9, none⟩ (.int .i64 0)).heap[G]? = some (.cells (gcells g { S with bv := s', nb := S.nb + 1, kd := 0, ta := 0, tx := 0, ty := 0, phv := .slice none 0 0, iv := .slice none 0 0 }) 101 (0, 0)) := (heap_set q5).trans rfl
    have c0 : wy.cell? ⟨G, 4, none⟩ = some S.phv := (gcell q0 4).1.trans rfl
    have z0 : wy.frozen? ⟨G, 4, none⟩ = false := (gcell q0 4).2
    have c1 : (wy.setCell ⟨G, 4, none⟩ (.slice none 0 0)).cell? ⟨G, 5, none⟩ = some S.iv := (gcell q1 5).1.trans rfl
    have z1 : (wy.setCell ⟨G, 4, none⟩ (.slice none 0 0)).frozen? ⟨G, 5, none⟩ = false := (gcell q1 5).2
    have c2 : ((wy.setCell ⟨G, 4, none⟩ (.slice none 0 0)).setCell ⟨G, 5, none⟩ (.slice none 0 0)).cell? ⟨G, 6, none⟩ = some (.int .i64 kd) := (gcell q2 6).1.trans rfl
    have z2 : ((wy.setCell ⟨G, 4, none⟩ (.slice none 0 0)).setCell ⟨G, 5, none⟩ (.slice none 0 0)).frozen? ⟨G, 6, none⟩ = false := (gcell q2 6).2
    have c3 : (((wy.setCell ⟨G, 4, none⟩ (.slice none 0 0)).setCell ⟨G, 5, none⟩ (.slice none 0 0)).setCell ⟨G, 6, none⟩ (.int .i64 0)).cell? ⟨G, 7, none⟩ = some (.int .i64 ta) := (gcell q3 7).1.trans rfl
    have z3 : (((wy.setCell ⟨G, 4, none⟩ (.slice none 0 0)).setCell ⟨G, 5, none⟩ (.slice none 0 0)).setCell ⟨G, 6, none⟩ (.int .i64 0)).frozen? ⟨G, 7, none⟩ = false := (gcell q3 7).2
    have c4 : ((((wy.setCell ⟨G, 4, none⟩ (.slice none 0 0)).setCell ⟨G, 5, none⟩ (.slice none 0 0)).setCell ⟨G, 6, none⟩ (.int .i64 0)).setCell ⟨G, 7, none⟩ (.int .i64 0)).cell? ⟨G, 8, none⟩ = some (.int .i64 tx) := (gcell q4 8).1.trans rfl
    have z4 : ((((wy.setCell ⟨G, 4, none⟩ (.slice none 0 0)).setCell ⟨G, 5, none⟩ (.slice none 0 0)).setCell ⟨G, 6, none⟩ (.int .i64 0)).setCell ⟨G, 7, none⟩ (.int .i64 0)).frozen? ⟨G, 8, none⟩ = false := (gcell q4 8).2
    have c5 : (((((wy.setCell ⟨G, 4, none⟩ (.slice none 0 0)).setCell ⟨G, 5, none⟩ (.slice none 0 0)).setCell ⟨G, 6, none⟩ (.int .i64 0)).setCell ⟨G, 7, none⟩ (.int .i64 0)).setCell ⟨G, 8, none⟩ (.int .i64 0)).cell? ⟨G, 9, none⟩ = some (.int .i64 ty) := (gcell q5 9).1.trans rfl
    have z5 : (((((wy.setCell ⟨G, 4, none⟩ (.slice none 0 0)).setCell ⟨G, 5, none⟩ (.slice none 0 0)).setCell ⟨G, 6, none⟩ (.int .i64 0)).setCell ⟨G, 7, none⟩ (.int .i64 0)).setCell ⟨G, 8, none⟩ (.int .i64 0)).frozen? ⟨G, 9, none⟩ = false := (gcell q5 9).2
    clear q0 q1 q2 q3 q4 q5
    have R := H2.reset (v' := ((((((wy.setCell ⟨G, 4, none⟩ (.slice none 0 0)).setCell ⟨G, 5, none⟩ (.slice none 0 0)).setCell ⟨G, 6, none⟩ (.int .i64 0)).setCell ⟨G, 7, none⟩ (.int .i64 0)).setCell ⟨G, 8, none⟩ (.int .i64 0)).setCell ⟨G, 9, none⟩ (.int .i64 0))) (fun b hn => by rw [Below.heap_setCell _ _ _ _ hn, Below.heap_setCell _ _ _ _ hn, Below.heap_setCell _ _ _ _ hn, Below.heap_setCell _ _ _ _ hn, Below.heap_setCell _ _ _ _ hn, Below.heap_setCell _ _ _ _ hn]) (by simp only [World.size_setCell]) (by simp only [set_os]) (by simp only [set_tape]) (by simp only [set_output]) (q6.trans (by unfold gcells; rfl))
    go_wp2_with fail
    exact bodyPost_end (results_none Try.results73 _ _ _) rfl ⟨⟨_, rfl⟩, M', ⟨s', R.1⟩, ((VX.mv.trans V1.mv).trans V2).trans R.2⟩
end Go.Proofs.Ytiflkkkggidhbaa
