import Derived.Test.YtgojlnclpebdcaaGreatDoorGnLR
import Derived.Test.YtgojlnclpebdcaaGreatDoorGnER
namespace Go.Proofs.YtgojlnclpebdcaaGreatDoor
open Go.RowKit Go.Deep
set_option linter.unusedVariables false
theorem own_M {base n q : Nat} {M : Tmap} {T : TypeId} {s : Value} {v : World} (h : RowT base M T s n v) (hq : s.ownBlock = some q) : ∃ p, M q = some (T, p) := by
 rcases h with ⟨rfl, _⟩ | ⟨g, cap, cur, rfl, hg, hM, _⟩
 ·simp [Value.ownBlock] at hq
 ·simp [Value.ownBlock] at hq
  subst hq
  exact ⟨n, hM⟩
theorem own_lt {base n N q : Nat} {M : Tmap} {T : TypeId} {s : Value} {v : World} (th : TH base M N v) (h : RowT base M T s n v) (hq : s.ownBlock = some q) : q < v.heap.size := by
 obtain ⟨p, hp⟩ := own_M h hq
 exact (th.lt ⟨_, hp⟩).2
set_option maxHeartbeats 2000000 in
set_option maxRecDepth 100000 in
theorem phi_two (base g G : Nat) (a0 : Option Addr) (len cap : Nat) (M : Tmap) (N : Nat) (S : GRec) (x : Int) (u : Option Addr) (na q : Nat) (v : World) (h : Gok base g G a0 len cap M N S v) (hN : N + 2 ≤ 10000) (hav : SlN M 2 (.slice u na q) na) (hna : na ≤ N) (h1a : 1 ≤ na) :
  Calls Tryz.prog 121 #[.pointer (some ⟨G, 0, none⟩), .int .i64 x, .slice u na q] v fun e v' => ∃ n : Int, e = .returned (.int .i64 n) ∧ ∃ M' S', Gok base g G a0 len cap M' (N + 2) S' v' ∧ (∃ s', S' = { S with phv := s', nph := S.nph + 1, idv := S'.idv, wsv := S'.wsv, nid := S.nid + 1, nx := S.nx + 1 }) ∧ Mv g G M M' v v' ∧ ∃ xs, v.ownsRow base 45 (szT 45) S.phv S.nph xs ∧ v'.ownsRow base 45 (szT 45) S'.phv (S.nph + 1) (xs ++ [.int .i64 x, .slice u na q]) := by
 obtain ⟨i0, hi, hz0, hz1, hz2⟩ := info_parts infoP
 have hbn := h.bn
 have hGl := (Array.getElem?_eq_some_iff.1 h.cells).1
 have B1 : Below v.heap.size v (v.alloc (.cells #[.int .i64 x, .slice u na q] 45)) := (Below.refl _ _).alloc (Nat.le_refl _) _
 have HH : Hid (Gok base g G a0 len cap M N S (v.alloc (.cells #[.int .i64 x, .slice u na q] 45)) ∧ Mov g G M M v (v.alloc (.cells #[.int .i64 x, .slice u na q] 45))) := h.below B1
 have LAW : Hid (∀ ty, ∃ s' w' M', (Builtin.append_ #[38, 38] ty #[S.phv, .slice (some ⟨v.heap.size, 0, none⟩) 1 1]).run Tryz.prog (v.alloc (.cells #[.int .i64 x, .slice u na q] 45)) = .ok s' w' ∧ (Pushed base M M' (N + 1) 45 S.nph (v.alloc (.cells #[.int .i64 x, .slice u na q] 45)) w' s' ∧ ∃ xs, (v.alloc (.cells #[.int .i64 x, .slice u na q] 45)).ownsRow base 45 (szT 45) S.phv S.nph xs ∧ w'.ownsRow base 45 (szT 45) s' (S.nph + 1) (xs ++ [.int .i64 x, .slice u na q]))) := fun ty =>
  run_row2 i0 _ 32 Tryz.underlying38 hi hz0 hz1 hz2 (by decide) (by omega) HH.out.1.ph HH.out.1.th (by omega) (.inr (.inr (.inl rfl))) HH.out.1.bv (by omega) ⟨v.heap.size, 0, none⟩ 1 [.int .i64 x, .slice u na q] rfl (two_of (heap_alloc_last v _)) (by simp [Value.oneCell']) (el_phi ⟨na, h1a, hna, hav⟩)
 have c4 : v.cell? ⟨G, 4, none⟩ = some S.phv := (gcell h.cells 4).1.trans rfl
 clear hi hz0 hz1 hz2
 go_enter Tryz.func121, Tryz.ntmps121
 go_wp2_with (first | (at_builtin; refine wpList_row rfl (.tmp 12) (.tmp 16) 38 rfl rfl rfl LAW.out ?_; intro s' w2 M' hPC; obtain ⟨hP, xs, hC1, hC2⟩ := hPC; obtain ⟨gs, qs, rfl⟩ := hP.row.form; have y0 := (hP.out G (by exact Nat.lt_of_lt_of_le hGl B1.size) h.mG).1.trans ((B1.block G hGl).trans h.cells); have y4 : w2.cell? ⟨G, 4, none⟩ = some S.phv := (gcell y0 4).1.trans rfl; have z4 := (gcell y0 4).2; clear y0; obtain ⟨H2, V2⟩ := HH.out.1.pushP (by omega) hP; have A := add_any base g G a0 len cap M' (N + 1) _ x _ H2 (by omega)) | (go_at_call 77; refine A.mono ?_; rintro e w4 ⟨n, rfl, M4, S4, H4, hS4, V4⟩))
 go_ret
 refine ⟨n, rfl, M4, S4, H4, ⟨_, hS4⟩, (HH.out.2.mv.trans V2).trans V4.mv, xs, own_stay hC1 fun q hq => (B1.block q (own_lt h.th h.ph hq)).symm, ?_⟩
 have e4 : S4.phv = .slice (some ⟨gs, 0, none⟩) (S.nph + 1) qs := by rw [hS4]
 rw [e4]
 refine own_stay hC2 fun q hq => ?_
 have hMq := own_M H2.ph hq
 obtain ⟨p, hMq⟩ := hMq
 refine (V4.hold q _ _ hMq (by decide)).1.trans (Below.heap_setCell _ _ _ _ fun e => ?_)
 have e' : q = G := e
 have := H2.mG
 rw [← e', hMq] at this
 cases this
set_option maxHeartbeats 1000000 in
set_option maxRecDepth 100000 in
theorem close_two (base g G : Nat) (a0 : Option Addr) (len cap : Nat) (M : Tmap) (N : Nat) (S : GRec) (kd ta tx ty : Int) (v : World) (h : Gok base g G a0 len cap M N S v) (hN : N + 1 ≤ 10000) :
  Calls Tryz.prog 120 #[.pointer (some ⟨G, 0, none⟩), .agg #[.int .i64 kd, .int .i64 ta, .int .i64 tx, .int .i64 ty]] v fun e v' => (∃ r, e = .returned r) ∧ ∃ M' s', Gok base g G a0 len cap M' (N + 1) (Closed S s') v' ∧ Mv g G M M' v v' ∧ (∀ b T m, M b = some (T, m) → T ≠ 43 → T ≠ 54 → v'.heap[b]? = v.heap[b]? ∧ M' b = some (T, m)) ∧ ∃ xs, v.ownsRow base 43 (szT 43) S.bv S.nb xs ∧ v'.ownsRow base 43 (szT 43) s' (S.nb + 1) (xs ++ [S.phv, S.iv, .int .i64 kd, .int .i64 ta, .int .i64 tx, .int .i64 ty]) := by
 have hGl := (Array.getElem?_eq_some_iff.1 h.cells).1
 have B1 : Below v.heap.size v (v.alloc (.cells #[.int .i64 kd, .int .i64 ta, .int .i64 tx, .int .i64 ty] 41)) := (Below.refl _ _).alloc (Nat.le_refl _) _
 have HH : Hid (Gok base g G a0 len cap M N S (v.alloc (.cells #[.int .i64 kd, .int .i64 ta, .int .i64 tx, .int .i64 ty] 41)) ∧ Mov g G M M v (v.alloc (.cells #[.int .i64 kd, .int .i64 ta, .int .i64 tx, .int .i64 ty] 41))) := h.below B1
 have q0 : v.heap[G]? = some (.cells (gcells g S) 139 (0, 0)) := h.cells
 have q1 : (v.setCell ⟨G, 6, none⟩ (.int .i64 kd)).heap[G]? = some (.cells (gcells g { S with kd := kd }) 139 (0, 0)) := (heap_set q0).trans rfl
 have q2 : ((v.setCell ⟨G, 6, none⟩ (.int .i64 kd)).setCell ⟨G, 7, none⟩ (.int .i64 ta)).heap[G]? = some (.cells (gcells g { S with kd := kd, ta := ta }) 139 (0, 0)) := (heap_set q1).trans rfl
 have q3 : (((v.setCell ⟨G, 6, none⟩ (.int .i64 kd)).setCell ⟨G, 7, none⟩ (.int .i64 ta)).setCell ⟨G, 8, none⟩ (.int .i64 tx)).heap[G]? = some (.cells (gcells g { S with kd := kd, ta := ta, tx := tx }) 139 (0, 0)) := (heap_set q2).trans rfl
 have q4 : ((((v.setCell ⟨G, 6, none⟩ (.int .i64 kd)).setCell ⟨G, 7, none⟩ (.int .i64 ta)).setCell ⟨G, 8, none⟩ (.int .i64 tx)).setCell ⟨G, 9, none⟩ (.int .i64 ty)).heap[G]? = some (.cells (gcells g { S with kd := kd, ta := ta, tx := tx, ty := ty }) 139 (0, 0)) := (heap_set q3).trans rfl
 have p0 : (v.alloc (.cells #[.int .i64 kd, .int .i64 ta, .int .i64 tx, .int .i64 ty] 41)).heap[G]? = some (.cells (gcells g S) 139 (0, 0)) := (Below.heap_alloc _ _ _ (by simpa [World.setCell] using hGl)).trans q0
 have p1 : ((v.setCell ⟨G, 6, none⟩ (.int .i64 kd)).alloc (.cells #[.int .i64 kd, .int .i64 ta, .int .i64 tx, .int .i64 ty] 41)).heap[G]? = some (.cells (gcells g { S with kd := kd }) 139 (0, 0)) := (Below.heap_alloc _ _ _ (by simpa [World.setCell] using hGl)).trans q1
 have p2 : (((v.setCell ⟨G, 6, none⟩ (.int .i64 kd)).setCell ⟨G, 7, none⟩ (.int .i64 ta)).alloc (.cells #[.int .i64 kd, .int .i64 ta, .int .i64 tx, .int .i64 ty] 41)).heap[G]? = some (.cells (gcells g { S with kd := kd, ta := ta }) 139 (0, 0)) := (Below.heap_alloc _ _ _ (by simpa [World.setCell] using hGl)).trans q2
 have p3 : ((((v.setCell ⟨G, 6, none⟩ (.int .i64 kd)).setCell ⟨G, 7, none⟩ (.int .i64 ta)).setCell ⟨G, 8, none⟩ (.int .i64 tx)).alloc (.cells #[.int .i64 kd, .int .i64 ta, .int .i64 tx, .int .i64 ty] 41)).heap[G]? = some (.cells (gcells g { S with kd := kd, ta := ta, tx := tx }) 139 (0, 0)) := (Below.heap_alloc _ _ _ (by simpa [World.setCell] using hGl)).trans q3
 have p4 : (((((v.setCell ⟨G, 6, none⟩ (.int .i64 kd)).setCell ⟨G, 7, none⟩ (.int .i64 ta)).setCell ⟨G, 8, none⟩ (.int .i64 tx)).setCell ⟨G, 9, none⟩ (.int .i64 ty)).alloc (.cells #[.int .i64 kd, .int .i64 ta, .int .i64 tx, .int .i64 ty] 41)).heap[G]? = some (.cells (gcells g { S with kd := kd, ta := ta, tx := tx, ty := ty }) 139 (0, 0)) := (Below.heap_alloc _ _ _ (by simpa [World.setCell] using hGl)).trans q4
 have c0 : (v.alloc (.cells #[.int .i64 kd, .int .i64 ta, .int .i64 tx, .int .i64 ty] 41)).cell? ⟨G, 6, none⟩ = some (.int .i64 S.kd) := (gcell p0 6).1.trans rfl
 have z0 : (v.alloc (.cells #[.int .i64 kd, .int .i64 ta, .int .i64 tx, .int .i64 ty] 41)).frozen? ⟨G, 6, none⟩ = false := (gcell p0 6).2
 have c1 : ((v.setCell ⟨G, 6, none⟩ (.int .i64 kd)).alloc (.cells #[.int .i64 kd, .int .i64 ta, .int .i64 tx, .int .i64 ty] 41)).cell? ⟨G, 7, none⟩ = some (.int .i64 S.ta) := (gcell p1 7).1.trans rfl
 have z1 : ((v.setCell ⟨G, 6, none⟩ (.int .i64 kd)).alloc (.cells #[.int .i64 kd, .int .i64 ta, .int .i64 tx, .int .i64 ty] 41)).frozen? ⟨G, 7, none⟩ = false := (gcell p1 7).2
 have c2 : (((v.setCell ⟨G, 6, none⟩ (.int .i64 kd)).setCell ⟨G, 7, none⟩ (.int .i64 ta)).alloc (.cells #[.int .i64 kd, .int .i64 ta, .int .i64 tx, .int .i64 ty] 41)).cell? ⟨G, 8, none⟩ = some (.int .i64 S.tx) := (gcell p2 8).1.trans rfl
 have z2 : (((v.setCell ⟨G, 6, none⟩ (.int .i64 kd)).setCell ⟨G, 7, none⟩ (.int .i64 ta)).alloc (.cells #[.int .i64 kd, .int .i64 ta, .int .i64 tx, .int .i64 ty] 41)).frozen? ⟨G, 8, none⟩ = false := (gcell p2 8).2
 have c3 : ((((v.setCell ⟨G, 6, none⟩ (.int .i64 kd)).setCell ⟨G, 7, none⟩ (.int .i64 ta)).setCell ⟨G, 8, none⟩ (.int .i64 tx)).alloc (.cells #[.int .i64 kd, .int .i64 ta, .int .i64 tx, .int .i64 ty] 41)).cell? ⟨G, 9, none⟩ = some (.int .i64 S.ty) := (gcell p3 9).1.trans rfl
 have z3 : ((((v.setCell ⟨G, 6, none⟩ (.int .i64 kd)).setCell ⟨G, 7, none⟩ (.int .i64 ta)).setCell ⟨G, 8, none⟩ (.int .i64 tx)).alloc (.cells #[.int .i64 kd, .int .i64 ta, .int .i64 tx, .int .i64 ty] 41)).frozen? ⟨G, 9, none⟩ = false := (gcell p3 9).2
 clear q0 q1 q2 q3 q4 p0 p1 p2 p3
 go_enter Tryz.func120, Tryz.ntmps120
 obtain ⟨i0, hi, hz0, hz1, hz2⟩ := info_parts infoB
 have HX : Gok base g G a0 len cap M N { S with kd := kd, ta := ta, tx := tx, ty := ty } (((((v.setCell ⟨G, 6, none⟩ (.int .i64 kd)).setCell ⟨G, 7, none⟩ (.int .i64 ta)).setCell ⟨G, 8, none⟩ (.int .i64 tx)).setCell ⟨G, 9, none⟩ (.int .i64 ty)).alloc (.cells #[.int .i64 kd, .int .i64 ta, .int .i64 tx, .int .i64 ty] 41)) ∧ Mov g G M M v (((((v.setCell ⟨G, 6, none⟩ (.int .i64 kd)).setCell ⟨G, 7, none⟩ (.int .i64 ta)).setCell ⟨G, 8, none⟩ (.int .i64 tx)).setCell ⟨G, 9, none⟩ (.int .i64 ty)).alloc (.cells #[.int .i64 kd, .int .i64 ta, .int .i64 tx, .int .i64 ty] 41)) := h.grew (Nat.le_refl _) (fun b hb hn => (Below.heap_alloc _ _ _ (by simpa [World.setCell] using hb)).trans (by rw [Below.heap_setCell _ _ _ _ hn, Below.heap_setCell _ _ _ _ hn, Below.heap_setCell _ _ _ _ hn, Below.heap_setCell _ _ _ _ hn])) (by simp [World.setCell]) rfl rfl rfl (fun _ _ => rfl) (fun b T m hb hm => by rw [h.th.none hb] at hm; cases hm) p4 ⟨rfl, rfl, rfl, rfl, rfl, rfl, rfl, rfl, rfl, rfl, rfl⟩ h.ids (by have := h.bn; dsimp only; omega)
 go_wp2_with fail
 clear c0 c1 c2 c3 z0 z1 z2 z3
 generalize (((((v.setCell ⟨G, 6, none⟩ (.int .i64 kd)).setCell ⟨G, 7, none⟩ (.int .i64 ta)).setCell ⟨G, 8, none⟩ (.int .i64 tx)).setCell ⟨G, 9, none⟩ (.int .i64 ty)).alloc (.cells #[.int .i64 kd, .int .i64 ta, .int .i64 tx, .int .i64 ty] 41)) = wx at p4 HX ⊢
 obtain ⟨HX, VX⟩ := HX
 have hbn := HX.bn
 dsimp only at hbn
 have hGx := (Array.getElem?_eq_some_iff.1 p4).1
 have B2 : Below wx.heap.size wx (wx.drew.alloc (.cells #[S.phv, S.iv, .int .i64 kd, .int .i64 ta, .int .i64 tx, .int .i64 ty] 43)) := (Below.refl _ _).drew.alloc (Nat.le_refl _) _
 have HH2 : Hid (Gok base g G a0 len cap M N { S with kd := kd, ta := ta, tx := tx, ty := ty } (wx.drew.alloc (.cells #[S.phv, S.iv, .int .i64 kd, .int .i64 ta, .int .i64 tx, .int .i64 ty] 43)) ∧ Mov g G M M wx (wx.drew.alloc (.cells #[S.phv, S.iv, .int .i64 kd, .int .i64 ta, .int .i64 tx, .int .i64 ty] 43))) := HX.below B2
 have LAW : Hid (∀ ty', ∃ s' w' M', (Builtin.append_ #[34, 34] ty' #[S.bv, .slice (some ⟨wx.heap.size, 0, none⟩) 1 1]).run Tryz.prog (wx.drew.alloc (.cells #[S.phv, S.iv, .int .i64 kd, .int .i64 ta, .int .i64 tx, .int .i64 ty] 43)) = .ok s' w' ∧ (Pushed base M M' (N + 1) 43 S.nb (wx.drew.alloc (.cells #[S.phv, S.iv, .int .i64 kd, .int .i64 ta, .int .i64 tx, .int .i64 ty] 43)) w' s' ∧ ∃ xs, (wx.drew.alloc (.cells #[S.phv, S.iv, .int .i64 kd, .int .i64 ta, .int .i64 tx, .int .i64 ty] 43)).ownsRow base 43 (szT 43) S.bv S.nb xs ∧ w'.ownsRow base 43 (szT 43) s' (S.nb + 1) (xs ++ [S.phv, S.iv, .int .i64 kd, .int .i64 ta, .int .i64 tx, .int .i64 ty]))) := fun ty' =>
  run_row2 i0 _ 80 Tryz.underlying34 hi hz0 hz1 hz2 (by decide) (by omega) HH2.out.1.b HH2.out.1.th (by omega) (.inr (.inr (.inr (.inr rfl)))) HH2.out.1.bv (by dsimp only; omega) ⟨wx.heap.size, 0, none⟩ 1 [S.phv, S.iv, .int .i64 kd, .int .i64 ta, .int .i64 tx, .int .i64 ty] rfl (six_of (heap_alloc_last wx.drew _)) (by
   have o1 := HX.ph.sl
   have o2 := HX.i.sl
   obtain ⟨_, _, e1, _⟩ := o1
   obtain ⟨_, _, e2, _⟩ := o2
   dsimp only at e1 e2
   simp [Value.oneCell', e1, e2]) (el_block ⟨S.nph, by omega, HX.ph.sl⟩ ⟨S.ni, by omega, HX.i.sl⟩)
 clear hi hz0 hz1 hz2
 have k3 : wx.cell? ⟨G, 3, none⟩ = some S.bv := (gcell p4 3).1.trans rfl
 have k4 : wx.cell? ⟨G, 4, none⟩ = some S.phv := (gcell p4 4).1.trans rfl
 have k5 : wx.cell? ⟨G, 5, none⟩ = some S.iv := (gcell p4 5).1.trans rfl
 have k6 : wx.cell? ⟨G, 6, none⟩ = some (.int .i64 kd) := (gcell p4 6).1.trans rfl
 have k7 : wx.cell? ⟨G, 7, none⟩ = some (.int .i64 ta) := (gcell p4 7).1.trans rfl
 have k8 : wx.cell? ⟨G, 8, none⟩ = some (.int .i64 tx) := (gcell p4 8).1.trans rfl
 have k9 : wx.cell? ⟨G, 9, none⟩ = some (.int .i64 ty) := (gcell p4 9).1.trans rfl
 have x3 := (cell_block (o := 3) (B2.block G hGx)).trans k3
 go_cut [0] (fun s0 wz => s0 = .pointer (some ⟨G, 0, none⟩) ∧ ∃ w2 s' M', Pushed base M M' (N + 1) 43 S.nb (wx.drew.alloc (.cells #[S.phv, S.iv, .int .i64 kd, .int .i64 ta, .int .i64 tx, .int .i64 ty] 43)) w2 s' ∧ (∃ xs, (wx.drew.alloc (.cells #[S.phv, S.iv, .int .i64 kd, .int .i64 ta, .int .i64 tx, .int .i64 ty] 43)).ownsRow base 43 (szT 43) S.bv S.nb xs ∧ w2.ownsRow base 43 (szT 43) s' (S.nb + 1) (xs ++ [S.phv, S.iv, .int .i64 kd, .int .i64 ta, .int .i64 tx, .int .i64 ty])) ∧ wz = w2.setCell ⟨G, 3, none⟩ s')
 case first =>
  go_region_law (refine step_row rfl (.tmp 14) (.tmp 19) 34 rfl rfl rfl LAW.out ?_; intro s' w2 M' hPC; obtain ⟨hP, hC⟩ := hPC; obtain ⟨gs, qs, rfl⟩ := hP.row.form; have y0 := (hP.out G (by exact Nat.lt_of_lt_of_le hGx B2.size) h.mG).1.trans ((B2.block G hGx).trans p4); have y3 : w2.cell? ⟨G, 3, none⟩ = some S.bv := (gcell y0 3).1.trans rfl; have z3 := (gcell y0 3).2; clear y0)
  all_goals
   go_wp2_with fail
   go_meet
   case rel => exact ⟨rfl, w2, _, M', hP, hC, rfl⟩
 case rest =>
  obtain ⟨rfl, w2, s', M', hP, ⟨xs, hC1, hC2⟩, rfl⟩ := hcut
  obtain ⟨H1, V1⟩ := HH2.out
  obtain ⟨H2, V2⟩ := H1.pushB (by omega) hP
  clear k3 k4 k5 k6 k7 k8 k9 x3 LAW HH2 B2
  have hGn : ∀ q, (∃ p, M' q = some p) → q ≠ G := fun q hq e => by
   obtain ⟨p, hq⟩ := hq
   have := H2.mG
   rw [← e, hq] at this
   cases this
  have D1 : v.ownsRow base 43 (szT 43) S.bv S.nb xs := own_stay hC1 fun q hq => by
   obtain ⟨p, hMq⟩ := own_M h.b hq
   exact (VX.hold q _ _ hMq (by decide)).1.symm.trans (V1.hold q _ _ hMq (by decide)).1.symm
  have D2 : (w2.setCell ⟨G, 3, none⟩ s').ownsRow base 43 (szT 43) s' (S.nb + 1) (xs ++ [S.phv, S.iv, .int .i64 kd, .int .i64 ta, .int .i64 tx, .int .i64 ty]) := own_stay hC2 fun q hq => Below.heap_setCell _ _ _ _ (by
   obtain ⟨p, hMq⟩ := own_M hP.row hq
   exact hGn q ⟨_, hMq⟩)
  have D3 : ∀ b T m, M b = some (T, m) → T ≠ 43 → T ≠ 54 → (w2.setCell ⟨G, 3, none⟩ s').heap[b]? = v.heap[b]? ∧ M' b = some (T, m) := fun b T m hb hT hI => by
   obtain ⟨e1, e2⟩ := hP.other b T m hb hT
   exact ⟨(Below.heap_setCell _ _ _ _ (hGn b ⟨_, e2⟩)).trans (e1.trans ((V1.hold b T m hb hI).1.trans (VX.hold b T m hb hI).1)), e2⟩
  clear hC1 hC2
  generalize w2.setCell ⟨G, 3, none⟩ s' = wy at H2 V2 D2 D3 ⊢
  have q0 : wy.heap[G]? = some (.cells (gcells g { S with bv := s', nb := S.nb + 1, kd := kd, ta := ta, tx := tx, ty := ty }) 139 (0, 0)) := H2.cells
  have q1 : (wy.setCell ⟨G, 4, none⟩ (.slice none 0 0)).heap[G]? = some (.cells (gcells g { S with bv := s', nb := S.nb + 1, kd := kd, ta := ta, tx := tx, ty := ty, phv := .slice none 0 0 }) 139 (0, 0)) := (heap_set q0).trans rfl
  have q2 : ((wy.setCell ⟨G, 4, none⟩ (.slice none 0 0)).setCell ⟨G, 5, none⟩ (.slice none 0 0)).heap[G]? = some (.cells (gcells g { S with bv := s', nb := S.nb + 1, kd := kd, ta := ta, tx := tx, ty := ty, phv := .slice none 0 0, iv := .slice none 0 0 }) 139 (0, 0)) := (heap_set q1).trans rfl
  have q3 : (((wy.setCell ⟨G, 4, none⟩ (.slice none 0 0)).setCell ⟨G, 5, none⟩ (.slice none 0 0)).setCell ⟨G, 6, none⟩ (.int .i64 0)).heap[G]? = some (.cells (gcells g { S with bv := s', nb := S.nb + 1, kd := 0, ta := ta, tx := tx, ty := ty, phv := .slice none 0 0, iv := .slice none 0 0 }) 139 (0, 0)) := (heap_set q2).trans rfl
  have q4 : ((((wy.setCell ⟨G, 4, none⟩ (.slice none 0 0)).setCell ⟨G, 5, none⟩ (.slice none 0 0)).setCell ⟨G, 6, none⟩ (.int .i64 0)).setCell ⟨G, 7, none⟩ (.int .i64 0)).heap[G]? = some (.cells (gcells g { S with bv := s', nb := S.nb + 1, kd := 0, ta := 0, tx := tx, ty := ty, phv := .slice none 0 0, iv := .slice none 0 0 }) 139 (0, 0)) := (heap_set q3).trans rfl
  have q5 : (((((wy.setCell ⟨G, 4, none⟩ (.slice none 0 0)).setCell ⟨G, 5, none⟩ (.slice none 0 0)).setCell ⟨G, 6, none⟩ (.int .i64 0)).setCell ⟨G, 7, none⟩ (.int .i64 0)).setCell ⟨G, 8, none⟩ (.int .i64 0)).heap[G]? = some (.cells (gcells g { S with bv := s', nb := S.nb + 1, kd := 0, ta := 0, tx := 0, ty := ty, phv := .slice none 0 0, iv := .slice none 0 0 }) 139 (0, 0)) := (heap_set q4).trans rfl
  have q6 : ((((((wy.setCell ⟨G, 4, none⟩ (.slice none 0 0)).setCell ⟨G, 5, none⟩ (.slice none 0 0)).setCell ⟨G, 6, none⟩ (.int .i64 0)).setCell ⟨G, 7, none⟩ (.int .i64 0)).setCell ⟨G, 8, none⟩ (.int .i64 0)).setCell ⟨G, 9, none⟩ (.int .i64 0)).heap[G]? = some (.cells (gcells g { S with bv := s', nb := S.nb + 1, kd := 0, ta := 0, tx := 0, ty := 0, phv := .slice none 0 0, iv := .slice none 0 0 }) 139 (0, 0)) := (heap_set q5).trans rfl
  have c0 : wy.cell? ⟨G, 4, none⟩ = some S.phv := (gcell q0 4).1.trans rfl
  have z0 : wy.frozen? ⟨G, 4, none⟩ = false := (gcell q0 4).2
  have c1 : (wy.setCell ⟨G, 4, none⟩ (.slice none 0 0)).cell? ⟨G, 5, none⟩ = some S.iv := (gcell q1 5).1.trans rfl
  have z1 : (wy.setCell ⟨G, 4, none⟩ (.slice none 0 0)).frozen? ⟨G, 5, none⟩ = false := (gcell q1 5).2
  have c2 : ((wy.setCell ⟨G, 4, none⟩ (.slice none 0 0)).setCell ⟨G, 5, none⟩ (.slice none 0 0)).cell? ⟨G, 6, none⟩ = some (.int .i64 kd) := (gcell q2 6).1.trans rfl
  have z2 : ((wy.setCell ⟨G, 4, none⟩ (.slice none 0 0)).setCell ⟨G, 5, none⟩ (.slice none 0 0)).frozen? ⟨G, 6, none⟩ = false := (gcell q2 6).2
  have c3 : (((wy.setCell ⟨G, 4, none⟩ (.slice none 0 0)).setCell ⟨G, 5, none⟩ (.slice none 0 0)).setCell ⟨G, 6, none⟩ (.int .i64 0)).cell? ⟨G, 7, none⟩ = some (.int .i64 ta) := (gcell q3 7).1.trans rfl
  have z3 : (((wy.setCell ⟨G, 4, none⟩ (.slice none 0 0)).setCell ⟨G, 5, none⟩ (.slice none 0 0)).setCell ⟨G, 6, none⟩ (.int .i64 0)).frozen? ⟨G, 7, none⟩ = false := (gcell q3 7).2
  have c4 : ((((wy.setCell ⟨G, 4, none⟩ (.slice none 0 0)).setCell ⟨G, 5, none⟩ (.slice none 0 0)).setCell ⟨G, 6, none⟩ (.int .i64 0)).setCell ⟨G, 7, none⟩ (.int .i64 0)).cell? ⟨G, 8, none⟩ = some (.int .i64 tx) := (gcell q4 8).1.trans rfl
  have z4 : ((((wy.setCell ⟨G, 4, none⟩ (.slice none 0 0)).setCell ⟨G, 5, none⟩ (.slice none 0 0)).setCell ⟨G, 6, none⟩ (.int .i64 0)).setCell ⟨G, 7, none⟩ (.int .i64 0)).frozen? ⟨G, 8, none⟩ = false := (gcell q4 8).2
  have c5 : (((((wy.setCell ⟨G, 4, none⟩ (.slice none 0 0)).setCell ⟨G, 5, none⟩ (.slice none 0 0)).setCell ⟨G, 6, none⟩ (.int .i64 0)).setCell ⟨G, 7, none⟩ (.int .i64 0)).setCell ⟨G, 8, none⟩ (.int .i64 0)).cell? ⟨G, 9, none⟩ = some (.int .i64 ty) := (gcell q5 9).1.trans rfl
  have z5 : (((((wy.setCell ⟨G, 4, none⟩ (.slice none 0 0)).setCell ⟨G, 5, none⟩ (.slice none 0 0)).setCell ⟨G, 6, none⟩ (.int .i64 0)).setCell ⟨G, 7, none⟩ (.int .i64 0)).setCell ⟨G, 8, none⟩ (.int .i64 0)).frozen? ⟨G, 9, none⟩ = false := (gcell q5 9).2
  clear q0 q1 q2 q3 q4 q5
  have R := H2.reset (v' := ((((((wy.setCell ⟨G, 4, none⟩ (.slice none 0 0)).setCell ⟨G, 5, none⟩ (.slice none 0 0)).setCell ⟨G, 6, none⟩ (.int .i64 0)).setCell ⟨G, 7, none⟩ (.int .i64 0)).setCell ⟨G, 8, none⟩ (.int .i64 0)).setCell ⟨G, 9, none⟩ (.int .i64 0))) (fun b hn => by rw [Below.heap_setCell _ _ _ _ hn, Below.heap_setCell _ _ _ _ hn, Below.heap_setCell _ _ _ _ hn, Below.heap_setCell _ _ _ _ hn, Below.heap_setCell _ _ _ _ hn, Below.heap_setCell _ _ _ _ hn]) (by simp only [World.size_setCell]) (by simp only [set_os]) (by simp only [set_tape]) (by simp only [set_output]) (q6.trans (by unfold gcells; rfl))
  have hset : ∀ b, b ≠ G → ((((((wy.setCell ⟨G, 4, none⟩ (.slice none 0 0)).setCell ⟨G, 5, none⟩ (.slice none 0 0)).setCell ⟨G, 6, none⟩ (.int .i64 0)).setCell ⟨G, 7, none⟩ (.int .i64 0)).setCell ⟨G, 8, none⟩ (.int .i64 0)).setCell ⟨G, 9, none⟩ (.int .i64 0)).heap[b]? = wy.heap[b]? := fun b hn => by rw [Below.heap_setCell _ _ _ _ hn, Below.heap_setCell _ _ _ _ hn, Below.heap_setCell _ _ _ _ hn, Below.heap_setCell _ _ _ _ hn, Below.heap_setCell _ _ _ _ hn, Below.heap_setCell _ _ _ _ hn]
  have D2' := own_stay (w' := ((((((wy.setCell ⟨G, 4, none⟩ (.slice none 0 0)).setCell ⟨G, 5, none⟩ (.slice none 0 0)).setCell ⟨G, 6, none⟩ (.int .i64 0)).setCell ⟨G, 7, none⟩ (.int .i64 0)).setCell ⟨G, 8, none⟩ (.int .i64 0)).setCell ⟨G, 9, none⟩ (.int .i64 0))) D2 fun q hq => hset q (by
   obtain ⟨p, hMq⟩ := own_M hP.row hq
   exact hGn q ⟨_, hMq⟩)
  have HD : Hid ((∀ b T m, M b = some (T, m) → T ≠ 43 → T ≠ 54 → ((((((wy.setCell ⟨G, 4, none⟩ (.slice none 0 0)).setCell ⟨G, 5, none⟩ (.slice none 0 0)).setCell ⟨G, 6, none⟩ (.int .i64 0)).setCell ⟨G, 7, none⟩ (.int .i64 0)).setCell ⟨G, 8, none⟩ (.int .i64 0)).setCell ⟨G, 9, none⟩ (.int .i64 0)).heap[b]? = v.heap[b]? ∧ M' b = some (T, m)) ∧ ∃ xs, v.ownsRow base 43 (szT 43) S.bv S.nb xs ∧ ((((((wy.setCell ⟨G, 4, none⟩ (.slice none 0 0)).setCell ⟨G, 5, none⟩ (.slice none 0 0)).setCell ⟨G, 6, none⟩ (.int .i64 0)).setCell ⟨G, 7, none⟩ (.int .i64 0)).setCell ⟨G, 8, none⟩ (.int .i64 0)).setCell ⟨G, 9, none⟩ (.int .i64 0)).ownsRow base 43 (szT 43) s' (S.nb + 1) (xs ++ [S.phv, S.iv, .int .i64 kd, .int .i64 ta, .int .i64 tx, .int .i64 ty])) :=
   ⟨fun b T m hb hT hI => ⟨(hset b (hGn b ⟨_, (D3 b T m hb hT hI).2⟩)).trans (D3 b T m hb hT hI).1, (D3 b T m hb hT hI).2⟩, xs, D1, D2'⟩
  clear hset D1 D2 D2' D3 hGn
  go_wp2_with fail
  exact bodyPost_end (results_none Tryz.results120 _ _ _) rfl ⟨⟨_, rfl⟩, M', s', R.1, ((VX.mv.trans V1.mv).trans V2).trans R.2, HD.out⟩
end Go.Proofs.YtgojlnclpebdcaaGreatDoor
namespace Go.Proofs.YtgojlnclpebdcaaGreatDoor
open Go.RowKit Go.Deep
set_option linter.unusedVariables false
theorem wpAny_inv {P : Program} {md : Region.Mode} {ops : Array Oper} {Q : Exit → Act → World → Prop} (J : Array Bool → Act → World → Prop)
  (hend : ∀ listed a w, listed.size = ops.size → Region.ready md ops listed = [] → J listed a w → Q .normal a w)
  (hstep : ∀ listed i a w, listed.size = ops.size → i ∈ Region.ready md ops listed → J listed a w → wpOp P ops Q i (J (listed.setIfInBounds i true)) a w) :
  ∀ (fuel : Nat) (listed : Array Bool) (a : Act) (w : World), listed.size = ops.size → listed.toList.count false ≤ fuel → J listed a w → wpAny P md ops Q fuel listed a w := by
 have key : ∀ (listed : Array Bool) (i : Nat), i ∈ Region.ready md ops listed → ∃ h : i < listed.toList.length, listed.toList[i] = false := fun listed i hi => by
  have h1 := (mem_ready.1 hi)
  have h2 : listed.getD i true = false := by simp_all
  by_cases h3 : i < listed.size
  ·refine ⟨by simpa using h3, ?_⟩
   simpa [Array.getD, h3] using h2
  ·simp [Array.getD, h3] at h2
 intro fuel
 induction fuel with
 | zero =>
  intro listed a w hs hc hJ
  have h0 : Region.ready md ops listed = [] := by
   refine List.eq_nil_iff_forall_not_mem.2 fun i hi => ?_
   obtain ⟨h1, h2⟩ := key listed i hi
   have h3 : false ∈ listed.toList := h2 ▸ List.getElem_mem h1
   have := List.count_pos_iff.2 h3
   omega
  exact ⟨h0, hend _ _ _ hs h0 hJ⟩
 | succ fuel ih =>
  intro listed a w hs hc hJ
  refine ⟨fun h0 => hend _ _ _ hs h0 hJ, fun i hi => wpOp_mono (fun a' w' hJ' => ih _ _ _ (by simpa using hs) ?_ hJ') (hstep listed i a w hs hi hJ)⟩
  obtain ⟨h1, h2⟩ := key listed i hi
  have h3 : false ∈ listed.toList := h2 ▸ List.getElem_mem h1
  have h4 := List.count_pos_iff.2 h3
  rw [Array.toList_setIfInBounds, List.count_set h1, h2]
  generalize listed.toList.count false = n at hc h4 ⊢
  simp
  omega
theorem wp_region_inv {P : Program} {id : Nat} {ops : Array Oper} {Q : Exit → Act → World → Prop} {a : Act} {w : World} (hm : P.follows .mixedOrders = true) (J : Array Bool → Act → World → Prop)
  (h0 : J (Array.replicate ops.size false) a w.drew)
  (hend : ∀ listed a w, listed.size = ops.size → Region.ready .any ops listed = [] → J listed a w → Q .normal a w)
  (hstep : ∀ listed i a w, listed.size = ops.size → i ∈ Region.ready .any ops listed → J listed a w → wpOp P ops Q i (J (listed.setIfInBounds i true)) a w) : (Code.region id ops true).wp P Q a w :=
 wp_region_any hm (wpAny_inv J hend hstep ops.size _ a _ (by simp) (by rw [Array.toList_replicate, List.count_replicate_self]; exact Nat.le_refl _) h0)
end Go.Proofs.YtgojlnclpebdcaaGreatDoor
namespace Go.Proofs.YtgojlnclpebdcaaGreatDoor
open Go.RowKit Go.Deep
set_option linter.unusedVariables false
def upd {α : Type} (f : Nat → α) (i : Nat) (x : α) : Nat → α := fun j => if j = i then x else f j
theorem upd_same {α : Type} (f : Nat → α) (i : Nat) (x : α) : upd f i x i = x := by simp [upd]
theorem upd_ne {α : Type} (f : Nat → α) {i j : Nat} (x : α) (h : j ≠ i) : upd f i x j = f j := by simp [upd, h]
def putsF (A : Act) (s : Nat) : Nat → (Nat → Value) → Act
 | 0, _ => A
 | n + 1, f => (putsF A s n f).put (some (s + n)) (f n)
theorem put_get (A : Act) (t u : Nat) (v : Value) : (A.put (some t) v).tmps.getD u undef = if u = t ∧ t < A.tmps.size then v else A.tmps.getD u undef := by
 unfold Act.put
 simp only [Array.getD_eq_getD_getElem?, Array.getElem?_setIfInBounds]
 by_cases h : t = u
 ·subst h
  by_cases h2 : t < A.tmps.size
  ·simp [h2]
  ·simp [h2]
 ·have h' : ¬ u = t := fun e => h e.symm
  simp [h, h']
theorem put_size (A : Act) (t : Nat) (v : Value) : (A.put (some t) v).tmps.size = A.tmps.size := by simp [Act.put]
theorem putsF_size (A : Act) (s : Nat) (f : Nat → Value) : ∀ n, (putsF A s n f).tmps.size = A.tmps.size
 | 0 => rfl
 | n + 1 => by rw [putsF, put_size, putsF_size A s f n]
theorem putsF_defers (A : Act) (s : Nat) (f : Nat → Value) : ∀ n, (putsF A s n f).defers = A.defers
 | 0 => rfl
 | n + 1 => putsF_defers A s f n
theorem putsF_out (A : Act) (s : Nat) (f : Nat → Value) (t : Nat) : ∀ n, (t < s ∨ s + n ≤ t) → (putsF A s n f).tmps.getD t undef = A.tmps.getD t undef
 | 0, _ => rfl
 | n + 1, h => by rw [putsF, put_get, if_neg (by omega), putsF_out A s f t n (by omega)]
theorem putsF_in (A : Act) (s : Nat) (f : Nat → Value) (i : Nat) : ∀ n, i < n → s + n ≤ A.tmps.size → (putsF A s n f).tmps.getD (s + i) undef = f i
 | 0, h, _ => by omega
 | n + 1, h, hs => by
  rw [putsF, put_get, putsF_size]
  by_cases e : i = n
  ·rw [if_pos (by omega), e]
  ·rw [if_neg (by omega), putsF_in A s f i n (by omega) (by omega)]
theorem act_ext {a b : Act} (hs : a.tmps.size = b.tmps.size) (hd : a.defers = b.defers) (h : ∀ t, a.tmps.getD t undef = b.tmps.getD t undef) : a = b := by
 obtain ⟨a, d⟩ := a
 obtain ⟨b, e⟩ := b
 simp only at hs hd h
 subst hd
 congr 1
 refine Array.ext hs fun i h1 h2 => ?_
 have := h i
 simpa [Array.getD, h1, h2] using this
theorem putsF_put (A : Act) (s n : Nat) (f : Nat → Value) (i : Nat) (v : Value) (hi : i < n) (hs : s + n ≤ A.tmps.size) : (putsF A s n f).put (some (s + i)) v = putsF A s n (upd f i v) := by
 refine act_ext (by rw [put_size, putsF_size, putsF_size]) (by show (putsF A s n f).defers = _; rw [putsF_defers, putsF_defers]) fun t => ?_
 rw [put_get, putsF_size]
 by_cases h : t < s ∨ s + n ≤ t
 ·rw [if_neg (by omega), putsF_out _ _ _ _ _ h, putsF_out _ _ _ _ _ h]
 ·obtain ⟨j, rfl⟩ : ∃ j, t = s + j := ⟨t - s, by omega⟩
  rw [putsF_in _ _ _ _ _ (by omega) hs, putsF_in _ _ _ _ _ (by omega) hs]
  by_cases e : j = i
  ·subst e; rw [if_pos (by omega), upd_same]
  ·rw [if_neg (by omega), upd_ne _ _ e]
theorem putsF_self (A : Act) (s n : Nat) (hs : s + n ≤ A.tmps.size) : putsF A s n (fun i => A.tmps.getD (s + i) undef) = A := by
 refine act_ext (putsF_size ..) (putsF_defers ..) fun t => ?_
 by_cases h : t < s ∨ s + n ≤ t
 ·rw [putsF_out _ _ _ _ _ h]
 ·obtain ⟨j, rfl⟩ : ∃ j, t = s + j := ⟨t - s, by omega⟩
  rw [putsF_in _ _ _ _ _ (by omega) hs]
def slotsOk (s n : Nat) (ops : Array Oper) : Bool := ops.size == n && (List.range n).all fun i => match ops[i]? with
 | none => false
 | some o => o.dst == some (s + i) && o.guard.isNone && o.after.all fun e => decide (e.on < i)
theorem slotsOk_at {s n : Nat} {ops : Array Oper} (h : slotsOk s n ops = true) {i : Nat} {o : Oper} (ho : ops[i]? = some o) : i < n ∧ o.dst = some (s + i) ∧ o.guard = none ∧ ∀ e ∈ o.after, e.on < i := by
 unfold slotsOk at h
 rw [Bool.and_eq_true] at h
 have hn : ops.size = n := by simpa using h.1
 have hi : i < n := by rw [← hn]; exact (Array.getElem?_eq_some_iff.1 ho).1
 have h2 := (List.all_eq_true.1 h.2) i (List.mem_range.2 hi)
 rw [ho] at h2
 simp only [Bool.and_eq_true, beq_iff_eq, Option.isNone_iff_eq_none] at h2
 refine ⟨hi, h2.1.1, h2.1.2, fun e he => ?_⟩
 have h3 := h2.2
 rw [Array.all_eq_true'] at h3
 simpa using h3 e he
theorem ready_nil {s n : Nat} {ops : Array Oper} (h : slotsOk s n ops = true) {listed : Array Bool} (hl : listed.size = ops.size) (hr : Region.ready .any ops listed = []) : ∀ i, i < n → listed.getD i false = true := by
 have hn : ops.size = n := by unfold slotsOk at h; rw [Bool.and_eq_true] at h; simpa using h.1
 intro i
 induction i using Nat.strongRecOn with
 | _ i ih =>
  intro hi
  obtain ⟨o, ho⟩ : ∃ o, ops[i]? = some o := ⟨ops[i]'(by omega), by simp [show i < ops.size by omega]⟩
  obtain ⟨_, _, _, ha⟩ := slotsOk_at h ho
  rcases hb : listed.getD i false with _ | _
  ·exfalso
   have h1 : listed.getD i true = false := by
    have h2 : i < listed.size := by omega
    simp [Array.getD, h2] at hb ⊢
    exact hb
   have : i ∈ Region.ready .any ops listed := mem_ready.2 ⟨h1, o, ho, fun e he _ => ih e.on (ha e he) (by have := ha e he; omega)⟩
   rw [hr] at this
   simp at this
  ·rfl
theorem wp_region_slots {P : Program} {id : Nat} {ops : Array Oper} {Q : Exit → Act → World → Prop} {A : Act} {w : World} (hm : P.follows .mixedOrders = true) (s n : Nat) (hsz : s + n ≤ A.tmps.size) (hops : slotsOk s n ops = true)
  (J : (Nat → Bool) → (Nat → Value) → World → Prop)
  (h0 : J (fun _ => false) (fun i => A.tmps.getD (s + i) undef) w.drew)
  (hend : ∀ f w, J (fun i => decide (i < n)) f w → Q .normal (putsF A s n f) w)
  (hstep : ∀ i o up f w, ops[i]? = some o → (∀ e ∈ o.after, Region.binds .any e = true → up e.on = true) → (∀ k o, ops[k]? = some o → up k = true → ∀ e ∈ o.after, Region.binds .any e = true → up e.on = true) → up i = false → J up f w → o.wp P (putsF A s n f) w (fun a w' => ∃ v, a = (putsF A s n f).put (some (s + i)) v ∧ J (upd up i true) (upd f i v) w') Q) : (Code.region id ops true).wp P Q A w := by
 have hn : ops.size = n := by unfold slotsOk at hops; rw [Bool.and_eq_true] at hops; simpa using hops.1
 refine wp_region_inv hm (fun listed a w => ∃ f, a = putsF A s n f ∧ (∀ k o, ops[k]? = some o → listed.getD k false = true → ∀ e ∈ o.after, Region.binds .any e = true → listed.getD e.on false = true) ∧ J (fun i => listed.getD i false) f w) ?_ ?_ ?_
 ·have e : (fun i => (Array.replicate ops.size false).getD i false) = fun _ => false := by
   funext i
   by_cases h : i < ops.size <;> simp [Array.getD, h]
  refine ⟨_, (putsF_self A s n hsz).symm, fun k o _ hk => ?_, by rw [e]; exact h0⟩
  rw [congrFun e k] at hk
  cases hk
 ·rintro listed a w hl hr ⟨f, rfl, _, hJ⟩
  refine hend f w ?_
  have e : (fun i => listed.getD i false) = fun i => decide (i < n) := by
   funext i
   by_cases h : i < n
   ·rw [ready_nil hops hl hr i h]; simp [h]
   ·simp [Array.getD, show ¬ i < listed.size by omega, h]
  rw [e] at hJ; exact hJ
 ·rintro listed i a w hl hi ⟨f, rfl, hcl, hJ⟩
  obtain ⟨h1, o, ho, ha⟩ := mem_ready.1 hi
  obtain ⟨hin, hd, hg, _⟩ := slotsOk_at hops ho
  have hw : Region.wanted o (yielded ops (putsF A s n f).tmps) = true := by simp [Region.wanted, hg]
  have h2 : listed.getD i false = false := by
   have h2 : i < listed.size := by omega
   simp [Array.getD, h2] at h1 ⊢
   exact h1
  unfold wpOp
  rw [ho]
  show if Region.wanted o (yielded ops (putsF A s n f).tmps) = true then _ else _
  rw [if_pos hw]
  refine .inl (Oper.wp_mono ?_ (hstep i o _ f w ho ha hcl h2 hJ))
  rintro a' w' ⟨v, rfl, hJ'⟩
  have e : (fun j => (listed.setIfInBounds i true).getD j false) = upd (fun j => listed.getD j false) i true := by
   funext j
   unfold upd
   by_cases h : j = i
   ·subst h
    simp [Array.getD, show j < listed.size by omega]
   ·have h' : ¬ i = j := fun e => h e.symm
    simp [h, h', Array.getD_eq_getD_getElem?]
  refine ⟨_, putsF_put A s n f i v hin hsz, fun k o' ho' hk x hx hb => ?_, by rw [e]; exact hJ'⟩
  rw [congrFun e x.on]
  rw [congrFun e k] at hk
  have keep : listed.getD x.on false = true → upd (fun j => listed.getD j false) i true x.on = true := fun h => by
   unfold upd
   split
   ·rfl
   ·exact h
  by_cases hki : k = i
  ·subst hki
   rw [ho] at ho'
   cases ho'
   exact keep (ha x hx hb)
  ·rw [upd_ne _ _ hki] at hk
   exact keep (hcl k o' ho' hk x hx hb)
end Go.Proofs.YtgojlnclpebdcaaGreatDoor
