import Derived.Test.YtenbodghkpbghaaDoorGnISv
namespace Go.Proofs.YtenbodghkpbghaaDoor
open Go.RowKit Go.Deep
set_option linter.unusedVariables false
theorem own_M {base n q : Nat} {M : Tmap} {T : TypeId} {s : Value} {v : World} (h : RowT base M T s n v) (hq : s.ownBlock = some q) : ∃ p, M q = some (T, p) := by
 rcases h with ⟨rfl, _⟩ | ⟨g, cap, cur, rfl, hg, hM, _⟩
 ·simp [Value.ownBlock] at hq
 ·simp [Value.ownBlock] at hq
  subst hq
  exact ⟨n, hM⟩
theorem own_lt {base n N q : Nat} {M : Tmap} {T : TypeId} {s : Value} {v : World} (th : TH base M N v) (h : RowT base M T s n v) (hq : s.ownBlock = some q) : q < v.heap.size := by
 obtain ⟨p, hp⟩ := own_M h hq
 exact (th.lt ⟨_, hp⟩).2
set_option maxHeartbeats 2000000 in
set_option maxRecDepth 100000 in
theorem phi_two (base g G : Nat) (a0 : Option Addr) (len cap : Nat) (M : Tmap) (N : Nat) (S : GRec) (x : Int) (u : Option Addr) (na q : Nat) (v : World) (h : Gok base g G a0 len cap M N S v) (hN : N + 2 ≤ 10000) (hav : SlN M 2 (.slice u na q) na) (hna : na ≤ N) (h1a : 1 ≤ na) :
  Calls Tryd.prog 95 #[.pointer (some ⟨G, 0, none⟩), .int .i64 x, .slice u na q] v fun e v' => ∃ n : Int, e = .returned (.int .i64 n) ∧ ∃ M' S', Gok base g G a0 len cap M' (N + 2) S' v' ∧ (∃ s', S' = { S with phv := s', nph := S.nph + 1, idv := S'.idv, wsv := S'.wsv, nid := S.nid + 1, nx := S.nx + 1 }) ∧ Mv g G M M' v v' ∧ ∃ xs, v.ownsRow base 89 (szT 89) S.phv S.nph xs ∧ v'.ownsRow base 89 (szT 89) S'.phv (S.nph + 1) (xs ++ [.int .i64 x, .slice u na q]) := by
 obtain ⟨i0, hi, hz0, hz1, hz2⟩ := info_parts infoP
 have hbn := h.bn
 have hGl := (Array.getElem?_eq_some_iff.1 h.cells).1
 have B1 : Below v.heap.size v (v.alloc (.cells #[.int .i64 x, .slice u na q] 89)) := (Below.refl _ _).alloc (Nat.le_refl _) _
 have HH : Hid (Gok base g G a0 len cap M N S (v.alloc (.cells #[.int .i64 x, .slice u na q] 89)) ∧ Mov g G M M v (v.alloc (.cells #[.int .i64 x, .slice u na q] 89))) := h.below B1
 have LAW : Hid (∀ ty, ∃ s' w' M', (Builtin.append_ #[36, 36] ty #[S.phv, .slice (some ⟨v.heap.size, 0, none⟩) 1 1]).run Tryd.prog (v.alloc (.cells #[.int .i64 x, .slice u na q] 89)) = .ok s' w' ∧ (Pushed base M M' (N + 1) 89 S.nph (v.alloc (.cells #[.int .i64 x, .slice u na q] 89)) w' s' ∧ ∃ xs, (v.alloc (.cells #[.int .i64 x, .slice u na q] 89)).ownsRow base 89 (szT 89) S.phv S.nph xs ∧ w'.ownsRow base 89 (szT 89) s' (S.nph + 1) (xs ++ [.int .i64 x, .slice u na q]))) := fun ty =>
  run_row2 i0 _ 32 Tryd.underlying36 hi hz0 hz1 hz2 (by decide) (by omega) HH.out.1.ph HH.out.1.th (by omega) (.inr (.inr (.inl rfl))) HH.out.1.bv (by omega) ⟨v.heap.size, 0, none⟩ 1 [.int .i64 x, .slice u na q] rfl (two_of (heap_alloc_last v _)) (by simp [Value.oneCell']) (el_phi ⟨na, h1a, hna, hav⟩)
 have c4 : v.cell? ⟨G, 4, none⟩ = some S.phv := (gcell h.cells 4).1.trans rfl
 clear hi hz0 hz1 hz2
 go_enter Tryd.func95, Tryd.ntmps95
 go_wp2_with (first | (at_builtin; refine wpList_row rfl (.tmp 12) (.tmp 16) 36 rfl rfl rfl LAW.out ?_; intro s' w2 M' hPC; obtain ⟨hP, xs, hC1, hC2⟩ := hPC; obtain ⟨gs, qs, rfl⟩ := hP.row.form; have y0 := (hP.out G (by exact Nat.lt_of_lt_of_le hGl B1.size) h.mG).1.trans ((B1.block G hGl).trans h.cells); have y4 : w2.cell? ⟨G, 4, none⟩ = some S.phv := (gcell y0 4).1.trans rfl; have z4 := (gcell y0 4).2; clear y0; obtain ⟨H2, V2⟩ := HH.out.1.pushP (by omega) hP; have A := add_any base g G a0 len cap M' (N + 1) _ x _ H2 (by omega)) | (go_at_call 65; refine A.mono ?_; rintro e w4 ⟨n, rfl, M4, S4, H4, hS4, V4⟩))
 go_ret
 refine ⟨n, rfl, M4, S4, H4, ⟨_, hS4⟩, (HH.out.2.mv.trans V2).trans V4.mv, xs, own_stay hC1 fun q hq => (B1.block q (own_lt h.th h.ph hq)).symm, ?_⟩
 have e4 : S4.phv = .slice (some ⟨gs, 0, none⟩) (S.nph + 1) qs := by rw [hS4]
 rw [e4]
 refine own_stay hC2 fun q hq => ?_
 have hMq := own_M H2.ph hq
 obtain ⟨p, hMq⟩ := hMq
 refine (V4.hold q _ _ hMq (by decide)).1.trans (Below.heap_setCell _ _ _ _ fun e => ?_)
 have e' : q = G := e
 have := H2.mG
 rw [← e', hMq] at this
 cases this
set_option maxHeartbeats 1000000 in
set_option maxRecDepth 100000 in
theorem close_two (base g G : Nat) (a0 : Option Addr) (len cap : Nat) (M : Tmap) (N : Nat) (S : GRec) (kd ta tx ty : Int) (v : World) (h : Gok base g G a0 len cap M N S v) (hN : N + 1 ≤ 10000) :
  Calls Tryd.prog 94 #[.pointer (some ⟨G, 0, none⟩), .agg #[.int .i64 kd, .int .i64 ta, .int .i64 tx, .int .i64 ty]] v fun e v' => (∃ r, e = .returned r) ∧ ∃ M' s', Gok base g G a0 len cap M' (N + 1) (Closed S s') v' ∧ Mv g G M M' v v' ∧ (∀ b T m, M b = some (T, m) → T ≠ 41 → T ≠ 44 → v'.heap[b]? = v.heap[b]? ∧ M' b = some (T, m)) ∧ ∃ xs, v.ownsRow base 41 (szT 41) S.bv S.nb xs ∧ v'.ownsRow base 41 (szT 41) s' (S.nb + 1) (xs ++ [S.phv, S.iv, .int .i64 kd, .int .i64 ta, .int .i64 tx, .int .i64 ty]) := by
 have hGl := (Array.getElem?_eq_some_iff.1 h.cells).1
 have B1 : Below v.heap.size v (v.alloc (.cells #[.int .i64 kd, .int .i64 ta, .int .i64 tx, .int .i64 ty] 39)) := (Below.refl _ _).alloc (Nat.le_refl _) _
 have HH : Hid (Gok base g G a0 len cap M N S (v.alloc (.cells #[.int .i64 kd, .int .i64 ta, .int .i64 tx, .int .i64 ty] 39)) ∧ Mov g G M M v (v.alloc (.cells #[.int .i64 kd, .int .i64 ta, .int .i64 tx, .int .i64 ty] 39))) := h.below B1
 have q0 : v.heap[G]? = some (.cells (gcells g S) 122 (0, 0)) := h.cells
 have q1 : (v.setCell ⟨G, 6, none⟩ (.int .i64 kd)).heap[G]? = some (.cells (gcells g { S with kd := kd }) 122 (0, 0)) := (heap_set q0).trans rfl
 have q2 : ((v.setCell ⟨G, 6, none⟩ (.int .i64 kd)).setCell ⟨G, 7, none⟩ (.int .i64 ta)).heap[G]? = some (.cells (gcells g { S with kd := kd, ta := ta }) 122 (0, 0)) := (heap_set q1).trans rfl
 have q3 : (((v.setCell ⟨G, 6, none⟩ (.int .i64 kd)).setCell ⟨G, 7, none⟩ (.int .i64 ta)).setCell ⟨G, 8, none⟩ (.int .i64 tx)).heap[G]? = some (.cells (gcells g { S with kd := kd, ta := ta, tx := tx }) 122 (0, 0)) := (heap_set q2).trans rfl
 have q4 : ((((v.setCell ⟨G, 6, none⟩ (.int .i64 kd)).setCell ⟨G, 7, none⟩ (.int .i64 ta)).setCell ⟨G, 8, none⟩ (.int .i64 tx)).setCell ⟨G, 9, none⟩ (.int .i64 ty)).heap[G]? = some (.cells (gcells g { S with kd := kd, ta := ta, tx := tx, ty := ty }) 122 (0, 0)) := (heap_set q3).trans rfl
 have p0 : (v.alloc (.cells #[.int .i64 kd, .int .i64 ta, .int .i64 tx, .int .i64 ty] 39)).heap[G]? = some (.cells (gcells g S) 122 (0, 0)) := (Below.heap_alloc _ _ _ (by simpa [World.setCell] using hGl)).trans q0
 have p1 : ((v.setCell ⟨G, 6, none⟩ (.int .i64 kd)).alloc (.cells #[.int .i64 kd, .int .i64 ta, .int .i64 tx, .int .i64 ty] 39)).heap[G]? = some (.cells (gcells g { S with kd := kd }) 122 (0, 0)) := (Below.heap_alloc _ _ _ (by simpa [World.setCell] using hGl)).trans q1
 have p2 : (((v.setCell ⟨G, 6, none⟩ (.int .i64 kd)).setCell ⟨G, 7, none⟩ (.int .i64 ta)).alloc (.cells #[.int .i64 kd, .int .i64 ta, .int .i64 tx, .int .i64 ty] 39)).heap[G]? = some (.cells (gcells g { S with kd := kd, ta := ta }) 122 (0, 0)) := (Below.heap_alloc _ _ _ (by simpa [World.setCell] using hGl)).trans q2
 have p3 : ((((v.setCell ⟨G, 6, none⟩ (.int .i64 kd)).setCell ⟨G, 7, none⟩ (.int .i64 ta)).setCell ⟨G, 8, none⟩ (.int .i64 tx)).alloc (.cells #[.int .i64 kd, .int .i64 ta, .int .i64 tx, .int .i64 ty] 39)).heap[G]? = some (.cells (gcells g { S with kd := kd, ta := ta, tx := tx }) 122 (0, 0)) := (Below.heap_alloc _ _ _ (by simpa [World.setCell] using hGl)).trans q3
 have p4 : (((((v.setCell ⟨G, 6, none⟩ (.int .i64 kd)).setCell ⟨G, 7, none⟩ (.int .i64 ta)).setCell ⟨G, 8, none⟩ (.int .i64 tx)).setCell ⟨G, 9, none⟩ (.int .i64 ty)).alloc (.cells #[.int .i64 kd, .int .i64 ta, .int .i64 tx, .int .i64 ty] 39)).heap[G]? = some (.cells (gcells g { S with kd := kd, ta := ta, tx := tx, ty := ty }) 122 (0, 0)) := (Below.heap_alloc _ _ _ (by simpa [World.setCell] using hGl)).trans q4
 have c0 : (v.alloc (.cells #[.int .i64 kd, .int .i64 ta, .int .i64 tx, .int .i64 ty] 39)).cell? ⟨G, 6, none⟩ = some (.int .i64 S.kd) := (gcell p0 6).1.trans rfl
 have z0 : (v.alloc (.cells #[.int .i64 kd, .int .i64 ta, .int .i64 tx, .int .i64 ty] 39)).frozen? ⟨G, 6, none⟩ = false := (gcell p0 6).2
 have c1 : ((v.setCell ⟨G, 6, none⟩ (.int .i64 kd)).alloc (.cells #[.int .i64 kd, .int .i64 ta, .int .i64 tx, .int .i64 ty] 39)).cell? ⟨G, 7, none⟩ = some (.int .i64 S.ta) := (gcell p1 7).1.trans rfl
 have z1 : ((v.setCell ⟨G, 6, none⟩ (.int .i64 kd)).alloc (.cells #[.int .i64 kd, .int .i64 ta, .int .i64 tx, .int .i64 ty] 39)).frozen? ⟨G, 7, none⟩ = false := (gcell p1 7).2
 have c2 : (((v.setCell ⟨G, 6, none⟩ (.int .i64 kd)).setCell ⟨G, 7, none⟩ (.int .i64 ta)).alloc (.cells #[.int .i64 kd, .int .i64 ta, .int .i64 tx, .int .i64 ty] 39)).cell? ⟨G, 8, none⟩ = some (.int .i64 S.tx) := (gcell p2 8).1.trans rfl
 have z2 : (((v.setCell ⟨G, 6, none⟩ (.int .i64 kd)).setCell ⟨G, 7, none⟩ (.int .i64 ta)).alloc (.cells #[.int .i64 kd, .int .i64 ta, .int .i64 tx, .int .i64 ty] 39)).frozen? ⟨G, 8, none⟩ = false := (gcell p2 8).2
 have c3 : ((((v.setCell ⟨G, 6, none⟩ (.int .i64 kd)).setCell ⟨G, 7, none⟩ (.int .i64 ta)).setCell ⟨G, 8, none⟩ (.int .i64 tx)).alloc (.cells #[.int .i64 kd, .int .i64 ta, .int .i64 tx, .int .i64 ty] 39)).cell? ⟨G, 9, none⟩ = some (.int .i64 S.ty) := (gcell p3 9).1.trans rfl
 have z3 : ((((v.setCell ⟨G, 6, none⟩ (.int .i64 kd)).setCell ⟨G, 7, none⟩ (.int .i64 ta)).setCell ⟨G, 8, none⟩ (.int .i64 tx)).alloc (.cells #[.int .i64 kd, .int .i64 ta, .int .i64 tx, .int .i64 ty] 39)).frozen? ⟨G, 9, none⟩ = false := (gcell p3 9).2
 clear q0 q1 q2 q3 q4 p0 p1 p2 p3
 go_enter Tryd.func94, Tryd.ntmps94
 obtain ⟨i0, hi, hz0, hz1, hz2⟩ := info_parts infoB
 have HX : Gok base g G a0 len cap M N { S with kd := kd, ta := ta, tx := tx, ty := ty } (((((v.setCell ⟨G, 6, none⟩ (.int .i64 kd)).setCell ⟨G, 7, none⟩ (.int .i64 ta)).setCell ⟨G, 8, none⟩ (.int .i64 tx)).setCell ⟨G, 9, none⟩ (.int .i64 ty)).alloc (.cells #[.int .i64 kd, .int .i64 ta, .int .i64 tx, .int .i64 ty] 39)) ∧ Mov g G M M v (((((v.setCell ⟨G, 6, none⟩ (.int .i64 kd)).setCell ⟨G, 7, none⟩ (.int .i64 ta)).setCell ⟨G, 8, none⟩ (.int .i64 tx)).setCell ⟨G, 9, none⟩ (.int .i64 ty)).alloc (.cells #[.int .i64 kd, .int .i64 ta, .int .i64 tx, .int .i64 ty] 39)) := h.grew (Nat.le_refl _) (fun b hb hn => (Below.heap_alloc _ _ _ (by simpa [World.setCell] using hb)).trans (by rw [Below.heap_setCell _ _ _ _ hn, Below.heap_setCell _ _ _ _ hn, Below.heap_setCell _ _ _ _ hn, Below.heap_setCell _ _ _ _ hn])) (by simp [World.setCell]) rfl rfl rfl (fun _ _ => rfl) (fun b T m hb hm => by rw [h.th.none hb] at hm; cases hm) p4 ⟨rfl, rfl, rfl, rfl, rfl, rfl, rfl, rfl, rfl, rfl, rfl⟩ h.ids (by have := h.bn; dsimp only; omega)
 go_wp2_with fail
 clear c0 c1 c2 c3 z0 z1 z2 z3
 generalize (((((v.setCell ⟨G, 6, none⟩ (.int .i64 kd)).setCell ⟨G, 7, none⟩ (.int .i64 ta)).setCell ⟨G, 8, none⟩ (.int .i64 tx)).setCell ⟨G, 9, none⟩ (.int .i64 ty)).alloc (.cells #[.int .i64 kd, .int .i64 ta, .int .i64 tx, .int .i64 ty] 39)) = wx at p4 HX ⊢
 obtain ⟨HX, VX⟩ := HX
 have hbn := HX.bn
 dsimp only at hbn
 have hGx := (Array.getElem?_eq_some_iff.1 p4).1
 have B2 : Below wx.heap.size wx (wx.drew.alloc (.cells #[S.phv, S.iv, .int .i64 kd, .int .i64 ta, .int .i64 tx, .int .i64 ty] 41)) := (Below.refl _ _).drew.alloc (Nat.le_refl _) _
 have HH2 : Hid (Gok base g G a0 len cap M N { S with kd := kd, ta := ta, tx := tx, ty := ty } (wx.drew.alloc (.cells #[S.phv, S.iv, .int .i64 kd, .int .i64 ta, .int .i64 tx, .int .i64 ty] 41)) ∧ Mov g G M M wx (wx.drew.alloc (.cells #[S.phv, S.iv, .int .i64 kd, .int .i64 ta, .int .i64 tx, .int .i64 ty] 41))) := HX.below B2
 have LAW : Hid (∀ ty', ∃ s' w' M', (Builtin.append_ #[25, 25] ty' #[S.bv, .slice (some ⟨wx.heap.size, 0, none⟩) 1 1]).run Tryd.prog (wx.drew.alloc (.cells #[S.phv, S.iv, .int .i64 kd, .int .i64 ta, .int .i64 tx, .int .i64 ty] 41)) = .ok s' w' ∧ (Pushed base M M' (N + 1) 41 S.nb (wx.drew.alloc (.cells #[S.phv, S.iv, .int .i64 kd, .int .i64 ta, .int .i64 tx, .int .i64 ty] 41)) w' s' ∧ ∃ xs, (wx.drew.alloc (.cells #[S.phv, S.iv, .int .i64 kd, .int .i64 ta, .int .i64 tx, .int .i64 ty] 41)).ownsRow base 41 (szT 41) S.bv S.nb xs ∧ w'.ownsRow base 41 (szT 41) s' (S.nb + 1) (xs ++ [S.phv, S.iv, .int .i64 kd, .int .i64 ta, .int .i64 tx, .int .i64 ty]))) := fun ty' =>
  run_row2 i0 _ 80 Tryd.underlying25 hi hz0 hz1 hz2 (by decide) (by omega) HH2.out.1.b HH2.out.1.th (by omega) (.inr (.inr (.inr (.inr rfl)))) HH2.out.1.bv (by dsimp only; omega) ⟨wx.heap.size, 0, none⟩ 1 [S.phv, S.iv, .int .i64 kd, .int .i64 ta, .int .i64 tx, .int .i64 ty] rfl (six_of (heap_alloc_last wx.drew _)) (by
   have o1 := HX.ph.sl
   have o2 := HX.i.sl
   obtain ⟨_, _, e1, _⟩ := o1
   obtain ⟨_, _, e2, _⟩ := o2
   dsimp only at e1 e2
   simp [Value.oneCell', e1, e2]) (el_block ⟨S.nph, by omega, HX.ph.sl⟩ ⟨S.ni, by omega, HX.i.sl⟩)
 clear hi hz0 hz1 hz2
 have k3 : wx.cell? ⟨G, 3, none⟩ = some S.bv := (gcell p4 3).1.trans rfl
 have k4 : wx.cell? ⟨G, 4, none⟩ = some S.phv := (gcell p4 4).1.trans rfl
 have k5 : wx.cell? ⟨G, 5, none⟩ = some S.iv := (gcell p4 5).1.trans rfl
 have k6 : wx.cell? ⟨G, 6, none⟩ = some (.int .i64 kd) := (gcell p4 6).1.trans rfl
 have k7 : wx.cell? ⟨G, 7, none⟩ = some (.int .i64 ta) := (gcell p4 7).1.trans rfl
 have k8 : wx.cell? ⟨G, 8, none⟩ = some (.int .i64 tx) := (gcell p4 8).1.trans rfl
 have k9 : wx.cell? ⟨G, 9, none⟩ = some (.int .i64 ty) := (gcell p4 9).1.trans rfl
 have x3 := (cell_block (o := 3) (B2.block G hGx)).trans k3
 go_cut [0] (fun s0 wz => s0 = .pointer (some ⟨G, 0, none⟩) ∧ ∃ w2 s' M', Pushed base M M' (N + 1) 41 S.nb (wx.drew.alloc (.cells #[S.phv, S.iv, .int .i64 kd, .int .i64 ta, .int .i64 tx, .int .i64 ty] 41)) w2 s' ∧ (∃ xs, (wx.drew.alloc (.cells #[S.phv, S.iv, .int .i64 kd, .int .i64 ta, .int .i64 tx, .int .i64 ty] 41)).ownsRow base 41 (szT 41) S.bv S.nb xs ∧ w2.ownsRow base 41 (szT 41) s' (S.nb + 1) (xs ++ [S.phv, S.iv, .int .i64 kd, .int .i64 ta, .int .i64 tx, .int .i64 ty])) ∧ wz = w2.setCell ⟨G, 3, none⟩ s')
 case first =>
  go_region_law (refine step_row rfl (.tmp 14) (.tmp 19) 25 rfl rfl rfl LAW.out ?_; intro s' w2 M' hPC; obtain ⟨hP, hC⟩ := hPC; obtain ⟨gs, qs, rfl⟩ := hP.row.form; have y0 := (hP.out G (by exact Nat.lt_of_lt_of_le hGx B2.size) h.mG).1.trans ((B2.block G hGx).trans p4); have y3 : w2.cell? ⟨G, 3, none⟩ = some S.bv := (gcell y0 3).1.trans rfl; have z3 := (gcell y0 3).2; clear y0)
  all_goals
   go_wp2_with fail
   go_meet
   case rel => exact ⟨rfl, w2, _, M', hP, hC, rfl⟩
 case rest =>
  obtain ⟨rfl, w2, s', M', hP, ⟨xs, hC1, hC2⟩, rfl⟩ := hcut
  obtain ⟨H1, V1⟩ := HH2.out
  obtain ⟨H2, V2⟩ := H1.pushB (by omega) hP
  clear k3 k4 k5 k6 k7 k8 k9 x3 LAW HH2 B2
  have hGn : ∀ q, (∃ p, M' q = some p) → q ≠ G := fun q hq e => by
   obtain ⟨p, hq⟩ := hq
   have := H2.mG
   rw [← e, hq] at this
   cases this
  have D1 : v.ownsRow base 41 (szT 41) S.bv S.nb xs := own_stay hC1 fun q hq => by
   obtain ⟨p, hMq⟩ := own_M h.b hq
   exact (VX.hold q _ _ hMq (by decide)).1.symm.trans (V1.hold q _ _ hMq (by decide)).1.symm
  have D2 : (w2.setCell ⟨G, 3, none⟩ s').ownsRow base 41 (szT 41) s' (S.nb + 1) (xs ++ [S.phv, S.iv, .int .i64 kd, .int .i64 ta, .int .i64 tx, .int .i64 ty]) := own_stay hC2 fun q hq => Below.heap_setCell _ _ _ _ (by
   obtain ⟨p, hMq⟩ := own_M hP.row hq
   exact hGn q ⟨_, hMq⟩)
  have D3 : ∀ b T m, M b = some (T, m) → T ≠ 41 → T ≠ 44 → (w2.setCell ⟨G, 3, none⟩ s').heap[b]? = v.heap[b]? ∧ M' b = some (T, m) := fun b T m hb hT hI => by
   obtain ⟨e1, e2⟩ := hP.other b T m hb hT
   exact ⟨(Below.heap_setCell _ _ _ _ (hGn b ⟨_, e2⟩)).trans (e1.trans ((V1.hold b T m hb hI).1.trans (VX.hold b T m hb hI).1)), e2⟩
  clear hC1 hC2
  generalize w2.setCell ⟨G, 3, none⟩ s' = wy at H2 V2 D2 D3 ⊢
  have q0 : wy.heap[G]? = some (.cells (gcells g { S with bv := s', nb := S.nb + 1, kd := kd, ta := ta, tx := tx, ty := ty }) 122 (0, 0)) := H2.cells
  have q1 : (wy.setCell ⟨G, 4, none⟩ (.slice none 0 0)).heap[G]? = some (.cells (gcells g { S with bv := s', nb := S.nb + 1, kd := kd, ta := ta, tx := tx, ty := ty, phv := .slice none 0 0 }) 122 (0, 0)) := (heap_set q0).trans rfl
  have q2 : ((wy.setCell ⟨G, 4, none⟩ (.slice none 0 0)).setCell ⟨G, 5, none⟩ (.slice none 0 0)).heap[G]? = some (.cells (gcells g { S with bv := s', nb := S.nb + 1, kd := kd, ta := ta, tx := tx, ty := ty, phv := .slice none 0 0, iv := .slice none 0 0 }) 122 (0, 0)) := (heap_set q1).trans rfl
  have q3 : (((wy.setCell ⟨G, 4, none⟩ (.slice none 0 0)).setCell ⟨G, 5, none⟩ (.slice none 0 0)).setCell ⟨G, 6, none⟩ (.int .i64 0)).heap[G]? = some (.cells (gcells g { S with bv := s', nb := S.nb + 1, kd := 0, ta := ta, tx := tx, ty := ty, phv := .slice none 0 0, iv := .slice none 0 0 }) 122 (0, 0)) := (heap_set q2).trans rfl
  have q4 : ((((wy.setCell ⟨G, 4, none⟩ (.slice none 0 0)).setCell ⟨G, 5, none⟩ (.slice none 0 0)).setCell ⟨G, 6, none⟩ (.int .i64 0)).setCell ⟨G, 7, none⟩ (.int .i64 0)).heap[G]? = some (.cells (gcells g { S with bv := s', nb := S.nb + 1, kd := 0, ta := 0, tx := tx, ty := ty, phv := .slice none 0 0, iv := .slice none 0 0 }) 122 (0, 0)) := (heap_set q3).trans rfl
  have q5 : (((((wy.setCell ⟨G, 4, none⟩ (.slice none 0 0)).setCell ⟨G, 5, none⟩ (.slice none 0 0)).setCell ⟨G, 6, none⟩ (.int .i64 0)).setCell ⟨G, 7, none⟩ (.int .i64 0)).setCell ⟨G, 8, none⟩ (.int .i64 0)).heap[G]? = some (.cells (gcells g { S with bv := s', nb := S.nb + 1, kd := 0, ta := 0, tx := 0, ty := ty, phv := .slice none 0 0, iv := .slice none 0 0 }) 122 (0, 0)) := (heap_set q4).trans rfl
  have q6 : ((((((wy.setCell ⟨G, 4, none⟩ (.slice none 0 0)).setCell ⟨G, 5, none⟩ (.slice none 0 0)).setCell ⟨G, 6, none⟩ (.int .i64 0)).setCell ⟨G, 7, none⟩ (.int .i64 0)).setCell ⟨G, 8, none⟩ (.int .i64 0)).setCell ⟨G, 9, none⟩ (.int .i64 0)).heap[G]? = some (.cells (gcells g { S with bv := s', nb := S.nb + 1, kd := 0, ta := 0, tx := 0, ty := 0, phv := .slice none 0 0, iv := .slice none 0 0 }) 122 (0, 0)) := (heap_set q5).trans rfl
  have c0 : wy.cell? ⟨G, 4, none⟩ = some S.phv := (gcell q0 4).1.trans rfl
  have z0 : wy.frozen? ⟨G, 4, none⟩ = false := (gcell q0 4).2
  have c1 : (wy.setCell ⟨G, 4, none⟩ (.slice none 0 0)).cell? ⟨G, 5, none⟩ = some S.iv := (gcell q1 5).1.trans rfl
  have z1 : (wy.setCell ⟨G, 4, none⟩ (.slice none 0 0)).frozen? ⟨G, 5, none⟩ = false := (gcell q1 5).2
  have c2 : ((wy.setCell ⟨G, 4, none⟩ (.slice none 0 0)).setCell ⟨G, 5, none⟩ (.slice none 0 0)).cell? ⟨G, 6, none⟩ = some (.int .i64 kd) := (gcell q2 6).1.trans rfl
  have z2 : ((wy.setCell ⟨G, 4, none⟩ (.slice none 0 0)).setCell ⟨G, 5, none⟩ (.slice none 0 0)).frozen? ⟨G, 6, none⟩ = false := (gcell q2 6).2
  have c3 : (((wy.setCell ⟨G, 4, none⟩ (.slice none 0 0)).setCell ⟨G, 5, none⟩ (.slice none 0 0)).setCell ⟨G, 6, none⟩ (.int .i64 0)).cell? ⟨G, 7, none⟩ = some (.int .i64 ta) := (gcell q3 7).1.trans rfl
  have z3 : (((wy.setCell ⟨G, 4, none⟩ (.slice none 0 0)).setCell ⟨G, 5, none⟩ (.slice none 0 0)).setCell ⟨G, 6, none⟩ (.int .i64 0)).frozen? ⟨G, 7, none⟩ = false := (gcell q3 7).2
  have c4 : ((((wy.setCell ⟨G, 4, none⟩ (.slice none 0 0)).setCell ⟨G, 5, none⟩ (.slice none 0 0)).setCell ⟨G, 6, none⟩ (.int .i64 0)).setCell ⟨G, 7, none⟩ (.int .i64 0)).cell? ⟨G, 8, none⟩ = some (.int .i64 tx) := (gcell q4 8).1.trans rfl
  have z4 : ((((wy.setCell ⟨G, 4, none⟩ (.slice none 0 0)).setCell ⟨G, 5, none⟩ (.slice none 0 0)).setCell ⟨G, 6, none⟩ (.int .i64 0)).setCell ⟨G, 7, none⟩ (.int .i64 0)).frozen? ⟨G, 8, none⟩ = false := (gcell q4 8).2
  have c5 : (((((wy.setCell ⟨G, 4, none⟩ (.slice none 0 0)).setCell ⟨G, 5, none⟩ (.slice none 0 0)).setCell ⟨G, 6, none⟩ (.int .i64 0)).setCell ⟨G, 7, none⟩ (.int .i64 0)).setCell ⟨G, 8, none⟩ (.int .i64 0)).cell? ⟨G, 9, none⟩ = some (.int .i64 ty) := (gcell q5 9).1.trans rfl
  have z5 : (((((wy.setCell ⟨G, 4, none⟩ (.slice none 0 0)).setCell ⟨G, 5, none⟩ (.slice none 0 0)).setCell ⟨G, 6, none⟩ (.int .i64 0)).setCell ⟨G, 7, none⟩ (.int .i64 0)).setCell ⟨G, 8, none⟩ (.int .i64 0)).frozen? ⟨G, 9, none⟩ = false := (gcell q5 9).2
  clear q0 q1 q2 q3 q4 q5
  have R := H2.reset (v' := ((((((wy.setCell ⟨G, 4, none⟩ (.slice none 0 0)).setCell ⟨G, 5, none⟩ (.slice none 0 0)).setCell ⟨G, 6, none⟩ (.int .i64 0)).setCell ⟨G, 7, none⟩ (.int .i64 0)).setCell ⟨G, 8, none⟩ (.int .i64 0)).setCell ⟨G, 9, none⟩ (.int .i64 0))) (fun b hn => by rw [Below.heap_setCell _ _ _ _ hn, Below.heap_setCell _ _ _ _ hn, Below.heap_setCell _ _ _ _ hn, Below.heap_setCell _ _ _ _ hn, Below.heap_setCell _ _ _ _ hn, Below.heap_setCell _ _ _ _ hn]) (by simp only [World.size_setCell]) (by simp only [set_os]) (by simp only [set_tape]) (by simp only [set_output]) (q6.trans (by unfold gcells; rfl))
  have hset : ∀ b, b ≠ G → ((((((wy.setCell ⟨G, 4, none⟩ (.slice none 0 0)).setCell ⟨G, 5, none⟩ (.slice none 0 0)).setCell ⟨G, 6, none⟩ (.int .i64 0)).setCell ⟨G, 7, none⟩ (.int .i64 0)).setCell ⟨G, 8, none⟩ (.int .i64 0)).setCell ⟨G, 9, none⟩ (.int .i64 0)).heap[b]? = wy.heap[b]? := fun b hn => by rw [Below.heap_setCell _ _ _ _ hn, Below.heap_setCell _ _ _ _ hn, Below.heap_setCell _ _ _ _ hn, Below.heap_setCell _ _ _ _ hn, Below.heap_setCell _ _ _ _ hn, Below.heap_setCell _ _ _ _ hn]
  have D2' := own_stay (w' := ((((((wy.setCell ⟨G, 4, none⟩ (.slice none 0 0)).setCell ⟨G, 5, none⟩ (.slice none 0 0)).setCell ⟨G, 6, none⟩ (.int .i64 0)).setCell ⟨G, 7, none⟩ (.int .i64 0)).setCell ⟨G, 8, none⟩ (.int .i64 0)).setCell ⟨G, 9, none⟩ (.int .i64 0))) D2 fun q hq => hset q (by
   obtain ⟨p, hMq⟩ := own_M hP.row hq
   exact hGn q ⟨_, hMq⟩)
  have HD : Hid ((∀ b T m, M b = some (T, m) → T ≠ 41 → T ≠ 44 → ((((((wy.setCell ⟨G, 4, none⟩ (.slice none 0 0)).setCell ⟨G, 5, none⟩ (.slice none 0 0)).setCell ⟨G, 6, none⟩ (.int .i64 0)).setCell ⟨G, 7, none⟩ (.int .i64 0)).setCell ⟨G, 8, none⟩ (.int .i64 0)).setCell ⟨G, 9, none⟩ (.int .i64 0)).heap[b]? = v.heap[b]? ∧ M' b = some (T, m)) ∧ ∃ xs, v.ownsRow base 41 (szT 41) S.bv S.nb xs ∧ ((((((wy.setCell ⟨G, 4, none⟩ (.slice none 0 0)).setCell ⟨G, 5, none⟩ (.slice none 0 0)).setCell ⟨G, 6, none⟩ (.int .i64 0)).setCell ⟨G, 7, none⟩ (.int .i64 0)).setCell ⟨G, 8, none⟩ (.int .i64 0)).setCell ⟨G, 9, none⟩ (.int .i64 0)).ownsRow base 41 (szT 41) s' (S.nb + 1) (xs ++ [S.phv, S.iv, .int .i64 kd, .int .i64 ta, .int .i64 tx, .int .i64 ty])) :=
   ⟨fun b T m hb hT hI => ⟨(hset b (hGn b ⟨_, (D3 b T m hb hT hI).2⟩)).trans (D3 b T m hb hT hI).1, (D3 b T m hb hT hI).2⟩, xs, D1, D2'⟩
  clear hset D1 D2 D2' D3 hGn
  go_wp2_with fail
  exact bodyPost_end (results_none Tryd.results94 _ _ _) rfl ⟨⟨_, rfl⟩, M', s', R.1, ((VX.mv.trans V1.mv).trans V2).trans R.2, HD.out⟩
end Go.Proofs.YtenbodghkpbghaaDoor
namespace Go.Proofs.YtenbodghkpbghaaDoor
open Go.RowKit Go.Deep
set_option linter.unusedVariables false
theorem wpAny_inv {P : Program} {md : Region.Mode} {ops : Array Oper} {Q : Exit → Act → World → Prop} (J : Array Bool → Act → World → Prop)
  (hend : ∀ listed a w, listed.size = ops.size → Region.ready md ops listed = [] → J listed a w → Q .normal a w)
  (hstep : ∀ listed i a w, listed.size = ops.size → i ∈ Region.ready md ops listed → J listed a w → wpOp P ops Q i (J (listed.setIfInBounds i true)) a w) :
  ∀ (fuel : Nat) (listed : Array Bool) (a : Act) (w : World), listed.size = ops.size → listed.toList.count false ≤ fuel → J listed a w → wpAny P md ops Q fuel listed a w := by
 have key : ∀ (listed : Array Bool) (i : Nat), i ∈ Region.ready md ops listed → ∃ h : i < listed.toList.length, listed.toList[i] = false := fun listed i hi => by
  have h1 := (mem_ready.1 hi)
  have h2 : listed.getD i true = false := by simp_all
  by_cases h3 : i < listed.size
  ·refine ⟨by simpa using h3, ?_⟩
   simpa [Array.getD, h3] using h2
  ·simp [Array.getD, h3] at h2
 intro fuel
 induction fuel with
 | zero =>
  intro listed a w hs hc hJ
  have h0 : Region.ready md ops listed = [] := by
   refine List.eq_nil_iff_forall_not_mem.2 fun i hi => ?_
   obtain ⟨h1, h2⟩ := key listed i hi
   have h3 : false ∈ listed.toList := h2 ▸ List.getElem_mem h1
   have := List.count_pos_iff.2 h3
   omega
  exact ⟨h0, hend _ _ _ hs h0 hJ⟩
 | succ fuel ih =>
  intro listed a w hs hc hJ
  refine ⟨fun h0 => hend _ _ _ hs h0 hJ, fun i hi => wpOp_mono (fun a' w' hJ' => ih _ _ _ (by simpa using hs) ?_ hJ') (hstep listed i a w hs hi hJ)⟩
  obtain ⟨h1, h2⟩ := key listed i hi
  have h3 : false ∈ listed.toList := h2 ▸ List.getElem_mem h1
  have h4 := List.count_pos_iff.2 h3
  rw [Array.toList_setIfInBounds, List.count_set h1, h2]
  generalize listed.toList.count false = n at hc h4 ⊢
  simp
  omega
theorem wp_region_inv {P : Program} {id : Nat} {ops : Array Oper} {Q : Exit → Act → World → Prop} {a : Act} {w : World} (hm : P.follows .mixedOrders = true) (J : Array Bool → Act → World → Prop)
  (h0 : J (Array.replicate ops.size false) a w.drew)
  (hend : ∀ listed a w, listed.size = ops.size → Region.ready .any ops listed = [] → J listed a w → Q .normal a w)
  (hstep : ∀ listed i a w, listed.size = ops.size → i ∈ Region.ready .any ops listed → J listed a w → wpOp P ops Q i (J (listed.setIfInBounds i true)) a w) : (Code.region id ops true).wp P Q a w :=
 wp_region_any hm (wpAny_inv J hend hstep ops.size _ a _ (by simp) (by rw [Array.toList_replicate, List.count_replicate_self]; exact Nat.le_refl _) h0)
end Go.Proofs.YtenbodghkpbghaaDoor
namespace Go.Proofs.YtenbodghkpbghaaDoor
open Go.RowKit Go.Deep
set_option linter.unusedVariables false
def upd {α : Type} (f : Nat → α) (i : Nat) (x : α) : Nat → α := fun j => if j = i then x else f j
theorem upd_same {α : Type} (f : Nat → α) (i : Nat) (x : α) : upd f i x i = x := by simp [upd]
theorem upd_ne {α : Type} (f : Nat → α) {i j : Nat} (x : α) (h : j ≠ i) : upd f i x j = f j := by simp [upd, h]
def putsF (A : Act) (s : Nat) : Nat → (Nat → Value) → Act
 | 0, _ => A
 | n + 1, f => (putsF A s n f).put (some (s + n)) (f n)
theorem put_get (A : Act) (t u : Nat) (v : Value) : (A.put (some t) v).tmps.getD u undef = if u = t ∧ t < A.tmps.size then v else A.tmps.getD u undef := by
 unfold Act.put
 simp only [Array.getD_eq_getD_getElem?, Array.getElem?_setIfInBounds]
 by_cases h : t = u
 ·subst h
  by_cases h2 : t < A.tmps.size
  ·simp [h2]
  ·simp [h2]
 ·have h' : ¬ u = t := fun e => h e.symm
  simp [h, h']
theorem put_size (A : Act) (t : Nat) (v : Value) : (A.put (some t) v).tmps.size = A.tmps.size := by simp [Act.put]
theorem putsF_size (A : Act) (s : Nat) (f : Nat → Value) : ∀ n, (putsF A s n f).tmps.size = A.tmps.size
 | 0 => rfl
 | n + 1 => by rw [putsF, put_size, putsF_size A s f n]
theorem putsF_defers (A : Act) (s : Nat) (f : Nat → Value) : ∀ n, (putsF A s n f).defers = A.defers
 | 0 => rfl
 | n + 1 => putsF_defers A s f n
theorem putsF_out (A : Act) (s : Nat) (f : Nat → Value) (t : Nat) : ∀ n, (t < s ∨ s + n ≤ t) → (putsF A s n f).tmps.getD t undef = A.tmps.getD t undef
 | 0, _ => rfl
 | n + 1, h => by rw [putsF, put_get, if_neg (by omega), putsF_out A s f t n (by omega)]
theorem putsF_in (A : Act) (s : Nat) (f : Nat → Value) (i : Nat) : ∀ n, i < n → s + n ≤ A.tmps.size → (putsF A s n f).tmps.getD (s + i) undef = f i
 | 0, h, _ => by omega
 | n + 1, h, hs => by
  rw [putsF, put_get, putsF_size]
  by_cases e : i = n
  ·rw [if_pos (by omega), e]
  ·rw [if_neg (by omega), putsF_in A s f i n (by omega) (by omega)]
theorem act_ext {a b : Act} (hs : a.tmps.size = b.tmps.size) (hd : a.defers = b.defers) (h : ∀ t, a.tmps.getD t undef = b.tmps.getD t undef) : a = b := by
 obtain ⟨a, d⟩ := a
 obtain ⟨b, e⟩ := b
 simp only at hs hd h
 subst hd
 congr 1
 refine Array.ext hs fun i h1 h2 => ?_
 have := h i
 simpa [Array.getD, h1, h2] using this
theorem putsF_put (A : Act) (s n : Nat) (f : Nat → Value) (i : Nat) (v : Value) (hi : i < n) (hs : s + n ≤ A.tmps.size) : (putsF A s n f).put (some (s + i)) v = putsF A s n (upd f i v) := by
 refine act_ext (by rw [put_size, putsF_size, putsF_size]) (by show (putsF A s n f).defers = _; rw [putsF_defers, putsF_defers]) fun t => ?_
 rw [put_get, putsF_size]
 by_cases h : t < s ∨ s + n ≤ t
 ·rw [if_neg (by omega), putsF_out _ _ _ _ _ h, putsF_out _ _ _ _ _ h]
 ·obtain ⟨j, rfl⟩ : ∃ j, t = s + j := ⟨t - s, by omega⟩
  rw [putsF_in _ _ _ _ _ (by omega) hs, putsF_in _ _ _ _ _ (by omega) hs]
  by_cases e : j = i
  ·subst e; rw [if_pos (by omega), upd_same]
  ·rw [if_neg (by omega), upd_ne _ _ e]
theorem putsF_self (A : Act) (s n : Nat) (hs : s + n ≤ A.tmps.size) : putsF A s n (fun i => A.tmps.getD (s + i) undef) = A := by
 refine act_ext (putsF_size ..) (putsF_defers ..) fun t => ?_
 by_cases h : t < s ∨ s + n ≤ t
 ·rw [putsF_out _ _ _ _ _ h]
 ·obtain ⟨j, rfl⟩ : ∃ j, t = s + j := ⟨t - s, by omega⟩
  rw [putsF_in _ _ _ _ _ (by omega) hs]
def slotsOk (s n : Nat) (ops : Array Oper) : Bool := ops.size == n && (List.range n).all fun i => match ops[i]? with
 | none => false
 | some o => o.dst == some (s + i) && o.guard.isNone && o.after.all fun e => decide (e.on < i)
theorem slotsOk_at {s n : Nat} {ops : Array Oper} (h : slotsOk s n ops = true) {i : Nat} {o : Oper} (ho : ops[i]? = some o) : i < n ∧ o.dst = some (s + i) ∧ o.guard = none ∧ ∀ e ∈ o.after, e.on < i := by
 unfold slotsOk at h
 rw [Bool.and_eq_true] at h
 have hn : ops.size = n := by simpa using h.1
 have hi : i < n := by rw [← hn]; exact (Array.getElem?_eq_some_iff.1 ho).1
 have h2 := (List.all_eq_true.1 h.2) i (List.mem_range.2 hi)
 rw [ho] at h2
 simp only [Bool.and_eq_true, beq_iff_eq, Option.isNone_iff_eq_none] at h2
 refine ⟨hi, h2.1.1, h2.1.2, fun e he => ?_⟩
 have h3 := h2.2
 rw [Array.all_eq_true'] at h3
 simpa using h3 e he
theorem ready_nil {s n : Nat} {ops : Array Oper} (h : slotsOk s n ops = true) {listed : Array Bool} (hl : listed.size = ops.size) (hr : Region.ready .any ops listed = []) : ∀ i, i < n → listed.getD i false = true := by
 have hn : ops.size = n := by unfold slotsOk at h; rw [Bool.and_eq_true] at h; simpa using h.1
 intro i
 induction i using Nat.strongRecOn with
 | _ i ih =>
  intro hi
  obtain ⟨o, ho⟩ : ∃ o, ops[i]? = some o := ⟨ops[i]'(by omega), by simp [show i < ops.size by omega]⟩
  obtain ⟨_, _, _, ha⟩ := slotsOk_at h ho
  rcases hb : listed.getD i false with _ | _
  ·exfalso
   have h1 : listed.getD i true = false := by
    have h2 : i < listed.size := by omega
    simp [Array.getD, h2] at hb ⊢
    exact hb
   have : i ∈ Region.ready .any ops listed := mem_ready.2 ⟨h1, o, ho, fun e he _ => ih e.on (ha e he) (by have := ha e he; omega)⟩
   rw [hr] at this
   simp at this
  ·rfl
theorem wp_region_slots {P : Program} {id : Nat} {ops : Array Oper} {Q : Exit → Act → World → Prop} {A : Act} {w : World} (hm : P.follows .mixedOrders = true) (s n : Nat) (hsz : s + n ≤ A.tmps.size) (hops : slotsOk s n ops = true)
  (J : (Nat → Bool) → (Nat → Value) → World → Prop)
  (h0 : J (fun _ => false) (fun i => A.tmps.getD (s + i) undef) w.drew)
  (hend : ∀ f w, J (fun i => decide (i < n)) f w → Q .normal (putsF A s n f) w)
  (hstep : ∀ i o up f w, ops[i]? = some o → (∀ e ∈ o.after, Region.binds .any e = true → up e.on = true) → (∀ k o, ops[k]? = some o → up k = true → ∀ e ∈ o.after, Region.binds .any e = true → up e.on = true) → up i = false → J up f w → o.wp P (putsF A s n f) w (fun a w' => ∃ v, a = (putsF A s n f).put (some (s + i)) v ∧ J (upd up i true) (upd f i v) w') Q) : (Code.region id ops true).wp P Q A w := by
 have hn : ops.size = n := by unfold slotsOk at hops; rw [Bool.and_eq_true] at hops; simpa using hops.1
 refine wp_region_inv hm (fun listed a w => ∃ f, a = putsF A s n f ∧ (∀ k o, ops[k]? = some o → listed.getD k false = true → ∀ e ∈ o.after, Region.binds .any e = true → listed.getD e.on false = true) ∧ J (fun i => listed.getD i false) f w) ?_ ?_ ?_
 ·have e : (fun i => (Array.replicate ops.size false).getD i false) = fun _ => false := by
   funext i
   by_cases h : i < ops.size <;> simp [Array.getD, h]
  refine ⟨_, (putsF_self A s n hsz).symm, fun k o _ hk => ?_, by rw [e]; exact h0⟩
  rw [congrFun e k] at hk
  cases hk
 ·rintro listed a w hl hr ⟨f, rfl, _, hJ⟩
  refine hend f w ?_
  have e : (fun i => listed.getD i false) = fun i => decide (i < n) := by
   funext i
   by_cases h : i < n
   ·rw [ready_nil hops hl hr i h]; simp [h]
   ·simp [Array.getD, show ¬ i < listed.size by omega, h]
  rw [e] at hJ; exact hJ
 ·rintro listed i a w hl hi ⟨f, rfl, hcl, hJ⟩
  obtain ⟨h1, o, ho, ha⟩ := mem_ready.1 hi
  obtain ⟨hin, hd, hg, _⟩ := slotsOk_at hops ho
  have hw : Region.wanted o (yielded ops (putsF A s n f).tmps) = true := by simp [Region.wanted, hg]
  have h2 : listed.getD i false = false := by
   have h2 : i < listed.size := by omega
   simp [Array.getD, h2] at h1 ⊢
   exact h1
  unfold wpOp
  rw [ho]
  show if Region.wanted o (yielded ops (putsF A s n f).tmps) = true then _ else _
  rw [if_pos hw]
  refine .inl (Oper.wp_mono ?_ (hstep i o _ f w ho ha hcl h2 hJ))
  rintro a' w' ⟨v, rfl, hJ'⟩
  have e : (fun j => (listed.setIfInBounds i true).getD j false) = upd (fun j => listed.getD j false) i true := by
   funext j
   unfold upd
   by_cases h : j = i
   ·subst h
    simp [Array.getD, show j < listed.size by omega]
   ·have h' : ¬ i = j := fun e => h e.symm
    simp [h, h', Array.getD_eq_getD_getElem?]
  refine ⟨_, putsF_put A s n f i v hin hsz, fun k o' ho' hk x hx hb => ?_, by rw [e]; exact hJ'⟩
  rw [congrFun e x.on]
  rw [congrFun e k] at hk
  have keep : listed.getD x.on false = true → upd (fun j => listed.getD j false) i true x.on = true := fun h => by
   unfold upd
   split
   ·rfl
   ·exact h
  by_cases hki : k = i
  ·subst hki
   rw [ho] at ho'
   cases ho'
   exact keep (ha x hx hb)
  ·rw [upd_ne _ _ hki] at hk
   exact keep (hcl k o' ho' hk x hx hb)
end Go.Proofs.YtenbodghkpbghaaDoor
namespace Go.Proofs.YtenbodghkpbghaaDoor
open Go.RowKit Go.Deep
set_option linter.unusedVariables false
def NewI (w : World) (g q n : Nat) : Prop := q < w.heap.size ∧ q ≠ g ∧ ∃ z : Int, w.cell? ⟨q, n, none⟩ = some (.int .i64 z)
theorem NewI.grown {w w' : World} {g q n : Nat} (h : NewI w g q n) (k : w.grownBy w' (some g)) : NewI w' g q n := by
 obtain ⟨h1, h2, z, h3⟩ := h
 exact ⟨Nat.lt_of_lt_of_le h1 k.size, h2, z, (cell_block (k.block q h1 (by simpa using h2))).trans h3⟩
theorem NewI.alloc {w : World} {g q n : Nat} (h : NewI w g q n) (o : Obj) : NewI (w.alloc o) g q n := by
 obtain ⟨h1, h2, z, h3⟩ := h
 exact ⟨by simp; omega, h2, z, (cell_block (Below.heap_alloc w o q h1)).trans h3⟩
def Ty17 (g G : Nat) (np : Int) (b : Bool) (w : World) : Nat → Value → Prop
 | 0, x => x = .pointer (some ⟨G, 0, none⟩)
 | 1, x => b = false → ∃ q, x = .slice (some ⟨q, 0, none⟩) 2 2 ∧ NewI w g q 0 ∧ NewI w g q 1
 | 2, x => x = .pointer (some ⟨G, 0, none⟩)
 | 3, x => x = .pointer (some ⟨G, 0, none⟩)
 | 4, x => x = .pointer (some ⟨G, 0, none⟩)
 | 5, x => x = .pointer (some ⟨g, 0, none⟩)
 | 6, x => ∃ k : Nat, k < 2 ∧ x = .int .i64 k
 | 7, x => b = false → ∃ q n, x = .pointer (some ⟨q, n, none⟩) ∧ NewI w g q n
 | 8, x => ∃ z : Int, x = .int .i64 z
 | 9, x => b = false → ∃ q, x = .slice (some ⟨q, 0, none⟩) 2 2 ∧ NewI w g q 0 ∧ NewI w g q 1
 | 10, x => x = .pointer (some ⟨G, 0, none⟩)
 | 11, x => x = .pointer (some ⟨G, 0, none⟩)
 | 12, x => x = .pointer (some ⟨G, 0, none⟩)
 | 13, x => x = .pointer (some ⟨g, 0, none⟩)
 | 14, x => ∃ k : Nat, k < 2 ∧ x = .int .i64 k
 | 15, x => b = false → ∃ q n, x = .pointer (some ⟨q, n, none⟩) ∧ NewI w g q n
 | 16, x => ∃ z : Int, x = .int .i64 z
 | 17, x => x = .int .i64 np
 | 18, x => ∃ z1 z2 : Int, x = .agg #[.int .i64 z1, .int .i64 z2, .int .i64 np, .int .i64 0, .int .i64 0, .int .i64 0, .slice none 0 0]
 | _, _ => True
theorem Ty17.move {g G : Nat} {np : Int} {b : Bool} {w w' : World} (hm : ∀ q n, NewI w g q n → NewI w' g q n) : ∀ {i : Nat} {x : Value}, Ty17 g G np b w i x → Ty17 g G np b w' i x
 | 0, _, h => h
 | 1, _, h => fun e => by obtain ⟨q, h1, h2, h3⟩ := h e; exact ⟨q, h1, hm _ _ h2, hm _ _ h3⟩
 | 2, _, h => h
 | 3, _, h => h
 | 4, _, h => h
 | 5, _, h => h
 | 6, _, h => h
 | 7, _, h => fun e => by obtain ⟨q, n, h1, h2⟩ := h e; exact ⟨q, n, h1, hm _ _ h2⟩
 | 8, _, h => h
 | 9, _, h => fun e => by obtain ⟨q, h1, h2, h3⟩ := h e; exact ⟨q, h1, hm _ _ h2, hm _ _ h3⟩
 | 10, _, h => h
 | 11, _, h => h
 | 12, _, h => h
 | 13, _, h => h
 | 14, _, h => h
 | 15, _, h => fun e => by obtain ⟨q, n, h1, h2⟩ := h e; exact ⟨q, n, h1, hm _ _ h2⟩
 | 16, _, h => h
 | 17, _, h => h
 | 18, _, h => h
 | _ + 19, _, h => h
theorem Ty17.done {g G : Nat} {np : Int} {b : Bool} {w w' : World} : ∀ {i : Nat} {x : Value}, Ty17 g G np b w i x → Ty17 g G np true w' i x
 | 0, _, h => h
 | 1, _, _ => fun e => by cases e
 | 2, _, h => h
 | 3, _, h => h
 | 4, _, h => h
 | 5, _, h => h
 | 6, _, h => h
 | 7, _, _ => fun e => by cases e
 | 8, _, h => h
 | 9, _, _ => fun e => by cases e
 | 10, _, h => h
 | 11, _, h => h
 | 12, _, h => h
 | 13, _, h => h
 | 14, _, h => h
 | 15, _, _ => fun e => by cases e
 | 16, _, h => h
 | 17, _, h => h
 | 18, _, h => h
 | _ + 19, _, h => h
section
variable (base g G : Nat) (a0 : Option Addr) (len cap : Nat) (M : Tmap) (N : Nat) (S : GRec) (v : World) (j : Nat) (np : Int)
def J17 (up : Nat → Bool) (f : Nat → Value) (w : World) : Prop := St base g G a0 len cap M N S v (if up 19 = true then j + 2 else j) w ∧ ∀ i, up i = true → Ty17 g G np (up 19) w i (f i)
variable {base g G a0 len cap M N S v j np}
theorem J17.step {up : Nat → Bool} {f : Nat → Value} {w w' : World} {i : Nat} {x : Value} (h : J17 base g G a0 len cap M N S v j np up f w) (hi : i ≠ 19) (hs : St base g G a0 len cap M N S v (if up 19 = true then j + 2 else j) w')
  (hm : ∀ q n, NewI w g q n → NewI w' g q n) (hx : Ty17 g G np (up 19) w' i x) : J17 base g G a0 len cap M N S v j np (upd up i true) (upd f i x) w' := by
 have e : upd up i true 19 = up 19 := upd_ne _ _ (fun e => hi e.symm)
 refine ⟨by rw [e]; exact hs, fun k hk => ?_⟩
 rw [e]
 by_cases hki : k = i
 ·subst hki; rw [upd_same]; exact hx
 ·rw [upd_ne _ _ hki] at hk ⊢
  exact (h.2 k hk).move hm
theorem J17.still {up : Nat → Bool} {f : Nat → Value} {w : World} {i : Nat} {x : Value} (h : J17 base g G a0 len cap M N S v j np up f w) (hi : i ≠ 19) (hx : Ty17 g G np (up 19) w i x) : J17 base g G a0 len cap M N S v j np (upd up i true) (upd f i x) w :=
 h.step hi h.1 (fun _ _ h => h) hx
theorem J17.last {up : Nat → Bool} {f : Nat → Value} {w w' : World} {x : Value} (h : J17 base g G a0 len cap M N S v j np up f w) (hs : St base g G a0 len cap M N S v (j + 2) w') : J17 base g G a0 len cap M N S v j np (upd up 19 true) (upd f 19 x) w' := by
 refine ⟨by rw [upd_same, if_pos rfl]; exact hs, fun k hk => ?_⟩
 rw [upd_same]
 by_cases hki : k = 19
 ·subst hki; trivial
 ·rw [upd_ne _ _ hki] at hk ⊢
  exact (h.2 k hk).done
end
theorem wp_by {P : Program} {o : Oper} {a : Act} {w : World} {K : Act → World → Prop} {Q : Exit → Act → World → Prop} (h : ∀ K' : Act → World → Prop, (∀ a w, K a w → K' a w) → o.wp P a w K' Q) : o.wp P a w K Q := h K (fun _ _ h => h)
theorem three {w w1 : World} {g : Nat} {x0 x1 x2 : Int} {t : TypeId} (hg : g < w.heap.size) (k : (w.alloc (.cells #[.int .i64 x0, .int .i64 x1, .int .i64 x2] t)).grownBy w1 (some g)) (n : Nat) (hn : n < 3) : ∃ z : Int, w1.cell? ⟨w.heap.size, n, none⟩ = some (.int .i64 z) := by
 have h1 := (k.block w.heap.size (by simp) (by simp; omega)).trans (heap_alloc_last w _)
 rw [cell_of_heap h1]
 match n, hn with
 | 0, _ => exact ⟨_, rfl⟩
 | 1, _ => exact ⟨_, rfl⟩
 | 2, _ => exact ⟨_, rfl⟩
set_option maxHeartbeats 4000000 in
set_option maxRecDepth 100000 in
theorem some_any (base g G : Nat) (a0 : Option Addr) (len cap : Nat) (M : Tmap) (N : Nat) (S : GRec) (v : World) (h : Gok base g G a0 len cap M N S v) (hp : ParW M S v) (n : Nat) (hn : n ≤ 10) (hN : N + 10 * n ≤ 10000) :
  Calls Tryd.prog 66 #[.pointer (some ⟨G, 0, none⟩), .int .i64 n] v fun e v' => (∃ r, e = .returned r) ∧ St base g G a0 len cap M N S v (10 * n) v' := by
 have h0 := h.st
 clear h
 go_enter Tryd.func66, Tryd.ntmps66
 go_wp2_with fail
 go_loopw [4] (fun i wr => ∃ k : Nat, k ≤ n ∧ i = .int .i64 k ∧ St base g G a0 len cap M N S v (10 * k) wr) (fun i _ => n - (intOf i).toNat)
 case atStart => exact ⟨0, by omega, rfl, h0⟩
 case round =>
  obtain ⟨k, hk, rfl, hs⟩ := hrel
  obtain ⟨wo, hwo⟩ : ∃ wo, wo = wr := ⟨_, rfl⟩
  subst hwo
  clear h0
  obtain ⟨nx, f10⟩ := hs.cell10
  have f0 := hs.cell0
  by_cases hlt : k < n
  ·by_cases hnx : nx < 40
   ·go_wp2_with (first | (go_at_call 64; refine (width_st hs).mono ?_; rintro e w1 ⟨x, rfl, hx, h1, hg1⟩; have f1 := h1.cell0) | (go_at_call 42; refine (below_st h1 _ (by omega)).mono ?_; rintro e w2 ⟨kb, rfl, hkb, h2, hg2⟩; have f2 := h2.cell0; clear hg1 hg2 h1 f1 f0 f10) | (go_at_call 91; refine (value_st h2 _ hx).mono ?_; rintro e w3 ⟨nv, rfl, h3⟩) | (go_at_call 92; refine (pick_st (by assumption) _ (by first | assumption | simp) (by omega)).mono ?_; rintro e w4 ⟨np, rfl, h4⟩; have f4 := h4.cell0; have f4a : (w4.alloc (.cells #[.int .i64 1, .int .i64 8, .int .i64 16] 2)).cell? ⟨G, 0, none⟩ = some (.pointer (some ⟨g, 0, none⟩)) := (h4.alloc _).cell0) | (go_at_call 42; refine (below_st (St.alloc (by assumption) _) _ (by omega)).mono ?_; rintro e w5 ⟨kc, rfl, hkc, h5, hg5⟩; have f5 := h5.cell0; obtain ⟨z5, hz5⟩ := three (St.glt (by assumption)) hg5 kc (by omega)) | (go_at_call 42; refine (below_st (by assumption) _ (by omega)).mono ?_; rintro e w5 ⟨kc, rfl, hkc, h5, hg5⟩; have f5 := h5.cell0) | (go_at_call 90; refine (put_st (by assumption) _ _ _ _ _ _ (by omega)).mono ?_; rintro e w6 ⟨nq, rfl, h6⟩; have f6 := h6.cell0) | (go_at_call 93; refine (call_st h2 hp (by omega)).mono ?_; rintro e w6 ⟨⟨r, rfl⟩, h6⟩))
    all_goals first
     | exact ⟨⟨k + 1, by omega, by go_num, h6.mono (by omega) (by omega)⟩, by simp [intOf]; omega⟩
     | skip
    generalize hA : ({ tmps := _, defers := _ } : Act) = A
    have hsz : A.tmps.size = 181 := by rw [← hA]; rfl
    have hA0 : A.tmps[0]?.getD undef = .pointer (some ⟨G, 0, none⟩) := by rw [← hA]; rfl
    have hA9 : A.tmps[9]?.getD undef = .int .i64 np := by rw [← hA]; rfl
    refine wp_region_slots (by kernel_rfl) 91 20 (by omega) (by kernel_rfl) (J17 base g G a0 len cap M N S v (10 * k + 2) np) ?_ ?_ ?_
    ·exact ⟨h4.drew, fun i hi => by cases hi⟩
    ·intro f w9 hJ
     have h9 : St base g G a0 len cap M N S v (10 * k + 2 + 2) w9 := hJ.1
     subst hA
     simp only [putsF, Act.put, List.setIfInBounds_toArray, List.set_cons_zero, List.set_cons_succ, Nat.reduceAdd]
     clear hJ
     go_wp2_with fail
     exact ⟨⟨k + 1, by omega, by go_num, h9.mono (by omega) (by omega)⟩, by simp [intOf]; omega⟩
    ·intro i o up f w9 ho hd hcl hup hJ
     have B0 : (putsF A 91 20 f).tmps[0]?.getD undef = .pointer (some ⟨G, 0, none⟩) := by have := putsF_out A 91 f 0 20 (by omega); simp only [Array.getD_eq_getD_getElem?] at this; exact this.trans hA0
     have B9 : (putsF A 91 20 f).tmps[9]?.getD undef = .int .i64 np := by have := putsF_out A 91 f 9 20 (by omega); simp only [Array.getD_eq_getD_getElem?] at this; exact this.trans hA9
     have E : ∀ i, i < 20 → (putsF A 91 20 f).tmps[91 + i]?.getD undef = f i := fun i hi => by have := putsF_in A 91 f i 20 hi (by omega); simpa only [Array.getD_eq_getD_getElem?] using this
     generalize putsF A 91 20 f = B at B0 B9 E ⊢
     clear hA hA0 hA9 hsz
     rcases i with _ | _ | _ | _ | _ | _ | _ | _ | _ | _ | _ | _ | _ | _ | _ | _ | _ | _ | _ | _ | i
     all_goals first | (obtain rfl := Option.some.inj ho) | (exfalso; simp at ho)
     ·clear hd hcl ho
      refine wp_by fun K' hK => ?_
      go_simp
      refine hK _ _ ⟨_, rfl, hJ.still (by decide) rfl⟩
     ·clear hd hcl ho
      refine wp_by fun K' hK => ?_
      go_simp
      refine hK _ _ ⟨_, rfl, hJ.step (by decide) (hJ.1.alloc _) (fun _ _ h => h.alloc _) (fun _ => ⟨_, rfl, ⟨by simp, fun e => absurd hJ.1.glt (by omega), _, (cell_of_heap (heap_alloc_last _ _)).trans rfl⟩, ⟨by simp, fun e => absurd hJ.1.glt (by omega), _, (cell_of_heap (heap_alloc_last _ _)).trans rfl⟩⟩)⟩
     ·clear hd hcl ho
      refine wp_by fun K' hK => ?_
      go_simp
      refine hK _ _ ⟨_, rfl, hJ.still (by decide) rfl⟩
     ·have u2 : up 2 = true := hd ⟨2, .data⟩ (by simp) rfl
      clear hd hcl ho
      have t : f 2 = .pointer (some ⟨G, 0, none⟩) := hJ.2 2 u2
      have e93 : B.tmps[93]?.getD undef = .pointer (some ⟨G, 0, none⟩) := (E 2 (by omega)).trans t
      refine wp_by fun K' hK => ?_
      go_simp
      refine hK _ _ ⟨_, rfl, hJ.still (by decide) rfl⟩
     ·have u3 : up 3 = true := hd ⟨3, .data⟩ (by simp) rfl
      clear hd hcl ho
      have t : f 3 = .pointer (some ⟨G, 0, none⟩) := hJ.2 3 u3
      have e94 : B.tmps[94]?.getD undef = .pointer (some ⟨G, 0, none⟩) := (E 3 (by omega)).trans t
      refine wp_by fun K' hK => ?_
      go_simp
      refine hK _ _ ⟨_, rfl, hJ.still (by decide) rfl⟩
     ·have u4 : up 4 = true := hd ⟨4, .data⟩ (by simp) rfl
      clear hd hcl ho
      have t : f 4 = .pointer (some ⟨G, 0, none⟩) := hJ.2 4 u4
      have e95 : B.tmps[95]?.getD undef = .pointer (some ⟨G, 0, none⟩) := (E 4 (by omega)).trans t
      have c0 := hJ.1.cell0
      refine wp_by fun K' hK => ?_
      go_simp
      refine hK _ _ ⟨_, rfl, hJ.still (by decide) rfl⟩
     ·have u5 : up 5 = true := hd ⟨5, .data⟩ (by simp) rfl
      clear hd hcl ho
      have t : f 5 = .pointer (some ⟨g, 0, none⟩) := hJ.2 5 u5
      have e96 : B.tmps[96]?.getD undef = .pointer (some ⟨g, 0, none⟩) := (E 5 (by omega)).trans t
      refine wp_by fun K' hK => ?_
      go_simp
      go_at_call 42
      refine (below_st hJ.1 _ (by omega)).mono ?_
      rintro e w8 ⟨kq, rfl, hkq, h8, hg8⟩
      exact hK _ _ ⟨_, rfl, hJ.step (by decide) h8 (fun _ _ h => h.grown hg8) ⟨kq, by omega, rfl⟩⟩
     ·have u1 : up 1 = true := hd ⟨1, .data⟩ (by simp) rfl
      have u6 : up 6 = true := hd ⟨6, .data⟩ (by simp) rfl
      have ups : up 19 = true → up 7 = true := fun h => hcl 8 _ rfl (hcl 18 _ rfl (hcl 19 _ rfl h ⟨18, .data⟩ (by simp) rfl) ⟨8, .data⟩ (by simp) rfl) ⟨7, .data⟩ (by simp) rfl
      clear hd hcl ho
      obtain ⟨kq, hkq, t⟩ : ∃ k : Nat, k < 2 ∧ f 6 = .int .i64 k := hJ.2 6 u6
      have e97 : B.tmps[97]?.getD undef = .int .i64 kq := (E 6 (by omega)).trans t
      rcases h19 : up 19 with _ | _
      ·obtain ⟨q, t2, n0, n1⟩ : ∃ q, f 1 = .slice (some ⟨q, 0, none⟩) 2 2 ∧ NewI w9 g q 0 ∧ NewI w9 g q 1 := hJ.2 1 u1 h19
       have e92 : B.tmps[92]?.getD undef = .slice (some ⟨q, 0, none⟩) 2 2 := (E 1 (by omega)).trans t2
       obtain rfl | rfl : kq = 0 ∨ kq = 1 := by omega
       all_goals
        refine wp_by fun K' hK => ?_
        go_simp
        first | exact hK _ _ ⟨_, rfl, hJ.still (by decide) (fun _ => ⟨_, _, rfl, n0⟩)⟩ | exact hK _ _ ⟨_, rfl, hJ.still (by decide) (fun _ => ⟨_, _, rfl, n1⟩)⟩
      ·rw [ups h19] at hup; cases hup
     ·have u7 : up 7 = true := hd ⟨7, .data⟩ (by simp) rfl
      have ups : up 19 = true → up 8 = true := fun h => hcl 18 _ rfl (hcl 19 _ rfl h ⟨18, .data⟩ (by simp) rfl) ⟨8, .data⟩ (by simp) rfl
      clear hd hcl ho
      rcases h19 : up 19 with _ | _
      ·obtain ⟨q, nn, t, hq, hqg, z, hz⟩ : ∃ q n, f 7 = .pointer (some ⟨q, n, none⟩) ∧ NewI w9 g q n := hJ.2 7 u7 h19
       have e98 : B.tmps[98]?.getD undef = .pointer (some ⟨q, nn, none⟩) := (E 7 (by omega)).trans t
       refine wp_by fun K' hK => ?_
       go_simp
       exact hK _ _ ⟨_, rfl, hJ.still (by decide) ⟨_, rfl⟩⟩
      ·rw [ups h19] at hup; cases hup
     ·clear hd hcl ho
      refine wp_by fun K' hK => ?_
      go_simp
      refine hK _ _ ⟨_, rfl, hJ.step (by decide) (hJ.1.alloc _) (fun _ _ h => h.alloc _) (fun _ => ⟨_, rfl, ⟨by simp, fun e => absurd hJ.1.glt (by omega), _, (cell_of_heap (heap_alloc_last _ _)).trans rfl⟩, ⟨by simp, fun e => absurd hJ.1.glt (by omega), _, (cell_of_heap (heap_alloc_last _ _)).trans rfl⟩⟩)⟩
     ·clear hd hcl ho
      refine wp_by fun K' hK => ?_
      go_simp
      refine hK _ _ ⟨_, rfl, hJ.still (by decide) rfl⟩
     ·have u10 : up 10 = true := hd ⟨10, .data⟩ (by simp) rfl
      clear hd hcl ho
      have t : f 10 = .pointer (some ⟨G, 0, none⟩) := hJ.2 10 u10
      have e101 : B.tmps[101]?.getD undef = .pointer (some ⟨G, 0, none⟩) := (E 10 (by omega)).trans t
      refine wp_by fun K' hK => ?_
      go_simp
      refine hK _ _ ⟨_, rfl, hJ.still (by decide) rfl⟩
     ·have u11 : up 11 = true := hd ⟨11, .data⟩ (by simp) rfl
      clear hd hcl ho
      have t : f 11 = .pointer (some ⟨G, 0, none⟩) := hJ.2 11 u11
      have e102 : B.tmps[102]?.getD undef = .pointer (some ⟨G, 0, none⟩) := (E 11 (by omega)).trans t
      refine wp_by fun K' hK => ?_
      go_simp
      refine hK _ _ ⟨_, rfl, hJ.still (by decide) rfl⟩
     ·have u12 : up 12 = true := hd ⟨12, .data⟩ (by simp) rfl
      clear hd hcl ho
      have t : f 12 = .pointer (some ⟨G, 0, none⟩) := hJ.2 12 u12
      have e103 : B.tmps[103]?.getD undef = .pointer (some ⟨G, 0, none⟩) := (E 12 (by omega)).trans t
      have c0 := hJ.1.cell0
      refine wp_by fun K' hK => ?_
      go_simp
      refine hK _ _ ⟨_, rfl, hJ.still (by decide) rfl⟩
     ·have u13 : up 13 = true := hd ⟨13, .data⟩ (by simp) rfl
      clear hd hcl ho
      have t : f 13 = .pointer (some ⟨g, 0, none⟩) := hJ.2 13 u13
      have e104 : B.tmps[104]?.getD undef = .pointer (some ⟨g, 0, none⟩) := (E 13 (by omega)).trans t
      refine wp_by fun K' hK => ?_
      go_simp
      go_at_call 42
      refine (below_st hJ.1 _ (by omega)).mono ?_
      rintro e w8 ⟨kq, rfl, hkq, h8, hg8⟩
      exact hK _ _ ⟨_, rfl, hJ.step (by decide) h8 (fun _ _ h => h.grown hg8) ⟨kq, by omega, rfl⟩⟩
     ·have u9 : up 9 = true := hd ⟨9, .data⟩ (by simp) rfl
      have u14 : up 14 = true := hd ⟨14, .data⟩ (by simp) rfl
      have ups : up 19 = true → up 15 = true := fun h => hcl 16 _ rfl (hcl 18 _ rfl (hcl 19 _ rfl h ⟨18, .data⟩ (by simp) rfl) ⟨16, .data⟩ (by simp) rfl) ⟨15, .data⟩ (by simp) rfl
      clear hd hcl ho
      obtain ⟨kq, hkq, t⟩ : ∃ k : Nat, k < 2 ∧ f 14 = .int .i64 k := hJ.2 14 u14
      have e105 : B.tmps[105]?.getD undef = .int .i64 kq := (E 14 (by omega)).trans t
      rcases h19 : up 19 with _ | _
      ·obtain ⟨q, t2, n0, n1⟩ : ∃ q, f 9 = .slice (some ⟨q, 0, none⟩) 2 2 ∧ NewI w9 g q 0 ∧ NewI w9 g q 1 := hJ.2 9 u9 h19
       have e100 : B.tmps[100]?.getD undef = .slice (some ⟨q, 0, none⟩) 2 2 := (E 9 (by omega)).trans t2
       obtain rfl | rfl : kq = 0 ∨ kq = 1 := by omega
       all_goals
        refine wp_by fun K' hK => ?_
        go_simp
        first | exact hK _ _ ⟨_, rfl, hJ.still (by decide) (fun _ => ⟨_, _, rfl, n0⟩)⟩ | exact hK _ _ ⟨_, rfl, hJ.still (by decide) (fun _ => ⟨_, _, rfl, n1⟩)⟩
      ·rw [ups h19] at hup; cases hup
     ·have u15 : up 15 = true := hd ⟨15, .data⟩ (by simp) rfl
      have ups : up 19 = true → up 16 = true := fun h => hcl 18 _ rfl (hcl 19 _ rfl h ⟨18, .data⟩ (by simp) rfl) ⟨16, .data⟩ (by simp) rfl
      clear hd hcl ho
      rcases h19 : up 19 with _ | _
      ·obtain ⟨q, nn, t, hq, hqg, z, hz⟩ : ∃ q n, f 15 = .pointer (some ⟨q, n, none⟩) ∧ NewI w9 g q n := hJ.2 15 u15 h19
       have e106 : B.tmps[106]?.getD undef = .pointer (some ⟨q, nn, none⟩) := (E 15 (by omega)).trans t
       refine wp_by fun K' hK => ?_
       go_simp
       exact hK _ _ ⟨_, rfl, hJ.still (by decide) ⟨_, rfl⟩⟩
      ·rw [ups h19] at hup; cases hup
     ·clear hd hcl ho
      refine wp_by fun K' hK => ?_
      go_simp
      refine hK _ _ ⟨_, rfl, hJ.still (by decide) rfl⟩
     ·have u8 : up 8 = true := hd ⟨8, .data⟩ (by simp) rfl
      have u16 : up 16 = true := hd ⟨16, .data⟩ (by simp) rfl
      have u17 : up 17 = true := hd ⟨17, .data⟩ (by simp) rfl
      clear hd hcl ho
      obtain ⟨z1, t1⟩ : ∃ z : Int, f 8 = .int .i64 z := hJ.2 8 u8
      obtain ⟨z2, t2⟩ : ∃ z : Int, f 16 = .int .i64 z := hJ.2 16 u16
      have t3 : f 17 = .int .i64 np := hJ.2 17 u17
      have e99 : B.tmps[99]?.getD undef = .int .i64 z1 := (E 8 (by omega)).trans t1
      have e107 : B.tmps[107]?.getD undef = .int .i64 z2 := (E 16 (by omega)).trans t2
      have e108 : B.tmps[108]?.getD undef = .int .i64 np := (E 17 (by omega)).trans t3
      refine wp_by fun K' hK => ?_
      go_simp
      refine hK _ _ ⟨_, rfl, hJ.still (by decide) ⟨z1, z2, rfl⟩⟩
     ·have u0 : up 0 = true := hd ⟨0, .data⟩ (by simp) rfl
      have u18 : up 18 = true := hd ⟨18, .data⟩ (by simp) rfl
      clear hd hcl ho
      have t0 : f 0 = .pointer (some ⟨G, 0, none⟩) := hJ.2 0 u0
      obtain ⟨z1, z2, t1⟩ : ∃ z1 z2 : Int, f 18 = .agg #[.int .i64 z1, .int .i64 z2, .int .i64 np, .int .i64 0, .int .i64 0, .int .i64 0, .slice none 0 0] := hJ.2 18 u18
      have e91 : B.tmps[91]?.getD undef = .pointer (some ⟨G, 0, none⟩) := (E 0 (by omega)).trans t0
      have e109 : B.tmps[109]?.getD undef = .agg #[.int .i64 z1, .int .i64 z2, .int .i64 np, .int .i64 0, .int .i64 0, .int .i64 0, .slice none 0 0] := (E 18 (by omega)).trans t1
      have hs19 : St base g G a0 len cap M N S v (10 * k + 2) w9 := by have := hJ.1; rwa [if_neg (by rw [hup]; decide)] at this
      refine wp_by fun K' hK => ?_
      go_simp
      go_at_call 90
      refine (put_st hs19 _ _ _ _ _ _ (by omega)).mono ?_
      rintro e w8 ⟨nq, rfl, h8⟩
      exact hK _ _ ⟨_, rfl, hJ.last h8⟩
   ·go_wp2_with fail
    exact bodyPost_end (results_none Tryd.results66 _ _ _) rfl ⟨⟨_, rfl⟩, hs.mono (by omega) (by omega)⟩
  ·go_wp2_with fail
   exact bodyPost_end (results_none Tryd.results66 _ _ _) rfl ⟨⟨_, rfl⟩, hs.mono (by omega) (by omega)⟩
end Go.Proofs.YtenbodghkpbghaaDoor
