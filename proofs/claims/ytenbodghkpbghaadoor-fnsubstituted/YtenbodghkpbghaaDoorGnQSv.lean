import Derived.Test.YtenbodghkpbghaaDoorGnPSv
import Derived.Laws.Rows
namespace Go.Proofs.YtenbodghkpbghaaDoor
open Go.RowKit Go.Deep
set_option linter.unusedVariables false
variable {base g G len cap N j : Nat} {a0 : Option Addr} {M M' : Tmap} {S S' : GRec} {v w : World}
theorem some_sb (h : Sb base g G a0 len cap M N S v j M' S' w) (hp : ParW M S v) (n : Nat) (hn : n ≤ 10) (hN : N + j + 10 * n ≤ 10000) :
  Calls Tryd.prog 66 #[.pointer (some ⟨G, 0, none⟩), .int .i64 n] w fun e w' => (∃ r, e = .returned r) ∧ ∃ M2 S2, Sb base g G a0 len cap M N S v (j + 10 * n) M2 S2 w' ∧ Same S' S2 ∧ Mov g G M' M2 w w' := by
 refine (some_any base g G a0 len cap M' (N + j) S' w h.1 (hp.mv h.2.1 h.2.2) n hn hN).mono ?_
 rintro e w' ⟨hr, M2, S2, H2, hS2, V2⟩
 exact ⟨hr, M2, S2, ⟨by rw [← Nat.add_assoc]; exact H2, h.2.1.trans hS2.kept, h.2.2.trans V2.mv⟩, hS2, V2⟩
theorem below_sb (h : Sb base g G a0 len cap M N S v j M' S' w) (m : Int) (hm : 1 ≤ m) :
  Calls Tryd.prog 42 #[.pointer (some ⟨g, 0, none⟩), .int .i64 m] w fun e w' => ∃ k : Nat, e = .returned (.int .i64 k) ∧ (k : Int) < m ∧ Sb base g G a0 len cap M N S v j M' S' w' ∧ Mov g G M' M' w w' := by
 refine (below_any g a0 len cap m w h.1.rd).mono ?_
 rintro e w' ⟨n, rfl, h0, h1, hr', hg'⟩
 obtain ⟨k, rfl⟩ := Int.eq_ofNat_of_zero_le h0
 exact ⟨k, rfl, by omega, h.read hr' hg', (h.1.read hr' hg').2⟩
theorem width_sb (h : Sb base g G a0 len cap M N S v j M' S' w) :
  Calls Tryd.prog 64 #[.pointer (some ⟨g, 0, none⟩)] w fun e w' => ∃ x : Int, e = .returned (.int .i64 x) ∧ (x = 1 ∨ x = 8 ∨ x = 16 ∨ x = 32) ∧ Sb base g G a0 len cap M N S v j M' S' w' ∧ Mov g G M' M' w w' := by
 refine (width_any g a0 len cap w h.1.rd).mono ?_
 rintro e w' ⟨n, rfl, h0, hr', hg'⟩
 exact ⟨n, rfl, h0, h.read hr' hg', (h.1.read hr' hg').2⟩
def Idf (M : Tmap) (S : GRec) : Prop := (S.idv = .slice none 0 0 ∧ S.wsv = .slice none 0 0 ∧ S.nid = 0) ∨ (0 < S.nid ∧ SlN M 2 S.idv S.nid ∧ SlN M 2 S.wsv S.nid)
theorem Idf.ext (h : Idf M S) (k : Ext M M') : Idf M' S := by
 rcases h with h | ⟨h1, h2, h3⟩
 ·exact .inl h
 ·exact .inr ⟨h1, h2.ext k, h3.ext k⟩
theorem Idf.form (h : Idf M S) : ∃ u c u' c', S.idv = .slice u S.nid c ∧ S.wsv = .slice u' S.nid c' := by
 rcases h with ⟨h1, h2, h3⟩ | ⟨_, ⟨u, c, h2, _⟩, ⟨u', c', h3, _⟩⟩
 ·exact ⟨none, 0, none, 0, by rw [h1, h3], by rw [h2, h3]⟩
 ·exact ⟨u, c, u', c', h2, h3⟩
def Seeing (S S1 : GRec) : GRec := { S with idv := S1.idv, wsv := S1.wsv, nid := S1.nid }
theorem Gok.restore {S1 : GRec} (h : Gok base g G a0 len cap M N S w) (hi : Idf M S1) (hn : S1.nid ≤ N) :
  Gok base g G a0 len cap M N (Seeing S S1) ((w.setCell ⟨G, 11, none⟩ S1.idv).setCell ⟨G, 12, none⟩ S1.wsv) ∧ Mov g G M M w ((w.setCell ⟨G, 11, none⟩ S1.idv).setCell ⟨G, 12, none⟩ S1.wsv) := by
 have hbn := h.bn
 refine h.grew (Nat.le_refl _) (fun b hb hn => by rw [Below.heap_setCell _ _ _ _ hn, Below.heap_setCell _ _ _ _ hn]) (by simp [World.setCell]) rfl rfl rfl (fun _ _ => rfl) (fun b T m hb hm => by rw [h.th.none hb] at hm; cases hm) ?_ ⟨rfl, rfl, rfl, rfl, rfl, rfl, rfl, rfl, rfl, rfl, rfl⟩ hi (by unfold Seeing; dsimp only; omega)
 exact (heap_set (heap_set h.cells)).trans rfl
theorem Sb.restore {S1 : GRec} (h : Sb base g G a0 len cap M N S v j M' S' w) (hi : Idf M' S1) (hn : S1.nid ≤ N + j) :
  Sb base g G a0 len cap M N S v j M' (Seeing S' S1) ((w.setCell ⟨G, 11, none⟩ S1.idv).setCell ⟨G, 12, none⟩ S1.wsv) ∧ Mov g G M' M' w ((w.setCell ⟨G, 11, none⟩ S1.idv).setCell ⟨G, 12, none⟩ S1.wsv) := by
 obtain ⟨h1, h2⟩ := h.1.restore hi hn
 exact ⟨⟨h1, h.2.1.trans ⟨rfl, rfl, rfl, rfl, rfl, rfl⟩, h.2.2.trans h2.mv⟩, h2⟩
theorem seen_cells (h : Gok base g G a0 len cap M N S w) (x : Value) : (w.cell? ⟨G, 11, none⟩ = some S.idv ∧ w.frozen? ⟨G, 11, none⟩ = false) ∧ (w.setCell ⟨G, 11, none⟩ x).cell? ⟨G, 12, none⟩ = some S.wsv ∧ (w.setCell ⟨G, 11, none⟩ x).frozen? ⟨G, 12, none⟩ = false := by
 have q1 : (w.setCell ⟨G, 11, none⟩ x).heap[G]? = some (.cells (gcells g { S with idv := x }) 122 (0, 0)) := (heap_set h.cells).trans rfl
 exact ⟨⟨(gcell h.cells 11).1.trans rfl, (gcell h.cells 11).2⟩, (gcell q1 12).1.trans rfl, (gcell q1 12).2⟩
theorem Mv.adopt {q n : Nat} {T0 : TypeId} {A B : Tmap} {a b : World} (h : Mv g G A B a b) (hq : a.heap.size ≤ q) (hl : ∀ x, (∃ p, A x = some p) → x < a.heap.size) (hB : B q = none) : Mv g G A (put B q T0 n) a b :=
 ⟨h.ext.trans (put_ext (.inl hB)), fun x hx h1 h2 h3 => by
  obtain ⟨e1, e2⟩ := h.out x hx h1 h2 h3
  exact ⟨e1, by unfold put; rw [if_neg (by omega)]; exact e2⟩, fun x T m hx hT => by
  obtain ⟨e1, e2⟩ := h.hold x T m hx hT
  have := hl x ⟨_, hx⟩
  exact ⟨e1, by unfold put; rw [if_neg (by omega)]; exact e2⟩, h.os, h.tape, h.output, h.size⟩
theorem Sb.two (h : Sb base g G a0 len cap M N S v j M' S' w) (hl : ∀ x, (∃ p, M x = some p) → x < v.heap.size) (x y : Int) :
  Sb base g G a0 len cap M N S v j (put M' w.heap.size 2 2) S' (w.alloc (.cells #[.int .i64 x, .int .i64 y] 2)) ∧ SlN (put M' w.heap.size 2 2) 2 (.slice (some ⟨w.heap.size, 0, none⟩) 2 2) 2 := by
 have hb : Below w.heap.size w (w.alloc (.cells #[.int .i64 x, .int .i64 y] 2)) := (Below.refl _ _).alloc (Nat.le_refl _) _
 obtain ⟨H1, V1⟩ := h.1.below hb
 have hM : M' w.heap.size = none := h.1.th.none (Nat.le_refl _)
 have hGl := (Array.getElem?_eq_some_iff.1 h.1.cells).1
 obtain ⟨H2, _, H3⟩ := H1.adopted (b := w.heap.size) (n := 2) h.1.bv (by omega) hM (heap_alloc_last w _) (fun i hi => by
  match i, hi with
  | 0, _ => exact ⟨x, rfl⟩
  | 1, _ => exact ⟨y, rfl⟩)
 exact ⟨⟨H2, h.2.1, (h.2.2.trans V1.mv).adopt h.2.2.size hl hM⟩, H3⟩
theorem close_sc (h : Sb base g G a0 len cap M N S v j M' S' w) (kd ta tx ty : Int) (hN : N + j + 1 ≤ 10000) :
  Calls Tryd.prog 94 #[.pointer (some ⟨G, 0, none⟩), .agg #[.int .i64 kd, .int .i64 ta, .int .i64 tx, .int .i64 ty]] w fun e w' => (∃ r, e = .returned r) ∧ ∃ M2 S2, Sb base g G a0 len cap M N S v (j + 1) M2 S2 w' ∧ Mv g G M' M2 w w' := by
 refine (close_sb h kd ta tx ty hN).mono ?_
 rintro e w' ⟨hr, M2, s', h2, v2⟩
 exact ⟨hr, M2, _, h2, v2⟩
set_option maxHeartbeats 4000000 in
set_option maxRecDepth 100000 in
theorem fork_any (base g G : Nat) (a0 : Option Addr) (len cap : Nat) (M : Tmap) (N : Nat) (S : GRec) (v : World) (h : Gok base g G a0 len cap M N S v) (hp : ParW M S v) (hN : N + 60 ≤ 10000) :
  Calls Tryd.prog 67 #[.pointer (some ⟨G, 0, none⟩)] v fun e v' => (∃ r, e = .returned r) ∧ ∃ M' S', Sb base g G a0 len cap M N S v 60 M' S' v' := by
 have hl : ∀ x, (∃ p, M x = some p) → x < v.heap.size := fun x hx => (h.th.lt hx).2
 have HL : Hid (∀ x, (∃ p, M x = some p) → x < v.heap.size) := hl
 have h0 := h.sb
 obtain ⟨ub, cb, eb, _⟩ := h.b.sl
 have c3 : v.cell? ⟨G, 3, none⟩ = some (.slice ub S.nb cb) := by rw [← eb]; exact (gcell h.cells 3).1.trans rfl
 have hbn := h.bn
 have HP : Hid (ParW M S v) := hp
 clear h hl hp eb
 go_enter Tryd.func67, Tryd.ntmps67
 go_wp2_with (first | (go_at_call 92; refine (pick_sb h0 _ (.inl rfl) (by omega)).mono ?_; rintro e w1 ⟨c, rfl, M1, S1, h1, s1, v1⟩; clear h0 c3) | (go_at_call 94; refine (close_sc h1 _ _ _ _ (by omega)).mono ?_; rintro e w2 ⟨⟨r2, rfl⟩, M2, S2, h2, v2⟩; have f2 := h2.cell0; have I2 : Idf M2 S2 := h2.1.ids; obtain ⟨ui, ci, uw, cw, ei, ew⟩ := I2.form; have c11 : w2.cell? ⟨G, 11, none⟩ = some (.slice ui S2.nid ci) := (by rw [← ei]; exact (gcell h2.1.cells 11).1.trans rfl); have c12 : w2.cell? ⟨G, 12, none⟩ = some (.slice uw S2.nid cw) := (by rw [← ew]; exact (gcell h2.1.cells 12).1.trans rfl); have n2 := h2.1.bn.2.2.2.2.1; clear h1) | (go_at_call 42; refine (below_sb h2 _ (by omega)).mono ?_; rintro e w3 ⟨k3, rfl, hk3, h3, v3⟩; clear f2 c11 c12 h2) | (go_at_call 66; refine (some_sb h3 HP.out k3 (by omega) (by omega)).mono ?_; rintro e w4 ⟨⟨r4, rfl⟩, M4, S4, h4, s4, v4⟩; have h4 := h4.mono (i := 23) (by omega) (by omega); have f4 := h4.cell0; clear h3) | (go_at_call 64; refine (width_sb h4).mono ?_; rintro e w5 ⟨x, rfl, hx, h5, v5⟩; clear f4 h4) | (go_at_call 92; refine (pick_sb h5 _ hx (by omega)).mono ?_; rintro e w6 ⟨a6, rfl, M6, S6, h6, s6, v6⟩; clear h5) | (go_at_call 92; refine (pick_sb h6 _ (.inr (.inl rfl)) (by omega)).mono ?_; rintro e w7 ⟨a7, rfl, M7, S7, h7, s7, v7⟩; clear h6) | (go_at_call 94; refine (close_sc h7 _ _ _ _ (by omega)).mono ?_; rintro e w8 ⟨⟨r8, rfl⟩, M8, S8, h8, v8⟩; have I8 := I2.ext ((((((v3.ext.trans v4.ext).trans v5.ext).trans v6.ext).trans v7.ext)).trans v8.ext); obtain ⟨R8, _⟩ := h8.restore I8 (by omega); obtain ⟨⟨y1, z1⟩, y2, z2⟩ := seen_cells h8.1 S2.idv; rw [ei] at R8 y2 z2; rw [ew] at R8; have f8 := R8.cell0; clear h7 h8) | (go_at_call 42; refine (below_sb R8 _ (by omega)).mono ?_; rintro e w9 ⟨k9, rfl, hk9, h9, v9⟩; clear f8 R8 y1 z1 y2 z2) | (go_at_call 66; refine (some_sb h9 HP.out k9 (by omega) (by omega)).mono ?_; rintro e w10 ⟨⟨r10, rfl⟩, M10, S10, h10, s10, v10⟩; have h10 := h10.mono (i := 48) (by omega) (by omega); have P10 := pick_sb h10 x hx (by omega); clear h9 h10) | (go_at_call 92; refine P10.mono ?_; rintro e w11 ⟨a11, rfl, M11, S11, h11, s11, v11⟩; have P11 := pick_sb h11 8 (.inr (.inl rfl)) (by omega); clear P10 h11) | (go_at_call 92; refine P11.mono ?_; rintro e w12 ⟨a12, rfl, M12, S12, h12, s12, v12⟩; clear P11) | (go_at_call 94; refine (close_sc h12 _ _ _ _ (by omega)).mono ?_; rintro e w13 ⟨⟨r13, rfl⟩, M13, S13, h13, v13⟩; have I13 := I8.ext ((((v9.ext.trans v10.ext).trans v11.ext).trans v12.ext).trans v13.ext); obtain ⟨R13, _⟩ := h13.restore I13 (by omega); obtain ⟨⟨y1, z1⟩, y2, z2⟩ := seen_cells h13.1 S2.idv; rw [ei] at R13 y2 z2; rw [ew] at R13; obtain ⟨T13, L13⟩ := R13.two HL.out a6 a11; simp only [World.size_setCell] at T13 L13; clear h12 h13) | (go_at_call 95; refine (phi_sb T13 _ _ 2 2 L13 (by omega) (by omega)).mono ?_; rintro e w14 ⟨n14, rfl, M14, S14, h14, _, _, _, _⟩; obtain ⟨T14, L14⟩ := h14.two HL.out a7 a12; clear y1 z1 y2 z2 T13 h14) | (go_at_call 95; refine (phi_sb T14 _ _ 2 2 L14 (by omega) (by omega)).mono ?_; rintro e w15 ⟨n15, rfl, M15, S15, h15, _, _, _, _⟩))
 exact bodyPost_end (results_none Tryd.results67 _ _ _) rfl ⟨⟨_, rfl⟩, M15, S15, h15.mono (by omega) (by omega)⟩
end Go.Proofs.YtenbodghkpbghaaDoor
namespace Go.Proofs.YtenbodghkpbghaaDoor
open Go.RowKit Go.Deep
set_option linter.unusedVariables false
def rowAt (w : World) (s : Value) (k : Nat) : Option Value := match s with
 | .slice (some ⟨g, 0, none⟩) _ _ => w.cell? ⟨g, k, none⟩
 | _ => none
theorem own_at {w : World} {base n sz k : Nat} {T : TypeId} {s : Value} {xs : List Value} (h : w.ownsRow base T sz s n xs) (hk : k < n * sz) : rowAt w s k = xs[k]? := by
 obtain ⟨h1, h2⟩ := h
 rcases h2 with ⟨rfl, rfl⟩ | ⟨g, cap, cur, rfl, hg, hc, hn, hm, hs, ht⟩
 ·omega
 ·show w.cell? ⟨g, k, none⟩ = _
  rw [cell_of_heap hc, ← ht, List.getElem?_take, if_pos hk]
  simp
theorem rowAt_hold {w w' : World} {M : Tmap} {T : TypeId} {s : Value} {n k : Nat} (hs : SlN M T s n) (hn : 0 < n) (hh : ∀ b m, M b = some (T, m) → w'.heap[b]? = w.heap[b]?) : rowAt w' s k = rowAt w s k := by
 obtain ⟨u, c, rfl, h⟩ := hs
 rcases h with h | ⟨q, m, rfl, hq, _⟩
 ·omega
 ·exact cell_blk (hh q m hq)
variable {base g G len cap N N' j : Nat} {a0 : Option Addr} {M M' M2 : Tmap} {S S' S2 : GRec} {v w w' : World}
theorem phi_at (h : Sb base g G a0 len cap M N S v j M' S' w) (x : Int) (u : Option Addr) (q : Nat) (hav : SlN M' 2 (.slice u 2 q) 2) (hna : 2 ≤ N + j) (hN : N + j + 2 ≤ 10000) :
  Calls Tryd.prog 95 #[.pointer (some ⟨G, 0, none⟩), .int .i64 x, .slice u 2 q] w fun e w' => ∃ n : Int, e = .returned (.int .i64 n) ∧ ∃ M2 S2, Sb base g G a0 len cap M N S v (j + 2) M2 S2 w' ∧ S2.bv = S'.bv ∧ S2.nb = S'.nb ∧ S2.nph = S'.nph + 1 ∧ Mv g G M' M2 w w' ∧
   (∀ k, k < S'.nph * 2 → rowAt w' S2.phv k = rowAt w S'.phv k) ∧ rowAt w' S2.phv (S'.nph * 2 + 1) = some (.slice u 2 q) := by
 refine (phi_two base g G a0 len cap M' (N + j) S' x u 2 q w h.1 hN hav hna (by omega)).mono ?_
 rintro e w' ⟨n, rfl, M2, S2, H2, ⟨s', hS2⟩, V2, xs, hx1, hx2⟩
 have hz : szT 89 = 2 := by decide
 rw [hz] at hx1 hx2
 have hl := hx1.1
 refine ⟨n, rfl, M2, S2, ⟨H2, h.2.1.trans ?_, h.2.2.trans V2⟩, ?_, ?_, ?_, V2, fun k hk => ?_, ?_⟩
 ·rw [hS2]; exact ⟨rfl, rfl, rfl, rfl, rfl, rfl⟩
 ·rw [hS2]
 ·rw [hS2]
 ·rw [hS2]
 ·rw [own_at hx2 (by omega), own_at hx1 hk, List.getElem?_append_left (by omega)]
 ·rw [own_at hx2 (by omega), List.getElem?_append_right (by omega), hl, Nat.add_sub_cancel_left]
  rfl
theorem close_at (h : Sb base g G a0 len cap M N S v j M' S' w) (kd ta tx ty : Int) (hN : N + j + 1 ≤ 10000) :
  Calls Tryd.prog 94 #[.pointer (some ⟨G, 0, none⟩), .agg #[.int .i64 kd, .int .i64 ta, .int .i64 tx, .int .i64 ty]] w fun e w' => (∃ r, e = .returned r) ∧ ∃ M2 S2, Sb base g G a0 len cap M N S v (j + 1) M2 S2 w' ∧ Mv g G M' M2 w w' ∧ (S2.nph = 0 ∧ S2.nb = S'.nb + 1) ∧
   (∀ b T m, M' b = some (T, m) → T ≠ 41 → T ≠ 44 → w'.heap[b]? = w.heap[b]? ∧ M2 b = some (T, m)) ∧ (∀ k, k < S'.nb * 6 → rowAt w' S2.bv k = rowAt w S'.bv k) ∧ rowAt w' S2.bv (S'.nb * 6) = some S'.phv := by
 refine (close_two base g G a0 len cap M' (N + j) S' kd ta tx ty w h.1 hN).mono ?_
 rintro e w' ⟨hr, M2, s', H2, V2, hh, xs, hx1, hx2⟩
 have hz : szT 41 = 6 := by decide
 rw [hz] at hx1 hx2
 have hl := hx1.1
 refine ⟨hr, M2, Closed S' s', ⟨H2, h.2.1.trans (closed_kept _ _), h.2.2.trans V2⟩, V2, ⟨rfl, rfl⟩, hh, fun k hk => ?_, ?_⟩
 ·show rowAt w' s' k = _
  rw [own_at hx2 (by omega), own_at hx1 hk, List.getElem?_append_left (by omega)]
 ·show rowAt w' s' _ = _
  rw [own_at hx2 (by omega), List.getElem?_append_right (by omega), hl, Nat.sub_self]
  rfl
structure Tk (M : Tmap) (w : World) (V : Nat) (phv : Value) (t1 t2 : Nat) : Prop where
 hp : SlN M 89 phv 2
 p1 : rowAt w phv 1 = some (.slice (some ⟨t1, 0, none⟩) 2 2)
 p3 : rowAt w phv 3 = some (.slice (some ⟨t2, 0, none⟩) 2 2)
 m1 : M t1 = some (2, 2)
 m2 : M t2 = some (2, 2)
 f1 : V ≤ t1
 f2 : V ≤ t2
 ne : t1 ≠ t2
theorem Tk.hold {V t1 t2 : Nat} {phv : Value} (h : Tk M w V phv t1 t2) (he : Ext M M') (hh : ∀ b T m, M b = some (T, m) → T ≠ 41 → T ≠ 44 → w'.heap[b]? = w.heap[b]? ∧ M' b = some (T, m)) : Tk M' w' V phv t1 t2 :=
 ⟨h.hp.ext he, (rowAt_hold h.hp (by omega) fun b m hb => (hh b _ m hb (by decide) (by decide)).1).trans h.p1, (rowAt_hold h.hp (by omega) fun b m hb => (hh b _ m hb (by decide) (by decide)).1).trans h.p3, (hh t1 _ _ h.m1 (by decide) (by decide)).2, (hh t2 _ _ h.m2 (by decide) (by decide)).2, h.f1, h.f2, h.ne⟩
theorem Tk.mov {V t1 t2 : Nat} {phv : Value} (h : Tk M w V phv t1 t2) (k : Mov g G M M' w w') : Tk M' w' V phv t1 t2 := h.hold k.ext fun b T m hb _ hI => k.hold b T m hb hI
structure Lp (M : Tmap) (w : World) (S : GRec) (V idx t1 t2 : Nat) (phv : Value) : Prop where
 tk : Tk M w V phv t1 t2
 hb : rowAt w S.bv (idx * 6) = some phv
 hi : idx < S.nb
theorem Lp.close {V idx t1 t2 : Nat} {phv : Value} (h : Lp M w S V idx t1 t2 phv) (he : Ext M M') (hh : ∀ b T m, M b = some (T, m) → T ≠ 41 → T ≠ 44 → w'.heap[b]? = w.heap[b]? ∧ M' b = some (T, m)) (hk : ∀ k, k < S.nb * 6 → rowAt w' S'.bv k = rowAt w S.bv k) (hn : S'.nb = S.nb + 1) : Lp M' w' S' V idx t1 t2 phv := by
 have hi := h.hi
 exact ⟨h.tk.hold he hh, (hk _ (by omega)).trans h.hb, by omega⟩
theorem Lp.mov {V idx t1 t2 : Nat} {phv : Value} (h : Lp M w S V idx t1 t2 phv) (hg : Gok base g G a0 len cap M N S w) (k : Mov g G M M' w w') (hS : Same S S') : Lp M' w' S' V idx t1 t2 phv := by
 have hi := h.hi
 refine ⟨h.tk.mov k, ?_, by rw [hS.2.2.2.1]; exact hi⟩
 rw [hS.2.2.1, rowAt_hold hg.b.sl (by omega) fun b m hb => (k.hold b _ m hb (by decide)).1]
 exact h.hb
theorem Gok.setInt {t : Nat} {z : Int} (h : Gok base g G a0 len cap M N S w) (ht : M t = some (2, 2)) : Gok base g G a0 len cap M N S (w.setCell ⟨t, 1, none⟩ (.int .i64 z)) := by
 have hset : ∀ b, b ≠ t → (w.setCell ⟨t, 1, none⟩ (.int .i64 z)).heap[b]? = w.heap[b]? := fun b hb => Below.heap_setCell _ _ _ _ hb
 have hsz : (w.setCell ⟨t, 1, none⟩ (.int .i64 z)).heap.size = w.heap.size := by simp [World.setCell]
 have htb := h.th.lt ⟨_, ht⟩
 have hgb := h.gb
 have hmG := h.mG
 have htG : G ≠ t := fun e => by rw [e, ht] at hmG; cases hmG
 have hcur : ∀ {T : TypeId} {cur : Array Value}, w.heap[t]? = some (.cells cur T (0, 0)) → (w.setCell ⟨t, 1, none⟩ (.int .i64 z)).heap[t]? = some (.cells (cur.setIfInBounds 1 (.int .i64 z)) T (0, 0)) := fun hc => heap_set hc
 have hrow : ∀ {T : TypeId} {s : Value} {n : Nat}, RowT base M T s n w → RowT base M T s n (w.setCell ⟨t, 1, none⟩ (.int .i64 z)) := fun {T s n} r => by
  rcases r with r | ⟨q, c, cu, hv, hq, hq2, hc, hn, hm, hs⟩
  ·exact .inl r
  ·by_cases e : q = t
   ·subst e
    exact .inr ⟨q, c, _, hv, hq, hq2, hcur hc, hn, hm, by simpa using hs⟩
   ·exact .inr ⟨q, c, cu, hv, hq, hq2, (hset q e).trans hc, hn, hm, hs⟩
 refine ⟨rd_keep h.rd (by omega) fun b hb => hset b (by omega), h.gb, by rw [hsz]; exact h.bv, h.mG, h.nG, (hset G htG).trans h.cells, fun b T m hb => ?_, hrow h.p, hrow h.b, hrow h.ph, hrow h.i, h.ids, h.rets, h.pars, h.bn⟩
 obtain ⟨h1, cur, h2, h3⟩ := h.th b T m hb
 by_cases e : b = t
 ·subst e
  rw [ht] at hb
  cases hb
  refine ⟨h1, _, hcur h2, fun i hi => ?_⟩
  have hs1 : szT 2 = 1 := by decide
  obtain ⟨z0, hz0⟩ := (h3 i hi).1 rfl
  simp only [hs1, Nat.mul_one, Nat.add_zero] at hz0
  by_cases hi1 : i = 1
  ·subst hi1
   have hlt : 1 < cur.size := (Array.getElem?_eq_some_iff.1 hz0).1
   exact el_int (z := z) (by simp [hs1, hlt])
  ·exact el_int (z := z0) (by simp only [hs1, Nat.mul_one, Nat.add_zero]; rw [Array.getElem?_setIfInBounds_ne (by omega)]; exact hz0)
 ·exact ⟨h1, cur, (hset b e).trans h2, h3⟩
theorem Sb.setInt {t : Nat} {z : Int} (h : Sb base g G a0 len cap M N S v j M' S' w) (hl : ∀ x, (∃ p, M x = some p) → x < v.heap.size) (ht : M' t = some (2, 2)) (hv : v.heap.size ≤ t) : Sb base g G a0 len cap M N S v j M' S' (w.setCell ⟨t, 1, none⟩ (.int .i64 z)) := by
 have hset : ∀ b, b ≠ t → (w.setCell ⟨t, 1, none⟩ (.int .i64 z)).heap[b]? = w.heap[b]? := fun b hb => Below.heap_setCell _ _ _ _ hb
 have hsz : (w.setCell ⟨t, 1, none⟩ (.int .i64 z)).heap.size = w.heap.size := by simp [World.setCell]
 obtain ⟨h1, h2, h3⟩ := h
 refine ⟨h1.setInt ht, h2, ⟨h3.ext, fun b hb e1 e2 e3 => ?_, fun b T m hb hT => ?_, h3.os, h3.tape, h3.output, by rw [hsz]; exact h3.size⟩⟩
 ·obtain ⟨r1, r2⟩ := h3.out b hb e1 e2 e3
  exact ⟨(hset b (by omega)).trans r1, r2⟩
 ·obtain ⟨r1, r2⟩ := h3.hold b T m hb hT
  have := hl b ⟨_, hb⟩
  exact ⟨(hset b (by omega)).trans r1, r2⟩
theorem tk_made {V : Nat} {w5 w6 w7 : World} {M5 M6 M7 : Tmap} {S6 S7 : GRec} {o5 o6 : Obj} (hv : V ≤ w5.heap.size) (hv6 : (w5.alloc o5).heap.size ≤ w6.heap.size) (g6 : Gok base g G a0 len cap M6 N S6 w6) (g7 : Gok base g G a0 len cap M7 N' S7 w7) (v6 : Mv g G (put M5 w5.heap.size 2 2) M6 (w5.alloc o5) w6) (v7 : Mv g G (put M6 w6.heap.size 2 2) M7 (w6.alloc o6) w7) (q6 : S6.nph = 1) (q7 : S7.nph = 2)
  (p6 : rowAt w6 S6.phv 1 = some (.slice (some ⟨w5.heap.size, 0, none⟩) 2 2)) (k7 : rowAt w7 S7.phv 1 = rowAt (w6.alloc o6) S6.phv 1) (p7 : rowAt w7 S7.phv 3 = some (.slice (some ⟨w6.heap.size, 0, none⟩) 2 2)) : Tk M7 w7 V S7.phv w5.heap.size w6.heap.size := by
 have hs : w5.heap.size < w6.heap.size := by simp at hv6; omega
 have e6 : SlN M6 89 S6.phv 1 := by rw [← q6]; exact g6.ph.sl
 have e7 : SlN M7 89 S7.phv 2 := by rw [← q7]; exact g7.ph.sl
 have m6 : M6 w5.heap.size = some (2, 2) := (v6.hold _ _ _ (by simp [put]) (.inl rfl)).2
 refine ⟨e7, k7.trans ((rowAt_hold e6 (by omega) fun b m hb => Below.heap_alloc _ _ _ (g6.th.lt ⟨_, hb⟩).2).trans p6), p7, (v7.hold _ _ _ (by unfold put; rw [if_neg (by omega)]; exact m6) (.inl rfl)).2, (v7.hold _ _ _ (by simp [put]) (.inl rfl)).2, hv, by omega, by omega⟩
theorem Lp.cells {V idx t1 t2 : Nat} {phv : Value} (h : Lp M w S V idx t1 t2 phv) (hg : Gok base g G a0 len cap M N S w) : ∃ gb cb gp cp, S.bv = .slice (some ⟨gb, 0, none⟩) S.nb cb ∧ w.cell? ⟨gb, idx * 6, none⟩ = some (.slice (some ⟨gp, 0, none⟩) 2 cp) ∧ w.cell? ⟨gp, 1, none⟩ = some (.slice (some ⟨t1, 0, none⟩) 2 2) ∧ w.cell? ⟨gp, 3, none⟩ = some (.slice (some ⟨t2, 0, none⟩) 2 2) ∧
  (∃ z : Int, w.cell? ⟨t1, 1, none⟩ = some (.int .i64 z)) ∧ w.frozen? ⟨t1, 1, none⟩ = false ∧ (∃ z : Int, w.cell? ⟨t2, 1, none⟩ = some (.int .i64 z)) ∧ w.frozen? ⟨t2, 1, none⟩ = false ∧ (gb ≠ t1 ∧ gb ≠ t2 ∧ gp ≠ t1 ∧ gp ≠ t2 ∧ G ≠ t1 ∧ G ≠ t2) := by
 obtain ⟨⟨hp, p1, p3, m1, m2, f1, f2, _⟩, hb, hi⟩ := h
 rcases hg.b with ⟨e, e0⟩ | ⟨gb, cb, cur, e1, e2, e3, e4, _⟩
 ·omega
 obtain ⟨up, cp, rfl, hq⟩ := hp
 rcases hq with hq | ⟨gp, mp, rfl, hM, _⟩
 ·omega
 have key : ∀ t, M t = some (2, 2) → (∃ z : Int, w.cell? ⟨t, 1, none⟩ = some (.int .i64 z)) ∧ w.frozen? ⟨t, 1, none⟩ = false := fun t ht => by
  obtain ⟨_, cu, c2, c3⟩ := hg.th t _ _ ht
  obtain ⟨z, hz⟩ := (c3 1 (by omega)).1 rfl
  have hs1 : szT 2 = 1 := by decide
  simp only [hs1, Nat.mul_one, Nat.add_zero] at hz
  exact ⟨⟨z, (cell_of_heap c2).trans hz⟩, by simp [World.frozen?, c2]⟩
 have ne : ∀ {a t : Nat} {T : TypeId} {n m : Nat}, M a = some (T, n) → M t = some (2, m) → T ≠ 2 → a ≠ t := fun h1 h2 h3 e => by
  rw [e, h2] at h1
  cases h1
  exact h3 rfl
 have neG : ∀ {t m : Nat}, M t = some (2, m) → G ≠ t := fun h1 e => by
  have := hg.mG
  rw [e, h1] at this
  cases this
 refine ⟨gb, cb, gp, cp, e1, ?_, p1, p3, (key t1 m1).1, (key t1 m1).2, (key t2 m2).1, (key t2 m2).2, ne e3 m1 (by decide), ne e3 m2 (by decide), ne hM m1 (by decide), ne hM m2 (by decide), neG m1, neG m2⟩
 rw [e1] at hb
 exact hb
end Go.Proofs.YtenbodghkpbghaaDoor
namespace Go.Proofs.YtenbodghkpbghaaDoor
open Go.RowKit Go.Deep
set_option linter.unusedVariables false
set_option maxHeartbeats 4000000 in
set_option maxRecDepth 100000 in
theorem loop_any (base g G : Nat) (a0 : Option Addr) (len cap : Nat) (M : Tmap) (N : Nat) (S : GRec) (v : World) (h : Gok base g G a0 len cap M N S v) (hp : ParW M S v) (hN : N + 80 ≤ 10000) :
  Calls Tryd.prog 68 #[.pointer (some ⟨G, 0, none⟩)] v fun e v' => (∃ r, e = .returned r) ∧ ∃ M' S', Sb base g G a0 len cap M N S v 60 M' S' v' := by
 have hl : ∀ x, (∃ p, M x = some p) → x < v.heap.size := fun x hx => (h.th.lt hx).2
 have HL : Hid (∀ x, (∃ p, M x = some p) → x < v.heap.size) := hl
 have h0 := h.sb
 obtain ⟨ub, cb, eb, _⟩ := h.b.sl
 have c3 : v.cell? ⟨G, 3, none⟩ = some (.slice ub S.nb cb) := by rw [← eb]; exact (gcell h.cells 3).1.trans rfl
 have hbn := h.bn
 have HP : Hid (ParW M S v) := hp
 have f0 := h0.cell0
 have P0 := below_sb h0 5 (by omega)
 clear h hl hp eb
 go_enter Tryd.func68, Tryd.ntmps68
 go_wp2_with (first | (go_at_call 42; refine P0.mono ?_; rintro e w1 ⟨k1, rfl, hk1, h1, v1⟩; have P1 := put_sb h1 21 8 0 0 0 k1 (by omega); clear P0 c3 f0) | (go_at_call 90; refine P1.mono ?_; rintro e w2 ⟨n2, rfl, M2, S2, h2, s2, v2⟩; have P2 := width_sb h2; have f2 := h2.cell0; clear P1) | (go_at_call 64; refine P2.mono ?_; rintro e w3 ⟨x, rfl, hx, h3, v3⟩; have P3 := pick_sb h3 x hx (by omega); clear P2 f2) | (go_at_call 92; refine P3.mono ?_; rintro e w4 ⟨a4, rfl, M4, S4, h4, s4, v4⟩; have P4 := fun kd ta tx ty => close_at h4 kd ta tx ty (by omega); clear P3) | (go_at_call 94; refine (P4 _ _ _ _).mono ?_; rintro e w5 ⟨⟨r5, rfl⟩, M5, S5, h5, v5, ⟨q5, nb5⟩, _, _, _⟩; obtain ⟨T5, L5⟩ := h5.two HL.out n2 0; have P5 := phi_at T5 8 _ 2 L5 (by omega) (by omega); clear P4) | (go_at_call 95; refine P5.mono ?_; rintro e w6 ⟨n6, rfl, M6, S6, h6, b6, nb6, q6, v6, k6, p6⟩; obtain ⟨T6, L6⟩ := h6.two HL.out a4 0; have P6 := phi_at T6 x _ 2 L6 (by omega) (by omega); clear P5) | (go_at_call 95; refine P6.mono ?_; rintro e w7 ⟨n7, rfl, M7, S7, h7, b7, nb7, q7, v7, k7, p7⟩; have e6 : S6.nph = 1 := (by omega); rw [q5] at p6; rw [e6] at p7; have K7 := tk_made (V := v.heap.size) h5.2.2.size v6.size h6.1 h7.1 v6 v7 e6 (by omega) p6 (k7 1 (by omega)) p7; have hnb : S7.nb = S.nb + 1 := (by rw [nb7, nb6, nb5, s4.2.2.2.1, s2.2.2.2.1]); have P7 := put_sb h7 21 8 0 0 0 0 (by omega); clear P6 k6 k7 p6 p7 T5 T6 L5 L6 h5 h6 v6 v7 h1 h2 h3 h4 b6 b7 nb7 nb6 nb5 s4 s2 q5 q6 q7 v1 v2 v3 v4 v5) | (go_at_call 90; refine P7.mono ?_; rintro e w8 ⟨n8, rfl, M8, S8, h8, s8, v8⟩; have K8 := K7.mov v8; have P8 := put_sb h8 15 8 n6 n8 0 0 (by omega); clear P7 K7 h7) | (go_at_call 90; refine P8.mono ?_; rintro e w9 ⟨n9, rfl, M9, S9, h9, s9, v9⟩; have K9 := K8.mov v9; have P9 := fun kd ta tx ty => close_at h9 kd ta tx ty (by omega); clear P8 K8 h8) | (go_at_call 94; refine (P9 _ _ _ _).mono ?_; rintro e w10 ⟨⟨r10, rfl⟩, M10, S10, h10, v10, ⟨q10, nb10⟩, hh10, kk10, pp10⟩; have hn9 : S9.nb = S.nb + 1 := (by rw [s9.2.2.2.1, s8.2.2.2.1, hnb]); have hp9 : S9.phv = S7.phv := (by rw [s9.2.2.2.2.1, s8.2.2.2.2.1]); rw [hn9, hp9] at pp10; have L10 : Lp M10 w10 S10 v.heap.size (S.nb + 1) _ _ S7.phv := ⟨K9.hold v10.ext hh10, pp10, (by omega)⟩; have I10 : Idf M10 S10 := h10.1.ids; obtain ⟨ui, ci, uw, cw, ei, ew⟩ := I10.form; have c11 : w10.cell? ⟨G, 11, none⟩ = some (.slice ui S10.nid ci) := (by rw [← ei]; exact (gcell h10.1.cells 11).1.trans rfl); have c12 : w10.cell? ⟨G, 12, none⟩ = some (.slice uw S10.nid cw) := (by rw [← ew]; exact (gcell h10.1.cells 12).1.trans rfl); have n10 := h10.1.bn.2.2.2.2.1; have P10 := put_sb h10 21 8 0 0 0 1 (by omega); clear P9 K9 h9 hh10 kk10 pp10 s9 s8 hn9 hp9 hnb nb10 q10 v10 v8 v9; generalize S7.phv = phv at L10; generalize w5.heap.size = t1 at L10; generalize w6.heap.size = t2 at L10) | (go_at_call 90; refine P10.mono ?_; rintro e w11 ⟨n11, rfl, M11, S11, h11, s11, v11⟩; have L11 := L10.mov h10.1 v11 s11; have I11 := I10.ext v11.ext; have P11 := put_sb h11 2 8 n6 n11 0 0 (by omega); clear P10 c11 c12 L10 h10 s11 v11 I10) | (go_at_call 90; refine P11.mono ?_; rintro e w12 ⟨n12, rfl, M12, S12, h12, s12, v12⟩; have L12 := L11.mov h11.1 v12 s12; have I12 := I11.ext v12.ext; have P12 := below_sb h12 3 (by omega); have f12 := h12.cell0; clear P11 L11 h11 s12 v12 I11) | (go_at_call 42; refine P12.mono ?_; rintro e w13 ⟨k13, rfl, hk13, h13, v13⟩; have L13 := L12.mov h12.1 v13 (Same.refl _); have I13 := I12.ext v13.ext; have P13 := some_sb h13 HP.out k13 (by omega) (by omega); clear P12 f12 L12 h12 v13 I12) | (go_at_call 66; refine P13.mono ?_; rintro e w14 ⟨⟨r14, rfl⟩, M14, S14, h14, s14, v14⟩; have L14 := L13.mov h13.1 v14 s14; have I14 := I13.ext v14.ext; have h14 := h14.mono (i := 50) (by omega) (by omega); have P14 := pick_sb h14 x hx (by omega); clear P13 L13 h13 s14 v14 I13) | (go_at_call 92; refine P14.mono ?_; rintro e w15 ⟨y15, rfl, M15, S15, h15, s15, v15⟩; have L15 := L14.mov h14.1 v15 s15; have I15 := I14.ext v15.ext; have P15 := put_sb h15 1 x n7 a4 0 0 (by omega); have Q15 := fun kd ta tx ty => close_at h15 kd ta tx ty (by omega); clear P14 L14 h14 s15 v15 I14) | (go_at_call 90; refine P15.mono ?_; rintro e w16 ⟨y16, rfl, M16, S16, h16, s16, v16⟩; have L16 := L15.mov h15.1 v16 s16; have I16 := I15.ext v16.ext; have Q16 := fun kd ta tx ty => close_at h16 kd ta tx ty (by omega); clear P15 Q15 L15 s16 v16 I15) | (go_at_call 94; refine (Q16 _ _ _ _).mono ?_; rintro e w17 ⟨⟨r17, rfl⟩, M17, S17, h17, v17, ⟨q17, nb17⟩, hh17, kk17, pp17⟩; have L17 := L16.close v17.ext hh17 kk17 nb17; have I17 := I16.ext v17.ext; have h17 := h17.mono (i := 60) (by omega) (by omega); have hi17 := L17.hi; obtain ⟨gb, cb, gp, cp, e1, y1, y2, y3, ⟨z1, y4⟩, y5, ⟨z2, y6⟩, y7, na, nb, nc, nd, ne, nf⟩ := L17.cells h17.1; have c3 : w17.cell? ⟨G, 3, none⟩ = some (.slice (some ⟨gb, 0, none⟩) S17.nb cb) := (by rw [← e1]; exact (gcell h17.1.cells 3).1.trans rfl); have KT := L17.tk; have H2 := (h17.setInt (z := n12) HL.out KT.m1 KT.f1).setInt (z := y16) HL.out KT.m2 KT.f2; obtain ⟨⟨g1, zz1⟩, g2, zz2⟩ := seen_cells H2.1 S10.idv; obtain ⟨R17, _⟩ := H2.restore I17 (by omega); rw [ei] at g2 zz2 R17; rw [ew] at R17; have nt := KT.ne; have RR : Hid _ := R17; clear R17 H2 I17 KT h17; clear Q16 L17 L16 I16 hh17 kk17 nb17 v17 q17) | (go_at_call 94; refine (Q15 _ _ _ _).mono ?_; rintro e w17 ⟨⟨r17, rfl⟩, M17, S17, h17, v17, ⟨q17, nb17⟩, hh17, kk17, pp17⟩; have L17 := L15.close v17.ext hh17 kk17 nb17; have I17 := I15.ext v17.ext; have h17 := h17.mono (i := 60) (by omega) (by omega); have hi17 := L17.hi; obtain ⟨gb, cb, gp, cp, e1, y1, y2, y3, ⟨z1, y4⟩, y5, ⟨z2, y6⟩, y7, na, nb, nc, nd, ne, nf⟩ := L17.cells h17.1; have c3 : w17.cell? ⟨G, 3, none⟩ = some (.slice (some ⟨gb, 0, none⟩) S17.nb cb) := (by rw [← e1]; exact (gcell h17.1.cells 3).1.trans rfl); have KT := L17.tk; have H2 := (h17.setInt (z := n12) HL.out KT.m1 KT.f1).setInt (z := y15) HL.out KT.m2 KT.f2; obtain ⟨⟨g1, zz1⟩, g2, zz2⟩ := seen_cells H2.1 S10.idv; obtain ⟨R17, _⟩ := H2.restore I17 (by omega); rw [ei] at g2 zz2 R17; rw [ew] at R17; have nt := KT.ne; have RR : Hid _ := R17; clear R17 H2 I17 KT h17; clear Q15 L17 L15 I15 hh17 kk17 nb17 v17 q17))
 all_goals exact bodyPost_end (results_none Tryd.results68 _ _ _) rfl ⟨⟨_, rfl⟩, _, _, RR.out⟩
end Go.Proofs.YtenbodghkpbghaaDoor
namespace Go.Proofs.YtenbodghkpbghaaDoor
open Go.RowKit Go.Deep
set_option linter.unusedVariables false
theorem run_row3 {base n N N' : Nat} {M : Tmap} {T t ty : TypeId} {s : Value} {v : World} (i : TypeInfo) (z : Value) (bytes : Nat) (ht : Tryd.prog.underlying t = some (.slice T)) (hi : Tryd.prog.info? T = some i) (hz : i.zero = some z) (hsz : i.size = szT T) (hby : i.bytes = bytes) (hzs : z.cells.size = szT T) (hbm : bytes ≤ 1000)
  (h : RowT base M T s n v) (th : TH base M N v) (hN : N ≤ N') (hT : T = 2 ∨ T = 24 ∨ T = 89 ∨ T = 44 ∨ T = 41) (hb : base ≤ v.heap.size) (hn : n ≤ 100000)
  (ad : Addr) (c : Nat) (news : List Value) (hl : news.length = szT T) (hnews : ∀ j u, news[j]? = some u → v.cell? (ad.add j) = some u) (h1 : ∀ u ∈ news, u.oneCell' = true) (he : ∀ M', Ext M M' → ElOk M' N' T (fun j => news[j]?)) :
  ∃ s' w' M', (Builtin.append_ #[t, t] ty #[s, .slice (some ad) 1 c]).run Tryd.prog v = .ok s' w' ∧ ∃ g' cap', s' = .slice (some ⟨g', 0, none⟩) (n + 1) cap' ∧ M' = put M g' T (n + 1) ∧ Pushed base M M' N' T n v w' s' ∧ (∀ b, b ≠ g' → b < v.heap.size → w'.heap[b]? = v.heap[b]?) ∧ (s.ownBlock = some g' ∨ v.heap.size ≤ g') ∧ ∃ xs, v.ownsRow base T (szT T) s n xs ∧ w'.ownsRow base T (szT T) s' (n + 1) (xs ++ news) := by
 have hmul : (n + 1) * bytes ≤ 140737488355328 := Nat.le_trans (Nat.mul_le_mul (show n + 1 ≤ 100001 by omega) hbm) (by decide)
 obtain ⟨xs, hx⟩ := h.own
 rcases h with ⟨rfl, rfl⟩ | ⟨g, cap, cur, rfl, hg, hM, hc, hnc, hm, hs⟩
 ·have hx0 : xs = [] := by have := hx.1; simpa using this
  subst hx0
  obtain ⟨v', w', hr, h2, h3, _, _⟩ := run_append_own_at (P := Tryd.prog) v v.heap.size t ty T i z (szT T) bytes ht hi hz hsz hby hzs (szT_pos T) (.slice none 0 0) 0 [] ⟨by simp, .inl ⟨rfl, rfl⟩⟩ ad 1 c news (by omega) hnews h1 (by unfold maxLen; omega) (by simpa using hmul) (Nat.le_refl _)
  obtain ⟨g', cap', rfl, hg', _⟩ := h2.form (by omega)
  have h2' := own_low (b' := base) (xs := news) (by simpa using h2) hb
  exact ⟨_, w', _, hr, g', cap', rfl, rfl, RowT.pushed (xs := []) (news := news) (.inl ⟨rfl, rfl⟩) th hN hT hx hb h2' (.inr ⟨hg', h3⟩) hl he, fun b hbg hbl => h3.block b hbl (by simp [Value.ownBlock]), .inr hg', [], hx, h2'⟩
 ·by_cases hroom : n + 1 ≤ cap
  ·obtain ⟨w', hr, h2, h3⟩ := run_append_own_spare (P := Tryd.prog) v base t ty T i (szT T) ht hi hsz g n cap xs hx ad 1 c news (by omega) hnews h1 hroom
   exact ⟨_, w', _, hr, g, cap, rfl, rfl, RowT.pushed (.inr ⟨g, cap, cur, rfl, hg, hM, hc, hnc, hm, hs⟩) th hN hT hx hb h2 (.inl ⟨rfl, h3⟩) hl he, fun b hbg hbl => h3.block b hbl (by simpa using hbg), .inl rfl, xs, hx, h2⟩
  ·have hxl := hx.1
   obtain ⟨v', w', hr, h2, h3⟩ := run_append_arg_grows (P := Tryd.prog) v t ty T i z (szT T) bytes ht hi hz hsz hby hzs (szT_pos T) ⟨g, 0, none⟩ n cap xs hxl (hx.cells rfl) ad 1 c news (by omega) hnews (by omega) (by unfold maxLen; omega) hmul
   obtain ⟨g', cap', rfl, hg', _⟩ := h2.form (by omega)
   exact ⟨_, w', _, hr, g', cap', rfl, rfl, RowT.pushed (.inr ⟨g, cap, cur, rfl, hg, hM, hc, hnc, hm, hs⟩) th hN hT hx hb (own_low h2 hb) (.inr ⟨hg', h3⟩) hl he, fun b hbg hbl => h3.block b hbl (by simp), .inr hg', xs, hx, own_low h2 hb⟩
variable {base g G len cap N j : Nat} {a0 : Option Addr} {M M' : Tmap} {S S' : GRec} {v w w2 : World}
theorem Gok.pushPar {g' cap' : Nat} (h : Gok base g G a0 len cap M N S w) (hN : N < 10000) (k : Pushed base M (put M g' 2 (S.np + 1)) (N + 1) 2 S.np w w2 (.slice (some ⟨g', 0, none⟩) (S.np + 1) cap')) (hb : ∀ b, b ≠ g' → b < w.heap.size → w2.heap[b]? = w.heap[b]?) (hg : S.pv.ownBlock = some g' ∨ w.heap.size ≤ g') :
  Gok base g G a0 len cap (put M g' 2 (S.np + 1)) (N + 1) { S with pv := .slice (some ⟨g', 0, none⟩) (S.np + 1) cap', np := S.np + 1 } (w2.setCell ⟨G, 1, none⟩ (.slice (some ⟨g', 0, none⟩) (S.np + 1) cap')) ∧ (∀ b, b ≠ g' → b ≠ G → b < w.heap.size → (w2.setCell ⟨G, 1, none⟩ (.slice (some ⟨g', 0, none⟩) (S.np + 1) cap')).heap[b]? = w.heap[b]?) := by
 have hGl := (Array.getElem?_eq_some_iff.1 h.cells).1
 obtain ⟨o1, o2⟩ := k.out G hGl h.mG
 have hbn := h.bn
 have hset : ∀ b, b ≠ G → (w2.setCell ⟨G, 1, none⟩ (.slice (some ⟨g', 0, none⟩) (S.np + 1) cap')).heap[b]? = w2.heap[b]? := fun b hb => Below.heap_setCell _ _ _ _ hb
 have hk : ∀ b, (∃ p, put M g' 2 (S.np + 1) b = some p) → (w2.setCell ⟨G, 1, none⟩ (.slice (some ⟨g', 0, none⟩) (S.np + 1) cap')).heap[b]? = w2.heap[b]? := fun b hb => hset b fun e => by
  obtain ⟨p, hb⟩ := hb
  rw [e, o2] at hb; cases hb
 have hsz : (w2.setCell ⟨G, 1, none⟩ (.slice (some ⟨g', 0, none⟩) (S.np + 1) cap')).heap.size = w2.heap.size := by simp [World.setCell]
 have hgb : base ≤ g' ∧ g < g' := by
  have h1 := h.gb
  have h2 := h.bv
  rcases hg with hg | hg
  ·obtain ⟨p, hp⟩ := own_M h.p hg
   have := (h.th.lt ⟨_, hp⟩).1
   omega
  ·omega
 refine ⟨⟨rd_keep h.rd (by rw [hsz]; exact k.size) fun b hb' => ?_, h.gb, by rw [hsz]; exact Nat.le_trans h.bv k.size, o2, h.nG, (heap_set (o1.trans h.cells)).trans rfl, k.th.keep (Nat.le_refl _) hk, k.row.keep hk, (k.row2 h.b (by decide)).keep hk, (k.row2 h.ph (by decide)).keep hk, (k.row2 h.i (by decide)).keep hk, ?_, h.rets.ext k.ext, h.pars.ext k.ext, by dsimp only; omega⟩, fun b h1 h2 h3 => (hset b h2).trans (hb b h1 h3)⟩
 ·have hgl := h.rd.lt
  have h1 := h.nG
  have h2 := h.gb
  exact (hset b (by omega)).trans (hb b (by omega) (by omega))
 ·rcases h.ids with hi | ⟨h1, h2, h3⟩
  ·exact .inl hi
  ·exact .inr ⟨h1, h2.ext k.ext, h3.ext k.ext⟩
def PW (w : World) (S : GRec) : Prop := ∀ k, k < S.np → ∃ x : Int, rowAt w S.pv k = some (.int .i64 x) ∧ (x = 1 ∨ x = 8 ∨ x = 16 ∨ x = 32)
theorem PW.mv (h : PW w S) (hg : Gok base g G a0 len cap M N S w) (hS : Kept S S') (hh : ∀ b m, M b = some (2, m) → w2.heap[b]? = w.heap[b]?) : PW w2 S' := fun k hk => by
 rw [hS.2.1] at hk
 obtain ⟨x, h1, h2⟩ := h k hk
 refine ⟨x, ?_, h2⟩
 rw [hS.1, rowAt_hold hg.p.sl (by omega) hh]
 exact h1
structure Bg (base g G : Nat) (a0 : Option Addr) (len cap : Nat) (M : Tmap) (v : World) (n : Nat) (ret : Int) (rv sv : Value) (nr : Nat) (w : World) : Prop where
 st : ∃ M' S', Gok base g G a0 len cap M' (10 + 2 * n) S' w ∧ S'.np = n ∧ S'.ret = ret ∧ S'.rv = rv ∧ S'.sv = sv ∧ S'.nr = nr ∧ PW w S' ∧ Mv g G M M' v w ∧ (∀ q, S'.pv.ownBlock = some q → v.heap.size ≤ q)
theorem info1 : (Tryd.prog.info? 2).map (fun i => (i.zero, i.size, i.bytes)) = some (some (.int .i64 0), 1, 8) := by kernel_rfl
theorem par_more {n : Nat} {ret x : Int} {rv sv : Value} {nr : Nat} {g' cap' : Nat} {S' : GRec} {xs : List Value} (H : Gok base g G a0 len cap M' (10 + 2 * n) S' w) (hn : S'.np = n) (hn2 : n ≤ 2) (hl : ∀ b, (∃ p, M b = some p) → b < v.heap.size) (hx : x = 1 ∨ x = 8 ∨ x = 16 ∨ x = 32) (hr : S'.ret = ret ∧ S'.rv = rv ∧ S'.sv = sv ∧ S'.nr = nr) (hpw : PW w S') (hv : Mv g G M M' v w) (ho : ∀ q, S'.pv.ownBlock = some q → v.heap.size ≤ q)
  (k : Pushed base M' (put M' g' 2 (S'.np + 1)) (10 + 2 * n + 1) 2 S'.np w w2 (.slice (some ⟨g', 0, none⟩) (S'.np + 1) cap')) (hb : ∀ b, b ≠ g' → b < w.heap.size → w2.heap[b]? = w.heap[b]?) (hg : S'.pv.ownBlock = some g' ∨ w.heap.size ≤ g') (hc1 : w.ownsRow base 2 (szT 2) S'.pv S'.np xs) (hc2 : w2.ownsRow base 2 (szT 2) (.slice (some ⟨g', 0, none⟩) (S'.np + 1) cap') (S'.np + 1) (xs ++ [.int .i64 x])) :
  ∃ M2 S2, Gok base g G a0 len cap M2 (10 + 2 * n + 1) S2 (w2.setCell ⟨G, 1, none⟩ (.slice (some ⟨g', 0, none⟩) (S'.np + 1) cap')) ∧ S2.np = n + 1 ∧ S2.ret = ret ∧ S2.rv = rv ∧ S2.sv = sv ∧ S2.nr = nr ∧ PW (w2.setCell ⟨G, 1, none⟩ (.slice (some ⟨g', 0, none⟩) (S'.np + 1) cap')) S2 ∧ Mv g G M M2 v (w2.setCell ⟨G, 1, none⟩ (.slice (some ⟨g', 0, none⟩) (S'.np + 1) cap')) ∧ (∀ q, S2.pv.ownBlock = some q → v.heap.size ≤ q) := by
 obtain ⟨H2, hkeep⟩ := H.pushPar (by omega) k hb hg
 have hvs := hv.size
 have hg' : v.heap.size ≤ g' := by
  rcases hg with hg | hg
  ·exact ho _ hg
  ·omega
 have hs1 : szT 2 = 1 := by decide
 rw [hs1] at hc1 hc2
 have hsz : (w2.setCell ⟨G, 1, none⟩ (.slice (some ⟨g', 0, none⟩) (S'.np + 1) cap')).heap.size = w2.heap.size := by simp [World.setCell]
 have hgG : g' ≠ G := fun e => by
  have := H2.mG
  rw [← e] at this
  simp [put] at this
 have hc3 : (w2.setCell ⟨G, 1, none⟩ (.slice (some ⟨g', 0, none⟩) (S'.np + 1) cap')).ownsRow base 2 1 (.slice (some ⟨g', 0, none⟩) (S'.np + 1) cap') (S'.np + 1) (xs ++ [.int .i64 x]) := own_stay hc2 fun q hq => by
  have e : q = g' := by simpa [Value.ownBlock] using hq.symm
  exact Below.heap_setCell _ _ _ _ (by rw [e]; exact hgG)
 have hlx := hc1.1
 refine ⟨_, _, H2, by dsimp only; omega, hr.1, hr.2.1, hr.2.2.1, hr.2.2.2, fun q hq => ?_, ⟨hv.ext.trans k.ext, fun b hb' h1 h2 h3 => ?_, fun b T m hb' hT => ?_, k.os.trans hv.os, k.tape.trans hv.tape, k.output.trans hv.output, by rw [hsz]; exact Nat.le_trans hvs k.size⟩, fun q hq => ?_⟩
 ·dsimp only at hq ⊢
  rw [own_at hc3 (by omega)]
  by_cases e : q = S'.np
  ·rw [List.getElem?_append_right (by omega), hlx, e, Nat.mul_one, Nat.sub_self]
   exact ⟨x, rfl, hx⟩
  ·rw [List.getElem?_append_left (by omega), ← own_at hc1 (by omega)]
   exact hpw q (by omega)
 ·obtain ⟨r1, r2⟩ := hv.out b hb' h1 h2 h3
  exact ⟨(hkeep b (by omega) h2 (by omega)).trans r1, by unfold put; rw [if_neg (by omega)]; exact r2⟩
 ·obtain ⟨r1, r2⟩ := hv.hold b T m hb' hT
  have := hl b ⟨_, hb'⟩
  have hbG : b ≠ G := fun e => by have := H.mG; rw [← e, r2] at this; cases this
  exact ⟨(hkeep b (by omega) hbG (by omega)).trans r1, by unfold put; rw [if_neg (by omega)]; exact r2⟩
 ·have e : q = g' := by simpa [Value.ownBlock] using hq.symm
  omega
end Go.Proofs.YtenbodghkpbghaaDoor
namespace Go.Proofs.YtenbodghkpbghaaDoor
open Go.RowKit Go.Deep
set_option linter.unusedVariables false
def grec0 (rv sv : Value) (nr : Nat) : GRec := ⟨.slice none 0 0, .slice none 0 0, .slice none 0 0, .slice none 0 0, .slice none 0 0, .slice none 0 0, rv, sv, 0, 0, 0, 0, 0, nr, 0, 0, 0, 0, 0, 0⟩
structure FnIn (base g : Nat) (a0 : Option Addr) (len cap : Nat) (M : Tmap) (rv sv : Value) (nr : Nat) (v : World) : Prop where
 rd : Rd g a0 len cap v
 gb : g < base
 bv : base ≤ v.heap.size
 th : TH base M 10 v
 rets : SlN M 2 rv nr
 pars : SlN M 24 sv nr
 nr2 : nr ≤ 2
 par : ParW M (grec0 rv sv nr) v
 ty : ∀ b T m, M b = some (T, m) → T = 2 ∨ T = 24
variable {base g G len cap N j : Nat} {a0 : Option Addr} {M M' : Tmap} {S S' : GRec} {v w w2 : World}
theorem ParW.at {v' : World} (h : ParW M S v) (hn : S'.nr = S.nr) (hs : S'.sv = S.sv) (k : Mv g G M M' v v') : ParW M' S' v' := fun hp => by
 rw [hn] at hp
 obtain ⟨gs, cs, ms, e1, e2, e3⟩ := h hp
 obtain ⟨f1, f2⟩ := k.hold gs _ _ e2 (.inr rfl)
 refine ⟨gs, cs, ms, by rw [hs, hn]; exact e1, f2, fun j hj => ?_⟩
 rw [hn] at hj
 obtain ⟨u, n, c, g1, g2, g3⟩ := e3 j hj
 refine ⟨u, n, c, (cell_blk f1).trans g1, g2, fun hp => ?_⟩
 obtain ⟨gp, mp, r1, r2, r3⟩ := g3 hp
 obtain ⟨t1, t2⟩ := k.hold gp _ _ r2 (.inl rfl)
 refine ⟨gp, mp, r1, t2, fun i hi => ?_⟩
 obtain ⟨x, x1, x2⟩ := r3 i hi
 exact ⟨x, (cell_blk t1).trans x1, x2⟩
theorem fork_sb (h : Sb base g G a0 len cap M N S v j M' S' w) (hp : ParW M S v) (hN : N + j + 60 ≤ 10000) :
  Calls Tryd.prog 67 #[.pointer (some ⟨G, 0, none⟩)] w fun e w' => (∃ r, e = .returned r) ∧ ∃ M2 S2, Sb base g G a0 len cap M N S v (j + 60) M2 S2 w' := by
 refine (fork_any base g G a0 len cap M' (N + j) S' w h.1 (hp.mv h.2.1 h.2.2) hN).mono ?_
 rintro e w' ⟨hr, M2, S2, h1, h2, h3⟩
 exact ⟨hr, M2, S2, by rw [← Nat.add_assoc]; exact h1, h.2.1.trans h2, h.2.2.trans h3⟩
theorem loop_sb (h : Sb base g G a0 len cap M N S v j M' S' w) (hp : ParW M S v) (hN : N + j + 80 ≤ 10000) :
  Calls Tryd.prog 68 #[.pointer (some ⟨G, 0, none⟩)] w fun e w' => (∃ r, e = .returned r) ∧ ∃ M2 S2, Sb base g G a0 len cap M N S v (j + 60) M2 S2 w' := by
 refine (loop_any base g G a0 len cap M' (N + j) S' w h.1 (hp.mv h.2.1 h.2.2) hN).mono ?_
 rintro e w' ⟨hr, M2, S2, h1, h2, h3⟩
 exact ⟨hr, M2, S2, by rw [← Nat.add_assoc]; exact h1, h.2.1.trans h2, h.2.2.trans h3⟩
theorem ends_sb (h : Sb base g G a0 len cap M N S v j M' S' w) (hN : N + j + 3 ≤ 10000) (hw : S.ret = 1 ∨ S.ret = 8 ∨ S.ret = 16 ∨ S.ret = 32) :
  Calls Tryd.prog 69 #[.pointer (some ⟨G, 0, none⟩)] w fun e w' => (∃ r, e = .returned r) ∧ ∃ M2 S2, Sb base g G a0 len cap M N S v (j + 3) M2 S2 w' ∧ 1 ≤ S2.nb := by
 refine (ends_any base g G a0 len cap M' (N + j) S' w h.1 hN (by rw [h.2.1.2.2.2.2.2]; exact hw)).mono ?_
 rintro e w' ⟨hr, M2, S2, h1, h2, h3, h4⟩
 exact ⟨hr, M2, S2, ⟨by rw [← Nat.add_assoc]; exact h1, h.2.1.trans h2, h.2.2.trans h3⟩, h4⟩
theorem Gok.setRet {x : Int} (h : Gok base g G a0 len cap M N S w) : Gok base g G a0 len cap M N { S with ret := x } (w.setCell ⟨G, 2, none⟩ (.int .i64 x)) ∧ Mov g G M M w (w.setCell ⟨G, 2, none⟩ (.int .i64 x)) := by
 have hbn := h.bn
 refine h.grew (Nat.le_refl _) (fun b hb hn => Below.heap_setCell _ _ _ _ hn) (by simp [World.setCell]) rfl rfl rfl (fun _ _ => rfl) (fun b T m hb hm => by rw [h.th.none hb] at hm; cases hm) ?_ ⟨rfl, rfl, rfl, rfl, rfl, rfl, rfl, rfl, rfl, rfl, rfl⟩ h.ids (by dsimp only; omega)
 exact (heap_set h.cells).trans rfl
theorem FnIn.start {rv sv : Value} {nr : Nat} (h : FnIn base g a0 len cap M rv sv nr v) (R : Obj) : Gok base g (v.heap.size + 1) a0 len cap M 10 (grec0 rv sv nr) ((v.alloc R).alloc (.cells (gcells g (grec0 rv sv nr)) 122)) := by
 have hb : Below v.heap.size v ((v.alloc R).alloc (.cells (gcells g (grec0 rv sv nr)) 122)) := ((Below.refl _ _).alloc (Nat.le_refl _) _).alloc (by simp) _
 have hk : ∀ b, (∃ p, M b = some p) → ((v.alloc R).alloc (.cells (gcells g (grec0 rv sv nr)) 122)).heap[b]? = v.heap[b]? := fun b hb' => hb.block b (h.th.lt hb').2
 have hgl := h.rd.lt
 have hbv := h.bv
 have hnr := h.nr2
 refine ⟨rd_keep h.rd hb.size fun b hb' => hb.block b (by omega), h.gb, Nat.le_trans h.bv hb.size, h.th.none (by omega), by omega, heap_alloc2_new _ _ _, h.th.keep (Nat.le_refl _) hk, .inl ⟨rfl, rfl⟩, .inl ⟨rfl, rfl⟩, .inl ⟨rfl, rfl⟩, .inl ⟨rfl, rfl⟩, .inl ⟨rfl, rfl, rfl⟩, h.rets, h.pars, by simp [grec0]; omega⟩
theorem par_law {n : Nat} (H : Gok base g G a0 len cap M' (10 + 2 * n) S' w) (hn : S'.np = n) (hn2 : n ≤ 2) (x : Int) : ∀ ty, ∃ s' w' M2, (Builtin.append_ #[24, 24] ty #[S'.pv, .slice (some ⟨w.heap.size, 0, none⟩) 1 1]).run Tryd.prog (w.alloc (.cells #[.int .i64 x] 2)) = .ok s' w' ∧ (∃ g' cap', s' = .slice (some ⟨g', 0, none⟩) (S'.np + 1) cap' ∧ M2 = put M' g' 2 (S'.np + 1) ∧ Pushed base M' M2 (10 + 2 * n + 1) 2 S'.np (w.alloc (.cells #[.int .i64 x] 2)) w' s' ∧ (∀ b, b ≠ g' → b < (w.alloc (.cells #[.int .i64 x] 2)).heap.size → w'.heap[b]? = (w.alloc (.cells #[.int .i64 x] 2)).heap[b]?) ∧ (S'.pv.ownBlock = some g' ∨ (w.alloc (.cells #[.int .i64 x] 2)).heap.size ≤ g') ∧ ∃ xs, (w.alloc (.cells #[.int .i64 x] 2)).ownsRow base 2 (szT 2) S'.pv S'.np xs ∧ w'.ownsRow base 2 (szT 2) s' (S'.np + 1) (xs ++ [.int .i64 x])) := fun ty => by
 obtain ⟨i0, hi, hz0, hz1, hz2⟩ := info_parts info1
 have B1 : Below w.heap.size w (w.alloc (.cells #[.int .i64 x] 2)) := (Below.refl _ _).alloc (Nat.le_refl _) _
 obtain ⟨H1, _⟩ := H.below B1
 exact run_row3 i0 _ 8 Tryd.underlying24 hi hz0 hz1 hz2 (by decide) (by omega) H1.p H1.th (by omega) (.inl rfl) H1.bv (by omega) ⟨w.heap.size, 0, none⟩ 1 [.int .i64 x] rfl (one_of (heap_alloc_last w _)) (by simp [Value.oneCell']) (fun M2 _ => el_int (z := x) rfl)
theorem fn_end {R : Nat} {up ub : Option Addr} {np cp nb cb : Nat} {ret : Int} (h : Gok base g G a0 len cap M' N S' w) (hN : N ≤ 400) (hR : M' R = none) (hgR : g < R) (e1 : S'.pv = .slice up np cp) (e2 : S'.bv = .slice ub nb cb) (hn1 : S'.np = np) (hn2 : S'.nb = nb) (hp : PW w S') :
  TH base M' 400 (((w.setCell ⟨R, 0, none⟩ (.slice up np cp)).setCell ⟨R, 1, none⟩ (.int .i64 ret)).setCell ⟨R, 2, none⟩ (.slice ub nb cb)) ∧ SlN M' 2 (.slice up np cp) np ∧ SlN M' 41 (.slice ub nb cb) nb ∧ nb ≤ 400 ∧ (∀ k, k < np → ∃ x : Int, rowAt (((w.setCell ⟨R, 0, none⟩ (.slice up np cp)).setCell ⟨R, 1, none⟩ (.int .i64 ret)).setCell ⟨R, 2, none⟩ (.slice ub nb cb)) (.slice up np cp) k = some (.int .i64 x) ∧ (x = 1 ∨ x = 8 ∨ x = 16 ∨ x = 32)) ∧ Rd g a0 len cap (((w.setCell ⟨R, 0, none⟩ (.slice up np cp)).setCell ⟨R, 1, none⟩ (.int .i64 ret)).setCell ⟨R, 2, none⟩ (.slice ub nb cb)) := by
 subst hn1 hn2
 have hset : ∀ b, b ≠ R → (((w.setCell ⟨R, 0, none⟩ (.slice up S'.np cp)).setCell ⟨R, 1, none⟩ (.int .i64 ret)).setCell ⟨R, 2, none⟩ (.slice ub S'.nb cb)).heap[b]? = w.heap[b]? := fun b hb => by rw [Below.heap_setCell _ _ _ _ hb, Below.heap_setCell _ _ _ _ hb, Below.heap_setCell _ _ _ _ hb]
 have hk : ∀ b, (∃ p, M' b = some p) → (((w.setCell ⟨R, 0, none⟩ (.slice up S'.np cp)).setCell ⟨R, 1, none⟩ (.int .i64 ret)).setCell ⟨R, 2, none⟩ (.slice ub S'.nb cb)).heap[b]? = w.heap[b]? := fun b hb => hset b fun e => by
  obtain ⟨p, hb⟩ := hb
  rw [e, hR] at hb; cases hb
 have hs1 : SlN M' 2 (.slice up S'.np cp) S'.np := by rw [← e1]; exact h.p.sl
 have hs2 : SlN M' 41 (.slice ub S'.nb cb) S'.nb := by rw [← e2]; exact h.b.sl
 have hbn := h.bn
 refine ⟨h.th.keep hN hk, hs1, hs2, by omega, fun k hk' => ?_, rd_keep h.rd (by simp [World.setCell]) fun b hb => hset b (by omega)⟩
 obtain ⟨x, h1, h2⟩ := hp k hk'
 refine ⟨x, ?_, h2⟩
 rw [rowAt_hold hs1 (by omega) fun b m hb => hk b ⟨_, hb⟩, ← e1]
 exact h1
set_option maxHeartbeats 4000000 in
set_option maxRecDepth 100000 in
theorem fn_any (base g : Nat) (a0 : Option Addr) (len cap : Nat) (M : Tmap) (ur us : Option Addr) (nr cr cs : Nat) (v : World) (h : FnIn base g a0 len cap M (.slice ur nr cr) (.slice us nr cs) nr v) :
  Calls Tryd.prog 43 #[.pointer (some ⟨g, 0, none⟩), .slice ur nr cr, .slice us nr cs] v fun e w' => ∃ up np cp ret ub nb cb, e = .returned (.agg #[.slice up np cp, .int .i64 ret, .slice ub nb cb]) ∧ ∃ M2, TH base M2 400 w' ∧ SlN M2 2 (.slice up np cp) np ∧ SlN M2 41 (.slice ub nb cb) nb ∧ np ≤ 2 ∧ (1 ≤ nb ∧ nb ≤ 400) ∧ (ret = 1 ∨ ret = 8 ∨ ret = 16 ∨ ret = 32) ∧ (∀ k, k < np → ∃ x : Int, rowAt w' (.slice up np cp) k = some (.int .i64 x) ∧ (x = 1 ∨ x = 8 ∨ x = 16 ∨ x = 32)) ∧ Rd g a0 len cap w' ∧ (∀ b, b < v.heap.size → b ≠ g → w'.heap[b]? = v.heap[b]?) ∧ w'.os = v.os ∧ w'.tape = v.tape ∧ w'.output = v.output ∧ v.heap.size ≤ w'.heap.size ∧ (∀ b T m, M b = some (T, m) → M2 b = some (T, m)) := by
 have H1 := h.start (.cells #[.slice none 0 0, .int .i64 0, .slice none 0 0] 27)
 have hR : ((v.alloc (.cells #[.slice none 0 0, .int .i64 0, .slice none 0 0] 27)).alloc (.cells (gcells g (grec0 (.slice ur nr cr) (.slice us nr cs) nr)) 122)).heap[v.heap.size]? = some (.cells #[.slice none 0 0, .int .i64 0, .slice none 0 0] 27 (0, 0)) := heap_alloc2_old _ _ _
 have hl : ∀ x, (∃ p, M x = some p) → x < v.heap.size := fun x hx => (h.th.lt hx).2
 have hall : Below v.heap.size v ((v.alloc (.cells #[.slice none 0 0, .int .i64 0, .slice none 0 0] 27)).alloc (.cells (gcells g (grec0 (.slice ur nr cr) (.slice us nr cs) nr)) 122)) := ((Below.refl _ _).alloc (Nat.le_refl _) _).alloc (by simp) _
 have HP : ParW M (grec0 (.slice ur nr cr) (.slice us nr cs) nr) ((v.alloc (.cells #[.slice none 0 0, .int .i64 0, .slice none 0 0] 27)).alloc (.cells (gcells g (grec0 (.slice ur nr cr) (.slice us nr cs) nr)) 122)) := ParW.at (g := g) (G := v.heap.size + 1) h.par rfl rfl ⟨Ext.refl _, fun b hb _ _ hn => ⟨hall.block b hb, hn⟩, fun b T m hb _ => ⟨hall.block b (hl b ⟨_, hb⟩), hb⟩, hall.os, hall.tape, hall.output, hall.size⟩
 have hbv := h.bv
 have hty := h.ty
 have hgb := h.gb
 have hMR : M v.heap.size = none := h.th.none (Nat.le_refl _)
 go_enter Tryd.func43, Tryd.ntmps43
 go_wp2_with fail
 change Calls _ _ _ ((v.alloc (.cells #[.slice none 0 0, .int .i64 0, .slice none 0 0] 27)).alloc (.cells (gcells g (grec0 (.slice ur nr cr) (.slice us nr cs) nr)) 122)) _
 generalize hv1 : (v.alloc (.cells #[.slice none 0 0, .int .i64 0, .slice none 0 0] 27)).alloc (.cells (gcells g (grec0 (.slice ur nr cr) (.slice us nr cs) nr)) 122) = v1 at H1 hR hall HP ⊢
 generalize hG : v.heap.size + 1 = G at H1 ⊢
 have hGR : v.heap.size ≠ G := by omega
 go_wp2_with (first | (go_at_call 64; refine (width_any g a0 len cap _ H1.rd).mono ?_; rintro e w1 ⟨x, rfl, hx, hr1, hg1⟩; obtain ⟨H2, V2⟩ := H1.read hr1 hg1; have c2 : w1.cell? ⟨G, 2, none⟩ = some (.int .i64 0) := (gcell H2.cells 2).1.trans rfl; have z2 := (gcell H2.cells 2).2; obtain ⟨H3, V3⟩ := H2.setRet (x := x); clear hr1 hg1) | (go_at_call 42; refine (below_any g a0 len cap _ _ H3.rd).mono ?_; rintro e w2 ⟨n2, rfl, hn0, hn1, hr2, hg2⟩; obtain ⟨k2, rfl⟩ := Int.eq_ofNat_of_zero_le hn0; obtain ⟨H4, V4⟩ := H3.read hr2 hg2; have B0 : Bg base g G a0 len cap M v1 0 x (.slice ur nr cr) (.slice us nr cs) nr w2 := ⟨M, _, H4, rfl, rfl, rfl, rfl, rfl, fun k hk => absurd hk (Nat.not_lt_zero k), ((V2.trans V3).trans V4).mv, fun q hq => (by cases hq)⟩; clear c2 z2 H2 V2 V3 H3 V4 H4 hr2 hg2 H1))
 have HL : Hid (∀ y, (∃ p, M y = some p) → y < v1.heap.size) := fun y hy => Nat.lt_of_lt_of_le (hl y hy) hall.size
 go_loopw [8] (fun i wr => ∃ k n : Nat, i = .int .i64 k ∧ n + k ≤ 2 ∧ Bg base g G a0 len cap M v1 n x (.slice ur nr cr) (.slice us nr cs) nr wr) (fun i _ => (intOf i).toNat)
 case atStart => exact ⟨k2, 0, rfl, by omega, B0⟩
 case round =>
  clear B0
  obtain ⟨k, n, rfl, hkn, ⟨M', S', Hs, hn, hret, hrv, hsv, hnr, hpw, hv, ho⟩⟩ := hrel
  subst hn
  by_cases hk : 0 < k
  ·go_wp2_with (first | (go_at_call 64; refine (width_any g a0 len cap _ Hs.rd).mono ?_; rintro e w3 ⟨x3, rfl, hx3, hr3, hg3⟩; obtain ⟨H5, V5⟩ := Hs.read hr3 hg3; have hpw5 := hpw.mv (w2 := w3) Hs (Kept.refl _) (fun b m hb => (V5.hold b _ m hb (by decide)).1); have hv5 := hv.trans V5.mv; have c1 : w3.cell? ⟨G, 1, none⟩ = some S'.pv := (gcell H5.cells 1).1.trans rfl; have LAW : Hid _ := par_law H5 rfl (by omega) x3; have B1 : Below w3.heap.size w3 (w3.alloc (.cells #[.int .i64 x3] 2)) := (Below.refl _ _).alloc (Nat.le_refl _) _; clear hr3 hg3 hpw hv Hs V5) | (at_builtin; refine wpList_row rfl (.tmp 34) (.tmp 36) 24 rfl rfl rfl LAW.out ?_; intro s' w4 M4 hPC; obtain ⟨g', cap', rfl, rfl, hP, hb4, hg4, xs, hc1, hc2⟩ := hPC; obtain ⟨H6, V6⟩ := H5.below B1; have y0 := (hP.out G (by exact (Array.getElem?_eq_some_iff.1 H6.cells).1) H6.mG).1.trans H6.cells; have y1 : w4.cell? ⟨G, 1, none⟩ = some S'.pv := (gcell y0 1).1.trans rfl; have z1 := (gcell y0 1).2; obtain ⟨M6, S6, H7, q1, q2, q3, q4, q5, q6, q7, q8⟩ := par_more H6 rfl (by omega) HL.out hx3 ⟨hret, hrv, hsv, hnr⟩ (hpw5.mv (w2 := w3.alloc (.cells #[.int .i64 x3] 2)) H5 (Kept.refl _) (fun b m hb => (V6.hold b _ m hb (by decide)).1)) (hv5.trans V6.mv) ho hP hb4 hg4 hc1 hc2; have PA := add_any base g G a0 len cap M6 _ S6 x3 _ H7 (by omega); clear y0 hP hb4 hg4 hc1 hc2 c1 LAW H5 H6 V6 hv5 hpw5) | (go_at_call 65; refine PA.mono ?_; rintro e w5 ⟨n5, rfl, M5, S5, H8, hS5, V8⟩; clear y1 z1 PA))
   have hkp : Kept S6 S5 := by rw [hS5]; exact ⟨rfl, rfl, rfl, rfl, rfl, rfl⟩
   go_roundw
   case rel => exact ⟨k - 1, S'.np + 1, by first | go_num | (congr 1; omega), by omega, ⟨M5, S5, H8, by rw [hkp.2.1, q1], by rw [hkp.2.2.2.2.2, q2], by rw [hkp.2.2.1, q3], by rw [hkp.2.2.2.2.1, q4], by rw [hkp.2.2.2.1, q5], q6.mv H7 hkp (fun b m hb => (V8.hold b _ m hb (by decide)).1), q7.trans V8.mv, fun q hq => q8 q (by rw [← hkp.1]; exact hq)⟩⟩
   case measure => simp [intOf]; omega
  ·have hk0 : k = 0 := by omega
   have G0 : Gok base g G a0 len cap M' 14 S' wr := Hs.mono (by omega) (by omega)
   have h0 := G0.sb
   have HQ : Hid (ParW M' S' wr) := HP.at hnr hsv hv
   have hw : S'.ret = 1 ∨ S'.ret = 8 ∨ S'.ret = 16 ∨ S'.ret = 32 := by rw [hret]; exact hx
   have hRl : v.heap.size < v1.heap.size := (Array.getElem?_eq_some_iff.1 hR).1
   obtain ⟨hMR1, hMR2⟩ := hv.out v.heap.size hRl (by omega) hGR hMR
   have hRw : v.heap.size < wr.heap.size := Nat.lt_of_lt_of_le hRl hv.size
   have P1 := below_sb h0 5 (by omega)
   clear h0 hk
   go_wp2_with (first | (go_at_call 42; refine P1.mono ?_; rintro e wA ⟨kA, rfl, hkA, hA, vA⟩; have P2 := some_sb hA HQ.out (1 + kA) (by omega) (by omega); rw [show ((1 + kA : Nat) : Int) = 1 + (kA : Int) from (by omega)] at P2; clear P1) | (go_at_call 66; refine P2.mono ?_; rintro e wB ⟨⟨rB, rfl⟩, MB, SB, hB, sB, vB⟩; have P3 := below_sb hB 4 (by omega); clear P2) | (go_at_call 42; refine P3.mono ?_; rintro e wC ⟨kC, rfl, hkC, hC, vC⟩; have PF := fork_sb hC HQ.out (by omega); have PL := loop_sb hC HQ.out (by omega); have PB := below_sb hC 3 (by omega); clear P3) | (go_at_call 67; refine PF.mono ?_; rintro e wD ⟨⟨rD, rfl⟩, MD, SD, hD⟩; have PB := below_sb hD 3 (by omega); clear PF PL) | (go_at_call 68; refine PL.mono ?_; rintro e wD ⟨⟨rD, rfl⟩, MD, SD, hD⟩; have PB := below_sb hD 3 (by omega); clear PL) | (go_at_call 42; refine PB.mono ?_; rintro e wE ⟨kE, rfl, hkE, hE, vE⟩; have PS := some_sb hE HQ.out kE (by omega) (by omega); clear PB) | (go_at_call 66; refine PS.mono ?_; rintro e wF ⟨⟨rF, rfl⟩, MF, SF, hF, sF, vF⟩; have PE := ends_sb hF (by omega) hw; have PL := loop_sb hF HQ.out (by omega); clear PS) | (go_at_call 69; refine PE.mono ?_; rintro e wH ⟨⟨rH, rfl⟩, MH, SH, hH, hH1⟩; obtain ⟨up, cp, e1, _⟩ := hH.1.p.sl; obtain ⟨ub, cb, e2, _⟩ := hH.1.b.sl; have d1 : wH.cell? ⟨G, 1, none⟩ = some (.slice up SH.np cp) := (by rw [← e1]; exact (gcell hH.1.cells 1).1.trans rfl); have d2 : wH.cell? ⟨G, 2, none⟩ = some (.int .i64 SH.ret) := (gcell hH.1.cells 2).1.trans rfl; have d3 : wH.cell? ⟨G, 3, none⟩ = some (.slice ub SH.nb cb) := (by rw [← e2]; exact (gcell hH.1.cells 3).1.trans rfl); obtain ⟨oR1, oR2⟩ := hH.2.2.out v.heap.size hRw (by omega) hGR hMR2; have eR : wH.heap[v.heap.size]? = some (.cells #[.slice none 0 0, .int .i64 0, .slice none 0 0] 27 (0, 0)) := oR1.trans (hMR1.trans hR); have b0 : wH.cell? ⟨v.heap.size, 0, none⟩ = some (.slice none 0 0) := (cell_of_heap eR).trans rfl; have b1 : wH.cell? ⟨v.heap.size, 1, none⟩ = some (.int .i64 0) := (cell_of_heap eR).trans rfl; have b2 : wH.cell? ⟨v.heap.size, 2, none⟩ = some (.slice none 0 0) := (cell_of_heap eR).trans rfl; have s0 : wH.frozen? ⟨v.heap.size, 0, none⟩ = false := (by simp [World.frozen?, eR]); have s1 : wH.frozen? ⟨v.heap.size, 1, none⟩ = false := (by simp [World.frozen?, eR]); have s2 : wH.frozen? ⟨v.heap.size, 2, none⟩ = false := (by simp [World.frozen?, eR]); have HZ : Hid _ := hH; have HE : Hid _ := eR; clear hH eR PE PL oR1))
   all_goals
    have hr := heap_set (o := 2) (v := .slice ub SH.nb cb) (heap_set (o := 1) (v := .int .i64 SH.ret) (heap_set (o := 0) (v := .slice up SH.np cp) HE.out))
    have hz := HZ.out
    have hkp := hz.2.1
    have PZ : PW wH SH := hpw.mv G0 hkp (fun b m hb => (hz.2.2.hold b _ m hb (.inl rfl)).1)
    obtain ⟨r1, r2, r3, r4, r5, r6⟩ := fn_end (ret := SH.ret) hz.1 (by omega) oR2 (by omega) e1 e2 rfl rfl PZ
    refine bodyPost_ret (v := .agg #[.slice up SH.np cp, .int .i64 SH.ret, .slice ub SH.nb cb]) ((results_cell_row Tryd.results43 _ _ v.heap.size 27 _ (0, 0) _ rfl hr Tryd.underlying27 rfl (by kernel_rfl)).trans (by rfl)) rfl ⟨up, SH.np, cp, SH.ret, ub, SH.nb, cb, rfl, MH, r1, r2, r3, by rw [hkp.2.1]; omega, ⟨hH1, r4⟩, by rw [hkp.2.2.2.2.2]; exact hw, r5, r6, fun b hb hbg => ?_, ?_, ?_, ?_, ?_, fun b T m hb => (hz.2.2.hold b T m ((hv.hold b T m hb (hty b T m hb)).2) (hty b T m hb)).2⟩
    ·have hbR : b ≠ v.heap.size := by omega
     rw [Below.heap_setCell _ _ _ _ hbR, Below.heap_setCell _ _ _ _ hbR, Below.heap_setCell _ _ _ _ hbR, ← hall.block b hb]
     have hb1 : b < v1.heap.size := by omega
     cases e : M b with
     | none =>
      obtain ⟨t1, t2⟩ := hv.out b hb1 hbg (by omega) e
      exact (hz.2.2.out b (Nat.lt_of_lt_of_le hb1 hv.size) hbg (by omega) t2).1.trans t1
     | some p =>
      obtain ⟨T, m⟩ := p
      obtain ⟨t1, t2⟩ := hv.hold b T m e (hty b T m e)
      exact (hz.2.2.hold b T m t2 (hty b T m e)).1.trans t1
    ·exact (set_os _ _ _).trans ((set_os _ _ _).trans ((set_os _ _ _).trans (hz.2.2.os.trans (hv.os.trans hall.os))))
    ·exact (set_tape _ _ _).trans ((set_tape _ _ _).trans ((set_tape _ _ _).trans (hz.2.2.tape.trans (hv.tape.trans hall.tape))))
    ·exact (set_output _ _ _).trans ((set_output _ _ _).trans ((set_output _ _ _).trans (hz.2.2.output.trans (hv.output.trans hall.output))))
    ·simp only [World.size_setCell]
     exact Nat.le_trans hall.size (Nat.le_trans hv.size hz.2.2.size)
end Go.Proofs.YtenbodghkpbghaaDoor
