/- A function that grows: a fork. -/
import Derived.Test.YtjmoonbpfieifaaGreatDoorGnOQ
import Derived.Test.YtjmoonbpfieifaaGreatDoorGnJ
namespace Go.Proofs.YtjmoonbpfieifaaGreatDoor
open Go.RowKit Go.Deep
set_option linter.unusedVariables false

variable {base g G len cap N j : Nat} {a0 : Option Addr} {M M' : Tmap} {S S' : GRec} {v w : World}
theorem some_sb (h : Sb base g G a0 len cap M N S v j M' S' w) (hp : ParW M S v) (n : Nat) (hn : n ≤ 10) (hN : N + j + 10 * n ≤ 10000) :
    Calls Tryz.prog 79 #[.pointer (some ⟨G, 0, none⟩), .int .i64 n] w fun e w' => (∃ r, e = .returned r) ∧ ∃ M2 S2, Sb base g G a0 len cap M N S v (j + 10 * n) M2 S2 w' ∧ Same S' S2 ∧ Mov g G M' M2 w w' := by
  refine (some_any base g G a0 len cap M' (N + j) S' w h.1 (hp.mv h.2.1 h.2.2) n hn hN).mono ?_
  rintro e w' ⟨hr, M2, S2, H2, hS2, V2⟩
  exact ⟨hr, M2, S2, ⟨by rw [← Nat.add_assoc]; exact H2, h.2.1.trans hS2.kept, h.2.2.trans V2.mv⟩, hS2, V2⟩
theorem below_sb (h : Sb base g G a0 len cap M N S v j M' S' w) (m : Int) (hm : 1 ≤ m) :
    Calls Tryz.prog 36 #[.pointer (some ⟨g, 0, none⟩), .int .i64 m] w fun e w' => ∃ k : Nat, e = .returned (.int .i64 k) ∧ (k : Int) < m ∧ Sb base g G a0 len cap M N S v j M' S' w' ∧ Mov g G M' M' w w' := by
  refine (below_any g a0 len cap m w h.1.rd).mono ?_
  rintro e w' ⟨n, rfl, h0, h1, hr', hg'⟩
  obtain ⟨k, rfl⟩ := Int.eq_ofNat_of_zero_le h0
  exact ⟨k, rfl, by omega, h.read hr' hg', (h.1.read hr' hg').2⟩
theorem width_sb (h : Sb base g G a0 len cap M N S v j M' S' w) :
    Calls Tryz.prog 77 #[.pointer (some ⟨g, 0, none⟩)] w fun e w' => ∃ x : Int, e = .returned (.int .i64 x) ∧ (x = 1 ∨ x = 8 ∨ x = 16 ∨ x = 32) ∧ Sb base g G a0 len cap M N S v j M' S' w' ∧ Mov g G M' M' w w' := by
  refine (width_any g a0 len cap w h.1.rd).mono ?_
  rintro e w' ⟨n, rfl, h0, hr', hg'⟩
  exact ⟨n, rfl, h0, h.read hr' hg', (h.1.read hr' hg').2⟩
/-- The ids that are seen. -/
def Idf (M : Tmap) (S : GRec) : Prop := (S.idv = .slice none 0 0 ∧ S.wsv = .slice none 0 0 ∧ S.nid = 0) ∨ (0 < S.nid ∧ SlN M 2 S.idv S.nid ∧ SlN M 2 S.wsv S.nid)
theorem Idf.ext (h : Idf M S) (k : Ext M M') : Idf M' S := by
  rcases h with h | ⟨h1, h2, h3⟩
  · exact .inl h
  · exact .inr ⟨h1, h2.ext k, h3.ext k⟩
theorem Idf.form (h : Idf M S) : ∃ u c u' c', S.idv = .slice u S.nid c ∧ S.wsv = .slice u' S.nid c' := by
  rcases h with ⟨h1, h2, h3⟩ | ⟨_, ⟨u, c, h2, _⟩, ⟨u', c', h3, _⟩⟩
  · exact ⟨none, 0, none, 0, by rw [h1, h3], by rw [h2, h3]⟩
  · exact ⟨u, c, u', c', h2, h3⟩
/-- What was seen is seen again. -/
def Seeing (S S1 : GRec) : GRec := { S with idv := S1.idv, wsv := S1.wsv, nid := S1.nid }
theorem Gok.restore {S1 : GRec} (h : Gok base g G a0 len cap M N S w) (hi : Idf M S1) (hn : S1.nid ≤ N) :
    Gok base g G a0 len cap M N (Seeing S S1) ((w.setCell ⟨G, 11, none⟩ S1.idv).setCell ⟨G, 12, none⟩ S1.wsv) ∧ Mov g G M M w ((w.setCell ⟨G, 11, none⟩ S1.idv).setCell ⟨G, 12, none⟩ S1.wsv) := by
  have hbn := h.bn
  refine h.grew (Nat.le_refl _) (fun b hb hn => by rw [Below.heap_setCell _ _ _ _ hn, Below.heap_setCell _ _ _ _ hn]) (by simp [World.setCell]) rfl rfl rfl (fun _ _ => rfl) (fun b T m hb hm => by rw [h.th.none hb] at hm; cases hm) ?_ ⟨rfl, rfl, rfl, rfl, rfl, rfl, rfl, rfl, rfl, rfl, rfl⟩ hi (by unfold Seeing; dsimp only; omega)
  exact (heap_set (heap_set h.cells)).trans rfl
theorem Sb.restore {S1 : GRec} (h : Sb base g G a0 len cap M N S v j M' S' w) (hi : Idf M' S1) (hn : S1.nid ≤ N + j) :
    Sb base g G a0 len cap M N S v j M' (Seeing S' S1) ((w.setCell ⟨G, 11, none⟩ S1.idv).setCell ⟨G, 12, none⟩ S1.wsv) ∧ Mov g G M' M' w ((w.setCell ⟨G, 11, none⟩ S1.idv).setCell ⟨G, 12, none⟩ S1.wsv) := by
  obtain ⟨h1, h2⟩ := h.1.restore hi hn
  exact ⟨⟨h1, h.2.1.trans ⟨rfl, rfl, rfl, rfl, rfl, rfl⟩, h.2.2.trans h2.mv⟩, h2⟩
/-- The cells that this writes. -/
theorem seen_cells (h : Gok base g G a0 len cap M N S w) (x : Value) : (w.cell? ⟨G, 11, none⟩ = some S.idv ∧ w.frozen? ⟨G, 11, none⟩ = false) ∧ (w.setCell ⟨G, 11, none⟩ x).cell? ⟨G, 12, none⟩ = some S.wsv ∧ (w.setCell ⟨G, 11, none⟩ x).frozen? ⟨G, 12, none⟩ = false := by
  have q1 : (w.setCell ⟨G, 11, none⟩ x).heap[G]? = some (.cells (gcells g { S with idv := x }) 131 (0, 0)) := (heap_set h.cells).trans rfl
  exact ⟨⟨(gcell h.cells 11).1.trans rfl, (gcell h.cells 11).2⟩, (gcell q1 12).1.trans rfl, (gcell q1 12).2⟩
theorem Mv.adopt {q n : Nat} {T0 : TypeId} {A B : Tmap} {a b : World} (h : Mv g G A B a b) (hq : a.heap.size ≤ q) (hl : ∀ x, (∃ p, A x = some p) → x < a.heap.size) (hB : B q = none) : Mv g G A (put B q T0 n) a b :=
  ⟨h.ext.trans (put_ext (.inl hB)), fun x hx h1 h2 h3 => by
    obtain ⟨e1, e2⟩ := h.out x hx h1 h2 h3
    exact ⟨e1, by unfold put; rw [if_neg (by omega)]; exact e2⟩, fun x T m hx hT => by
    obtain ⟨e1, e2⟩ := h.hold x T m hx hT
    have := hl x ⟨_, hx⟩
    exact ⟨e1, by unfold put; rw [if_neg (by omega)]; exact e2⟩, h.os, h.tape, h.output, h.size⟩
/-- A new list of two numbers. -/
theorem Sb.two (h : Sb base g G a0 len cap M N S v j M' S' w) (hl : ∀ x, (∃ p, M x = some p) → x < v.heap.size) (x y : Int) :
    Sb base g G a0 len cap M N S v j (put M' w.heap.size 2 2) S' (w.alloc (.cells #[.int .i64 x, .int .i64 y] 2)) ∧ SlN (put M' w.heap.size 2 2) 2 (.slice (some ⟨w.heap.size, 0, none⟩) 2 2) 2 := by
  have hb : Below w.heap.size w (w.alloc (.cells #[.int .i64 x, .int .i64 y] 2)) := (Below.refl _ _).alloc (Nat.le_refl _) _
  obtain ⟨H1, V1⟩ := h.1.below hb
  have hM : M' w.heap.size = none := h.1.th.none (Nat.le_refl _)
  have hGl := (Array.getElem?_eq_some_iff.1 h.1.cells).1
  obtain ⟨H2, _, H3⟩ := H1.adopted (b := w.heap.size) (n := 2) h.1.bv (by omega) hM (heap_alloc_last w _) (fun i hi => by
    match i, hi with
    | 0, _ => exact ⟨x, rfl⟩
    | 1, _ => exact ⟨y, rfl⟩)
  exact ⟨⟨H2, h.2.1, (h.2.2.trans V1.mv).adopt h.2.2.size hl hM⟩, H3⟩
theorem close_sc (h : Sb base g G a0 len cap M N S v j M' S' w) (kd ta tx ty : Int) (hN : N + j + 1 ≤ 10000) :
    Calls Tryz.prog 98 #[.pointer (some ⟨G, 0, none⟩), .agg #[.int .i64 kd, .int .i64 ta, .int .i64 tx, .int .i64 ty]] w fun e w' => (∃ r, e = .returned r) ∧ ∃ M2 S2, Sb base g G a0 len cap M N S v (j + 1) M2 S2 w' ∧ Mv g G M' M2 w w' := by
  refine (close_sb h kd ta tx ty hN).mono ?_
  rintro e w' ⟨hr, M2, s', h2, v2⟩
  exact ⟨hr, M2, _, h2, v2⟩
set_option maxHeartbeats 4000000 in
set_option maxRecDepth 100000 in
theorem fork_any (base g G : Nat) (a0 : Option Addr) (len cap : Nat) (M : Tmap) (N : Nat) (S : GRec) (v : World) (h : Gok base g G a0 len cap M N S v) (hp : ParW M S v) (hN : N + 60 ≤ 10000) :
    Calls Tryz.prog 80 #[.pointer (some ⟨G, 0, none⟩)] v fun e v' => (∃ r, e = .returned r) ∧ ∃ M' S', Sb base g G a0 len cap M N S v 60 M' S' v' := by
  have hl : ∀ x, (∃ p, M x = some p) → x < v.heap.size := fun x hx => (h.th.lt hx).2
  have HL : Hid (∀ x, (∃ p, M x = some p) → x < v.heap.size) := hl
  have h0 := h.sb
  obtain ⟨ub, cb, eb, _⟩ := h.b.sl
  have c3 : v.cell? ⟨G, 3, none⟩ = some (.slice ub S.nb cb) := by rw [← eb]; exact (gcell h.cells 3).1.trans rfl
  have hbn := h.bn
  have HP : Hid (ParW M S v) := hp
  clear h hl hp eb
  go_enter Tryz.func80, Tryz.ntmps80
  go_wp2_with (first | (go_at_call 96; refine (pick_sb h0 _ (.inl rfl) (by omega)).mono ?_; rintro e w1 ⟨c, rfl, M1, S1, h1, s1, v1⟩; clear h0 c3) | (go_at_call 98; refine (close_sc h1 _ _ _ _ (by omega)).mono ?_; rintro e w2 ⟨⟨r2, rfl⟩, M2, S2, h2, v2⟩; have f2 := h2.cell0; have I2 : Idf M2 S2 := h2.1.ids; obtain ⟨ui, ci, uw, cw, ei, ew⟩ := I2.form; have c11 : w2.cell? ⟨G, 11, none⟩ = some (.slice ui S2.nid ci) := (by rw [← ei]; exact (gcell h2.1.cells 11).1.trans rfl); have c12 : w2.cell? ⟨G, 12, none⟩ = some (.slice uw S2.nid cw) := (by rw [← ew]; exact (gcell h2.1.cells 12).1.trans rfl); have n2 := h2.1.bn.2.2.2.2.1; clear h1) | (go_at_call 36; refine (below_sb h2 _ (by omega)).mono ?_; rintro e w3 ⟨k3, rfl, hk3, h3, v3⟩; clear f2 c11 c12 h2) | (go_at_call 79; refine (some_sb h3 HP.out k3 (by omega) (by omega)).mono ?_; rintro e w4 ⟨⟨r4, rfl⟩, M4, S4, h4, s4, v4⟩; have h4 := h4.mono (i := 23) (by omega) (by omega); have f4 := h4.cell0; clear h3) | (go_at_call 77; refine (width_sb h4).mono ?_; rintro e w5 ⟨x, rfl, hx, h5, v5⟩; clear f4 h4) | (go_at_call 96; refine (pick_sb h5 _ hx (by omega)).mono ?_; rintro e w6 ⟨a6, rfl, M6, S6, h6, s6, v6⟩; clear h5) | (go_at_call 96; refine (pick_sb h6 _ (.inr (.inl rfl)) (by omega)).mono ?_; rintro e w7 ⟨a7, rfl, M7, S7, h7, s7, v7⟩; clear h6) | (go_at_call 98; refine (close_sc h7 _ _ _ _ (by omega)).mono ?_; rintro e w8 ⟨⟨r8, rfl⟩, M8, S8, h8, v8⟩; have I8 := I2.ext ((((((v3.ext.trans v4.ext).trans v5.ext).trans v6.ext).trans v7.ext)).trans v8.ext); obtain ⟨R8, _⟩ := h8.restore I8 (by omega); obtain ⟨⟨y1, z1⟩, y2, z2⟩ := seen_cells h8.1 S2.idv; rw [ei] at R8 y2 z2; rw [ew] at R8; have f8 := R8.cell0; clear h7 h8) | (go_at_call 36; refine (below_sb R8 _ (by omega)).mono ?_; rintro e w9 ⟨k9, rfl, hk9, h9, v9⟩; clear f8 R8 y1 z1 y2 z2) | (go_at_call 79; refine (some_sb h9 HP.out k9 (by omega) (by omega)).mono ?_; rintro e w10 ⟨⟨r10, rfl⟩, M10, S10, h10, s10, v10⟩; have h10 := h10.mono (i := 48) (by omega) (by omega); have P10 := pick_sb h10 x hx (by omega); clear h9 h10) | (go_at_call 96; refine P10.mono ?_; rintro e w11 ⟨a11, rfl, M11, S11, h11, s11, v11⟩; have P11 := pick_sb h11 8 (.inr (.inl rfl)) (by omega); clear P10 h11) | (go_at_call 96; refine P11.mono ?_; rintro e w12 ⟨a12, rfl, M12, S12, h12, s12, v12⟩; clear P11) | (go_at_call 98; refine (close_sc h12 _ _ _ _ (by omega)).mono ?_; rintro e w13 ⟨⟨r13, rfl⟩, M13, S13, h13, v13⟩; have I13 := I8.ext ((((v9.ext.trans v10.ext).trans v11.ext).trans v12.ext).trans v13.ext); obtain ⟨R13, _⟩ := h13.restore I13 (by omega); obtain ⟨⟨y1, z1⟩, y2, z2⟩ := seen_cells h13.1 S2.idv; rw [ei] at R13 y2 z2; rw [ew] at R13; obtain ⟨T13, L13⟩ := R13.two HL.out a6 a11; simp only [World.size_setCell] at T13 L13; clear h12 h13) | (go_at_call 99; refine (phi_sb T13 _ _ 2 2 L13 (by omega) (by omega)).mono ?_; rintro e w14 ⟨n14, rfl, M14, S14, h14, _, _, _, _⟩; obtain ⟨T14, L14⟩ := h14.two HL.out a7 a12; clear y1 z1 y2 z2 T13 h14) | (go_at_call 99; refine (phi_sb T14 _ _ 2 2 L14 (by omega) (by omega)).mono ?_; rintro e w15 ⟨n15, rfl, M15, S15, h15, _, _, _, _⟩))
  exact bodyPost_end (results_none Tryz.results80 _ _ _) rfl ⟨⟨_, rfl⟩, M15, S15, h15.mono (by omega) (by omega)⟩
end Go.Proofs.YtjmoonbpfieifaaGreatDoor
