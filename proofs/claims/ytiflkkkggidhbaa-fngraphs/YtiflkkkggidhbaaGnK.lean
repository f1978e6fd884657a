/- A function that grows: one more phi. -/
import Derived.Test.YtiflkkkggidhbaaGnI
namespace Go.Proofs.Ytiflkkkggidhbaa
open Go.RowKit Go.Deep
set_option linter.unusedVariables false

/-- Lists of numbers, and of such lists, stayed; other rows may have grown. -/
structure Mv (g G : Nat) (M M' : Tmap) (v v' : World) : Prop where
  ext : Ext M M'
  out : ∀ b, b < v.heap.size → b ≠ g → b ≠ G → M b = none → v'.heap[b]? = v.heap[b]? ∧ M' b = none
  hold : ∀ b T m, M b = some (T, m) → (T = 2 ∨ T = 24) → v'.heap[b]? = v.heap[b]? ∧ M' b = some (T, m)
  os : v'.os = v.os
  tape : v'.tape = v.tape
  output : v'.output = v.output
  size : v.heap.size ≤ v'.heap.size
theorem Mov.mv {g G : Nat} {M M' : Tmap} {v v' : World} (h : Mov g G M M' v v') : Mv g G M M' v v' :=
  ⟨h.ext, h.out, fun b T m hb hT => h.hold b T m hb (by rcases hT with rfl | rfl <;> decide), h.os, h.tape, h.output, h.size⟩
theorem Mv.refl (g G : Nat) (M : Tmap) (v : World) : Mv g G M M v v := (Mov.refl g G M v).mv
theorem Mv.trans {g G : Nat} {A B C : Tmap} {a b c : World} (h : Mv g G A B a b) (k : Mv g G B C b c) : Mv g G A C a c :=
  ⟨h.ext.trans k.ext, fun x hx h1 h2 h3 => by
    obtain ⟨e1, e2⟩ := h.out x hx h1 h2 h3
    obtain ⟨f1, f2⟩ := k.out x (Nat.lt_of_lt_of_le hx h.size) h1 h2 e2
    exact ⟨f1.trans e1, f2⟩, fun x T m hx hT => by
    obtain ⟨e1, e2⟩ := h.hold x T m hx hT
    obtain ⟨f1, f2⟩ := k.hold x T m e2 hT
    exact ⟨f1.trans e1, f2⟩, k.os.trans h.os, k.tape.trans h.tape, k.output.trans h.output, Nat.le_trans h.size k.size⟩
theorem infoP : (Try.prog.info? 49).map (fun i => (i.zero, i.size, i.bytes)) = some (some (.agg #[.int .i64 0, .slice none 0 0]), 2, 32) := by kernel_rfl
theorem two_of {w : World} {L : Nat} {x0 x1 : Value} {T : TypeId} (hL : w.heap[L]? = some (.cells #[x0, x1] T (0, 0))) : ∀ j u, [x0, x1][j]? = some u → w.cell? ((⟨L, 0, none⟩ : Addr).add j) = some u := fun j u hj => by
  rw [Addr.add_lit, cell_of_heap hL, Nat.zero_add, ← hj]
  rcases j with _ | _ | j <;> rfl
theorem el_phi {M : Tmap} {N : Nat} {x : Int} {s : Value} (h : SlV M N 2 s) : ∀ M', Ext M M' → ElOk M' (N + 1) 49 (fun j => [.int .i64 x, s][j]?) := fun M' he =>
  ⟨fun q => absurd q (by decide), fun q => absurd q (by decide), fun _ => ⟨⟨_, rfl⟩, s, rfl, h.ext he (by omega)⟩, fun q => absurd q (by decide), fun q => absurd q (by decide)⟩
theorem Gok.pushP {base g G len cap N : Nat} {a0 : Option Addr} {M M' : Tmap} {S : GRec} {v w2 : World} {s' : Value} (h : Gok base g G a0 len cap M N S v) (hN : N < 10000) (k : Pushed base M M' (N + 1) 49 S.nph v w2 s') :
    Gok base g G a0 len cap M' (N + 1) { S with phv := s', nph := S.nph + 1 } (w2.setCell ⟨G, 4, none⟩ s') ∧ Mv g G M M' v (w2.setCell ⟨G, 4, none⟩ s') := by
  have hGl := (Array.getElem?_eq_some_iff.1 h.cells).1
  obtain ⟨o1, o2⟩ := k.out G hGl h.mG
  have hbn := h.bn
  have hset : ∀ b, b ≠ G → (w2.setCell ⟨G, 4, none⟩ s').heap[b]? = w2.heap[b]? := fun b hb => Below.heap_setCell _ _ _ _ hb
  have hne : ∀ b, (∃ p, M' b = some p) → b ≠ G := fun b hb e => by
    obtain ⟨p, hb⟩ := hb
    rw [e, o2] at hb; cases hb
  have hk : ∀ b, (∃ p, M' b = some p) → (w2.setCell ⟨G, 4, none⟩ s').heap[b]? = w2.heap[b]? := fun b hb => hset b (hne b hb)
  have hsz : (w2.setCell ⟨G, 4, none⟩ s').heap.size = w2.heap.size := by simp [World.setCell]
  refine ⟨⟨rd_keep h.rd (by rw [hsz]; exact k.size) fun b hb => ?_, h.gb, by rw [hsz]; exact Nat.le_trans h.bv k.size, o2, h.nG, (heap_set (o1.trans h.cells)).trans rfl, k.th.keep (Nat.le_refl _) hk, (k.row2 h.p (by decide)).keep hk, (k.row2 h.b (by decide)).keep hk, k.row.keep hk, (k.row2 h.i (by decide)).keep hk, ?_, h.rets.ext k.ext, h.pars.ext k.ext, by dsimp only; omega⟩, ⟨k.ext, fun b hb h1 h2 h3 => ?_, fun b T m hb hT => ?_, k.os, k.tape, k.output, by rw [hsz]; exact k.size⟩⟩
  · have hbg : b < base := Nat.lt_of_le_of_lt hb h.gb
    have hn : M b = none := by
      cases e : M b with
      | none => rfl
      | some p => have := (h.th.lt ⟨p, e⟩).1; omega
    exact (hset b (by have := h.nG; omega)).trans (k.out b (by have := h.bv; omega) hn).1
  · rcases h.ids with hi | ⟨h1, h2, h3⟩
    · exact .inl hi
    · exact .inr ⟨h1, h2.ext k.ext, h3.ext k.ext⟩
  · obtain ⟨e1, e2⟩ := k.out b hb h3
    exact ⟨(hset b h2).trans e1, e2⟩
  · obtain ⟨e1, e2⟩ := k.other b T m hb (by rcases hT with rfl | rfl <;> decide)
    exact ⟨(hk b ⟨_, e2⟩).trans e1, e2⟩
set_option maxHeartbeats 2000000 in
set_option maxRecDepth 100000 in
theorem phi_any (base g G : Nat) (a0 : Option Addr) (len cap : Nat) (M : Tmap) (N : Nat) (S : GRec) (x : Int) (u : Option Addr) (na q : Nat) (v : World) (h : Gok base g G a0 len cap M N S v) (hN : N + 2 ≤ 10000) (hav : SlN M 2 (.slice u na q) na) (hna : na ≤ N) :
    Calls Try.prog 74 #[.pointer (some ⟨G, 0, none⟩), .int .i64 x, .slice u na q] v fun e v' => ∃ n : Int, e = .returned (.int .i64 n) ∧ ∃ M' S', Gok base g G a0 len cap M' (N + 2) S' v' ∧ (∃ s', S' = { S with phv := s', nph := S.nph + 1, idv := S'.idv, wsv := S'.wsv, nid := S.nid + 1, nx := S.nx + 1 }) ∧ Mv g G M M' v v' := by
  obtain ⟨i0, hi, hz0, hz1, hz2⟩ := info_parts infoP
  have hbn := h.bn
  have hGl := (Array.getElem?_eq_some_iff.1 h.cells).1
  have B1 : Below v.heap.size v (v.alloc (.cells #[.int .i64 x, .slice u na q] 49)) := (Below.refl _ _).alloc (Nat.le_refl _) _
  have HH : Hid (Gok base g G a0 len cap M N S (v.alloc (.cells #[.int .i64 x, .slice u na q] 49)) ∧ Mov g G M M v (v.alloc (.cells #[.int .i64 x, .slice u na q] 49))) := h.below B1
  have LAW : Hid (∀ ty, ∃ s' w' M', (Builtin.append_ #[42, 42] ty #[S.phv, .slice (some ⟨v.heap.size, 0, none⟩) 1 1]).run Try.prog (v.alloc (.cells #[.int .i64 x, .slice u na q] 49)) = .ok s' w' ∧ Pushed base M M' (N + 1) 49 S.nph (v.alloc (.cells #[.int .i64 x, .slice u na q] 49)) w' s') := fun ty =>
    run_row i0 _ 32 Try.underlying42 hi hz0 hz1 hz2 (by decide) (by omega) HH.out.1.ph HH.out.1.th (by omega) (.inr (.inr (.inl rfl))) HH.out.1.bv (by omega) ⟨v.heap.size, 0, none⟩ 1 [.int .i64 x, .slice u na q] rfl (two_of (heap_alloc_last v _)) (by simp [Value.oneCell']) (el_phi ⟨na, hna, hav⟩)
  have c4 : v.cell? ⟨G, 4, none⟩ = some S.phv := (gcell h.cells 4).1.trans rfl
  clear hi hz0 hz1 hz2
  go_enter Try.func74, Try.ntmps74
  go_wp2_with (first | (at_builtin; refine wpList_row rfl (.tmp 12) (.tmp 16) 42 rfl rfl rfl LAW.out ?_; intro s' w2 M' hP; obtain ⟨gs, qs, rfl⟩ := hP.row.form; have y0 := (hP.out G (by exact Nat.lt_of_lt_of_le hGl B1.size) h.mG).1.trans ((B1.block G hGl).trans h.cells); have y4 : w2.cell? ⟨G, 4, none⟩ = some S.phv := (gcell y0 4).1.trans rfl; have z4 := (gcell y0 4).2; clear y0; obtain ⟨H2, V2⟩ := HH.out.1.pushP (by omega) hP; have A := add_any base g G a0 len cap M' (N + 1) _ x _ H2 (by omega)) | (go_at_call 63; refine A.mono ?_; rintro e w4 ⟨n, rfl, M4, S4, H4, hS4, V4⟩))
  go_ret
  refine ⟨n, rfl, M4, S4, H4, ⟨_, hS4⟩, (HH.out.2.mv.trans V2).trans V4.mv⟩
end Go.Proofs.Ytiflkkkggidhbaa
