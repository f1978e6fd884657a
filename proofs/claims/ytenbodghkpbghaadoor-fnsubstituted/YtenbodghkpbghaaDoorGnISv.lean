import Derived.Test.YtenbodghkpbghaaDoorKndSv
namespace Go.Proofs.YtenbodghkpbghaaDoor
open Go.RowKit Go.Deep
set_option linter.unusedVariables false
def St (base g G : Nat) (a0 : Option Addr) (len cap : Nat) (M : Tmap) (N : Nat) (S : GRec) (v : World) (j : Nat) (w : World) : Prop := ∃ M' S', Gok base g G a0 len cap M' (N + j) S' w ∧ Same S S' ∧ Mov g G M M' v w
variable {base g G len cap N j : Nat} {a0 : Option Addr} {M : Tmap} {S : GRec} {v w : World}
theorem Gok.st (h : Gok base g G a0 len cap M N S v) : St base g G a0 len cap M N S v 0 v := ⟨M, S, h, Same.refl _, Mov.refl _ _ _ _⟩
theorem St.cell0 (h : St base g G a0 len cap M N S v j w) : w.cell? ⟨G, 0, none⟩ = some (.pointer (some ⟨g, 0, none⟩)) := by
 obtain ⟨M', S', H, _, _⟩ := h
 exact (gcell H.cells 0).1.trans rfl
theorem St.cell10 (h : St base g G a0 len cap M N S v j w) : ∃ nx : Int, w.cell? ⟨G, 10, none⟩ = some (.int .i64 nx) := by
 obtain ⟨M', S', H, _, _⟩ := h
 exact ⟨S'.nx, (gcell H.cells 10).1.trans rfl⟩
theorem St.glt (h : St base g G a0 len cap M N S v j w) : g < w.heap.size := by
 obtain ⟨M', S', H, _, _⟩ := h
 exact H.rd.lt
theorem St.mono {i : Nat} (h : St base g G a0 len cap M N S v j w) (hj : j ≤ i) (hN : N + i ≤ 10000) : St base g G a0 len cap M N S v i w := by
 obtain ⟨M', S', H, hS, V⟩ := h
 exact ⟨M', S', H.mono (by omega) hN, hS, V⟩
theorem St.below {w' : World} (h : St base g G a0 len cap M N S v j w) (k : Below w.heap.size w w') : St base g G a0 len cap M N S v j w' := by
 obtain ⟨M', S', H, hS, V⟩ := h
 obtain ⟨H2, V2⟩ := H.below k
 exact ⟨M', S', H2, hS, V.trans V2⟩
theorem St.alloc (h : St base g G a0 len cap M N S v j w) (o : Obj) : St base g G a0 len cap M N S v j (w.alloc o) := h.below ((Below.refl _ _).alloc (Nat.le_refl _) _)
theorem St.drew (h : St base g G a0 len cap M N S v j w) : St base g G a0 len cap M N S v j w.drew := h.below (Below.refl _ _).drew
theorem St.trans {i : Nat} {u : World} {M' : Tmap} {S' : GRec} (hG : Gok base g G a0 len cap M' (N + j) S' w) (hS : Same S S') (hV : Mov g G M M' v w) (k : St base g G a0 len cap M' (N + j) S' w i u) : St base g G a0 len cap M N S v (j + i) u := by
 obtain ⟨M2, S2, H2, hS2, V2⟩ := k
 exact ⟨M2, S2, by rw [← Nat.add_assoc]; exact H2, hS.trans hS2, hV.trans V2⟩
theorem St.read {w' : World} (h : St base g G a0 len cap M N S v j w) (hr : Rd g a0 len cap w') (k : w.grownBy w' (some g)) : St base g G a0 len cap M N S v j w' := by
 obtain ⟨M', S', H, hS, V⟩ := h
 obtain ⟨H2, V2⟩ := H.read hr k
 exact ⟨M', S', H2, hS, V.trans V2⟩
theorem below_st (h : St base g G a0 len cap M N S v j w) (m : Int) (hm : 1 ≤ m) :
  Calls Tryd.prog 42 #[.pointer (some ⟨g, 0, none⟩), .int .i64 m] w fun e w' => ∃ k : Nat, e = .returned (.int .i64 k) ∧ (k : Int) < m ∧ St base g G a0 len cap M N S v j w' ∧ w.grownBy w' (some g) := by
 have hr : Rd g a0 len cap w := by obtain ⟨M', S', H, _, _⟩ := h; exact H.rd
 refine (below_any g a0 len cap m w hr).mono ?_
 rintro e w' ⟨n, rfl, h0, h1, hr', hg'⟩
 obtain ⟨k, rfl⟩ := Int.eq_ofNat_of_zero_le h0
 exact ⟨k, rfl, by omega, h.read hr' hg', hg'⟩
theorem width_st (h : St base g G a0 len cap M N S v j w) :
  Calls Tryd.prog 64 #[.pointer (some ⟨g, 0, none⟩)] w fun e w' => ∃ x : Int, e = .returned (.int .i64 x) ∧ (x = 1 ∨ x = 8 ∨ x = 16 ∨ x = 32) ∧ St base g G a0 len cap M N S v j w' ∧ w.grownBy w' (some g) := by
 have hr : Rd g a0 len cap w := by obtain ⟨M', S', H, _, _⟩ := h; exact H.rd
 refine (width_any g a0 len cap w hr).mono ?_
 rintro e w' ⟨n, rfl, h0, hr', hg'⟩
 exact ⟨n, rfl, h0, h.read hr' hg', hg'⟩
theorem value_st (h : St base g G a0 len cap M N S v j w) (x : Int) (hx : x = 1 ∨ x = 8 ∨ x = 16 ∨ x = 32) :
  Calls Tryd.prog 91 #[.pointer (some ⟨g, 0, none⟩), .int .i64 x] w fun e w' => ∃ n : Int, e = .returned (.int .i64 n) ∧ St base g G a0 len cap M N S v j w' := by
 have hr : Rd g a0 len cap w := by obtain ⟨M', S', H, _, _⟩ := h; exact H.rd
 refine (value_any g a0 len cap x w hr hx).mono ?_
 rintro e w' ⟨n, rfl, _, _, hr', hg'⟩
 exact ⟨n, rfl, h.read hr' hg'⟩
theorem pick_st (h : St base g G a0 len cap M N S v j w) (x : Int) (hx : x = 1 ∨ x = 8 ∨ x = 16 ∨ x = 32) (hN : N + j + 2 ≤ 10000) :
  Calls Tryd.prog 92 #[.pointer (some ⟨G, 0, none⟩), .int .i64 x] w fun e w' => ∃ n : Int, e = .returned (.int .i64 n) ∧ St base g G a0 len cap M N S v (j + 2) w' := by
 obtain ⟨M', S', H, hS, V⟩ := h
 refine (pick_any base g G a0 len cap M' (N + j) S' x w H hN hx).mono ?_
 rintro e w' ⟨n, rfl, M2, S2, H2, hS2, V2⟩
 exact ⟨n, rfl, M2, S2, H2, hS.trans hS2, V.trans V2⟩
theorem put_st (h : St base g G a0 len cap M N S v j w) (op iw a b c imm : Int) (hN : N + j + 2 ≤ 10000) :
  Calls Tryd.prog 90 #[.pointer (some ⟨G, 0, none⟩), .agg #[.int .i64 op, .int .i64 iw, .int .i64 a, .int .i64 b, .int .i64 c, .int .i64 imm, .slice none 0 0]] w fun e w' => ∃ n : Int, e = .returned (.int .i64 n) ∧ St base g G a0 len cap M N S v (j + 2) w' := by
 obtain ⟨M', S', H, hS, V⟩ := h
 refine (put_any base g G a0 len cap M' (N + j) S' op iw a b c imm none 0 0 w H hN ⟨none, 0, rfl, .inl rfl⟩ (by omega)).mono ?_
 rintro e w' ⟨n, rfl, M2, S2, H2, hS2, _, V2⟩
 exact ⟨n, rfl, M2, S2, H2, hS.trans hS2, V.trans V2⟩
theorem call_st (h : St base g G a0 len cap M N S v j w) (hp : ParW M S v) (hN : N + j + 6 ≤ 10000) :
  Calls Tryd.prog 93 #[.pointer (some ⟨G, 0, none⟩)] w fun e w' => (∃ r, e = .returned r) ∧ St base g G a0 len cap M N S v (j + 6) w' := by
 obtain ⟨M', S', H, hS, V⟩ := h
 refine (call_any base g G a0 len cap M' (N + j) S' w H hN (hp.mov hS V)).mono ?_
 rintro e w' ⟨hr, M2, S2, H2, hS2, V2⟩
 exact ⟨hr, M2, S2, H2, hS.trans hS2, V.trans V2⟩
end Go.Proofs.YtenbodghkpbghaaDoor
namespace Go.Proofs.YtenbodghkpbghaaDoor
open Go.RowKit Go.Deep
set_option linter.unusedVariables false
structure Mv (g G : Nat) (M M' : Tmap) (v v' : World) : Prop where
 ext : Ext M M'
 out : ∀ b, b < v.heap.size → b ≠ g → b ≠ G → M b = none → v'.heap[b]? = v.heap[b]? ∧ M' b = none
 hold : ∀ b T m, M b = some (T, m) → (T = 2 ∨ T = 24) → v'.heap[b]? = v.heap[b]? ∧ M' b = some (T, m)
 os : v'.os = v.os
 tape : v'.tape = v.tape
 output : v'.output = v.output
 size : v.heap.size ≤ v'.heap.size
theorem Mov.mv {g G : Nat} {M M' : Tmap} {v v' : World} (h : Mov g G M M' v v') : Mv g G M M' v v' :=
 ⟨h.ext, h.out, fun b T m hb hT => h.hold b T m hb (by rcases hT with rfl | rfl <;> decide), h.os, h.tape, h.output, h.size⟩
theorem Mv.refl (g G : Nat) (M : Tmap) (v : World) : Mv g G M M v v := (Mov.refl g G M v).mv
theorem Mv.trans {g G : Nat} {A B C : Tmap} {a b c : World} (h : Mv g G A B a b) (k : Mv g G B C b c) : Mv g G A C a c :=
 ⟨h.ext.trans k.ext, fun x hx h1 h2 h3 => by
  obtain ⟨e1, e2⟩ := h.out x hx h1 h2 h3
  obtain ⟨f1, f2⟩ := k.out x (Nat.lt_of_lt_of_le hx h.size) h1 h2 e2
  exact ⟨f1.trans e1, f2⟩, fun x T m hx hT => by
  obtain ⟨e1, e2⟩ := h.hold x T m hx hT
  obtain ⟨f1, f2⟩ := k.hold x T m e2 hT
  exact ⟨f1.trans e1, f2⟩, k.os.trans h.os, k.tape.trans h.tape, k.output.trans h.output, Nat.le_trans h.size k.size⟩
theorem infoP : (Tryd.prog.info? 89).map (fun i => (i.zero, i.size, i.bytes)) = some (some (.agg #[.int .i64 0, .slice none 0 0]), 2, 32) := by kernel_rfl
theorem two_of {w : World} {L : Nat} {x0 x1 : Value} {T : TypeId} (hL : w.heap[L]? = some (.cells #[x0, x1] T (0, 0))) : ∀ j u, [x0, x1][j]? = some u → w.cell? ((⟨L, 0, none⟩ : Addr).add j) = some u := fun j u hj => by
 rw [Addr.add_lit, cell_of_heap hL, Nat.zero_add, ← hj]
 rcases j with _ | _ | j <;> rfl
theorem el_phi {M : Tmap} {N : Nat} {x : Int} {s : Value} (h : SlV1 M N 2 s) : ∀ M', Ext M M' → ElOk M' (N + 1) 89 (fun j => [.int .i64 x, s][j]?) := fun M' he =>
 ⟨fun q => absurd q (by decide), fun q => absurd q (by decide), fun _ => ⟨⟨_, rfl⟩, s, rfl, h.ext he (by omega)⟩, fun q => absurd q (by decide), fun q => absurd q (by decide)⟩
theorem Gok.pushP {base g G len cap N : Nat} {a0 : Option Addr} {M M' : Tmap} {S : GRec} {v w2 : World} {s' : Value} (h : Gok base g G a0 len cap M N S v) (hN : N < 10000) (k : Pushed base M M' (N + 1) 89 S.nph v w2 s') :
  Gok base g G a0 len cap M' (N + 1) { S with phv := s', nph := S.nph + 1 } (w2.setCell ⟨G, 4, none⟩ s') ∧ Mv g G M M' v (w2.setCell ⟨G, 4, none⟩ s') := by
 have hGl := (Array.getElem?_eq_some_iff.1 h.cells).1
 obtain ⟨o1, o2⟩ := k.out G hGl h.mG
 have hbn := h.bn
 have hset : ∀ b, b ≠ G → (w2.setCell ⟨G, 4, none⟩ s').heap[b]? = w2.heap[b]? := fun b hb => Below.heap_setCell _ _ _ _ hb
 have hne : ∀ b, (∃ p, M' b = some p) → b ≠ G := fun b hb e => by
  obtain ⟨p, hb⟩ := hb
  rw [e, o2] at hb; cases hb
 have hk : ∀ b, (∃ p, M' b = some p) → (w2.setCell ⟨G, 4, none⟩ s').heap[b]? = w2.heap[b]? := fun b hb => hset b (hne b hb)
 have hsz : (w2.setCell ⟨G, 4, none⟩ s').heap.size = w2.heap.size := by simp [World.setCell]
 refine ⟨⟨rd_keep h.rd (by rw [hsz]; exact k.size) fun b hb => ?_, h.gb, by rw [hsz]; exact Nat.le_trans h.bv k.size, o2, h.nG, (heap_set (o1.trans h.cells)).trans rfl, k.th.keep (Nat.le_refl _) hk, (k.row2 h.p (by decide)).keep hk, (k.row2 h.b (by decide)).keep hk, k.row.keep hk, (k.row2 h.i (by decide)).keep hk, ?_, h.rets.ext k.ext, h.pars.ext k.ext, by dsimp only; omega⟩, ⟨k.ext, fun b hb h1 h2 h3 => ?_, fun b T m hb hT => ?_, k.os, k.tape, k.output, by rw [hsz]; exact k.size⟩⟩
 ·have hbg : b < base := Nat.lt_of_le_of_lt hb h.gb
  have hn : M b = none := by
   cases e : M b with
   | none => rfl
   | some p => have := (h.th.lt ⟨p, e⟩).1; omega
  exact (hset b (by have := h.nG; omega)).trans (k.out b (by have := h.bv; omega) hn).1
 ·rcases h.ids with hi | ⟨h1, h2, h3⟩
  ·exact .inl hi
  ·exact .inr ⟨h1, h2.ext k.ext, h3.ext k.ext⟩
 ·obtain ⟨e1, e2⟩ := k.out b hb h3
  exact ⟨(hset b h2).trans e1, e2⟩
 ·obtain ⟨e1, e2⟩ := k.other b T m hb (by rcases hT with rfl | rfl <;> decide)
  exact ⟨(hk b ⟨_, e2⟩).trans e1, e2⟩
set_option maxHeartbeats 2000000 in
set_option maxRecDepth 100000 in
theorem phi_any (base g G : Nat) (a0 : Option Addr) (len cap : Nat) (M : Tmap) (N : Nat) (S : GRec) (x : Int) (u : Option Addr) (na q : Nat) (v : World) (h : Gok base g G a0 len cap M N S v) (hN : N + 2 ≤ 10000) (hav : SlN M 2 (.slice u na q) na) (hna : na ≤ N) (h1a : 1 ≤ na) :
  Calls Tryd.prog 95 #[.pointer (some ⟨G, 0, none⟩), .int .i64 x, .slice u na q] v fun e v' => ∃ n : Int, e = .returned (.int .i64 n) ∧ ∃ M' S', Gok base g G a0 len cap M' (N + 2) S' v' ∧ (∃ s', S' = { S with phv := s', nph := S.nph + 1, idv := S'.idv, wsv := S'.wsv, nid := S.nid + 1, nx := S.nx + 1 }) ∧ Mv g G M M' v v' := by
 obtain ⟨i0, hi, hz0, hz1, hz2⟩ := info_parts infoP
 have hbn := h.bn
 have hGl := (Array.getElem?_eq_some_iff.1 h.cells).1
 have B1 : Below v.heap.size v (v.alloc (.cells #[.int .i64 x, .slice u na q] 89)) := (Below.refl _ _).alloc (Nat.le_refl _) _
 have HH : Hid (Gok base g G a0 len cap M N S (v.alloc (.cells #[.int .i64 x, .slice u na q] 89)) ∧ Mov g G M M v (v.alloc (.cells #[.int .i64 x, .slice u na q] 89))) := h.below B1
 have LAW : Hid (∀ ty, ∃ s' w' M', (Builtin.append_ #[36, 36] ty #[S.phv, .slice (some ⟨v.heap.size, 0, none⟩) 1 1]).run Tryd.prog (v.alloc (.cells #[.int .i64 x, .slice u na q] 89)) = .ok s' w' ∧ Pushed base M M' (N + 1) 89 S.nph (v.alloc (.cells #[.int .i64 x, .slice u na q] 89)) w' s') := fun ty =>
  run_row i0 _ 32 Tryd.underlying36 hi hz0 hz1 hz2 (by decide) (by omega) HH.out.1.ph HH.out.1.th (by omega) (.inr (.inr (.inl rfl))) HH.out.1.bv (by omega) ⟨v.heap.size, 0, none⟩ 1 [.int .i64 x, .slice u na q] rfl (two_of (heap_alloc_last v _)) (by simp [Value.oneCell']) (el_phi ⟨na, h1a, hna, hav⟩)
 have c4 : v.cell? ⟨G, 4, none⟩ = some S.phv := (gcell h.cells 4).1.trans rfl
 clear hi hz0 hz1 hz2
 go_enter Tryd.func95, Tryd.ntmps95
 go_wp2_with (first | (at_builtin; refine wpList_row rfl (.tmp 12) (.tmp 16) 36 rfl rfl rfl LAW.out ?_; intro s' w2 M' hP; obtain ⟨gs, qs, rfl⟩ := hP.row.form; have y0 := (hP.out G (by exact Nat.lt_of_lt_of_le hGl B1.size) h.mG).1.trans ((B1.block G hGl).trans h.cells); have y4 : w2.cell? ⟨G, 4, none⟩ = some S.phv := (gcell y0 4).1.trans rfl; have z4 := (gcell y0 4).2; clear y0; obtain ⟨H2, V2⟩ := HH.out.1.pushP (by omega) hP; have A := add_any base g G a0 len cap M' (N + 1) _ x _ H2 (by omega)) | (go_at_call 65; refine A.mono ?_; rintro e w4 ⟨n, rfl, M4, S4, H4, hS4, V4⟩))
 go_ret
 refine ⟨n, rfl, M4, S4, H4, ⟨_, hS4⟩, (HH.out.2.mv.trans V2).trans V4.mv⟩
end Go.Proofs.YtenbodghkpbghaaDoor
namespace Go.Proofs.YtenbodghkpbghaaDoor
open Go.RowKit Go.Deep
set_option linter.unusedVariables false
theorem run_row2 {base n N N' : Nat} {M : Tmap} {T t ty : TypeId} {s : Value} {v : World} (i : TypeInfo) (z : Value) (bytes : Nat) (ht : Tryd.prog.underlying t = some (.slice T)) (hi : Tryd.prog.info? T = some i) (hz : i.zero = some z) (hsz : i.size = szT T) (hby : i.bytes = bytes) (hzs : z.cells.size = szT T) (hbm : bytes ≤ 1000)
  (h : RowT base M T s n v) (th : TH base M N v) (hN : N ≤ N') (hT : T = 2 ∨ T = 24 ∨ T = 89 ∨ T = 44 ∨ T = 41) (hb : base ≤ v.heap.size) (hn : n ≤ 100000)
  (ad : Addr) (c : Nat) (news : List Value) (hl : news.length = szT T) (hnews : ∀ j u, news[j]? = some u → v.cell? (ad.add j) = some u) (h1 : ∀ u ∈ news, u.oneCell' = true) (he : ∀ M', Ext M M' → ElOk M' N' T (fun j => news[j]?)) :
  ∃ s' w' M', (Builtin.append_ #[t, t] ty #[s, .slice (some ad) 1 c]).run Tryd.prog v = .ok s' w' ∧ Pushed base M M' N' T n v w' s' ∧ ∃ xs, v.ownsRow base T (szT T) s n xs ∧ w'.ownsRow base T (szT T) s' (n + 1) (xs ++ news) := by
 have hmul : (n + 1) * bytes ≤ 140737488355328 := Nat.le_trans (Nat.mul_le_mul (show n + 1 ≤ 100001 by omega) hbm) (by decide)
 obtain ⟨xs, hx⟩ := h.own
 rcases h with ⟨rfl, rfl⟩ | ⟨g, cap, cur, rfl, hg, hM, hc, hnc, hm, hs⟩
 ·have hx0 : xs = [] := by have := hx.1; simpa using this
  subst hx0
  obtain ⟨v', w', hr, h2, h3, _, _⟩ := run_append_own_at (P := Tryd.prog) v v.heap.size t ty T i z (szT T) bytes ht hi hz hsz hby hzs (szT_pos T) (.slice none 0 0) 0 [] ⟨by simp, .inl ⟨rfl, rfl⟩⟩ ad 1 c news (by omega) hnews h1 (by unfold maxLen; omega) (by simpa using hmul) (Nat.le_refl _)
  obtain ⟨g', cap', rfl, hg', _⟩ := h2.form (by omega)
  have h2' := own_low (b' := base) (xs := news) (by simpa using h2) hb
  exact ⟨_, w', _, hr, RowT.pushed (xs := []) (news := news) (.inl ⟨rfl, rfl⟩) th hN hT hx hb h2' (.inr ⟨hg', h3⟩) hl he, [], hx, h2'⟩
 ·by_cases hroom : n + 1 ≤ cap
  ·obtain ⟨w', hr, h2, h3⟩ := run_append_own_spare (P := Tryd.prog) v base t ty T i (szT T) ht hi hsz g n cap xs hx ad 1 c news (by omega) hnews h1 hroom
   exact ⟨_, w', _, hr, RowT.pushed (.inr ⟨g, cap, cur, rfl, hg, hM, hc, hnc, hm, hs⟩) th hN hT hx hb h2 (.inl ⟨rfl, h3⟩) hl he, xs, hx, h2⟩
  ·have hxl := hx.1
   obtain ⟨v', w', hr, h2, h3⟩ := run_append_arg_grows (P := Tryd.prog) v t ty T i z (szT T) bytes ht hi hz hsz hby hzs (szT_pos T) ⟨g, 0, none⟩ n cap xs hxl (hx.cells rfl) ad 1 c news (by omega) hnews (by omega) (by unfold maxLen; omega) hmul
   obtain ⟨g', cap', rfl, hg', _⟩ := h2.form (by omega)
   exact ⟨_, w', _, hr, RowT.pushed (.inr ⟨g, cap, cur, rfl, hg, hM, hc, hnc, hm, hs⟩) th hN hT hx hb (own_low h2 hb) (.inr ⟨hg', h3⟩) hl he, xs, hx, own_low h2 hb⟩
theorem Gok.pushB {base g G len cap N : Nat} {a0 : Option Addr} {M M' : Tmap} {S : GRec} {v w2 : World} {s' : Value} (h : Gok base g G a0 len cap M N S v) (hN : N < 10000) (k : Pushed base M M' (N + 1) 41 S.nb v w2 s') :
  Gok base g G a0 len cap M' (N + 1) { S with bv := s', nb := S.nb + 1 } (w2.setCell ⟨G, 3, none⟩ s') ∧ Mv g G M M' v (w2.setCell ⟨G, 3, none⟩ s') := by
 have hGl := (Array.getElem?_eq_some_iff.1 h.cells).1
 obtain ⟨o1, o2⟩ := k.out G hGl h.mG
 have hbn := h.bn
 have hset : ∀ b, b ≠ G → (w2.setCell ⟨G, 3, none⟩ s').heap[b]? = w2.heap[b]? := fun b hb => Below.heap_setCell _ _ _ _ hb
 have hne : ∀ b, (∃ p, M' b = some p) → b ≠ G := fun b hb e => by
  obtain ⟨p, hb⟩ := hb
  rw [e, o2] at hb; cases hb
 have hk : ∀ b, (∃ p, M' b = some p) → (w2.setCell ⟨G, 3, none⟩ s').heap[b]? = w2.heap[b]? := fun b hb => hset b (hne b hb)
 have hsz : (w2.setCell ⟨G, 3, none⟩ s').heap.size = w2.heap.size := by simp [World.setCell]
 refine ⟨⟨rd_keep h.rd (by rw [hsz]; exact k.size) fun b hb => ?_, h.gb, by rw [hsz]; exact Nat.le_trans h.bv k.size, o2, h.nG, (heap_set (o1.trans h.cells)).trans rfl, k.th.keep (Nat.le_refl _) hk, (k.row2 h.p (by decide)).keep hk, k.row.keep hk, (k.row2 h.ph (by decide)).keep hk, (k.row2 h.i (by decide)).keep hk, ?_, h.rets.ext k.ext, h.pars.ext k.ext, by dsimp only; omega⟩, ⟨k.ext, fun b hb h1 h2 h3 => ?_, fun b T m hb hT => ?_, k.os, k.tape, k.output, by rw [hsz]; exact k.size⟩⟩
 ·have hbg : b < base := Nat.lt_of_le_of_lt hb h.gb
  have hn : M b = none := by
   cases e : M b with
   | none => rfl
   | some p => have := (h.th.lt ⟨p, e⟩).1; omega
  exact (hset b (by have := h.nG; omega)).trans (k.out b (by have := h.bv; omega) hn).1
 ·rcases h.ids with hi | ⟨h1, h2, h3⟩
  ·exact .inl hi
  ·exact .inr ⟨h1, h2.ext k.ext, h3.ext k.ext⟩
 ·obtain ⟨e1, e2⟩ := k.out b hb h3
  exact ⟨(hset b h2).trans e1, e2⟩
 ·obtain ⟨e1, e2⟩ := k.other b T m hb (by rcases hT with rfl | rfl <;> decide)
  exact ⟨(hk b ⟨_, e2⟩).trans e1, e2⟩
theorem Gok.reset {base g G len cap N : Nat} {a0 : Option Addr} {M : Tmap} {S : GRec} {v v' : World} (h : Gok base g G a0 len cap M N S v) (hB : ∀ b, b ≠ G → v'.heap[b]? = v.heap[b]?) (hz : v'.heap.size = v.heap.size) (e1 : v'.os = v.os) (e2 : v'.tape = v.tape) (e3 : v'.output = v.output)
  (hG : v'.heap[G]? = some (.cells (gcells g { S with phv := .slice none 0 0, nph := 0, iv := .slice none 0 0, ni := 0, kd := 0, ta := 0, tx := 0, ty := 0 }) 122 (0, 0))) :
  Gok base g G a0 len cap M N { S with phv := .slice none 0 0, nph := 0, iv := .slice none 0 0, ni := 0, kd := 0, ta := 0, tx := 0, ty := 0 } v' ∧ Mv g G M M v v' := by
 have hgG : g < G := Nat.lt_of_lt_of_le h.gb h.nG
 have hk : ∀ b, (∃ p, M b = some p) → v'.heap[b]? = v.heap[b]? := fun b hb => hB b (fun e => by
  obtain ⟨p, hb⟩ := hb
  rw [e, h.mG] at hb; cases hb)
 have hbn := h.bn
 exact ⟨⟨rd_keep h.rd (by omega) fun b hb => hB b (by omega), h.gb, by rw [hz]; exact h.bv, h.mG, h.nG, hG, h.th.keep (Nat.le_refl _) hk, h.p.keep hk, h.b.keep hk, .inl ⟨rfl, rfl⟩, .inl ⟨rfl, rfl⟩, h.ids, h.rets, h.pars, by dsimp only; omega⟩, ⟨Ext.refl _, fun b _ _ h2 h3 => ⟨hB b h2, h3⟩, fun b T m hb _ => ⟨hk b ⟨_, hb⟩, hb⟩, e1, e2, e3, by omega⟩⟩
theorem infoB : (Tryd.prog.info? 41).map (fun i => (i.zero, i.size, i.bytes)) = some (some (.agg #[.slice none 0 0, .slice none 0 0, .int .i64 0, .int .i64 0, .int .i64 0, .int .i64 0]), 6, 80) := by kernel_rfl
theorem el_block {M : Tmap} {N : Nat} {p i : Value} {a b c d : Int} (hp : SlV M N 89 p) (hi : SlV M N 44 i) : ∀ M', Ext M M' → ElOk M' (N + 1) 41 (fun j => [p, i, .int .i64 a, .int .i64 b, .int .i64 c, .int .i64 d][j]?) := fun M' he => by
 refine ⟨fun q => absurd q (by decide), fun q => absurd q (by decide), fun q => absurd q (by decide), fun q => absurd q (by decide), fun _ => ⟨⟨p, rfl, hp.ext he (by omega)⟩, ⟨i, rfl, hi.ext he (by omega)⟩, fun j h2 hj => ?_⟩⟩
 match j, h2, hj with
 | 2, _, _ => exact ⟨_, rfl⟩
 | 3, _, _ => exact ⟨_, rfl⟩
 | 4, _, _ => exact ⟨_, rfl⟩
 | 5, _, _ => exact ⟨_, rfl⟩
theorem six_of {w : World} {L : Nat} {x0 x1 x2 x3 x4 x5 : Value} {T : TypeId} (hL : w.heap[L]? = some (.cells #[x0, x1, x2, x3, x4, x5] T (0, 0))) : ∀ j u, [x0, x1, x2, x3, x4, x5][j]? = some u → w.cell? ((⟨L, 0, none⟩ : Addr).add j) = some u := fun j u hj => by
 rw [Addr.add_lit, cell_of_heap hL, Nat.zero_add, ← hj]
 rcases j with _ | _ | _ | _ | _ | _ | j <;> rfl
end Go.Proofs.YtenbodghkpbghaaDoor
namespace Go.Proofs.YtenbodghkpbghaaDoor
open Go.RowKit Go.Deep
set_option linter.unusedVariables false
theorem set_os (w : World) (a : Addr) (x : Value) : (w.setCell a x).os = w.os := rfl
theorem set_tape (w : World) (a : Addr) (x : Value) : (w.setCell a x).tape = w.tape := rfl
theorem set_output (w : World) (a : Addr) (x : Value) : (w.setCell a x).output = w.output := rfl
def Closed (S : GRec) (s' : Value) : GRec := { S with bv := s', nb := S.nb + 1, phv := .slice none 0 0, nph := 0, iv := .slice none 0 0, ni := 0, kd := 0, ta := 0, tx := 0, ty := 0 }
set_option maxHeartbeats 600000 in
set_option maxRecDepth 100000 in
theorem close_any (base g G : Nat) (a0 : Option Addr) (len cap : Nat) (M : Tmap) (N : Nat) (S : GRec) (kd ta tx ty : Int) (v : World) (h : Gok base g G a0 len cap M N S v) (hN : N + 1 ≤ 10000) :
  Calls Tryd.prog 94 #[.pointer (some ⟨G, 0, none⟩), .agg #[.int .i64 kd, .int .i64 ta, .int .i64 tx, .int .i64 ty]] v fun e v' => (∃ r, e = .returned r) ∧ ∃ M' s', Gok base g G a0 len cap M' (N + 1) (Closed S s') v' ∧ Mv g G M M' v v' := by
 have hGl := (Array.getElem?_eq_some_iff.1 h.cells).1
 have B1 : Below v.heap.size v (v.alloc (.cells #[.int .i64 kd, .int .i64 ta, .int .i64 tx, .int .i64 ty] 39)) := (Below.refl _ _).alloc (Nat.le_refl _) _
 have HH : Hid (Gok base g G a0 len cap M N S (v.alloc (.cells #[.int .i64 kd, .int .i64 ta, .int .i64 tx, .int .i64 ty] 39)) ∧ Mov g G M M v (v.alloc (.cells #[.int .i64 kd, .int .i64 ta, .int .i64 tx, .int .i64 ty] 39))) := h.below B1
 have q0 : v.heap[G]? = some (.cells (gcells g S) 122 (0, 0)) := h.cells
 have q1 : (v.setCell ⟨G, 6, none⟩ (.int .i64 kd)).heap[G]? = some (.cells (gcells g { S with kd := kd }) 122 (0, 0)) := (heap_set q0).trans rfl
 have q2 : ((v.setCell ⟨G, 6, none⟩ (.int .i64 kd)).setCell ⟨G, 7, none⟩ (.int .i64 ta)).heap[G]? = some (.cells (gcells g { S with kd := kd, ta := ta }) 122 (0, 0)) := (heap_set q1).trans rfl
 have q3 : (((v.setCell ⟨G, 6, none⟩ (.int .i64 kd)).setCell ⟨G, 7, none⟩ (.int .i64 ta)).setCell ⟨G, 8, none⟩ (.int .i64 tx)).heap[G]? = some (.cells (gcells g { S with kd := kd, ta := ta, tx := tx }) 122 (0, 0)) := (heap_set q2).trans rfl
 have q4 : ((((v.setCell ⟨G, 6, none⟩ (.int .i64 kd)).setCell ⟨G, 7, none⟩ (.int .i64 ta)).setCell ⟨G, 8, none⟩ (.int .i64 tx)).setCell ⟨G, 9, none⟩ (.int .i64 ty)).heap[G]? = some (.cells (gcells g { S with kd := kd, ta := ta, tx := tx, ty := ty }) 122 (0, 0)) := (heap_set q3).trans rfl
 have p0 : (v.alloc (.cells #[.int .i64 kd, .int .i64 ta, .int .i64 tx, .int .i64 ty] 39)).heap[G]? = some (.cells (gcells g S) 122 (0, 0)) := (Below.heap_alloc _ _ _ (by simpa [World.setCell] using hGl)).trans q0
 have p1 : ((v.setCell ⟨G, 6, none⟩ (.int .i64 kd)).alloc (.cells #[.int .i64 kd, .int .i64 ta, .int .i64 tx, .int .i64 ty] 39)).heap[G]? = some (.cells (gcells g { S with kd := kd }) 122 (0, 0)) := (Below.heap_alloc _ _ _ (by simpa [World.setCell] using hGl)).trans q1
 have p2 : (((v.setCell ⟨G, 6, none⟩ (.int .i64 kd)).setCell ⟨G, 7, none⟩ (.int .i64 ta)).alloc (.cells #[.int .i64 kd, .int .i64 ta, .int .i64 tx, .int .i64 ty] 39)).heap[G]? = some (.cells (gcells g { S with kd := kd, ta := ta }) 122 (0, 0)) := (Below.heap_alloc _ _ _ (by simpa [World.setCell] using hGl)).trans q2
 have p3 : ((((v.setCell ⟨G, 6, none⟩ (.int .i64 kd)).setCell ⟨G, 7, none⟩ (.int .i64 ta)).setCell ⟨G, 8, none⟩ (.int .i64 tx)).alloc (.cells #[.int .i64 kd, .int .i64 ta, .int .i64 tx, .int .i64 ty] 39)).heap[G]? = some (.cells (gcells g { S with kd := kd, ta := ta, tx := tx }) 122 (0, 0)) := (Below.heap_alloc _ _ _ (by simpa [World.setCell] using hGl)).trans q3
 have p4 : (((((v.setCell ⟨G, 6, none⟩ (.int .i64 kd)).setCell ⟨G, 7, none⟩ (.int .i64 ta)).setCell ⟨G, 8, none⟩ (.int .i64 tx)).setCell ⟨G, 9, none⟩ (.int .i64 ty)).alloc (.cells #[.int .i64 kd, .int .i64 ta, .int .i64 tx, .int .i64 ty] 39)).heap[G]? = some (.cells (gcells g { S with kd := kd, ta := ta, tx := tx, ty := ty }) 122 (0, 0)) := (Below.heap_alloc _ _ _ (by simpa [World.setCell] using hGl)).trans q4
 have c0 : (v.alloc (.cells #[.int .i64 kd, .int .i64 ta, .int .i64 tx, .int .i64 ty] 39)).cell? ⟨G, 6, none⟩ = some (.int .i64 S.kd) := (gcell p0 6).1.trans rfl
 have z0 : (v.alloc (.cells #[.int .i64 kd, .int .i64 ta, .int .i64 tx, .int .i64 ty] 39)).frozen? ⟨G, 6, none⟩ = false := (gcell p0 6).2
 have c1 : ((v.setCell ⟨G, 6, none⟩ (.int .i64 kd)).alloc (.cells #[.int .i64 kd, .int .i64 ta, .int .i64 tx, .int .i64 ty] 39)).cell? ⟨G, 7, none⟩ = some (.int .i64 S.ta) := (gcell p1 7).1.trans rfl
 have z1 : ((v.setCell ⟨G, 6, none⟩ (.int .i64 kd)).alloc (.cells #[.int .i64 kd, .int .i64 ta, .int .i64 tx, .int .i64 ty] 39)).frozen? ⟨G, 7, none⟩ = false := (gcell p1 7).2
 have c2 : (((v.setCell ⟨G, 6, none⟩ (.int .i64 kd)).setCell ⟨G, 7, none⟩ (.int .i64 ta)).alloc (.cells #[.int .i64 kd, .int .i64 ta, .int .i64 tx, .int .i64 ty] 39)).cell? ⟨G, 8, none⟩ = some (.int .i64 S.tx) := (gcell p2 8).1.trans rfl
 have z2 : (((v.setCell ⟨G, 6, none⟩ (.int .i64 kd)).setCell ⟨G, 7, none⟩ (.int .i64 ta)).alloc (.cells #[.int .i64 kd, .int .i64 ta, .int .i64 tx, .int .i64 ty] 39)).frozen? ⟨G, 8, none⟩ = false := (gcell p2 8).2
 have c3 : ((((v.setCell ⟨G, 6, none⟩ (.int .i64 kd)).setCell ⟨G, 7, none⟩ (.int .i64 ta)).setCell ⟨G, 8, none⟩ (.int .i64 tx)).alloc (.cells #[.int .i64 kd, .int .i64 ta, .int .i64 tx, .int .i64 ty] 39)).cell? ⟨G, 9, none⟩ = some (.int .i64 S.ty) := (gcell p3 9).1.trans rfl
 have z3 : ((((v.setCell ⟨G, 6, none⟩ (.int .i64 kd)).setCell ⟨G, 7, none⟩ (.int .i64 ta)).setCell ⟨G, 8, none⟩ (.int .i64 tx)).alloc (.cells #[.int .i64 kd, .int .i64 ta, .int .i64 tx, .int .i64 ty] 39)).frozen? ⟨G, 9, none⟩ = false := (gcell p3 9).2
 clear q0 q1 q2 q3 q4 p0 p1 p2 p3
 go_enter Tryd.func94, Tryd.ntmps94
 obtain ⟨i0, hi, hz0, hz1, hz2⟩ := info_parts infoB
 have HX : Gok base g G a0 len cap M N { S with kd := kd, ta := ta, tx := tx, ty := ty } (((((v.setCell ⟨G, 6, none⟩ (.int .i64 kd)).setCell ⟨G, 7, none⟩ (.int .i64 ta)).setCell ⟨G, 8, none⟩ (.int .i64 tx)).setCell ⟨G, 9, none⟩ (.int .i64 ty)).alloc (.cells #[.int .i64 kd, .int .i64 ta, .int .i64 tx, .int .i64 ty] 39)) ∧ Mov g G M M v (((((v.setCell ⟨G, 6, none⟩ (.int .i64 kd)).setCell ⟨G, 7, none⟩ (.int .i64 ta)).setCell ⟨G, 8, none⟩ (.int .i64 tx)).setCell ⟨G, 9, none⟩ (.int .i64 ty)).alloc (.cells #[.int .i64 kd, .int .i64 ta, .int .i64 tx, .int .i64 ty] 39)) := h.grew (Nat.le_refl _) (fun b hb hn => (Below.heap_alloc _ _ _ (by simpa [World.setCell] using hb)).trans (by rw [Below.heap_setCell _ _ _ _ hn, Below.heap_setCell _ _ _ _ hn, Below.heap_setCell _ _ _ _ hn, Below.heap_setCell _ _ _ _ hn])) (by simp [World.setCell]) rfl rfl rfl (fun _ _ => rfl) (fun b T m hb hm => by rw [h.th.none hb] at hm; cases hm) p4 ⟨rfl, rfl, rfl, rfl, rfl, rfl, rfl, rfl, rfl, rfl, rfl⟩ h.ids (by have := h.bn; dsimp only; omega)
 go_wp2_with fail
 clear c0 c1 c2 c3 z0 z1 z2 z3
 generalize (((((v.setCell ⟨G, 6, none⟩ (.int .i64 kd)).setCell ⟨G, 7, none⟩ (.int .i64 ta)).setCell ⟨G, 8, none⟩ (.int .i64 tx)).setCell ⟨G, 9, none⟩ (.int .i64 ty)).alloc (.cells #[.int .i64 kd, .int .i64 ta, .int .i64 tx, .int .i64 ty] 39)) = wx at p4 HX ⊢
 obtain ⟨HX, VX⟩ := HX
 have hbn := HX.bn
 dsimp only at hbn
 have hGx := (Array.getElem?_eq_some_iff.1 p4).1
 have B2 : Below wx.heap.size wx (wx.drew.alloc (.cells #[S.phv, S.iv, .int .i64 kd, .int .i64 ta, .int .i64 tx, .int .i64 ty] 41)) := (Below.refl _ _).drew.alloc (Nat.le_refl _) _
 have HH2 : Hid (Gok base g G a0 len cap M N { S with kd := kd, ta := ta, tx := tx, ty := ty } (wx.drew.alloc (.cells #[S.phv, S.iv, .int .i64 kd, .int .i64 ta, .int .i64 tx, .int .i64 ty] 41)) ∧ Mov g G M M wx (wx.drew.alloc (.cells #[S.phv, S.iv, .int .i64 kd, .int .i64 ta, .int .i64 tx, .int .i64 ty] 41))) := HX.below B2
 have LAW : Hid (∀ ty', ∃ s' w' M', (Builtin.append_ #[25, 25] ty' #[S.bv, .slice (some ⟨wx.heap.size, 0, none⟩) 1 1]).run Tryd.prog (wx.drew.alloc (.cells #[S.phv, S.iv, .int .i64 kd, .int .i64 ta, .int .i64 tx, .int .i64 ty] 41)) = .ok s' w' ∧ Pushed base M M' (N + 1) 41 S.nb (wx.drew.alloc (.cells #[S.phv, S.iv, .int .i64 kd, .int .i64 ta, .int .i64 tx, .int .i64 ty] 41)) w' s') := fun ty' =>
  run_row i0 _ 80 Tryd.underlying25 hi hz0 hz1 hz2 (by decide) (by omega) HH2.out.1.b HH2.out.1.th (by omega) (.inr (.inr (.inr (.inr rfl)))) HH2.out.1.bv (by dsimp only; omega) ⟨wx.heap.size, 0, none⟩ 1 [S.phv, S.iv, .int .i64 kd, .int .i64 ta, .int .i64 tx, .int .i64 ty] rfl (six_of (heap_alloc_last wx.drew _)) (by
   have o1 := HX.ph.sl
   have o2 := HX.i.sl
   obtain ⟨_, _, e1, _⟩ := o1
   obtain ⟨_, _, e2, _⟩ := o2
   dsimp only at e1 e2
   simp [Value.oneCell', e1, e2]) (el_block ⟨S.nph, by omega, HX.ph.sl⟩ ⟨S.ni, by omega, HX.i.sl⟩)
 clear hi hz0 hz1 hz2
 have k3 : wx.cell? ⟨G, 3, none⟩ = some S.bv := (gcell p4 3).1.trans rfl
 have k4 : wx.cell? ⟨G, 4, none⟩ = some S.phv := (gcell p4 4).1.trans rfl
 have k5 : wx.cell? ⟨G, 5, none⟩ = some S.iv := (gcell p4 5).1.trans rfl
 have k6 : wx.cell? ⟨G, 6, none⟩ = some (.int .i64 kd) := (gcell p4 6).1.trans rfl
 have k7 : wx.cell? ⟨G, 7, none⟩ = some (.int .i64 ta) := (gcell p4 7).1.trans rfl
 have k8 : wx.cell? ⟨G, 8, none⟩ = some (.int .i64 tx) := (gcell p4 8).1.trans rfl
 have k9 : wx.cell? ⟨G, 9, none⟩ = some (.int .i64 ty) := (gcell p4 9).1.trans rfl
 have x3 := (cell_block (o := 3) (B2.block G hGx)).trans k3
 go_cut [0] (fun s0 wz => s0 = .pointer (some ⟨G, 0, none⟩) ∧ ∃ w2 s' M', Pushed base M M' (N + 1) 41 S.nb (wx.drew.alloc (.cells #[S.phv, S.iv, .int .i64 kd, .int .i64 ta, .int .i64 tx, .int .i64 ty] 41)) w2 s' ∧ wz = w2.setCell ⟨G, 3, none⟩ s')
 case first =>
  go_region_law (refine step_row rfl (.tmp 14) (.tmp 19) 25 rfl rfl rfl LAW.out ?_; intro s' w2 M' hP; obtain ⟨gs, qs, rfl⟩ := hP.row.form; have y0 := (hP.out G (by exact Nat.lt_of_lt_of_le hGx B2.size) h.mG).1.trans ((B2.block G hGx).trans p4); have y3 : w2.cell? ⟨G, 3, none⟩ = some S.bv := (gcell y0 3).1.trans rfl; have z3 := (gcell y0 3).2; clear y0)
  all_goals
   go_wp2_with fail
   go_meet
   case rel => exact ⟨rfl, w2, _, M', hP, rfl⟩
 case rest =>
  obtain ⟨rfl, w2, s', M', hP, rfl⟩ := hcut
  obtain ⟨H1, V1⟩ := HH2.out
  obtain ⟨H2, V2⟩ := H1.pushB (by omega) hP
  clear k3 k4 k5 k6 k7 k8 k9 x3 LAW HH2 B2
  generalize w2.setCell ⟨G, 3, none⟩ s' = wy at H2 V2 ⊢
  have q0 : wy.heap[G]? = some (.cells (gcells g { S with bv := s', nb := S.nb + 1, kd := kd, ta := ta, tx := tx, ty := ty }) 122 (0, 0)) := H2.cells
  have q1 : (wy.setCell ⟨G, 4, none⟩ (.slice none 0 0)).heap[G]? = some (.cells (gcells g { S with bv := s', nb := S.nb + 1, kd := kd, ta := ta, tx := tx, ty := ty, phv := .slice none 0 0 }) 122 (0, 0)) := (heap_set q0).trans rfl
  have q2 : ((wy.setCell ⟨G, 4, none⟩ (.slice none 0 0)).setCell ⟨G, 5, none⟩ (.slice none 0 0)).heap[G]? = some (.cells (gcells g { S with bv := s', nb := S.nb + 1, kd := kd, ta := ta, tx := tx, ty := ty, phv := .slice none 0 0, iv := .slice none 0 0 }) 122 (0, 0)) := (heap_set q1).trans rfl
  have q3 : (((wy.setCell ⟨G, 4, none⟩ (.slice none 0 0)).setCell ⟨G, 5, none⟩ (.slice none 0 0)).setCell ⟨G, 6, none⟩ (.int .i64 0)).heap[G]? = some (.cells (gcells g { S with bv := s', nb := S.nb + 1, kd := 0, ta := ta, tx := tx, ty := ty, phv := .slice none 0 0, iv := .slice none 0 0 }) 122 (0, 0)) := (heap_set q2).trans rfl
  have q4 : ((((wy.setCell ⟨G, 4, none⟩ (.slice none 0 0)).setCell ⟨G, 5, none⟩ (.slice none 0 0)).setCell ⟨G, 6, none⟩ (.int .i64 0)).setCell ⟨G, 7, none⟩ (.int .i64 0)).heap[G]? = some (.cells (gcells g { S with bv := s', nb := S.nb + 1, kd := 0, ta := 0, tx := tx, ty := ty, phv := .slice none 0 0, iv := .slice none 0 0 }) 122 (0, 0)) := (heap_set q3).trans rfl
  have q5 : (((((wy.setCell ⟨G, 4, none⟩ (.slice none 0 0)).setCell ⟨G, 5, none⟩ (.slice none 0 0)).setCell ⟨G, 6, none⟩ (.int .i64 0)).setCell ⟨G, 7, none⟩ (.int .i64 0)).setCell ⟨G, 8, none⟩ (.int .i64 0)).heap[G]? = some (.cells (gcells g { S with bv := s', nb := S.nb + 1, kd := 0, ta := 0, tx := 0, ty := ty, phv := .slice none 0 0, iv := .slice none 0 0 }) 122 (0, 0)) := (heap_set q4).trans rfl
  have q6 : ((((((wy.setCell ⟨G, 4, none⟩ (.slice none 0 0)).setCell ⟨G, 5, none⟩ (.slice none 0 0)).setCell ⟨G, 6, none⟩ (.int .i64 0)).setCell ⟨G, 7, none⟩ (.int .i64 0)).setCell ⟨G, 8, none⟩ (.int .i64 0)).setCell ⟨G, 9, none⟩ (.int .i64 0)).heap[G]? = some (.cells (gcells g { S with bv := s', nb := S.nb + 1, kd := 0, ta := 0, tx := 0, ty := 0, phv := .slice none 0 0, iv := .slice none 0 0 }) 122 (0, 0)) := (heap_set q5).trans rfl
  have c0 : wy.cell? ⟨G, 4, none⟩ = some S.phv := (gcell q0 4).1.trans rfl
  have z0 : wy.frozen? ⟨G, 4, none⟩ = false := (gcell q0 4).2
  have c1 : (wy.setCell ⟨G, 4, none⟩ (.slice none 0 0)).cell? ⟨G, 5, none⟩ = some S.iv := (gcell q1 5).1.trans rfl
  have z1 : (wy.setCell ⟨G, 4, none⟩ (.slice none 0 0)).frozen? ⟨G, 5, none⟩ = false := (gcell q1 5).2
  have c2 : ((wy.setCell ⟨G, 4, none⟩ (.slice none 0 0)).setCell ⟨G, 5, none⟩ (.slice none 0 0)).cell? ⟨G, 6, none⟩ = some (.int .i64 kd) := (gcell q2 6).1.trans rfl
  have z2 : ((wy.setCell ⟨G, 4, none⟩ (.slice none 0 0)).setCell ⟨G, 5, none⟩ (.slice none 0 0)).frozen? ⟨G, 6, none⟩ = false := (gcell q2 6).2
  have c3 : (((wy.setCell ⟨G, 4, none⟩ (.slice none 0 0)).setCell ⟨G, 5, none⟩ (.slice none 0 0)).setCell ⟨G, 6, none⟩ (.int .i64 0)).cell? ⟨G, 7, none⟩ = some (.int .i64 ta) := (gcell q3 7).1.trans rfl
  have z3 : (((wy.setCell ⟨G, 4, none⟩ (.slice none 0 0)).setCell ⟨G, 5, none⟩ (.slice none 0 0)).setCell ⟨G, 6, none⟩ (.int .i64 0)).frozen? ⟨G, 7, none⟩ = false := (gcell q3 7).2
  have c4 : ((((wy.setCell ⟨G, 4, none⟩ (.slice none 0 0)).setCell ⟨G, 5, none⟩ (.slice none 0 0)).setCell ⟨G, 6, none⟩ (.int .i64 0)).setCell ⟨G, 7, none⟩ (.int .i64 0)).cell? ⟨G, 8, none⟩ = some (.int .i64 tx) := (gcell q4 8).1.trans rfl
  have z4 : ((((wy.setCell ⟨G, 4, none⟩ (.slice none 0 0)).setCell ⟨G, 5, none⟩ (.slice none 0 0)).setCell ⟨G, 6, none⟩ (.int .i64 0)).setCell ⟨G, 7, none⟩ (.int .i64 0)).frozen? ⟨G, 8, none⟩ = false := (gcell q4 8).2
  have c5 : (((((wy.setCell ⟨G, 4, none⟩ (.slice none 0 0)).setCell ⟨G, 5, none⟩ (.slice none 0 0)).setCell ⟨G, 6, none⟩ (.int .i64 0)).setCell ⟨G, 7, none⟩ (.int .i64 0)).setCell ⟨G, 8, none⟩ (.int .i64 0)).cell? ⟨G, 9, none⟩ = some (.int .i64 ty) := (gcell q5 9).1.trans rfl
  have z5 : (((((wy.setCell ⟨G, 4, none⟩ (.slice none 0 0)).setCell ⟨G, 5, none⟩ (.slice none 0 0)).setCell ⟨G, 6, none⟩ (.int .i64 0)).setCell ⟨G, 7, none⟩ (.int .i64 0)).setCell ⟨G, 8, none⟩ (.int .i64 0)).frozen? ⟨G, 9, none⟩ = false := (gcell q5 9).2
  clear q0 q1 q2 q3 q4 q5
  have R := H2.reset (v' := ((((((wy.setCell ⟨G, 4, none⟩ (.slice none 0 0)).setCell ⟨G, 5, none⟩ (.slice none 0 0)).setCell ⟨G, 6, none⟩ (.int .i64 0)).setCell ⟨G, 7, none⟩ (.int .i64 0)).setCell ⟨G, 8, none⟩ (.int .i64 0)).setCell ⟨G, 9, none⟩ (.int .i64 0))) (fun b hn => by rw [Below.heap_setCell _ _ _ _ hn, Below.heap_setCell _ _ _ _ hn, Below.heap_setCell _ _ _ _ hn, Below.heap_setCell _ _ _ _ hn, Below.heap_setCell _ _ _ _ hn, Below.heap_setCell _ _ _ _ hn]) (by simp only [World.size_setCell]) (by simp only [set_os]) (by simp only [set_tape]) (by simp only [set_output]) (q6.trans (by unfold gcells; rfl))
  go_wp2_with fail
  exact bodyPost_end (results_none Tryd.results94 _ _ _) rfl ⟨⟨_, rfl⟩, M', ⟨s', R.1⟩, ((VX.mv.trans V1.mv).trans V2).trans R.2⟩
end Go.Proofs.YtenbodghkpbghaaDoor
namespace Go.Proofs.YtenbodghkpbghaaDoor
open Go.RowKit Go.Deep
set_option linter.unusedVariables false
def Kept (S S' : GRec) : Prop := S'.pv = S.pv ∧ S'.np = S.np ∧ S'.rv = S.rv ∧ S'.nr = S.nr ∧ S'.sv = S.sv ∧ S'.ret = S.ret
theorem Kept.refl (S : GRec) : Kept S S := ⟨rfl, rfl, rfl, rfl, rfl, rfl⟩
theorem Kept.trans {A B C : GRec} (h : Kept A B) (k : Kept B C) : Kept A C := ⟨k.1.trans h.1, k.2.1.trans h.2.1, k.2.2.1.trans h.2.2.1, k.2.2.2.1.trans h.2.2.2.1, k.2.2.2.2.1.trans h.2.2.2.2.1, k.2.2.2.2.2.trans h.2.2.2.2.2⟩
theorem Same.kept {S S' : GRec} (h : Same S S') : Kept S S' := ⟨h.1, h.2.1, h.2.2.2.2.2.2.1, h.2.2.2.2.2.2.2.1, h.2.2.2.2.2.2.2.2.1, h.2.2.2.2.2.2.2.2.2⟩
theorem closed_kept (S : GRec) (s' : Value) : Kept S (Closed S s') := ⟨rfl, rfl, rfl, rfl, rfl, rfl⟩
set_option maxHeartbeats 1000000 in
set_option maxRecDepth 100000 in
theorem ends_any (base g G : Nat) (a0 : Option Addr) (len cap : Nat) (M : Tmap) (N : Nat) (S : GRec) (v : World) (h : Gok base g G a0 len cap M N S v) (hN : N + 3 ≤ 10000) (hw : S.ret = 1 ∨ S.ret = 8 ∨ S.ret = 16 ∨ S.ret = 32) :
  Calls Tryd.prog 69 #[.pointer (some ⟨G, 0, none⟩)] v fun e v' => (∃ r, e = .returned r) ∧ ∃ M' S', Gok base g G a0 len cap M' (N + 3) S' v' ∧ Kept S S' ∧ Mv g G M M' v v' ∧ 1 ≤ S'.nb := by
 have c0 : v.cell? ⟨G, 0, none⟩ = some (.pointer (some ⟨g, 0, none⟩)) := (gcell h.cells 0).1.trans rfl
 go_enter Tryd.func69, Tryd.ntmps69
 go_wp2_with (first | (go_at_call 24; refine (once_any g a0 len cap _ _ h.rd (by omega)).mono ?_; rintro e w1 ⟨bb, rfl, hr1, hg1⟩; obtain ⟨H1, V1⟩ := h.read hr1 hg1; have d2 : w1.cell? ⟨G, 2, none⟩ = some (.int .i64 S.ret) := (gcell H1.cells 2).1.trans rfl; clear hr1 hg1) | (go_at_call 92; refine (pick_any base g G a0 len cap M N S S.ret w1 H1 (by omega) hw).mono ?_; rintro e w2 ⟨n2, rfl, M2, S2, H2, hS2, V2⟩) | (go_at_call 94; refine (close_any base g G a0 len cap _ _ _ _ _ _ _ _ H2 (by omega)).mono ?_; rintro e w3 ⟨⟨r, rfl⟩, M3, s3, H3, V3⟩) | (go_at_call 94; refine (close_any base g G a0 len cap _ _ _ _ _ _ _ _ H1 (by omega)).mono ?_; rintro e w3 ⟨⟨r, rfl⟩, M3, s3, H3, V3⟩))
 all_goals first
  | exact bodyPost_end (results_none Tryd.results69 _ _ _) rfl ⟨⟨_, rfl⟩, M3, _, H3.mono (by omega) hN, hS2.kept.trans (closed_kept _ _), (V1.mv.trans V2.mv).trans V3, Nat.le_add_left 1 _⟩
  | exact bodyPost_ret (results_none Tryd.results69 _ _ _) rfl ⟨⟨_, rfl⟩, M3, _, H3.mono (by omega) hN, closed_kept _ _, V1.mv.trans V3, Nat.le_add_left 1 _⟩
end Go.Proofs.YtenbodghkpbghaaDoor
namespace Go.Proofs.YtenbodghkpbghaaDoor
open Go.RowKit Go.Deep
set_option linter.unusedVariables false
def Sb (base g G : Nat) (a0 : Option Addr) (len cap : Nat) (M : Tmap) (N : Nat) (S : GRec) (v : World) (j : Nat) (M' : Tmap) (S' : GRec) (w : World) : Prop := Gok base g G a0 len cap M' (N + j) S' w ∧ Kept S S' ∧ Mv g G M M' v w
variable {base g G len cap N j : Nat} {a0 : Option Addr} {M M' : Tmap} {S S' : GRec} {v w : World}
theorem Gok.sb (h : Gok base g G a0 len cap M N S v) : Sb base g G a0 len cap M N S v 0 M S v := ⟨h, Kept.refl _, Mv.refl _ _ _ _⟩
theorem Sb.cell0 (h : Sb base g G a0 len cap M N S v j M' S' w) : w.cell? ⟨G, 0, none⟩ = some (.pointer (some ⟨g, 0, none⟩)) := (gcell h.1.cells 0).1.trans rfl
theorem Sb.mono {i : Nat} (h : Sb base g G a0 len cap M N S v j M' S' w) (hj : j ≤ i) (hN : N + i ≤ 10000) : Sb base g G a0 len cap M N S v i M' S' w := ⟨h.1.mono (by omega) hN, h.2⟩
theorem Sb.below {w' : World} (h : Sb base g G a0 len cap M N S v j M' S' w) (k : Below w.heap.size w w') : Sb base g G a0 len cap M N S v j M' S' w' :=
 ⟨(h.1.below k).1, h.2.1, h.2.2.trans (h.1.below k).2.mv⟩
theorem Sb.read {w' : World} (h : Sb base g G a0 len cap M N S v j M' S' w) (hr : Rd g a0 len cap w') (k : w.grownBy w' (some g)) : Sb base g G a0 len cap M N S v j M' S' w' :=
 ⟨(h.1.read hr k).1, h.2.1, h.2.2.trans (h.1.read hr k).2.mv⟩
theorem ParW.mv {v' : World} (h : ParW M S v) (hS : Kept S S') (k : Mv g G M M' v v') : ParW M' S' v' := fun hn => by
 obtain ⟨s1, s2, s7, s8, s9, s10⟩ := hS
 rw [s8] at hn
 obtain ⟨gs, cs, ms, e1, e2, e3⟩ := h hn
 obtain ⟨f1, f2⟩ := k.hold gs _ _ e2 (.inr rfl)
 refine ⟨gs, cs, ms, by rw [s9, s8]; exact e1, f2, fun j hj => ?_⟩
 rw [s8] at hj
 obtain ⟨u, n, c, g1, g2, g3⟩ := e3 j hj
 refine ⟨u, n, c, (cell_blk f1).trans g1, g2, fun hp => ?_⟩
 obtain ⟨gp, mp, r1, r2, r3⟩ := g3 hp
 obtain ⟨t1, t2⟩ := k.hold gp _ _ r2 (.inl rfl)
 refine ⟨gp, mp, r1, t2, fun i hi => ?_⟩
 obtain ⟨x, x1, x2⟩ := r3 i hi
 exact ⟨x, (cell_blk t1).trans x1, x2⟩
theorem pick_sb (h : Sb base g G a0 len cap M N S v j M' S' w) (x : Int) (hx : x = 1 ∨ x = 8 ∨ x = 16 ∨ x = 32) (hN : N + j + 2 ≤ 10000) :
  Calls Tryd.prog 92 #[.pointer (some ⟨G, 0, none⟩), .int .i64 x] w fun e w' => ∃ n : Int, e = .returned (.int .i64 n) ∧ ∃ M2 S2, Sb base g G a0 len cap M N S v (j + 2) M2 S2 w' ∧ Same S' S2 ∧ Mov g G M' M2 w w' := by
 refine (pick_any base g G a0 len cap M' (N + j) S' x w h.1 hN hx).mono ?_
 rintro e w' ⟨n, rfl, M2, S2, H2, hS2, V2⟩
 exact ⟨n, rfl, M2, S2, ⟨H2, h.2.1.trans hS2.kept, h.2.2.trans V2.mv⟩, hS2, V2⟩
theorem put_sb (h : Sb base g G a0 len cap M N S v j M' S' w) (op iw a b c imm : Int) (hN : N + j + 2 ≤ 10000) :
  Calls Tryd.prog 90 #[.pointer (some ⟨G, 0, none⟩), .agg #[.int .i64 op, .int .i64 iw, .int .i64 a, .int .i64 b, .int .i64 c, .int .i64 imm, .slice none 0 0]] w fun e w' => ∃ n : Int, e = .returned (.int .i64 n) ∧ ∃ M2 S2, Sb base g G a0 len cap M N S v (j + 2) M2 S2 w' ∧ Same S' S2 ∧ Mov g G M' M2 w w' := by
 refine (put_any base g G a0 len cap M' (N + j) S' op iw a b c imm none 0 0 w h.1 hN ⟨none, 0, rfl, .inl rfl⟩ (by omega)).mono ?_
 rintro e w' ⟨n, rfl, M2, S2, H2, hS2, _, V2⟩
 exact ⟨n, rfl, M2, S2, ⟨H2, h.2.1.trans hS2.kept, h.2.2.trans V2.mv⟩, hS2, V2⟩
theorem phi_sb (h : Sb base g G a0 len cap M N S v j M' S' w) (x : Int) (u : Option Addr) (na q : Nat) (hav : SlN M' 2 (.slice u na q) na) (hna : na ≤ N + j) (hN : N + j + 2 ≤ 10000) (h1a : 1 ≤ na := by omega) :
  Calls Tryd.prog 95 #[.pointer (some ⟨G, 0, none⟩), .int .i64 x, .slice u na q] w fun e w' => ∃ n : Int, e = .returned (.int .i64 n) ∧ ∃ M2 S2, Sb base g G a0 len cap M N S v (j + 2) M2 S2 w' ∧ S2.bv = S'.bv ∧ S2.nb = S'.nb ∧ S2.nph = S'.nph + 1 ∧ Mv g G M' M2 w w' := by
 refine (phi_any base g G a0 len cap M' (N + j) S' x u na q w h.1 hN hav hna h1a).mono ?_
 rintro e w' ⟨n, rfl, M2, S2, H2, ⟨s', hS2⟩, V2⟩
 refine ⟨n, rfl, M2, S2, ⟨H2, h.2.1.trans ?_, h.2.2.trans V2⟩, ?_, ?_, ?_, V2⟩
 ·rw [hS2]; exact ⟨rfl, rfl, rfl, rfl, rfl, rfl⟩
 all_goals rw [hS2]
theorem close_sb (h : Sb base g G a0 len cap M N S v j M' S' w) (kd ta tx ty : Int) (hN : N + j + 1 ≤ 10000) :
  Calls Tryd.prog 94 #[.pointer (some ⟨G, 0, none⟩), .agg #[.int .i64 kd, .int .i64 ta, .int .i64 tx, .int .i64 ty]] w fun e w' => (∃ r, e = .returned r) ∧ ∃ M2 s', Sb base g G a0 len cap M N S v (j + 1) M2 (Closed S' s') w' ∧ Mv g G M' M2 w w' := by
 refine (close_any base g G a0 len cap M' (N + j) S' kd ta tx ty w h.1 hN).mono ?_
 rintro e w' ⟨hr, M2, s', H2, V2⟩
 exact ⟨hr, M2, s', ⟨H2, h.2.1.trans (closed_kept _ _), h.2.2.trans V2⟩, V2⟩
end Go.Proofs.YtenbodghkpbghaaDoor
