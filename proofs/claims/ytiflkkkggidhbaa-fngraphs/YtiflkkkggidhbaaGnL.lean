/- A function that grows: a block more; what stands in a row. -/
import Derived.Test.YtiflkkkggidhbaaGnK
namespace Go.Proofs.Ytiflkkkggidhbaa
open Go.RowKit Go.Deep
set_option linter.unusedVariables false

/-- The same law, with what stands in the row. -/
theorem run_row2 {base n N N' : Nat} {M : Tmap} {T t ty : TypeId} {s : Value} {v : World} (i : TypeInfo) (z : Value) (bytes : Nat) (ht : Try.prog.underlying t = some (.slice T)) (hi : Try.prog.info? T = some i) (hz : i.zero = some z) (hsz : i.size = szT T) (hby : i.bytes = bytes) (hzs : z.cells.size = szT T) (hbm : bytes ≤ 1000)
    (h : Row base M T s n v) (th : TH base M N v) (hN : N ≤ N') (hT : T = 2 ∨ T = 24 ∨ T = 49 ∨ T = 39 ∨ T = 47) (hb : base ≤ v.heap.size) (hn : n ≤ 100000)
    (ad : Addr) (c : Nat) (news : List Value) (hl : news.length = szT T) (hnews : ∀ j u, news[j]? = some u → v.cell? (ad.add j) = some u) (h1 : ∀ u ∈ news, u.oneCell' = true) (he : ∀ M', Ext M M' → ElOk M' N' T (fun j => news[j]?)) :
    ∃ s' w' M', (Builtin.append_ #[t, t] ty #[s, .slice (some ad) 1 c]).run Try.prog v = .ok s' w' ∧ Pushed base M M' N' T n v w' s' ∧ ∃ xs, v.ownsRow base T (szT T) s n xs ∧ w'.ownsRow base T (szT T) s' (n + 1) (xs ++ news) := by
  have hmul : (n + 1) * bytes ≤ 140737488355328 := Nat.le_trans (Nat.mul_le_mul (show n + 1 ≤ 100001 by omega) hbm) (by decide)
  obtain ⟨xs, hx⟩ := h.own
  rcases h with ⟨rfl, rfl⟩ | ⟨g, cap, cur, rfl, hg, hM, hc, hnc, hm, hs⟩
  · have hx0 : xs = [] := by have := hx.1; simpa using this
    subst hx0
    obtain ⟨v', w', hr, h2, h3, _, _⟩ := run_append_own_at (P := Try.prog) v v.heap.size t ty T i z (szT T) bytes ht hi hz hsz hby hzs (szT_pos T) (.slice none 0 0) 0 [] ⟨by simp, .inl ⟨rfl, rfl⟩⟩ ad 1 c news (by omega) hnews h1 (by unfold maxLen; omega) (by simpa using hmul) (Nat.le_refl _)
    obtain ⟨g', cap', rfl, hg', _⟩ := h2.form (by omega)
    have h2' := own_low (b' := base) (xs := news) (by simpa using h2) hb
    exact ⟨_, w', _, hr, Row.pushed (xs := []) (news := news) (.inl ⟨rfl, rfl⟩) th hN hT hx hb h2' (.inr ⟨hg', h3⟩) hl he, [], hx, h2'⟩
  · by_cases hroom : n + 1 ≤ cap
    · obtain ⟨w', hr, h2, h3⟩ := run_append_own_spare (P := Try.prog) v base t ty T i (szT T) ht hi hsz g n cap xs hx ad 1 c news (by omega) hnews h1 hroom
      exact ⟨_, w', _, hr, Row.pushed (.inr ⟨g, cap, cur, rfl, hg, hM, hc, hnc, hm, hs⟩) th hN hT hx hb h2 (.inl ⟨rfl, h3⟩) hl he, xs, hx, h2⟩
    · have hxl := hx.1
      obtain ⟨v', w', hr, h2, h3⟩ := run_append_arg_grows (P := Try.prog) v t ty T i z (szT T) bytes ht hi hz hsz hby hzs (szT_pos T) ⟨g, 0, none⟩ n cap xs hxl (hx.cells rfl) ad 1 c news (by omega) hnews (by omega) (by unfold maxLen; omega) hmul
      obtain ⟨g', cap', rfl, hg', _⟩ := h2.form (by omega)
      exact ⟨_, w', _, hr, Row.pushed (.inr ⟨g, cap, cur, rfl, hg, hM, hc, hnc, hm, hs⟩) th hN hT hx hb (own_low h2 hb) (.inr ⟨hg', h3⟩) hl he, xs, hx, own_low h2 hb⟩
theorem Gok.pushB {base g G len cap N : Nat} {a0 : Option Addr} {M M' : Tmap} {S : GRec} {v w2 : World} {s' : Value} (h : Gok base g G a0 len cap M N S v) (hN : N < 10000) (k : Pushed base M M' (N + 1) 47 S.nb v w2 s') :
    Gok base g G a0 len cap M' (N + 1) { S with bv := s', nb := S.nb + 1 } (w2.setCell ⟨G, 3, none⟩ s') ∧ Mv g G M M' v (w2.setCell ⟨G, 3, none⟩ s') := by
  have hGl := (Array.getElem?_eq_some_iff.1 h.cells).1
  obtain ⟨o1, o2⟩ := k.out G hGl h.mG
  have hbn := h.bn
  have hset : ∀ b, b ≠ G → (w2.setCell ⟨G, 3, none⟩ s').heap[b]? = w2.heap[b]? := fun b hb => Below.heap_setCell _ _ _ _ hb
  have hne : ∀ b, (∃ p, M' b = some p) → b ≠ G := fun b hb e => by
    obtain ⟨p, hb⟩ := hb
    rw [e, o2] at hb; cases hb
  have hk : ∀ b, (∃ p, M' b = some p) → (w2.setCell ⟨G, 3, none⟩ s').heap[b]? = w2.heap[b]? := fun b hb => hset b (hne b hb)
  have hsz : (w2.setCell ⟨G, 3, none⟩ s').heap.size = w2.heap.size := by simp [World.setCell]
  refine ⟨⟨rd_keep h.rd (by rw [hsz]; exact k.size) fun b hb => ?_, h.gb, by rw [hsz]; exact Nat.le_trans h.bv k.size, o2, h.nG, (heap_set (o1.trans h.cells)).trans rfl, k.th.keep (Nat.le_refl _) hk, (k.row2 h.p (by decide)).keep hk, k.row.keep hk, (k.row2 h.ph (by decide)).keep hk, (k.row2 h.i (by decide)).keep hk, ?_, h.rets.ext k.ext, h.pars.ext k.ext, by dsimp only; omega⟩, ⟨k.ext, fun b hb h1 h2 h3 => ?_, fun b T m hb hT => ?_, k.os, k.tape, k.output, by rw [hsz]; exact k.size⟩⟩
  · have hbg : b < base := Nat.lt_of_le_of_lt hb h.gb
    have hn : M b = none := by
      cases e : M b with
      | none => rfl
      | some p => have := (h.th.lt ⟨p, e⟩).1; omega
    exact (hset b (by have := h.nG; omega)).trans (k.out b (by have := h.bv; omega) hn).1
  · rcases h.ids with hi | ⟨h1, h2, h3⟩
    · exact .inl hi
    · exact .inr ⟨h1, h2.ext k.ext, h3.ext k.ext⟩
  · obtain ⟨e1, e2⟩ := k.out b hb h3
    exact ⟨(hset b h2).trans e1, e2⟩
  · obtain ⟨e1, e2⟩ := k.other b T m hb (by rcases hT with rfl | rfl <;> decide)
    exact ⟨(hk b ⟨_, e2⟩).trans e1, e2⟩
/-- The block at hand is a new one. -/
theorem Gok.reset {base g G len cap N : Nat} {a0 : Option Addr} {M : Tmap} {S : GRec} {v v' : World} (h : Gok base g G a0 len cap M N S v) (hB : ∀ b, b ≠ G → v'.heap[b]? = v.heap[b]?) (hz : v'.heap.size = v.heap.size) (e1 : v'.os = v.os) (e2 : v'.tape = v.tape) (e3 : v'.output = v.output)
    (hG : v'.heap[G]? = some (.cells (gcells g { S with phv := .slice none 0 0, nph := 0, iv := .slice none 0 0, ni := 0, kd := 0, ta := 0, tx := 0, ty := 0 }) 101 (0, 0))) :
    Gok base g G a0 len cap M N { S with phv := .slice none 0 0, nph := 0, iv := .slice none 0 0, ni := 0, kd := 0, ta := 0, tx := 0, ty := 0 } v' ∧ Mv g G M M v v' := by
  have hgG : g < G := Nat.lt_of_lt_of_le h.gb h.nG
  have hk : ∀ b, (∃ p, M b = some p) → v'.heap[b]? = v.heap[b]? := fun b hb => hB b (fun e => by
    obtain ⟨p, hb⟩ := hb
    rw [e, h.mG] at hb; cases hb)
  have hbn := h.bn
  exact ⟨⟨rd_keep h.rd (by omega) fun b hb => hB b (by omega), h.gb, by rw [hz]; exact h.bv, h.mG, h.nG, hG, h.th.keep (Nat.le_refl _) hk, h.p.keep hk, h.b.keep hk, .inl ⟨rfl, rfl⟩, .inl ⟨rfl, rfl⟩, h.ids, h.rets, h.pars, by dsimp only; omega⟩, ⟨Ext.refl _, fun b _ _ h2 h3 => ⟨hB b h2, h3⟩, fun b T m hb _ => ⟨hk b ⟨_, hb⟩, hb⟩, e1, e2, e3, by omega⟩⟩
theorem infoB : (Try.prog.info? 47).map (fun i => (i.zero, i.size, i.bytes)) = some (some (.agg #[.slice none 0 0, .slice none 0 0, .int .i64 0, .int .i64 0, .int .i64 0, .int .i64 0]), 6, 80) := by kernel_rfl
theorem el_block {M : Tmap} {N : Nat} {p i : Value} {a b c d : Int} (hp : SlV M N 49 p) (hi : SlV M N 39 i) : ∀ M', Ext M M' → ElOk M' (N + 1) 47 (fun j => [p, i, .int .i64 a, .int .i64 b, .int .i64 c, .int .i64 d][j]?) := fun M' he => by
  refine ⟨fun q => absurd q (by decide), fun q => absurd q (by decide), fun q => absurd q (by decide), fun q => absurd q (by decide), fun _ => ⟨⟨p, rfl, hp.ext he (by omega)⟩, ⟨i, rfl, hi.ext he (by omega)⟩, fun j h2 hj => ?_⟩⟩
  match j, h2, hj with
  | 2, _, _ => exact ⟨_, rfl⟩
  | 3, _, _ => exact ⟨_, rfl⟩
  | 4, _, _ => exact ⟨_, rfl⟩
  | 5, _, _ => exact ⟨_, rfl⟩
theorem six_of {w : World} {L : Nat} {x0 x1 x2 x3 x4 x5 : Value} {T : TypeId} (hL : w.heap[L]? = some (.cells #[x0, x1, x2, x3, x4, x5] T (0, 0))) : ∀ j u, [x0, x1, x2, x3, x4, x5][j]? = some u → w.cell? ((⟨L, 0, none⟩ : Addr).add j) = some u := fun j u hj => by
  rw [Addr.add_lit, cell_of_heap hL, Nat.zero_add, ← hj]
  rcases j with _ | _ | _ | _ | _ | _ | j <;> rfl
end Go.Proofs.Ytiflkkkggidhbaa
