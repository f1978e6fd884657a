/- A function that grows: its beginning and its parameters. -/
import Derived.Test.YtiflkkkggidhbaaGnS
namespace Go.Proofs.Ytiflkkkggidhbaa
open Go.RowKit Go.Deep
set_option linter.unusedVariables false

/-- The law of a row, with which block it writes. -/
theorem run_row3 {base n N N' : Nat} {M : Tmap} {T t ty : TypeId} {s : Value} {v : World} (i : TypeInfo) (z : Value) (bytes : Nat) (ht : Try.prog.underlying t = some (.slice T)) (hi : Try.prog.info? T = some i) (hz : i.zero = some z) (hsz : i.size = szT T) (hby : i.bytes = bytes) (hzs : z.cells.size = szT T) (hbm : bytes ≤ 1000)
    (h : Row base M T s n v) (th : TH base M N v) (hN : N ≤ N') (hT : T = 2 ∨ T = 24 ∨ T = 49 ∨ T = 39 ∨ T = 47) (hb : base ≤ v.heap.size) (hn : n ≤ 100000)
    (ad : Addr) (c : Nat) (news : List Value) (hl : news.length = szT T) (hnews : ∀ j u, news[j]? = some u → v.cell? (ad.add j) = some u) (h1 : ∀ u ∈ news, u.oneCell' = true) (he : ∀ M', Ext M M' → ElOk M' N' T (fun j => news[j]?)) :
    ∃ s' w' M', (Builtin.append_ #[t, t] ty #[s, .slice (some ad) 1 c]).run Try.prog v = .ok s' w' ∧ ∃ g' cap', s' = .slice (some ⟨g', 0, none⟩) (n + 1) cap' ∧ M' = put M g' T (n + 1) ∧ Pushed base M M' N' T n v w' s' ∧ (∀ b, b ≠ g' → b < v.heap.size → w'.heap[b]? = v.heap[b]?) ∧ (s.ownBlock = some g' ∨ v.heap.size ≤ g') ∧ ∃ xs, v.ownsRow base T (szT T) s n xs ∧ w'.ownsRow base T (szT T) s' (n + 1) (xs ++ news) := by
  have hmul : (n + 1) * bytes ≤ 140737488355328 := Nat.le_trans (Nat.mul_le_mul (show n + 1 ≤ 100001 by omega) hbm) (by decide)
  obtain ⟨xs, hx⟩ := h.own
  rcases h with ⟨rfl, rfl⟩ | ⟨g, cap, cur, rfl, hg, hM, hc, hnc, hm, hs⟩
  · have hx0 : xs = [] := by have := hx.1; simpa using this
    subst hx0
    obtain ⟨v', w', hr, h2, h3, _, _⟩ := run_append_own_at (P := Try.prog) v v.heap.size t ty T i z (szT T) bytes ht hi hz hsz hby hzs (szT_pos T) (.slice none 0 0) 0 [] ⟨by simp, .inl ⟨rfl, rfl⟩⟩ ad 1 c news (by omega) hnews h1 (by unfold maxLen; omega) (by simpa using hmul) (Nat.le_refl _)
    obtain ⟨g', cap', rfl, hg', _⟩ := h2.form (by omega)
    have h2' := own_low (b' := base) (xs := news) (by simpa using h2) hb
    exact ⟨_, w', _, hr, g', cap', rfl, rfl, Row.pushed (xs := []) (news := news) (.inl ⟨rfl, rfl⟩) th hN hT hx hb h2' (.inr ⟨hg', h3⟩) hl he, fun b hbg hbl => h3.block b hbl (by simp [Value.ownBlock]), .inr hg', [], hx, h2'⟩
  · by_cases hroom : n + 1 ≤ cap
    · obtain ⟨w', hr, h2, h3⟩ := run_append_own_spare (P := Try.prog) v base t ty T i (szT T) ht hi hsz g n cap xs hx ad 1 c news (by omega) hnews h1 hroom
      exact ⟨_, w', _, hr, g, cap, rfl, rfl, Row.pushed (.inr ⟨g, cap, cur, rfl, hg, hM, hc, hnc, hm, hs⟩) th hN hT hx hb h2 (.inl ⟨rfl, h3⟩) hl he, fun b hbg hbl => h3.block b hbl (by simpa using hbg), .inl rfl, xs, hx, h2⟩
    · have hxl := hx.1
      obtain ⟨v', w', hr, h2, h3⟩ := run_append_arg_grows (P := Try.prog) v t ty T i z (szT T) bytes ht hi hz hsz hby hzs (szT_pos T) ⟨g, 0, none⟩ n cap xs hxl (hx.cells rfl) ad 1 c news (by omega) hnews (by omega) (by unfold maxLen; omega) hmul
      obtain ⟨g', cap', rfl, hg', _⟩ := h2.form (by omega)
      exact ⟨_, w', _, hr, g', cap', rfl, rfl, Row.pushed (.inr ⟨g, cap, cur, rfl, hg, hM, hc, hnc, hm, hs⟩) th hN hT hx hb (own_low h2 hb) (.inr ⟨hg', h3⟩) hl he, fun b hbg hbl => h3.block b hbl (by simp), .inr hg', xs, hx, own_low h2 hb⟩
variable {base g G len cap N j : Nat} {a0 : Option Addr} {M M' : Tmap} {S S' : GRec} {v w w2 : World}
/-- A parameter more. -/
theorem Gok.pushPar {g' cap' : Nat} (h : Gok base g G a0 len cap M N S w) (hN : N < 10000) (k : Pushed base M (put M g' 2 (S.np + 1)) (N + 1) 2 S.np w w2 (.slice (some ⟨g', 0, none⟩) (S.np + 1) cap')) (hb : ∀ b, b ≠ g' → b < w.heap.size → w2.heap[b]? = w.heap[b]?) (hg : S.pv.ownBlock = some g' ∨ w.heap.size ≤ g') :
    Gok base g G a0 len cap (put M g' 2 (S.np + 1)) (N + 1) { S with pv := .slice (some ⟨g', 0, none⟩) (S.np + 1) cap', np := S.np + 1 } (w2.setCell ⟨G, 1, none⟩ (.slice (some ⟨g', 0, none⟩) (S.np + 1) cap')) ∧ (∀ b, b ≠ g' → b ≠ G → b < w.heap.size → (w2.setCell ⟨G, 1, none⟩ (.slice (some ⟨g', 0, none⟩) (S.np + 1) cap')).heap[b]? = w.heap[b]?) := by
  have hGl := (Array.getElem?_eq_some_iff.1 h.cells).1
  obtain ⟨o1, o2⟩ := k.out G hGl h.mG
  have hbn := h.bn
  have hset : ∀ b, b ≠ G → (w2.setCell ⟨G, 1, none⟩ (.slice (some ⟨g', 0, none⟩) (S.np + 1) cap')).heap[b]? = w2.heap[b]? := fun b hb => Below.heap_setCell _ _ _ _ hb
  have hk : ∀ b, (∃ p, put M g' 2 (S.np + 1) b = some p) → (w2.setCell ⟨G, 1, none⟩ (.slice (some ⟨g', 0, none⟩) (S.np + 1) cap')).heap[b]? = w2.heap[b]? := fun b hb => hset b fun e => by
    obtain ⟨p, hb⟩ := hb
    rw [e, o2] at hb; cases hb
  have hsz : (w2.setCell ⟨G, 1, none⟩ (.slice (some ⟨g', 0, none⟩) (S.np + 1) cap')).heap.size = w2.heap.size := by simp [World.setCell]
  have hgb : base ≤ g' ∧ g < g' := by
    have h1 := h.gb
    have h2 := h.bv
    rcases hg with hg | hg
    · obtain ⟨p, hp⟩ := own_M h.p hg
      have := (h.th.lt ⟨_, hp⟩).1
      omega
    · omega
  refine ⟨⟨rd_keep h.rd (by rw [hsz]; exact k.size) fun b hb' => ?_, h.gb, by rw [hsz]; exact Nat.le_trans h.bv k.size, o2, h.nG, (heap_set (o1.trans h.cells)).trans rfl, k.th.keep (Nat.le_refl _) hk, k.row.keep hk, (k.row2 h.b (by decide)).keep hk, (k.row2 h.ph (by decide)).keep hk, (k.row2 h.i (by decide)).keep hk, ?_, h.rets.ext k.ext, h.pars.ext k.ext, by dsimp only; omega⟩, fun b h1 h2 h3 => (hset b h2).trans (hb b h1 h3)⟩
  · have hgl := h.rd.lt
    have h1 := h.nG
    have h2 := h.gb
    exact (hset b (by omega)).trans (hb b (by omega) (by omega))
  · rcases h.ids with hi | ⟨h1, h2, h3⟩
    · exact .inl hi
    · exact .inr ⟨h1, h2.ext k.ext, h3.ext k.ext⟩
/-- The widths of the parameters. -/
def PW (w : World) (S : GRec) : Prop := ∀ k, k < S.np → ∃ x : Int, rowAt w S.pv k = some (.int .i64 x) ∧ (x = 1 ∨ x = 8 ∨ x = 16 ∨ x = 32)
theorem PW.mv (h : PW w S) (hg : Gok base g G a0 len cap M N S w) (hS : Kept S S') (hh : ∀ b m, M b = some (2, m) → w2.heap[b]? = w.heap[b]?) : PW w2 S' := fun k hk => by
  rw [hS.2.1] at hk
  obtain ⟨x, h1, h2⟩ := h k hk
  refine ⟨x, ?_, h2⟩
  rw [hS.1, rowAt_hold hg.p.sl (by omega) hh]
  exact h1
/-- How far the beginning is. -/
structure Bg (base g G : Nat) (a0 : Option Addr) (len cap : Nat) (M : Tmap) (v : World) (n : Nat) (ret : Int) (rv sv : Value) (nr : Nat) (w : World) : Prop where
  st : ∃ M' S', Gok base g G a0 len cap M' (10 + 2 * n) S' w ∧ S'.np = n ∧ S'.ret = ret ∧ S'.rv = rv ∧ S'.sv = sv ∧ S'.nr = nr ∧ PW w S' ∧ Mv g G M M' v w ∧ (∀ q, S'.pv.ownBlock = some q → v.heap.size ≤ q)
theorem info1 : (Try.prog.info? 2).map (fun i => (i.zero, i.size, i.bytes)) = some (some (.int .i64 0), 1, 8) := by kernel_rfl
/-- A parameter more, in these words. -/
theorem par_more {n : Nat} {ret x : Int} {rv sv : Value} {nr : Nat} {g' cap' : Nat} {S' : GRec} {xs : List Value} (H : Gok base g G a0 len cap M' (10 + 2 * n) S' w) (hn : S'.np = n) (hn2 : n ≤ 2) (hl : ∀ b, (∃ p, M b = some p) → b < v.heap.size) (hx : x = 1 ∨ x = 8 ∨ x = 16 ∨ x = 32) (hr : S'.ret = ret ∧ S'.rv = rv ∧ S'.sv = sv ∧ S'.nr = nr) (hpw : PW w S') (hv : Mv g G M M' v w) (ho : ∀ q, S'.pv.ownBlock = some q → v.heap.size ≤ q)
    (k : Pushed base M' (put M' g' 2 (S'.np + 1)) (10 + 2 * n + 1) 2 S'.np w w2 (.slice (some ⟨g', 0, none⟩) (S'.np + 1) cap')) (hb : ∀ b, b ≠ g' → b < w.heap.size → w2.heap[b]? = w.heap[b]?) (hg : S'.pv.ownBlock = some g' ∨ w.heap.size ≤ g') (hc1 : w.ownsRow base 2 (szT 2) S'.pv S'.np xs) (hc2 : w2.ownsRow base 2 (szT 2) (.slice (some ⟨g', 0, none⟩) (S'.np + 1) cap') (S'.np + 1) (xs ++ [.int .i64 x])) :
    ∃ M2 S2, Gok base g G a0 len cap M2 (10 + 2 * n + 1) S2 (w2.setCell ⟨G, 1, none⟩ (.slice (some ⟨g', 0, none⟩) (S'.np + 1) cap')) ∧ S2.np = n + 1 ∧ S2.ret = ret ∧ S2.rv = rv ∧ S2.sv = sv ∧ S2.nr = nr ∧ PW (w2.setCell ⟨G, 1, none⟩ (.slice (some ⟨g', 0, none⟩) (S'.np + 1) cap')) S2 ∧ Mv g G M M2 v (w2.setCell ⟨G, 1, none⟩ (.slice (some ⟨g', 0, none⟩) (S'.np + 1) cap')) ∧ (∀ q, S2.pv.ownBlock = some q → v.heap.size ≤ q) := by
  obtain ⟨H2, hkeep⟩ := H.pushPar (by omega) k hb hg
  have hvs := hv.size
  have hg' : v.heap.size ≤ g' := by
    rcases hg with hg | hg
    · exact ho _ hg
    · omega
  have hs1 : szT 2 = 1 := by decide
  rw [hs1] at hc1 hc2
  have hsz : (w2.setCell ⟨G, 1, none⟩ (.slice (some ⟨g', 0, none⟩) (S'.np + 1) cap')).heap.size = w2.heap.size := by simp [World.setCell]
  have hgG : g' ≠ G := fun e => by
    have := H2.mG
    rw [← e] at this
    simp [put] at this
  have hc3 : (w2.setCell ⟨G, 1, none⟩ (.slice (some ⟨g', 0, none⟩) (S'.np + 1) cap')).ownsRow base 2 1 (.slice (some ⟨g', 0, none⟩) (S'.np + 1) cap') (S'.np + 1) (xs ++ [.int .i64 x]) := own_stay hc2 fun q hq => by
    have e : q = g' := by simpa [Value.ownBlock] using hq.symm
    exact Below.heap_setCell _ _ _ _ (by rw [e]; exact hgG)
  have hlx := hc1.1
  refine ⟨_, _, H2, by dsimp only; omega, hr.1, hr.2.1, hr.2.2.1, hr.2.2.2, fun q hq => ?_, ⟨hv.ext.trans k.ext, fun b hb' h1 h2 h3 => ?_, fun b T m hb' hT => ?_, k.os.trans hv.os, k.tape.trans hv.tape, k.output.trans hv.output, by rw [hsz]; exact Nat.le_trans hvs k.size⟩, fun q hq => ?_⟩
  · dsimp only at hq ⊢
    rw [own_at hc3 (by omega)]
    by_cases e : q = S'.np
    · rw [List.getElem?_append_right (by omega), hlx, e, Nat.mul_one, Nat.sub_self]
      exact ⟨x, rfl, hx⟩
    · rw [List.getElem?_append_left (by omega), ← own_at hc1 (by omega)]
      exact hpw q (by omega)
  · obtain ⟨r1, r2⟩ := hv.out b hb' h1 h2 h3
    exact ⟨(hkeep b (by omega) h2 (by omega)).trans r1, by unfold put; rw [if_neg (by omega)]; exact r2⟩
  · obtain ⟨r1, r2⟩ := hv.hold b T m hb' hT
    have := hl b ⟨_, hb'⟩
    have hbG : b ≠ G := fun e => by have := H.mG; rw [← e, r2] at this; cases this
    exact ⟨(hkeep b (by omega) hbG (by omega)).trans r1, by unfold put; rw [if_neg (by omega)]; exact r2⟩
  · have e : q = g' := by simpa [Value.ownBlock] using hq.symm
    omega
end Go.Proofs.Ytiflkkkggidhbaa
