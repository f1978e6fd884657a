/- A function that grows: one instruction more. -/
import Derived.Test.YtjmoonbpfieifaaGreatDoorGnC
import Derived.Test.YtjmoonbpfieifaaGreatDoorIty
namespace Go.Proofs.YtjmoonbpfieifaaGreatDoor
open Go.RowKit Go.Deep
set_option linter.unusedVariables false

/-- What stays of a growing function when it has more instructions and ids. -/
def Same (S S' : GRec) : Prop := S'.pv = S.pv ∧ S'.np = S.np ∧ S'.bv = S.bv ∧ S'.nb = S.nb ∧ S'.phv = S.phv ∧ S'.nph = S.nph ∧ S'.rv = S.rv ∧ S'.nr = S.nr ∧ S'.sv = S.sv ∧ S'.ret = S.ret
theorem Same.refl (S : GRec) : Same S S := ⟨rfl, rfl, rfl, rfl, rfl, rfl, rfl, rfl, rfl, rfl⟩
theorem Same.trans {A B C : GRec} (h : Same A B) (k : Same B C) : Same A C :=
  ⟨k.1.trans h.1, k.2.1.trans h.2.1, k.2.2.1.trans h.2.2.1, k.2.2.2.1.trans h.2.2.2.1, k.2.2.2.2.1.trans h.2.2.2.2.1, k.2.2.2.2.2.1.trans h.2.2.2.2.2.1, k.2.2.2.2.2.2.1.trans h.2.2.2.2.2.2.1, k.2.2.2.2.2.2.2.1.trans h.2.2.2.2.2.2.2.1, k.2.2.2.2.2.2.2.2.1.trans h.2.2.2.2.2.2.2.2.1, k.2.2.2.2.2.2.2.2.2.trans h.2.2.2.2.2.2.2.2.2⟩
theorem Gok.mono {base g G len cap N N' : Nat} {a0 : Option Addr} {M : Tmap} {S : GRec} {v : World} (h : Gok base g G a0 len cap M N S v) (hN : N ≤ N') (hm : N' ≤ 10000) : Gok base g G a0 len cap M N' S v :=
  ⟨h.rd, h.gb, h.bv, h.mG, h.nG, h.cells, h.th.keep hN fun _ _ => rfl, h.p, h.b, h.ph, h.i, h.ids, h.rets, h.pars, by have := h.bn; omega⟩
/-- New memory that nothing of the function stands in. -/
theorem Gok.below {base g G len cap N : Nat} {a0 : Option Addr} {M : Tmap} {S : GRec} {v v' : World} (h : Gok base g G a0 len cap M N S v) (k : Below v.heap.size v v') : Gok base g G a0 len cap M N S v' ∧ Mov g G M M v v' := by
  have hG := (Array.getElem?_eq_some_iff.1 h.cells).1
  have hk : ∀ b, (∃ p, M b = some p) → v'.heap[b]? = v.heap[b]? := fun b hb => k.block b (h.th.lt hb).2
  exact ⟨⟨rd_keep h.rd k.size fun b hb => k.block b (by have := h.rd.lt; omega), h.gb, Nat.le_trans h.bv k.size, h.mG, h.nG, (k.block G hG).trans h.cells, h.th.keep (Nat.le_refl _) hk, h.p.keep hk, h.b.keep hk, h.ph.keep hk, h.i.keep hk, h.ids, h.rets, h.pars, h.bn⟩, ⟨Ext.refl _, fun b hb _ _ h3 => ⟨k.block b hb, h3⟩, fun b T m hb _ => ⟨hk b ⟨_, hb⟩, hb⟩, k.os, k.tape, k.output, k.size⟩⟩
/-- One instruction was appended, and its slice stored. -/
theorem Gok.pushI {base g G len cap N : Nat} {a0 : Option Addr} {M M' : Tmap} {S : GRec} {v w2 : World} {s' : Value} (h : Gok base g G a0 len cap M N S v) (hN : N < 10000) (k : Pushed base M M' (N + 1) 26 S.ni v w2 s') :
    Gok base g G a0 len cap M' (N + 1) { S with iv := s', ni := S.ni + 1 } (w2.setCell ⟨G, 5, none⟩ s') ∧ Mov g G M M' v (w2.setCell ⟨G, 5, none⟩ s') := by
  have hGl := (Array.getElem?_eq_some_iff.1 h.cells).1
  obtain ⟨o1, o2⟩ := k.out G hGl h.mG
  have hbn := h.bn
  have hset : ∀ b, b ≠ G → (w2.setCell ⟨G, 5, none⟩ s').heap[b]? = w2.heap[b]? := fun b hb => Below.heap_setCell _ _ _ _ hb
  have hne : ∀ b, (∃ p, M' b = some p) → b ≠ G := fun b hb e => by
    obtain ⟨p, hb⟩ := hb
    rw [e, o2] at hb; cases hb
  have hk : ∀ b, (∃ p, M' b = some p) → (w2.setCell ⟨G, 5, none⟩ s').heap[b]? = w2.heap[b]? := fun b hb => hset b (hne b hb)
  have hsz : (w2.setCell ⟨G, 5, none⟩ s').heap.size = w2.heap.size := by simp [World.setCell]
  refine ⟨⟨rd_keep h.rd (by rw [hsz]; exact k.size) fun b hb => ?_, h.gb, by rw [hsz]; exact Nat.le_trans h.bv k.size, o2, h.nG, (heap_set (o1.trans h.cells)).trans rfl, k.th.keep (Nat.le_refl _) hk, (k.row2 h.p (by decide)).keep hk, (k.row2 h.b (by decide)).keep hk, (k.row2 h.ph (by decide)).keep hk, k.row.keep hk, ?_, h.rets.ext k.ext, h.pars.ext k.ext, by dsimp only; omega⟩, ⟨k.ext, fun b hb h1 h2 h3 => ?_, fun b T m hb hT => ?_, k.os, k.tape, k.output, by rw [hsz]; exact k.size⟩⟩
  · have hbg : b < base := Nat.lt_of_le_of_lt hb h.gb
    have hn : M b = none := by
      cases e : M b with
      | none => rfl
      | some p => have := (h.th.lt ⟨p, e⟩).1; omega
    exact (hset b (by have := h.nG; omega)).trans (k.out b (by have := h.bv; omega) hn).1
  · rcases h.ids with hi | ⟨h1, h2, h3⟩
    · exact .inl hi
    · exact .inr ⟨h1, h2.ext k.ext, h3.ext k.ext⟩
  · obtain ⟨e1, e2⟩ := k.out b hb h3
    exact ⟨(hset b h2).trans e1, e2⟩
  · obtain ⟨e1, e2⟩ := k.other b T m hb hT
    exact ⟨(hset b (fun e => by rw [e, h.mG] at hb; cases hb)).trans e1, e2⟩
theorem add_any (base g G : Nat) (a0 : Option Addr) (len cap : Nat) (M : Tmap) (N : Nat) (S : GRec) (x : Int) (v : World) (h : Gok base g G a0 len cap M N S v) (hN : N < 10000) :
    Calls Tryz.prog 78 #[.pointer (some ⟨G, 0, none⟩), .int .i64 x] v fun e v' => ∃ n : Int, e = .returned (.int .i64 n) ∧ ∃ M' S', Gok base g G a0 len cap M' (N + 1) S' v' ∧ S' = { S with idv := S'.idv, wsv := S'.wsv, nid := S.nid + 1, nx := S.nx + 1 } ∧ Mov g G M M' v v' := by
  rcases h.ids with ⟨e1, e2, e3⟩ | ⟨h1, h2, h3⟩
  · exact add_none base g G a0 len cap M N S x v h hN e1 e2 e3
  · exact add_some base g G a0 len cap M N S x v h hN h1 h2 h3
end Go.Proofs.YtjmoonbpfieifaaGreatDoor
