import Derived.Test.YtgojlnclpebdcaaGreatDoorGnWR
namespace Go.Proofs.YtgojlnclpebdcaaGreatDoor
open Go.RowKit Go.Deep
set_option linter.unusedVariables false
theorem size5 (v : World) : ((((v.alloc (.cells #[.slice none 0 0] 26)).alloc (.cells #[.slice none 0 0] 26)).alloc (.cells #[] 2)).alloc (.cells #[] 33)).heap.size = v.heap.size + 4 := by simp
theorem mst_start {g len cap : Nat} {a0 : Option Addr} {v : World} (h : Rd g a0 len cap v) : MSt v.heap.size g a0 len cap v 0 (.slice (some ⟨v.heap.size + 2, 0, none⟩) 0 0) (.slice (some ⟨v.heap.size + 3, 0, none⟩) 0 0) ((((v.alloc (.cells #[.slice none 0 0] 26)).alloc (.cells #[.slice none 0 0] 26)).alloc (.cells #[] 2)).alloc (.cells #[] 33)) := by
 have hg := h.lt
 have hb : Below v.heap.size v ((((v.alloc (.cells #[.slice none 0 0] 26)).alloc (.cells #[.slice none 0 0] 26)).alloc (.cells #[] 2)).alloc (.cells #[] 33)) := (((((Below.refl _ _).alloc (Nat.le_refl _) _).alloc (by simp) _).alloc (by first | (simp; done) | (simp; omega)) _).alloc (by first | (simp; done) | (simp; omega)) _)
 have e0 : ((((v.alloc (.cells #[.slice none 0 0] 26)).alloc (.cells #[.slice none 0 0] 26)).alloc (.cells #[] 2)).alloc (.cells #[] 33)).heap[v.heap.size]? = some (.cells #[.slice none 0 0] 26 (0, 0)) := by
  rw [Below.heap_alloc _ _ _ (by first | (simp; done) | (simp; omega)), Below.heap_alloc _ _ _ (by first | (simp; done) | (simp; omega))]
  exact heap_alloc2_old _ _ _
 have e1 : ((((v.alloc (.cells #[.slice none 0 0] 26)).alloc (.cells #[.slice none 0 0] 26)).alloc (.cells #[] 2)).alloc (.cells #[] 33)).heap[v.heap.size + 1]? = some (.cells #[.slice none 0 0] 26 (0, 0)) := by
  rw [Below.heap_alloc _ _ _ (by first | (simp; done) | (simp; omega)), Below.heap_alloc _ _ _ (by first | (simp; done) | (simp; omega))]
  exact heap_alloc2_new _ _ _
 have e2 : ((((v.alloc (.cells #[.slice none 0 0] 26)).alloc (.cells #[.slice none 0 0] 26)).alloc (.cells #[] 2)).alloc (.cells #[] 33)).heap[v.heap.size + 2]? = some (.cells #[] 2 (0, 0)) := by
  have q : ((v.alloc (.cells #[.slice none 0 0] 26)).alloc (.cells #[.slice none 0 0] 26)).heap.size = v.heap.size + 2 := by simp
  rw [Below.heap_alloc _ _ _ (by first | (simp; done) | (simp; omega)), ← q]
  exact heap_alloc_last _ _
 have e3 : ((((v.alloc (.cells #[.slice none 0 0] 26)).alloc (.cells #[.slice none 0 0] 26)).alloc (.cells #[] 2)).alloc (.cells #[] 33)).heap[v.heap.size + 3]? = some (.cells #[] 33 (0, 0)) := by
  have q : (((v.alloc (.cells #[.slice none 0 0] 26)).alloc (.cells #[.slice none 0 0] 26)).alloc (.cells #[] 2)).heap.size = v.heap.size + 3 := by simp
  rw [← q]
  exact heap_alloc_last _ _
 refine ⟨rd_keep h hb.size fun b hb' => hb.block b (by omega), hg, by rw [size5]; exact Nat.le_refl _, e0, ⟨_, [], [], e1, ⟨by simp, .inl ⟨rfl, rfl⟩⟩, ⟨by simp, .inr ⟨_, 0, #[], rfl, by omega, e3, Nat.le_refl _, by unfold maxLen; omega, by simp, by simp⟩⟩, fun _ => rfl, fun hk => absurd hk (Nat.lt_irrefl 0), fun hk => absurd hk (by omega)⟩, ⟨[], ⟨by simp, .inr ⟨_, 0, #[], rfl, by omega, e2, Nat.le_refl _, by unfold maxLen; omega, by simp, by simp⟩⟩⟩, fun _ => ⟨fun q hq => ?_, fun q hq => ?_⟩, fun b h1 h2 => hb.block b h1, hb.os, hb.tape, hb.output⟩
 ·have : q = v.heap.size + 2 := by simpa [Value.ownBlock] using hq.symm
  omega
 ·have : q = v.heap.size + 3 := by simpa [Value.ownBlock] using hq.symm
  omega
def fun7 : FuncD := ⟨[], 8, [⟨[], [⟨21, 8, 0, 0, 0, 7, []⟩], ⟨1, 0, 0, 0⟩⟩]⟩
theorem fnc_new {X : World} {lo bi bb : Nat} (h1 : X.heap[bi]? = some (.cells #[.int .i64 21, .int .i64 8, .int .i64 0, .int .i64 0, .int .i64 0, .int .i64 7, .slice none 0 0] 54 (0, 0))) (h2 : X.heap[bb]? = some (.cells #[.slice none 0 0, .slice (some ⟨bi, 0, none⟩) 1 1, .int .i64 1, .int .i64 0, .int .i64 0, .int .i64 0] 43 (0, 0))) (l1 : lo ≤ bi) (l2 : lo ≤ bb) : Fnc X lo X.heap.size fun7 none (some ⟨bb, 0, none⟩) := by
 have s1 := (Array.getElem?_eq_some_iff.1 h1).1
 have s2 := (Array.getElem?_eq_some_iff.1 h2).1
 refine ⟨⟨X, Nat.le_refl _, ⟨by simp [fun7], .inl rfl⟩, ⟨by simp [fun7], .inr ⟨bb, 0, rfl, l2, s2, fun i hi => ?_⟩⟩, Nat.le_refl _, fun _ _ _ => rfl⟩, ⟨by simp [fun7], by simp [fun7], fun p hp => ?_⟩, by simp [fun7], by simp [fun7], fun hn => by simp [fun7] at hn⟩
 ·have hi0 : i = 0 := by simp [fun7] at hi; omega
  subst hi0
  refine ⟨⟨none, 0, (cell_of_heap h2).trans rfl, by simp [fun7], .inl rfl⟩, ⟨some ⟨bi, 0, none⟩, 1, (cell_of_heap h2).trans rfl, by simp [fun7], .inr ⟨bi, 0, rfl, l1, s1, fun j hj => ?_⟩⟩, (cell_of_heap h2).trans rfl, (cell_of_heap h2).trans rfl, (cell_of_heap h2).trans rfl, (cell_of_heap h2).trans rfl⟩
  have hj0 : j = 0 := by simp [fun7] at hj; omega
  subst hj0
  exact ⟨(cell_of_heap h1).trans rfl, (cell_of_heap h1).trans rfl, (cell_of_heap h1).trans rfl, (cell_of_heap h1).trans rfl, (cell_of_heap h1).trans rfl, (cell_of_heap h1).trans rfl, none, 0, (cell_of_heap h1).trans rfl, by simp [fun7], .inl rfl⟩
 ·have : p = ⟨[], [⟨21, 8, 0, 0, 0, 7, []⟩], ⟨1, 0, 0, 0⟩⟩ := by simpa [fun7] using hp
  subst this
  exact ⟨⟨by simp, by simp⟩, ⟨by simp, fun p hp => by obtain rfl : p = ⟨21, 8, 0, 0, 0, 7, []⟩ := (by simpa using hp); show _ ≤ _; simp⟩⟩
def map7 (bi bb : Nat) : Tmap := fun q => if q = bi then some (54, 1) else if q = bb then some (43, 1) else none
theorem ty_new {X : World} {lo k bi bb : Nat} {r s : Value} (h1 : X.heap[bi]? = some (.cells #[.int .i64 21, .int .i64 8, .int .i64 0, .int .i64 0, .int .i64 0, .int .i64 7, .slice none 0 0] 54 (0, 0))) (h2 : X.heap[bb]? = some (.cells #[.slice none 0 0, .slice (some ⟨bi, 0, none⟩) 1 1, .int .i64 1, .int .i64 0, .int .i64 0, .int .i64 0] 43 (0, 0))) (l1 : lo ≤ bi) (l2 : lo ≤ bb) (hn : ∀ q, (r.ownBlock = some q ∨ s.ownBlock = some q) → q ≠ bi ∧ q ≠ bb) : Ty1 X lo fun7 none (some ⟨bb, 0, none⟩) r s k := by
 have hne : bb ≠ bi := fun e => by rw [e, h1] at h2; cases h2
 have hs1 : szT 54 = 7 := by decide
 have hs2 : szT 43 = 6 := by decide
 have hM1 : map7 bi bb bi = some (54, 1) := by simp [map7]
 have hM2 : map7 bi bb bb = some (43, 1) := by simp [map7, hne]
 refine ⟨map7 bi bb, fun b T m hb => ?_, fun q T m hq hb => ?_, ⟨none, 0, rfl, .inl rfl⟩, ⟨_, 0, rfl, .inr ⟨bb, 1, rfl, hM2, Nat.le_refl _⟩⟩, by simp [fun7], by simp [fun7], by simp [fun7]⟩
 ·by_cases e : b = bi
  ·subst e
   rw [hM1] at hb
   cases hb
   refine ⟨l1, _, h1, fun i hi => ?_⟩
   obtain rfl : i = 0 := by omega
   refine ⟨fun q => absurd q (by decide), fun q => absurd q (by decide), fun q => absurd q (by decide), fun _ => ⟨fun j hj => ?_, _, by rw [hs1]; rfl, 0, by omega, none, 0, rfl, .inl rfl⟩, fun q => absurd q (by decide)⟩
   rw [hs1]
   rcases j with _ | _ | _ | _ | _ | _ | j
   all_goals first | exact ⟨_, rfl⟩ | omega
  ·by_cases e2 : b = bb
   ·subst e2
    rw [hM2] at hb
    cases hb
    refine ⟨l2, _, h2, fun i hi => ?_⟩
    obtain rfl : i = 0 := by omega
    refine ⟨fun q => absurd q (by decide), fun q => absurd q (by decide), fun q => absurd q (by decide), fun q => absurd q (by decide), fun _ => ⟨⟨_, by rw [hs2]; rfl, 0, by omega, none, 0, rfl, .inl rfl⟩, ⟨_, by rw [hs2]; rfl, 1, by omega, _, 1, rfl, .inr ⟨bi, 1, rfl, hM1, Nat.le_refl _⟩⟩, fun j hj hj6 => ?_⟩⟩
    rw [hs2]
    rcases j with _ | _ | _ | _ | _ | _ | j
    all_goals first | exact ⟨_, rfl⟩ | omega
   ·simp [map7, e, e2] at hb
 ·obtain ⟨n1, n2⟩ := hn q hq
  simp [map7, n1, n2] at hb
theorem mids_ty {w1 w3 : World} {base k : Nat} {r s : Value} {d : FuncD} {up ub : Option Addr} {F : Obj} (hTy : Ty1 w1 base d up ub r s k) (hb3 : Below (w1.alloc F).heap.size (w1.alloc F) w3) (hq : ∀ q, (r.ownBlock = some q ∨ s.ownBlock = some q) → q < w3.heap.size) (hbl : base ≤ w3.heap.size) :
  Ty1 w3 base d up ub r s k ∧ Ty1 (((((w3.setCell ⟨w1.heap.size, 0, none⟩ (.slice none 0 0)).setCell ⟨w1.heap.size, 1, none⟩ (.int .i64 8)).setCell ⟨w1.heap.size, 2, none⟩ (.slice (some ⟨w3.heap.size + 1, 0, none⟩) 1 1)).alloc (.cells #[.int .i64 21, .int .i64 8, .int .i64 0, .int .i64 0, .int .i64 0, .int .i64 7, .slice none 0 0] 54)).alloc (.cells #[.slice none 0 0, .slice (some ⟨w3.heap.size, 0, none⟩) 1 1, .int .i64 1, .int .i64 0, .int .i64 0, .int .i64 0] 43)) base fun7 none (some ⟨w3.heap.size + 1, 0, none⟩) r s k := by
 have hY : (((w3.setCell ⟨w1.heap.size, 0, none⟩ (.slice none 0 0)).setCell ⟨w1.heap.size, 1, none⟩ (.int .i64 8)).setCell ⟨w1.heap.size, 2, none⟩ (.slice (some ⟨w3.heap.size + 1, 0, none⟩) 1 1)).heap.size = w3.heap.size := by simp only [World.size_setCell]
 generalize (((w3.setCell ⟨w1.heap.size, 0, none⟩ (.slice none 0 0)).setCell ⟨w1.heap.size, 1, none⟩ (.int .i64 8)).setCell ⟨w1.heap.size, 2, none⟩ (.slice (some ⟨w3.heap.size + 1, 0, none⟩) 1 1)) = Yw at hY
 refine ⟨hTy.same fun b hb => (hb3.block b (by simp; omega)).trans (Below.heap_alloc _ _ _ hb), ty_new ?_ ?_ hbl (by omega) fun q k => ?_⟩
 ·rw [← hY]; exact heap_alloc2_old _ _ _
 ·have q := heap_alloc2_new Yw (.cells #[.int .i64 21, .int .i64 8, .int .i64 0, .int .i64 0, .int .i64 0, .int .i64 7, .slice none 0 0] 54) (.cells #[.slice none 0 0, .slice (some ⟨w3.heap.size, 0, none⟩) 1 1, .int .i64 1, .int .i64 0, .int .i64 0, .int .i64 0] 43)
  rw [hY] at q
  exact q
 ·have := hq q k; omega
theorem ty1_of {w1 : World} {base k cp cb : Nat} {M M2 : Tmap} {r s : Value} {d : FuncD} {up ub : Option Addr} (th : TH base M2 400 w1) (sl1 : SlN M2 2 (.slice up d.params.length cp) d.params.length) (sl2 : SlN M2 43 (.slice ub d.blocks.length cb) d.blocks.length) (hn : d.params.length ≤ 2) (hb : 1 ≤ d.blocks.length ∧ d.blocks.length ≤ 400) (hh : ∀ b T m, M b = some (T, m) → M2 b = some (T, m)) (hq : ∀ q, (r.ownBlock = some q ∨ s.ownBlock = some q) → q < base ∨ ∃ T m, M q = some (T, m) ∧ m ≤ k) : Ty1 w1 base d up ub r s k := by
 refine ⟨M2, th, fun q T m k1 k2 => ?_, sl_cap sl1, sl_cap sl2, hn, hb.1, hb.2⟩
 rcases hq q k1 with h | ⟨T', m', h1, h2⟩
 ·have := (th.blk k2).1; omega
 ·rw [hh q T' m' h1] at k2
  cases k2
  exact h2
theorem infoF : (Tryz.prog.info? 36).map (fun i => (i.zero, i.size, i.bytes)) = some (some (.agg #[.slice none 0 0, .int .i64 0, .slice none 0 0]), 3, 56) := by kernel_rfl
theorem infoSy : (Tryz.prog.info? 33).map (fun i => (i.zero, i.size, i.bytes)) = some (some (.slice none 0 0), 1, 24) := by kernel_rfl
theorem three_of {w : World} {L : Nat} {x0 x1 x2 : Value} {T : TypeId} (hL : w.heap[L]? = some (.cells #[x0, x1, x2] T (0, 0))) : ∀ j u, [x0, x1, x2][j]? = some u → w.cell? ((⟨L, 0, none⟩ : Addr).add j) = some u := fun j u hj => by
 rw [Addr.add_lit, cell_of_heap hL, Nat.zero_add, ← hj]
 rcases j with _ | _ | _ | j <;> rfl
theorem heap_alloc_set (w : World) (p : Addr) (x : Value) (o : Obj) : ((w.setCell p x).alloc o).heap[w.heap.size]? = some o := by
 have := heap_alloc_last (w.setCell p x) o
 rwa [World.size_setCell] at this
theorem after1 {z0 g len cap k T7 g4 c4 : Nat} {a0 : Option Addr} {v x y1 : World} {r s mf : Value} {xs ps : List Value} {zs : List Int} {A : Obj} {q0 q1 q2 : Value} (hM : MSt z0 g a0 len cap v k r s x) (m1 : x.heap[z0 + 1]? = some (.cells #[mf] 26 (0, 0))) (m2 : x.ownsRow (z0 + 2) 36 3 mf k xs) (m3 : x.ownsRow (z0 + 2) 33 1 s k ps) (m5 : x.ownsRow (z0 + 2) 2 1 r k (zs.map (Value.int .i64)))
  (ht : x.heap[T7]? = some (.cells #[q0, q1, q2] 36 (0, 0))) (hT : z0 + 4 ≤ T7) (hTm : mf.ownBlock ≠ some T7) (e1 : (x.alloc A).grownBy y1 mf.ownBlock) :
  y1.heap[z0 + 1]? = some (.cells #[mf] 26 (0, 0)) ∧ y1.heap[T7]? = some (.cells #[q0, q1, q2] 36 (0, 0)) ∧ (y1.setCell ⟨z0 + 1, 0, none⟩ (.slice (some ⟨g4, 0, none⟩) (k + 1) c4)).ownsRow (z0 + 2) 2 1 r k (zs.map (Value.int .i64)) ∧ (y1.setCell ⟨z0 + 1, 0, none⟩ (.slice (some ⟨g4, 0, none⟩) (k + 1) c4)).ownsRow (z0 + 2) 33 1 s k ps ∧ z0 + 4 ≤ y1.heap.size := by
 have hsz := hM.sz
 have s1 : x.heap.size + 1 ≤ y1.heap.size := by have := e1.size; simpa using this
 have b1 : ∀ b, b < x.heap.size → mf.ownBlock ≠ some b → y1.heap[b]? = x.heap[b]? := fun b hb hn => (e1.block b (by simp; omega) (fun e => hn e.symm)).trans (Below.heap_alloc _ _ _ hb)
 have hTl := (Array.getElem?_eq_some_iff.1 ht).1
 refine ⟨(b1 _ (by omega) (fun e => by have := m2.lt _ e; omega)).trans m1, (b1 _ hTl hTm).trans ht, own_stay m5 fun q hq => ?_, own_stay m3 fun q hq => ?_, by omega⟩
 ·have := m5.lt q hq
  exact (Below.heap_setCell _ _ _ _ (by dsimp only; omega)).trans (b1 q this.2 fun e => own_ne m2 m5 (by decide) e hq rfl)
 ·have := m3.lt q hq
  exact (Below.heap_setCell _ _ _ _ (by dsimp only; omega)).trans (b1 q this.2 fun e => own_ne m2 m3 (by decide) e hq rfl)
theorem after2 {z0 k T7 : Nat} {y2 y3 : World} {r s : Value} {ps : List Value} {zs : List Int} {B : Obj} {q0 q1 q2 : Value} (m3 : y2.ownsRow (z0 + 2) 33 1 s k ps) (m5 : y2.ownsRow (z0 + 2) 2 1 r k (zs.map (Value.int .i64))) (ht : y2.heap[T7]? = some (.cells #[q0, q1, q2] 36 (0, 0))) (e2 : (y2.alloc B).grownBy y3 r.ownBlock) :
  y3.heap[T7]? = some (.cells #[q0, q1, q2] 36 (0, 0)) ∧ y3.ownsRow (z0 + 2) 33 1 s k ps ∧ y2.heap.size + 1 ≤ y3.heap.size := by
 have b2 : ∀ b, b < y2.heap.size → r.ownBlock ≠ some b → y3.heap[b]? = y2.heap[b]? := fun b hb hn => (e2.block b (by simp; omega) (fun e => hn e.symm)).trans (Below.heap_alloc _ _ _ hb)
 have hTl := (Array.getElem?_eq_some_iff.1 ht).1
 refine ⟨(b2 _ hTl fun e => ?_).trans ht, own_stay m3 fun q hq => b2 q (m3.lt q hq).2 fun e => own_ne m5 m3 (by decide) e hq rfl, by have := e2.size; simpa using this⟩
 obtain ⟨cur, hc⟩ := rowblk m5 T7 e
 rw [ht] at hc
 cases hc
theorem mids {z0 g len cap k base : Nat} {a0 : Option Addr} {v wr w1 w3 : World} {r s : Value} {d : FuncD} {up ub : Option Addr} {cp cb : Nat} (hM : MSt z0 g a0 len cap v k r s wr) (hrd : Rd g a0 len cap w1) (hkeep : ∀ b, b < wr.heap.size → b ≠ g → w1.heap[b]? = wr.heap[b]?) (o1 : w1.os = wr.os) (o2 : w1.tape = wr.tape) (o3 : w1.output = wr.output) (hs : wr.heap.size ≤ w1.heap.size) (hF : Fnc w1 base w1.heap.size d up ub) (hbl : base ≤ wr.heap.size) (hb3 : Below (w1.alloc (.cells #[.slice up d.params.length cp, .int .i64 d.ret, .slice ub d.blocks.length cb] 36)).heap.size (w1.alloc (.cells #[.slice up d.params.length cp, .int .i64 d.ret, .slice ub d.blocks.length cb] 36)) w3) :
  (MSt z0 g a0 len cap v k r s w3 ∧ w3.heap[w1.heap.size]? = some (.cells #[.slice up d.params.length cp, .int .i64 d.ret, .slice ub d.blocks.length cb] 36 (0, 0)) ∧ Fnc w3 base w3.heap.size d up ub) ∧
  (MSt z0 g a0 len cap v k r s (((((w3.setCell ⟨w1.heap.size, 0, none⟩ (.slice none 0 0)).setCell ⟨w1.heap.size, 1, none⟩ (.int .i64 8)).setCell ⟨w1.heap.size, 2, none⟩ (.slice (some ⟨w3.heap.size + 1, 0, none⟩) 1 1)).alloc (.cells #[.int .i64 21, .int .i64 8, .int .i64 0, .int .i64 0, .int .i64 0, .int .i64 7, .slice none 0 0] 54)).alloc (.cells #[.slice none 0 0, .slice (some ⟨w3.heap.size, 0, none⟩) 1 1, .int .i64 1, .int .i64 0, .int .i64 0, .int .i64 0] 43)) ∧ (((((w3.setCell ⟨w1.heap.size, 0, none⟩ (.slice none 0 0)).setCell ⟨w1.heap.size, 1, none⟩ (.int .i64 8)).setCell ⟨w1.heap.size, 2, none⟩ (.slice (some ⟨w3.heap.size + 1, 0, none⟩) 1 1)).alloc (.cells #[.int .i64 21, .int .i64 8, .int .i64 0, .int .i64 0, .int .i64 0, .int .i64 7, .slice none 0 0] 54)).alloc (.cells #[.slice none 0 0, .slice (some ⟨w3.heap.size, 0, none⟩) 1 1, .int .i64 1, .int .i64 0, .int .i64 0, .int .i64 0] 43)).heap[w1.heap.size]? = some (.cells #[.slice none 0 0, .int .i64 8, .slice (some ⟨w3.heap.size + 1, 0, none⟩) 1 1] 36 (0, 0)) ∧ Fnc (((((w3.setCell ⟨w1.heap.size, 0, none⟩ (.slice none 0 0)).setCell ⟨w1.heap.size, 1, none⟩ (.int .i64 8)).setCell ⟨w1.heap.size, 2, none⟩ (.slice (some ⟨w3.heap.size + 1, 0, none⟩) 1 1)).alloc (.cells #[.int .i64 21, .int .i64 8, .int .i64 0, .int .i64 0, .int .i64 0, .int .i64 7, .slice none 0 0] 54)).alloc (.cells #[.slice none 0 0, .slice (some ⟨w3.heap.size, 0, none⟩) 1 1, .int .i64 1, .int .i64 0, .int .i64 0, .int .i64 0] 43)) base (((((w3.setCell ⟨w1.heap.size, 0, none⟩ (.slice none 0 0)).setCell ⟨w1.heap.size, 1, none⟩ (.int .i64 8)).setCell ⟨w1.heap.size, 2, none⟩ (.slice (some ⟨w3.heap.size + 1, 0, none⟩) 1 1)).alloc (.cells #[.int .i64 21, .int .i64 8, .int .i64 0, .int .i64 0, .int .i64 0, .int .i64 7, .slice none 0 0] 54)).alloc (.cells #[.slice none 0 0, .slice (some ⟨w3.heap.size, 0, none⟩) 1 1, .int .i64 1, .int .i64 0, .int .i64 0, .int .i64 0] 43)).heap.size fun7 none (some ⟨w3.heap.size + 1, 0, none⟩)) ∧ w1.heap.size < w3.heap.size ∧ (∀ b, b < wr.heap.size → b ≠ g → w3.heap[b]? = wr.heap[b]?) ∧ (∀ b, b < wr.heap.size → b ≠ g → (((((w3.setCell ⟨w1.heap.size, 0, none⟩ (.slice none 0 0)).setCell ⟨w1.heap.size, 1, none⟩ (.int .i64 8)).setCell ⟨w1.heap.size, 2, none⟩ (.slice (some ⟨w3.heap.size + 1, 0, none⟩) 1 1)).alloc (.cells #[.int .i64 21, .int .i64 8, .int .i64 0, .int .i64 0, .int .i64 0, .int .i64 7, .slice none 0 0] 54)).alloc (.cells #[.slice none 0 0, .slice (some ⟨w3.heap.size, 0, none⟩) 1 1, .int .i64 1, .int .i64 0, .int .i64 0, .int .i64 0] 43)).heap[b]? = wr.heap[b]?) ∧ w3.heap.size ≤ (((((w3.setCell ⟨w1.heap.size, 0, none⟩ (.slice none 0 0)).setCell ⟨w1.heap.size, 1, none⟩ (.int .i64 8)).setCell ⟨w1.heap.size, 2, none⟩ (.slice (some ⟨w3.heap.size + 1, 0, none⟩) 1 1)).alloc (.cells #[.int .i64 21, .int .i64 8, .int .i64 0, .int .i64 0, .int .i64 0, .int .i64 7, .slice none 0 0] 54)).alloc (.cells #[.slice none 0 0, .slice (some ⟨w3.heap.size, 0, none⟩) 1 1, .int .i64 1, .int .i64 0, .int .i64 0, .int .i64 0] 43)).heap.size := by
 have hg := hM.rd.lt
 have hBw : Below w1.heap.size w1 (w1.alloc (.cells #[.slice up d.params.length cp, .int .i64 d.ret, .slice ub d.blocks.length cb] 36)) := (Below.refl _ _).alloc (Nat.le_refl _) _
 have hsz2 : (w1.alloc (.cells #[.slice up d.params.length cp, .int .i64 d.ret, .slice ub d.blocks.length cb] 36)).heap.size = w1.heap.size + 1 := by simp
 have hT2 : (w1.alloc (.cells #[.slice up d.params.length cp, .int .i64 d.ret, .slice ub d.blocks.length cb] 36)).heap[w1.heap.size]? = some (.cells #[.slice up d.params.length cp, .int .i64 d.ret, .slice ub d.blocks.length cb] 36 (0, 0)) := heap_alloc_last _ _
 generalize (w1.alloc (.cells #[.slice up d.params.length cp, .int .i64 d.ret, .slice ub d.blocks.length cb] 36)) = W2 at *
 have hs3 := hb3.size
 rw [hsz2] at hs3 hb3
 have hB3 : Below w1.heap.size w1 w3 := hBw.trans (hb3.mono (by omega))
 have hT3 : w3.heap[w1.heap.size]? = some (.cells #[.slice up d.params.length cp, .int .i64 d.ret, .slice ub d.blocks.length cb] 36 (0, 0)) := (hb3.block _ (by omega)).trans hT2
 have hBy : Below w1.heap.size w1 (((w3.setCell ⟨w1.heap.size, 0, none⟩ (.slice none 0 0)).setCell ⟨w1.heap.size, 1, none⟩ (.int .i64 8)).setCell ⟨w1.heap.size, 2, none⟩ (.slice (some ⟨w3.heap.size + 1, 0, none⟩) 1 1)) := ((hB3.setCell (Nat.le_refl _) _).setCell (Nat.le_refl _) _).setCell (Nat.le_refl _) _
 have hY : (((w3.setCell ⟨w1.heap.size, 0, none⟩ (.slice none 0 0)).setCell ⟨w1.heap.size, 1, none⟩ (.int .i64 8)).setCell ⟨w1.heap.size, 2, none⟩ (.slice (some ⟨w3.heap.size + 1, 0, none⟩) 1 1)).heap.size = w3.heap.size := by simp only [World.size_setCell]
 have hTy : (((w3.setCell ⟨w1.heap.size, 0, none⟩ (.slice none 0 0)).setCell ⟨w1.heap.size, 1, none⟩ (.int .i64 8)).setCell ⟨w1.heap.size, 2, none⟩ (.slice (some ⟨w3.heap.size + 1, 0, none⟩) 1 1)).heap[w1.heap.size]? = some (.cells #[.slice none 0 0, .int .i64 8, .slice (some ⟨w3.heap.size + 1, 0, none⟩) 1 1] 36 (0, 0)) := (heap_set (heap_set (heap_set hT3))).trans rfl
 generalize (((w3.setCell ⟨w1.heap.size, 0, none⟩ (.slice none 0 0)).setCell ⟨w1.heap.size, 1, none⟩ (.int .i64 8)).setCell ⟨w1.heap.size, 2, none⟩ (.slice (some ⟨w3.heap.size + 1, 0, none⟩) 1 1)) = Yw at *
 have hBx := (hBy.alloc (by omega) (.cells #[.int .i64 21, .int .i64 8, .int .i64 0, .int .i64 0, .int .i64 0, .int .i64 7, .slice none 0 0] 54)).alloc (by simp; omega) (.cells #[.slice none 0 0, .slice (some ⟨w3.heap.size, 0, none⟩) 1 1, .int .i64 1, .int .i64 0, .int .i64 0, .int .i64 0] 43)
 have hszx : ((Yw.alloc (.cells #[.int .i64 21, .int .i64 8, .int .i64 0, .int .i64 0, .int .i64 0, .int .i64 7, .slice none 0 0] 54)).alloc (.cells #[.slice none 0 0, .slice (some ⟨w3.heap.size, 0, none⟩) 1 1, .int .i64 1, .int .i64 0, .int .i64 0, .int .i64 0] 43)).heap.size = w3.heap.size + 2 := by simp [hY]
 have hTx : ((Yw.alloc (.cells #[.int .i64 21, .int .i64 8, .int .i64 0, .int .i64 0, .int .i64 0, .int .i64 7, .slice none 0 0] 54)).alloc (.cells #[.slice none 0 0, .slice (some ⟨w3.heap.size, 0, none⟩) 1 1, .int .i64 1, .int .i64 0, .int .i64 0, .int .i64 0] 43)).heap[w1.heap.size]? = some (.cells #[.slice none 0 0, .int .i64 8, .slice (some ⟨w3.heap.size + 1, 0, none⟩) 1 1] 36 (0, 0)) := (Below.heap_alloc _ _ _ (by simp; omega)).trans ((Below.heap_alloc _ _ _ (by omega)).trans hTy)
 have hI : ((Yw.alloc (.cells #[.int .i64 21, .int .i64 8, .int .i64 0, .int .i64 0, .int .i64 0, .int .i64 7, .slice none 0 0] 54)).alloc (.cells #[.slice none 0 0, .slice (some ⟨w3.heap.size, 0, none⟩) 1 1, .int .i64 1, .int .i64 0, .int .i64 0, .int .i64 0] 43)).heap[w3.heap.size]? = some (.cells #[.int .i64 21, .int .i64 8, .int .i64 0, .int .i64 0, .int .i64 0, .int .i64 7, .slice none 0 0] 54 (0, 0)) := by rw [← hY]; exact heap_alloc2_old _ _ _
 have hBk : ((Yw.alloc (.cells #[.int .i64 21, .int .i64 8, .int .i64 0, .int .i64 0, .int .i64 0, .int .i64 7, .slice none 0 0] 54)).alloc (.cells #[.slice none 0 0, .slice (some ⟨w3.heap.size, 0, none⟩) 1 1, .int .i64 1, .int .i64 0, .int .i64 0, .int .i64 0] 43)).heap[w3.heap.size + 1]? = some (.cells #[.slice none 0 0, .slice (some ⟨w3.heap.size, 0, none⟩) 1 1, .int .i64 1, .int .i64 0, .int .i64 0, .int .i64 0] 43 (0, 0)) := by
  have q := heap_alloc2_new Yw (.cells #[.int .i64 21, .int .i64 8, .int .i64 0, .int .i64 0, .int .i64 0, .int .i64 7, .slice none 0 0] 54) (.cells #[.slice none 0 0, .slice (some ⟨w3.heap.size, 0, none⟩) 1 1, .int .i64 1, .int .i64 0, .int .i64 0, .int .i64 0] 43)
  rw [hY] at q
  exact q
 generalize ((Yw.alloc (.cells #[.int .i64 21, .int .i64 8, .int .i64 0, .int .i64 0, .int .i64 0, .int .i64 7, .slice none 0 0] 54)).alloc (.cells #[.slice none 0 0, .slice (some ⟨w3.heap.size, 0, none⟩) 1 1, .int .i64 1, .int .i64 0, .int .i64 0, .int .i64 0] 43)) = X at *
 have hgl := hrd.lt
 refine ⟨⟨hM.keep (rd_keep hrd hB3.size fun b hb => hB3.block b (by omega)) (fun b h1 h2 => (hB3.block b (by omega)).trans (hkeep b h1 h2)) (by have := hB3.size; omega) (hB3.os.trans o1) (hB3.tape.trans o2) (hB3.output.trans o3), hT3, (hF.step hB3.size fun b h1 h2 => hB3.block b h2).more (by omega)⟩, ⟨hM.keep (rd_keep hrd hBx.size fun b hb => hBx.block b (by omega)) (fun b h1 h2 => (hBx.block b (by omega)).trans (hkeep b h1 h2)) (by have := hBx.size; omega) (hBx.os.trans o1) (hBx.tape.trans o2) (hBx.output.trans o3), hTx, fnc_new hI hBk (by omega) (by omega)⟩, by omega, fun b h1 h2 => (hB3.block b (by omega)).trans (hkeep b h1 h2), fun b h1 h2 => (hBx.block b (by omega)).trans (hkeep b h1 h2), by omega⟩
def Fs (z0 k : Nat) (r s mf : Value) (xs ps : List Value) (zs : List Int) (x : World) : Prop := x.heap[z0 + 1]? = some (.cells #[mf] 26 (0, 0)) ∧ x.ownsRow (z0 + 2) 36 3 mf k xs ∧ x.ownsRow (z0 + 2) 33 1 s k ps ∧ x.ownsRow (z0 + 2) 2 1 r k (zs.map (Value.int .i64)) ∧ (k = 0 → mf = .slice none 0 0) ∧
 (0 < k → ∃ d up cp ub cb H, xs[0]? = some (.slice up d.params.length cp) ∧ xs[1]? = some (.int .i64 d.ret) ∧ xs[2]? = some (.slice ub d.blocks.length cb) ∧ Fnc x (z0 + 4) H d up ub ∧ (∀ q, mf.ownBlock = some q → q < z0 + 4 ∨ H ≤ q) ∧ (∀ q, r.ownBlock = some q → q < z0 + 4 ∨ H ≤ q) ∧ (∀ q, s.ownBlock = some q → q < z0 + 4 ∨ H ≤ q) ∧ H ≤ x.heap.size ∧ (k = 1 → ps = [.slice up d.params.length cp]) ∧ TyH x (z0 + 4) H d up ub) ∧ (1 < k → ∃ d up cp ub cb, xs[3]? = some (.slice up d.params.length cp) ∧ xs[4]? = some (.int .i64 d.ret) ∧ xs[5]? = some (.slice ub d.blocks.length cb) ∧ Ty2 x (z0 + 2) d up ub)
theorem fs_at {z0 g len cap k : Nat} {a0 : Option Addr} {v w : World} {r s : Value} (h : MSt z0 g a0 len cap v k r s w) : ∃ mf xs ps zs, (∀ q, mf.ownBlock = some q → q < w.heap.size) ∧ ∀ x : World, (∀ b, b < w.heap.size → b ≠ g → x.heap[b]? = w.heap[b]?) → w.heap.size ≤ x.heap.size → Fs z0 k r s mf xs ps zs x := by
 have hgz := h.gz
 have hsz := h.sz
 obtain ⟨mf, xs, ps, m1, m2, m3, m0, m4, m6⟩ := h.fs
 obtain ⟨zs, hz⟩ := h.ro
 refine ⟨mf, xs, ps, zs, fun q hq => (m2.lt q hq).2, fun x hb hs => ?_⟩
 have hlt : ∀ {T : TypeId} {sz n : Nat} {y : Value} {ys : List Value}, w.ownsRow (z0 + 2) T sz y n ys → x.ownsRow (z0 + 2) T sz y n ys := fun {T sz n y ys} hy => own_stay hy fun q hq => by
  obtain ⟨q1, q2⟩ := hy.lt q hq
  exact hb q q2 (by omega)
 refine ⟨(hb _ (by omega) (by omega)).trans m1, hlt m2, hlt m3, hlt hz, m0, fun hk => ?_, fun hk => ?_⟩
 ·obtain ⟨d, up, cp, ub, cb, H, x0, x1, x2, hF, r1, r2, r3, r4, r5, r6⟩ := m4 hk
  exact ⟨d, up, cp, ub, cb, H, x0, x1, x2, hF.keep hb hs (by omega), r1, r2, r3, by omega, r5, r6.keep hb (by omega)⟩
 ·obtain ⟨d, up, cp, ub, cb, x0, x1, x2, r6⟩ := m6 hk
  exact ⟨d, up, cp, ub, cb, x0, x1, x2, r6.keep hb (by omega)⟩
theorem next_at {z0 g len cap k T7 g4 c4 g5 c5 g6 c6 lo : Nat} {a0 : Option Addr} {v x y1 y3 y4 : World} {r s mf : Value} {d : FuncD} {up ub : Option Addr} {cp cb : Nat} {xs ps : List Value} {zs : List Int} {A B C : Obj} (hM : MSt z0 g a0 len cap v k r s x) (hk : k ≤ 1) (hF : Fnc x lo x.heap.size d up ub) (hlo : k = 0 → lo = z0 + 4) (hTy : Ty1 x lo d up ub r s k) (hlo2 : z0 + 2 ≤ lo) (hf : Fs z0 k r s mf xs ps zs x)
  (o1 : y1.ownsRow (z0 + 2) 36 3 (.slice (some ⟨g4, 0, none⟩) (k + 1) c4) (k + 1) (xs ++ [.slice up d.params.length cp, .int .i64 d.ret, .slice ub d.blocks.length cb])) (E1 : Two mf g4 (x.alloc A).heap.size (x.alloc A) y1)
  (o2 : y3.ownsRow (z0 + 2) 2 1 (.slice (some ⟨g5, 0, none⟩) (k + 1) c5) (k + 1) (zs.map (Value.int .i64) ++ [.int .i64 d.ret])) (E2 : Two r g5 ((y1.setCell ⟨z0 + 1, 0, none⟩ (.slice (some ⟨g4, 0, none⟩) (k + 1) c4)).alloc B).heap.size ((y1.setCell ⟨z0 + 1, 0, none⟩ (.slice (some ⟨g4, 0, none⟩) (k + 1) c4)).alloc B) y3)
  (o3 : y4.ownsRow (z0 + 2) 33 1 (.slice (some ⟨g6, 0, none⟩) (k + 1) c6) (k + 1) (ps ++ [.slice up d.params.length cp])) (E3 : Two s g6 (y3.alloc C).heap.size (y3.alloc C) y4) :
  MSt z0 g a0 len cap v (k + 1) (.slice (some ⟨g5, 0, none⟩) (k + 1) c5) (.slice (some ⟨g6, 0, none⟩) (k + 1) c6) y4 := by
 obtain ⟨m1, m2, m3, m5, m0, m4, _⟩ := hf
 exact hM.next (T7 := T7) hk hF hlo hTy hlo2 m1 m2 m3 m5 m0 m4 o1 E1 o2 E2 o3 E3
end Go.Proofs.YtgojlnclpebdcaaGreatDoor
