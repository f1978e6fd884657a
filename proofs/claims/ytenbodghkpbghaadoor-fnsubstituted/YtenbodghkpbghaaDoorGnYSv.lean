import Derived.Test.YtenbodghkpbghaaDoorGnVSv
import Derived.Deep.DeepCutAuto
import Derived.Test.YtenbodghkpbghaaDoorRdrSv
import Derived.Laws.AppendOwnNone
import Derived.Deep.AppendLies
import Derived.Deep.RegionHeld2
namespace Go.Proofs.YtenbodghkpbghaaDoor
open Go.RowKit Go.Deep
set_option linter.unusedVariables false
theorem size5 (v : World) : ((((v.alloc (.cells #[.slice none 0 0] 59)).alloc (.cells #[.slice none 0 0] 59)).alloc (.cells #[] 2)).alloc (.cells #[] 24)).heap.size = v.heap.size + 4 := by simp
theorem mst_start {g len cap : Nat} {a0 : Option Addr} {v : World} (h : Rd g a0 len cap v) : MSt v.heap.size g a0 len cap v 0 (.slice (some ⟨v.heap.size + 2, 0, none⟩) 0 0) (.slice (some ⟨v.heap.size + 3, 0, none⟩) 0 0) ((((v.alloc (.cells #[.slice none 0 0] 59)).alloc (.cells #[.slice none 0 0] 59)).alloc (.cells #[] 2)).alloc (.cells #[] 24)) := by
 have hg := h.lt
 have hb : Below v.heap.size v ((((v.alloc (.cells #[.slice none 0 0] 59)).alloc (.cells #[.slice none 0 0] 59)).alloc (.cells #[] 2)).alloc (.cells #[] 24)) := (((((Below.refl _ _).alloc (Nat.le_refl _) _).alloc (by simp) _).alloc (by first | (simp; done) | (simp; omega)) _).alloc (by first | (simp; done) | (simp; omega)) _)
 have e0 : ((((v.alloc (.cells #[.slice none 0 0] 59)).alloc (.cells #[.slice none 0 0] 59)).alloc (.cells #[] 2)).alloc (.cells #[] 24)).heap[v.heap.size]? = some (.cells #[.slice none 0 0] 59 (0, 0)) := by
  rw [Below.heap_alloc _ _ _ (by first | (simp; done) | (simp; omega)), Below.heap_alloc _ _ _ (by first | (simp; done) | (simp; omega))]
  exact heap_alloc2_old _ _ _
 have e1 : ((((v.alloc (.cells #[.slice none 0 0] 59)).alloc (.cells #[.slice none 0 0] 59)).alloc (.cells #[] 2)).alloc (.cells #[] 24)).heap[v.heap.size + 1]? = some (.cells #[.slice none 0 0] 59 (0, 0)) := by
  rw [Below.heap_alloc _ _ _ (by first | (simp; done) | (simp; omega)), Below.heap_alloc _ _ _ (by first | (simp; done) | (simp; omega))]
  exact heap_alloc2_new _ _ _
 have e2 : ((((v.alloc (.cells #[.slice none 0 0] 59)).alloc (.cells #[.slice none 0 0] 59)).alloc (.cells #[] 2)).alloc (.cells #[] 24)).heap[v.heap.size + 2]? = some (.cells #[] 2 (0, 0)) := by
  have q : ((v.alloc (.cells #[.slice none 0 0] 59)).alloc (.cells #[.slice none 0 0] 59)).heap.size = v.heap.size + 2 := by simp
  rw [Below.heap_alloc _ _ _ (by first | (simp; done) | (simp; omega)), ← q]
  exact heap_alloc_last _ _
 have e3 : ((((v.alloc (.cells #[.slice none 0 0] 59)).alloc (.cells #[.slice none 0 0] 59)).alloc (.cells #[] 2)).alloc (.cells #[] 24)).heap[v.heap.size + 3]? = some (.cells #[] 24 (0, 0)) := by
  have q : (((v.alloc (.cells #[.slice none 0 0] 59)).alloc (.cells #[.slice none 0 0] 59)).alloc (.cells #[] 2)).heap.size = v.heap.size + 3 := by simp
  rw [← q]
  exact heap_alloc_last _ _
 refine ⟨rd_keep h hb.size fun b hb' => hb.block b (by omega), hg, by rw [size5]; exact Nat.le_refl _, e0, ⟨_, [], [], e1, ⟨by simp, .inl ⟨rfl, rfl⟩⟩, ⟨by simp, .inr ⟨_, 0, #[], rfl, by omega, e3, Nat.le_refl _, by unfold maxLen; omega, by simp, by simp⟩⟩, fun _ => rfl, fun hk => absurd hk (Nat.lt_irrefl 0), fun hk => absurd hk (by omega)⟩, ⟨[], ⟨by simp, .inr ⟨_, 0, #[], rfl, by omega, e2, Nat.le_refl _, by unfold maxLen; omega, by simp, by simp⟩⟩⟩, fun _ => ⟨fun q hq => ?_, fun q hq => ?_⟩, fun b h1 h2 => hb.block b h1, hb.os, hb.tape, hb.output⟩
 ·have : q = v.heap.size + 2 := by simpa [Value.ownBlock] using hq.symm
  omega
 ·have : q = v.heap.size + 3 := by simpa [Value.ownBlock] using hq.symm
  omega
def fun7 : FuncD := ⟨[], 8, [⟨[], [⟨21, 8, 0, 0, 0, 7, []⟩], ⟨1, 0, 0, 0⟩⟩]⟩
theorem fnc_new {X : World} {lo bi bb : Nat} (h1 : X.heap[bi]? = some (.cells #[.int .i64 21, .int .i64 8, .int .i64 0, .int .i64 0, .int .i64 0, .int .i64 7, .slice none 0 0] 44 (0, 0))) (h2 : X.heap[bb]? = some (.cells #[.slice none 0 0, .slice (some ⟨bi, 0, none⟩) 1 1, .int .i64 1, .int .i64 0, .int .i64 0, .int .i64 0] 41 (0, 0))) (l1 : lo ≤ bi) (l2 : lo ≤ bb) : Fnc X lo X.heap.size fun7 none (some ⟨bb, 0, none⟩) := by
 have s1 := (Array.getElem?_eq_some_iff.1 h1).1
 have s2 := (Array.getElem?_eq_some_iff.1 h2).1
 refine ⟨⟨X, Nat.le_refl _, ⟨by simp [fun7], .inl rfl⟩, ⟨by simp [fun7], .inr ⟨bb, 0, rfl, l2, s2, fun i hi => ?_⟩⟩, Nat.le_refl _, fun _ _ _ => rfl⟩, ⟨by simp [fun7], by simp [fun7], fun p hp => ?_⟩, by simp [fun7], by simp [fun7], fun hn => by simp [fun7] at hn⟩
 ·have hi0 : i = 0 := by simp [fun7] at hi; omega
  subst hi0
  refine ⟨⟨none, 0, (cell_of_heap h2).trans rfl, by simp [fun7], .inl rfl⟩, ⟨some ⟨bi, 0, none⟩, 1, (cell_of_heap h2).trans rfl, by simp [fun7], .inr ⟨bi, 0, rfl, l1, s1, fun j hj => ?_⟩⟩, (cell_of_heap h2).trans rfl, (cell_of_heap h2).trans rfl, (cell_of_heap h2).trans rfl, (cell_of_heap h2).trans rfl⟩
  have hj0 : j = 0 := by simp [fun7] at hj; omega
  subst hj0
  exact ⟨(cell_of_heap h1).trans rfl, (cell_of_heap h1).trans rfl, (cell_of_heap h1).trans rfl, (cell_of_heap h1).trans rfl, (cell_of_heap h1).trans rfl, (cell_of_heap h1).trans rfl, none, 0, (cell_of_heap h1).trans rfl, by simp [fun7], .inl rfl⟩
 ·have : p = ⟨[], [⟨21, 8, 0, 0, 0, 7, []⟩], ⟨1, 0, 0, 0⟩⟩ := by simpa [fun7] using hp
  subst this
  exact ⟨⟨by simp, by simp⟩, ⟨by simp, fun p hp => by obtain rfl : p = ⟨21, 8, 0, 0, 0, 7, []⟩ := (by simpa using hp); show _ ≤ _; simp⟩⟩
def map7 (bi bb : Nat) : Tmap := fun q => if q = bi then some (44, 1) else if q = bb then some (41, 1) else none
theorem ty_new {X : World} {lo k bi bb : Nat} {r s : Value} (h1 : X.heap[bi]? = some (.cells #[.int .i64 21, .int .i64 8, .int .i64 0, .int .i64 0, .int .i64 0, .int .i64 7, .slice none 0 0] 44 (0, 0))) (h2 : X.heap[bb]? = some (.cells #[.slice none 0 0, .slice (some ⟨bi, 0, none⟩) 1 1, .int .i64 1, .int .i64 0, .int .i64 0, .int .i64 0] 41 (0, 0))) (l1 : lo ≤ bi) (l2 : lo ≤ bb) (hn : ∀ q, (r.ownBlock = some q ∨ s.ownBlock = some q) → q ≠ bi ∧ q ≠ bb) : Ty1 X lo fun7 none (some ⟨bb, 0, none⟩) r s k := by
 have hne : bb ≠ bi := fun e => by rw [e, h1] at h2; cases h2
 have hs1 : szT 44 = 7 := by decide
 have hs2 : szT 41 = 6 := by decide
 have hM1 : map7 bi bb bi = some (44, 1) := by simp [map7]
 have hM2 : map7 bi bb bb = some (41, 1) := by simp [map7, hne]
 refine ⟨map7 bi bb, fun b T m hb => ?_, fun q T m hq hb => ?_, ⟨none, 0, rfl, .inl rfl⟩, ⟨_, 0, rfl, .inr ⟨bb, 1, rfl, hM2, Nat.le_refl _⟩⟩, by simp [fun7], by simp [fun7], by simp [fun7]⟩
 ·by_cases e : b = bi
  ·subst e
   rw [hM1] at hb
   cases hb
   refine ⟨l1, _, h1, fun i hi => ?_⟩
   obtain rfl : i = 0 := by omega
   refine ⟨fun q => absurd q (by decide), fun q => absurd q (by decide), fun q => absurd q (by decide), fun _ => ⟨fun j hj => ?_, _, by rw [hs1]; rfl, 0, by omega, none, 0, rfl, .inl rfl⟩, fun q => absurd q (by decide)⟩
   rw [hs1]
   rcases j with _ | _ | _ | _ | _ | _ | j
   all_goals first | exact ⟨_, rfl⟩ | omega
  ·by_cases e2 : b = bb
   ·subst e2
    rw [hM2] at hb
    cases hb
    refine ⟨l2, _, h2, fun i hi => ?_⟩
    obtain rfl : i = 0 := by omega
    refine ⟨fun q => absurd q (by decide), fun q => absurd q (by decide), fun q => absurd q (by decide), fun q => absurd q (by decide), fun _ => ⟨⟨_, by rw [hs2]; rfl, 0, by omega, none, 0, rfl, .inl rfl⟩, ⟨_, by rw [hs2]; rfl, 1, by omega, _, 1, rfl, .inr ⟨bi, 1, rfl, hM1, Nat.le_refl _⟩⟩, fun j hj hj6 => ?_⟩⟩
    rw [hs2]
    rcases j with _ | _ | _ | _ | _ | _ | j
    all_goals first | exact ⟨_, rfl⟩ | omega
   ·simp [map7, e, e2] at hb
 ·obtain ⟨n1, n2⟩ := hn q hq
  simp [map7, n1, n2] at hb
theorem mids_ty {w1 w3 : World} {base k : Nat} {r s : Value} {d : FuncD} {up ub : Option Addr} {F : Obj} (hTy : Ty1 w1 base d up ub r s k) (hb3 : Below (w1.alloc F).heap.size (w1.alloc F) w3) (hq : ∀ q, (r.ownBlock = some q ∨ s.ownBlock = some q) → q < w3.heap.size) (hbl : base ≤ w3.heap.size) :
  Ty1 w3 base d up ub r s k ∧ Ty1 (((((w3.setCell ⟨w1.heap.size, 0, none⟩ (.slice none 0 0)).setCell ⟨w1.heap.size, 1, none⟩ (.int .i64 8)).setCell ⟨w1.heap.size, 2, none⟩ (.slice (some ⟨w3.heap.size + 1, 0, none⟩) 1 1)).alloc (.cells #[.int .i64 21, .int .i64 8, .int .i64 0, .int .i64 0, .int .i64 0, .int .i64 7, .slice none 0 0] 44)).alloc (.cells #[.slice none 0 0, .slice (some ⟨w3.heap.size, 0, none⟩) 1 1, .int .i64 1, .int .i64 0, .int .i64 0, .int .i64 0] 41)) base fun7 none (some ⟨w3.heap.size + 1, 0, none⟩) r s k := by
 have hY : (((w3.setCell ⟨w1.heap.size, 0, none⟩ (.slice none 0 0)).setCell ⟨w1.heap.size, 1, none⟩ (.int .i64 8)).setCell ⟨w1.heap.size, 2, none⟩ (.slice (some ⟨w3.heap.size + 1, 0, none⟩) 1 1)).heap.size = w3.heap.size := by simp only [World.size_setCell]
 generalize (((w3.setCell ⟨w1.heap.size, 0, none⟩ (.slice none 0 0)).setCell ⟨w1.heap.size, 1, none⟩ (.int .i64 8)).setCell ⟨w1.heap.size, 2, none⟩ (.slice (some ⟨w3.heap.size + 1, 0, none⟩) 1 1)) = Yw at hY
 refine ⟨hTy.same fun b hb => (hb3.block b (by simp; omega)).trans (Below.heap_alloc _ _ _ hb), ty_new ?_ ?_ hbl (by omega) fun q k => ?_⟩
 ·rw [← hY]; exact heap_alloc2_old _ _ _
 ·have q := heap_alloc2_new Yw (.cells #[.int .i64 21, .int .i64 8, .int .i64 0, .int .i64 0, .int .i64 0, .int .i64 7, .slice none 0 0] 44) (.cells #[.slice none 0 0, .slice (some ⟨w3.heap.size, 0, none⟩) 1 1, .int .i64 1, .int .i64 0, .int .i64 0, .int .i64 0] 41)
  rw [hY] at q
  exact q
 ·have := hq q k; omega
theorem ty1_of {w1 : World} {base k cp cb : Nat} {M M2 : Tmap} {r s : Value} {d : FuncD} {up ub : Option Addr} (th : TH base M2 400 w1) (sl1 : SlN M2 2 (.slice up d.params.length cp) d.params.length) (sl2 : SlN M2 41 (.slice ub d.blocks.length cb) d.blocks.length) (hn : d.params.length ≤ 2) (hb : 1 ≤ d.blocks.length ∧ d.blocks.length ≤ 400) (hh : ∀ b T m, M b = some (T, m) → M2 b = some (T, m)) (hq : ∀ q, (r.ownBlock = some q ∨ s.ownBlock = some q) → q < base ∨ ∃ T m, M q = some (T, m) ∧ m ≤ k) : Ty1 w1 base d up ub r s k := by
 refine ⟨M2, th, fun q T m k1 k2 => ?_, sl_cap sl1, sl_cap sl2, hn, hb.1, hb.2⟩
 rcases hq q k1 with h | ⟨T', m', h1, h2⟩
 ·have := (th.blk k2).1; omega
 ·rw [hh q T' m' h1] at k2
  cases k2
  exact h2
theorem infoF : (Tryd.prog.info? 27).map (fun i => (i.zero, i.size, i.bytes)) = some (some (.agg #[.slice none 0 0, .int .i64 0, .slice none 0 0]), 3, 56) := by kernel_rfl
theorem infoSy : (Tryd.prog.info? 24).map (fun i => (i.zero, i.size, i.bytes)) = some (some (.slice none 0 0), 1, 24) := by kernel_rfl
theorem three_of {w : World} {L : Nat} {x0 x1 x2 : Value} {T : TypeId} (hL : w.heap[L]? = some (.cells #[x0, x1, x2] T (0, 0))) : ∀ j u, [x0, x1, x2][j]? = some u → w.cell? ((⟨L, 0, none⟩ : Addr).add j) = some u := fun j u hj => by
 rw [Addr.add_lit, cell_of_heap hL, Nat.zero_add, ← hj]
 rcases j with _ | _ | _ | j <;> rfl
theorem heap_alloc_set (w : World) (p : Addr) (x : Value) (o : Obj) : ((w.setCell p x).alloc o).heap[w.heap.size]? = some o := by
 have := heap_alloc_last (w.setCell p x) o
 rwa [World.size_setCell] at this
theorem after1 {z0 g len cap k T7 g4 c4 : Nat} {a0 : Option Addr} {v x y1 : World} {r s mf : Value} {xs ps : List Value} {zs : List Int} {A : Obj} {q0 q1 q2 : Value} (hM : MSt z0 g a0 len cap v k r s x) (m1 : x.heap[z0 + 1]? = some (.cells #[mf] 59 (0, 0))) (m2 : x.ownsRow (z0 + 2) 27 3 mf k xs) (m3 : x.ownsRow (z0 + 2) 24 1 s k ps) (m5 : x.ownsRow (z0 + 2) 2 1 r k (zs.map (Value.int .i64)))
  (ht : x.heap[T7]? = some (.cells #[q0, q1, q2] 27 (0, 0))) (hT : z0 + 4 ≤ T7) (hTm : mf.ownBlock ≠ some T7) (e1 : (x.alloc A).grownBy y1 mf.ownBlock) :
  y1.heap[z0 + 1]? = some (.cells #[mf] 59 (0, 0)) ∧ y1.heap[T7]? = some (.cells #[q0, q1, q2] 27 (0, 0)) ∧ (y1.setCell ⟨z0 + 1, 0, none⟩ (.slice (some ⟨g4, 0, none⟩) (k + 1) c4)).ownsRow (z0 + 2) 2 1 r k (zs.map (Value.int .i64)) ∧ (y1.setCell ⟨z0 + 1, 0, none⟩ (.slice (some ⟨g4, 0, none⟩) (k + 1) c4)).ownsRow (z0 + 2) 24 1 s k ps ∧ z0 + 4 ≤ y1.heap.size := by
 have hsz := hM.sz
 have s1 : x.heap.size + 1 ≤ y1.heap.size := by have := e1.size; simpa using this
 have b1 : ∀ b, b < x.heap.size → mf.ownBlock ≠ some b → y1.heap[b]? = x.heap[b]? := fun b hb hn => (e1.block b (by simp; omega) (fun e => hn e.symm)).trans (Below.heap_alloc _ _ _ hb)
 have hTl := (Array.getElem?_eq_some_iff.1 ht).1
 refine ⟨(b1 _ (by omega) (fun e => by have := m2.lt _ e; omega)).trans m1, (b1 _ hTl hTm).trans ht, own_stay m5 fun q hq => ?_, own_stay m3 fun q hq => ?_, by omega⟩
 ·have := m5.lt q hq
  exact (Below.heap_setCell _ _ _ _ (by dsimp only; omega)).trans (b1 q this.2 fun e => own_ne m2 m5 (by decide) e hq rfl)
 ·have := m3.lt q hq
  exact (Below.heap_setCell _ _ _ _ (by dsimp only; omega)).trans (b1 q this.2 fun e => own_ne m2 m3 (by decide) e hq rfl)
theorem after2 {z0 k T7 : Nat} {y2 y3 : World} {r s : Value} {ps : List Value} {zs : List Int} {B : Obj} {q0 q1 q2 : Value} (m3 : y2.ownsRow (z0 + 2) 24 1 s k ps) (m5 : y2.ownsRow (z0 + 2) 2 1 r k (zs.map (Value.int .i64))) (ht : y2.heap[T7]? = some (.cells #[q0, q1, q2] 27 (0, 0))) (e2 : (y2.alloc B).grownBy y3 r.ownBlock) :
  y3.heap[T7]? = some (.cells #[q0, q1, q2] 27 (0, 0)) ∧ y3.ownsRow (z0 + 2) 24 1 s k ps ∧ y2.heap.size + 1 ≤ y3.heap.size := by
 have b2 : ∀ b, b < y2.heap.size → r.ownBlock ≠ some b → y3.heap[b]? = y2.heap[b]? := fun b hb hn => (e2.block b (by simp; omega) (fun e => hn e.symm)).trans (Below.heap_alloc _ _ _ hb)
 have hTl := (Array.getElem?_eq_some_iff.1 ht).1
 refine ⟨(b2 _ hTl fun e => ?_).trans ht, own_stay m3 fun q hq => b2 q (m3.lt q hq).2 fun e => own_ne m5 m3 (by decide) e hq rfl, by have := e2.size; simpa using this⟩
 obtain ⟨cur, hc⟩ := rowblk m5 T7 e
 rw [ht] at hc
 cases hc
theorem mids {z0 g len cap k base : Nat} {a0 : Option Addr} {v wr w1 w3 : World} {r s : Value} {d : FuncD} {up ub : Option Addr} {cp cb : Nat} (hM : MSt z0 g a0 len cap v k r s wr) (hrd : Rd g a0 len cap w1) (hkeep : ∀ b, b < wr.heap.size → b ≠ g → w1.heap[b]? = wr.heap[b]?) (o1 : w1.os = wr.os) (o2 : w1.tape = wr.tape) (o3 : w1.output = wr.output) (hs : wr.heap.size ≤ w1.heap.size) (hF : Fnc w1 base w1.heap.size d up ub) (hbl : base ≤ wr.heap.size) (hb3 : Below (w1.alloc (.cells #[.slice up d.params.length cp, .int .i64 d.ret, .slice ub d.blocks.length cb] 27)).heap.size (w1.alloc (.cells #[.slice up d.params.length cp, .int .i64 d.ret, .slice ub d.blocks.length cb] 27)) w3) :
  (MSt z0 g a0 len cap v k r s w3 ∧ w3.heap[w1.heap.size]? = some (.cells #[.slice up d.params.length cp, .int .i64 d.ret, .slice ub d.blocks.length cb] 27 (0, 0)) ∧ Fnc w3 base w3.heap.size d up ub) ∧
  (MSt z0 g a0 len cap v k r s (((((w3.setCell ⟨w1.heap.size, 0, none⟩ (.slice none 0 0)).setCell ⟨w1.heap.size, 1, none⟩ (.int .i64 8)).setCell ⟨w1.heap.size, 2, none⟩ (.slice (some ⟨w3.heap.size + 1, 0, none⟩) 1 1)).alloc (.cells #[.int .i64 21, .int .i64 8, .int .i64 0, .int .i64 0, .int .i64 0, .int .i64 7, .slice none 0 0] 44)).alloc (.cells #[.slice none 0 0, .slice (some ⟨w3.heap.size, 0, none⟩) 1 1, .int .i64 1, .int .i64 0, .int .i64 0, .int .i64 0] 41)) ∧ (((((w3.setCell ⟨w1.heap.size, 0, none⟩ (.slice none 0 0)).setCell ⟨w1.heap.size, 1, none⟩ (.int .i64 8)).setCell ⟨w1.heap.size, 2, none⟩ (.slice (some ⟨w3.heap.size + 1, 0, none⟩) 1 1)).alloc (.cells #[.int .i64 21, .int .i64 8, .int .i64 0, .int .i64 0, .int .i64 0, .int .i64 7, .slice none 0 0] 44)).alloc (.cells #[.slice none 0 0, .slice (some ⟨w3.heap.size, 0, none⟩) 1 1, .int .i64 1, .int .i64 0, .int .i64 0, .int .i64 0] 41)).heap[w1.heap.size]? = some (.cells #[.slice none 0 0, .int .i64 8, .slice (some ⟨w3.heap.size + 1, 0, none⟩) 1 1] 27 (0, 0)) ∧ Fnc (((((w3.setCell ⟨w1.heap.size, 0, none⟩ (.slice none 0 0)).setCell ⟨w1.heap.size, 1, none⟩ (.int .i64 8)).setCell ⟨w1.heap.size, 2, none⟩ (.slice (some ⟨w3.heap.size + 1, 0, none⟩) 1 1)).alloc (.cells #[.int .i64 21, .int .i64 8, .int .i64 0, .int .i64 0, .int .i64 0, .int .i64 7, .slice none 0 0] 44)).alloc (.cells #[.slice none 0 0, .slice (some ⟨w3.heap.size, 0, none⟩) 1 1, .int .i64 1, .int .i64 0, .int .i64 0, .int .i64 0] 41)) base (((((w3.setCell ⟨w1.heap.size, 0, none⟩ (.slice none 0 0)).setCell ⟨w1.heap.size, 1, none⟩ (.int .i64 8)).setCell ⟨w1.heap.size, 2, none⟩ (.slice (some ⟨w3.heap.size + 1, 0, none⟩) 1 1)).alloc (.cells #[.int .i64 21, .int .i64 8, .int .i64 0, .int .i64 0, .int .i64 0, .int .i64 7, .slice none 0 0] 44)).alloc (.cells #[.slice none 0 0, .slice (some ⟨w3.heap.size, 0, none⟩) 1 1, .int .i64 1, .int .i64 0, .int .i64 0, .int .i64 0] 41)).heap.size fun7 none (some ⟨w3.heap.size + 1, 0, none⟩)) ∧ w1.heap.size < w3.heap.size ∧ (∀ b, b < wr.heap.size → b ≠ g → w3.heap[b]? = wr.heap[b]?) ∧ (∀ b, b < wr.heap.size → b ≠ g → (((((w3.setCell ⟨w1.heap.size, 0, none⟩ (.slice none 0 0)).setCell ⟨w1.heap.size, 1, none⟩ (.int .i64 8)).setCell ⟨w1.heap.size, 2, none⟩ (.slice (some ⟨w3.heap.size + 1, 0, none⟩) 1 1)).alloc (.cells #[.int .i64 21, .int .i64 8, .int .i64 0, .int .i64 0, .int .i64 0, .int .i64 7, .slice none 0 0] 44)).alloc (.cells #[.slice none 0 0, .slice (some ⟨w3.heap.size, 0, none⟩) 1 1, .int .i64 1, .int .i64 0, .int .i64 0, .int .i64 0] 41)).heap[b]? = wr.heap[b]?) ∧ w3.heap.size ≤ (((((w3.setCell ⟨w1.heap.size, 0, none⟩ (.slice none 0 0)).setCell ⟨w1.heap.size, 1, none⟩ (.int .i64 8)).setCell ⟨w1.heap.size, 2, none⟩ (.slice (some ⟨w3.heap.size + 1, 0, none⟩) 1 1)).alloc (.cells #[.int .i64 21, .int .i64 8, .int .i64 0, .int .i64 0, .int .i64 0, .int .i64 7, .slice none 0 0] 44)).alloc (.cells #[.slice none 0 0, .slice (some ⟨w3.heap.size, 0, none⟩) 1 1, .int .i64 1, .int .i64 0, .int .i64 0, .int .i64 0] 41)).heap.size := by
 have hg := hM.rd.lt
 have hBw : Below w1.heap.size w1 (w1.alloc (.cells #[.slice up d.params.length cp, .int .i64 d.ret, .slice ub d.blocks.length cb] 27)) := (Below.refl _ _).alloc (Nat.le_refl _) _
 have hsz2 : (w1.alloc (.cells #[.slice up d.params.length cp, .int .i64 d.ret, .slice ub d.blocks.length cb] 27)).heap.size = w1.heap.size + 1 := by simp
 have hT2 : (w1.alloc (.cells #[.slice up d.params.length cp, .int .i64 d.ret, .slice ub d.blocks.length cb] 27)).heap[w1.heap.size]? = some (.cells #[.slice up d.params.length cp, .int .i64 d.ret, .slice ub d.blocks.length cb] 27 (0, 0)) := heap_alloc_last _ _
 generalize (w1.alloc (.cells #[.slice up d.params.length cp, .int .i64 d.ret, .slice ub d.blocks.length cb] 27)) = W2 at *
 have hs3 := hb3.size
 rw [hsz2] at hs3 hb3
 have hB3 : Below w1.heap.size w1 w3 := hBw.trans (hb3.mono (by omega))
 have hT3 : w3.heap[w1.heap.size]? = some (.cells #[.slice up d.params.length cp, .int .i64 d.ret, .slice ub d.blocks.length cb] 27 (0, 0)) := (hb3.block _ (by omega)).trans hT2
 have hBy : Below w1.heap.size w1 (((w3.setCell ⟨w1.heap.size, 0, none⟩ (.slice none 0 0)).setCell ⟨w1.heap.size, 1, none⟩ (.int .i64 8)).setCell ⟨w1.heap.size, 2, none⟩ (.slice (some ⟨w3.heap.size + 1, 0, none⟩) 1 1)) := ((hB3.setCell (Nat.le_refl _) _).setCell (Nat.le_refl _) _).setCell (Nat.le_refl _) _
 have hY : (((w3.setCell ⟨w1.heap.size, 0, none⟩ (.slice none 0 0)).setCell ⟨w1.heap.size, 1, none⟩ (.int .i64 8)).setCell ⟨w1.heap.size, 2, none⟩ (.slice (some ⟨w3.heap.size + 1, 0, none⟩) 1 1)).heap.size = w3.heap.size := by simp only [World.size_setCell]
 have hTy : (((w3.setCell ⟨w1.heap.size, 0, none⟩ (.slice none 0 0)).setCell ⟨w1.heap.size, 1, none⟩ (.int .i64 8)).setCell ⟨w1.heap.size, 2, none⟩ (.slice (some ⟨w3.heap.size + 1, 0, none⟩) 1 1)).heap[w1.heap.size]? = some (.cells #[.slice none 0 0, .int .i64 8, .slice (some ⟨w3.heap.size + 1, 0, none⟩) 1 1] 27 (0, 0)) := (heap_set (heap_set (heap_set hT3))).trans rfl
 generalize (((w3.setCell ⟨w1.heap.size, 0, none⟩ (.slice none 0 0)).setCell ⟨w1.heap.size, 1, none⟩ (.int .i64 8)).setCell ⟨w1.heap.size, 2, none⟩ (.slice (some ⟨w3.heap.size + 1, 0, none⟩) 1 1)) = Yw at *
 have hBx := (hBy.alloc (by omega) (.cells #[.int .i64 21, .int .i64 8, .int .i64 0, .int .i64 0, .int .i64 0, .int .i64 7, .slice none 0 0] 44)).alloc (by simp; omega) (.cells #[.slice none 0 0, .slice (some ⟨w3.heap.size, 0, none⟩) 1 1, .int .i64 1, .int .i64 0, .int .i64 0, .int .i64 0] 41)
 have hszx : ((Yw.alloc (.cells #[.int .i64 21, .int .i64 8, .int .i64 0, .int .i64 0, .int .i64 0, .int .i64 7, .slice none 0 0] 44)).alloc (.cells #[.slice none 0 0, .slice (some ⟨w3.heap.size, 0, none⟩) 1 1, .int .i64 1, .int .i64 0, .int .i64 0, .int .i64 0] 41)).heap.size = w3.heap.size + 2 := by simp [hY]
 have hTx : ((Yw.alloc (.cells #[.int .i64 21, .int .i64 8, .int .i64 0, .int .i64 0, .int .i64 0, .int .i64 7, .slice none 0 0] 44)).alloc (.cells #[.slice none 0 0, .slice (some ⟨w3.heap.size, 0, none⟩) 1 1, .int .i64 1, .int .i64 0, .int .i64 0, .int .i64 0] 41)).heap[w1.heap.size]? = some (.cells #[.slice none 0 0, .int .i64 8, .slice (some ⟨w3.heap.size + 1, 0, none⟩) 1 1] 27 (0, 0)) := (Below.heap_alloc _ _ _ (by simp; omega)).trans ((Below.heap_alloc _ _ _ (by omega)).trans hTy)
 have hI : ((Yw.alloc (.cells #[.int .i64 21, .int .i64 8, .int .i64 0, .int .i64 0, .int .i64 0, .int .i64 7, .slice none 0 0] 44)).alloc (.cells #[.slice none 0 0, .slice (some ⟨w3.heap.size, 0, none⟩) 1 1, .int .i64 1, .int .i64 0, .int .i64 0, .int .i64 0] 41)).heap[w3.heap.size]? = some (.cells #[.int .i64 21, .int .i64 8, .int .i64 0, .int .i64 0, .int .i64 0, .int .i64 7, .slice none 0 0] 44 (0, 0)) := by rw [← hY]; exact heap_alloc2_old _ _ _
 have hBk : ((Yw.alloc (.cells #[.int .i64 21, .int .i64 8, .int .i64 0, .int .i64 0, .int .i64 0, .int .i64 7, .slice none 0 0] 44)).alloc (.cells #[.slice none 0 0, .slice (some ⟨w3.heap.size, 0, none⟩) 1 1, .int .i64 1, .int .i64 0, .int .i64 0, .int .i64 0] 41)).heap[w3.heap.size + 1]? = some (.cells #[.slice none 0 0, .slice (some ⟨w3.heap.size, 0, none⟩) 1 1, .int .i64 1, .int .i64 0, .int .i64 0, .int .i64 0] 41 (0, 0)) := by
  have q := heap_alloc2_new Yw (.cells #[.int .i64 21, .int .i64 8, .int .i64 0, .int .i64 0, .int .i64 0, .int .i64 7, .slice none 0 0] 44) (.cells #[.slice none 0 0, .slice (some ⟨w3.heap.size, 0, none⟩) 1 1, .int .i64 1, .int .i64 0, .int .i64 0, .int .i64 0] 41)
  rw [hY] at q
  exact q
 generalize ((Yw.alloc (.cells #[.int .i64 21, .int .i64 8, .int .i64 0, .int .i64 0, .int .i64 0, .int .i64 7, .slice none 0 0] 44)).alloc (.cells #[.slice none 0 0, .slice (some ⟨w3.heap.size, 0, none⟩) 1 1, .int .i64 1, .int .i64 0, .int .i64 0, .int .i64 0] 41)) = X at *
 have hgl := hrd.lt
 refine ⟨⟨hM.keep (rd_keep hrd hB3.size fun b hb => hB3.block b (by omega)) (fun b h1 h2 => (hB3.block b (by omega)).trans (hkeep b h1 h2)) (by have := hB3.size; omega) (hB3.os.trans o1) (hB3.tape.trans o2) (hB3.output.trans o3), hT3, (hF.step hB3.size fun b h1 h2 => hB3.block b h2).more (by omega)⟩, ⟨hM.keep (rd_keep hrd hBx.size fun b hb => hBx.block b (by omega)) (fun b h1 h2 => (hBx.block b (by omega)).trans (hkeep b h1 h2)) (by have := hBx.size; omega) (hBx.os.trans o1) (hBx.tape.trans o2) (hBx.output.trans o3), hTx, fnc_new hI hBk (by omega) (by omega)⟩, by omega, fun b h1 h2 => (hB3.block b (by omega)).trans (hkeep b h1 h2), fun b h1 h2 => (hBx.block b (by omega)).trans (hkeep b h1 h2), by omega⟩
def Fs (z0 k : Nat) (r s mf : Value) (xs ps : List Value) (zs : List Int) (x : World) : Prop := x.heap[z0 + 1]? = some (.cells #[mf] 59 (0, 0)) ∧ x.ownsRow (z0 + 2) 27 3 mf k xs ∧ x.ownsRow (z0 + 2) 24 1 s k ps ∧ x.ownsRow (z0 + 2) 2 1 r k (zs.map (Value.int .i64)) ∧ (k = 0 → mf = .slice none 0 0) ∧
 (0 < k → ∃ d up cp ub cb H, xs[0]? = some (.slice up d.params.length cp) ∧ xs[1]? = some (.int .i64 d.ret) ∧ xs[2]? = some (.slice ub d.blocks.length cb) ∧ Fnc x (z0 + 4) H d up ub ∧ (∀ q, mf.ownBlock = some q → q < z0 + 4 ∨ H ≤ q) ∧ (∀ q, r.ownBlock = some q → q < z0 + 4 ∨ H ≤ q) ∧ (∀ q, s.ownBlock = some q → q < z0 + 4 ∨ H ≤ q) ∧ H ≤ x.heap.size ∧ (k = 1 → ps = [.slice up d.params.length cp]) ∧ TyH x (z0 + 4) H d up ub) ∧ (1 < k → ∃ d up cp ub cb, xs[3]? = some (.slice up d.params.length cp) ∧ xs[4]? = some (.int .i64 d.ret) ∧ xs[5]? = some (.slice ub d.blocks.length cb) ∧ Ty2 x (z0 + 2) d up ub)
theorem fs_at {z0 g len cap k : Nat} {a0 : Option Addr} {v w : World} {r s : Value} (h : MSt z0 g a0 len cap v k r s w) : ∃ mf xs ps zs, (∀ q, mf.ownBlock = some q → q < w.heap.size) ∧ ∀ x : World, (∀ b, b < w.heap.size → b ≠ g → x.heap[b]? = w.heap[b]?) → w.heap.size ≤ x.heap.size → Fs z0 k r s mf xs ps zs x := by
 have hgz := h.gz
 have hsz := h.sz
 obtain ⟨mf, xs, ps, m1, m2, m3, m0, m4, m6⟩ := h.fs
 obtain ⟨zs, hz⟩ := h.ro
 refine ⟨mf, xs, ps, zs, fun q hq => (m2.lt q hq).2, fun x hb hs => ?_⟩
 have hlt : ∀ {T : TypeId} {sz n : Nat} {y : Value} {ys : List Value}, w.ownsRow (z0 + 2) T sz y n ys → x.ownsRow (z0 + 2) T sz y n ys := fun {T sz n y ys} hy => own_stay hy fun q hq => by
  obtain ⟨q1, q2⟩ := hy.lt q hq
  exact hb q q2 (by omega)
 refine ⟨(hb _ (by omega) (by omega)).trans m1, hlt m2, hlt m3, hlt hz, m0, fun hk => ?_, fun hk => ?_⟩
 ·obtain ⟨d, up, cp, ub, cb, H, x0, x1, x2, hF, r1, r2, r3, r4, r5, r6⟩ := m4 hk
  exact ⟨d, up, cp, ub, cb, H, x0, x1, x2, hF.keep hb hs (by omega), r1, r2, r3, by omega, r5, r6.keep hb (by omega)⟩
 ·obtain ⟨d, up, cp, ub, cb, x0, x1, x2, r6⟩ := m6 hk
  exact ⟨d, up, cp, ub, cb, x0, x1, x2, r6.keep hb (by omega)⟩
theorem next_at {z0 g len cap k T7 g4 c4 g5 c5 g6 c6 lo : Nat} {a0 : Option Addr} {v x y1 y3 y4 : World} {r s mf : Value} {d : FuncD} {up ub : Option Addr} {cp cb : Nat} {xs ps : List Value} {zs : List Int} {A B C : Obj} (hM : MSt z0 g a0 len cap v k r s x) (hk : k ≤ 1) (hF : Fnc x lo x.heap.size d up ub) (hlo : k = 0 → lo = z0 + 4) (hTy : Ty1 x lo d up ub r s k) (hlo2 : z0 + 2 ≤ lo) (hf : Fs z0 k r s mf xs ps zs x)
  (o1 : y1.ownsRow (z0 + 2) 27 3 (.slice (some ⟨g4, 0, none⟩) (k + 1) c4) (k + 1) (xs ++ [.slice up d.params.length cp, .int .i64 d.ret, .slice ub d.blocks.length cb])) (E1 : Two mf g4 (x.alloc A).heap.size (x.alloc A) y1)
  (o2 : y3.ownsRow (z0 + 2) 2 1 (.slice (some ⟨g5, 0, none⟩) (k + 1) c5) (k + 1) (zs.map (Value.int .i64) ++ [.int .i64 d.ret])) (E2 : Two r g5 ((y1.setCell ⟨z0 + 1, 0, none⟩ (.slice (some ⟨g4, 0, none⟩) (k + 1) c4)).alloc B).heap.size ((y1.setCell ⟨z0 + 1, 0, none⟩ (.slice (some ⟨g4, 0, none⟩) (k + 1) c4)).alloc B) y3)
  (o3 : y4.ownsRow (z0 + 2) 24 1 (.slice (some ⟨g6, 0, none⟩) (k + 1) c6) (k + 1) (ps ++ [.slice up d.params.length cp])) (E3 : Two s g6 (y3.alloc C).heap.size (y3.alloc C) y4) :
  MSt z0 g a0 len cap v (k + 1) (.slice (some ⟨g5, 0, none⟩) (k + 1) c5) (.slice (some ⟨g6, 0, none⟩) (k + 1) c6) y4 := by
 obtain ⟨m1, m2, m3, m5, m0, m4, _⟩ := hf
 exact hM.next (T7 := T7) hk hF hlo hTy hlo2 m1 m2 m3 m5 m0 m4 o1 E1 o2 E2 o3 E3
end Go.Proofs.YtenbodghkpbghaaDoor
namespace Go.Proofs.YtenbodghkpbghaaDoor
open Go.RowKit Go.Deep
set_option linter.unusedVariables false
def ModTold2 (g : Nat) (a0 : Option Addr) (len cap : Nat) (v : World) (e : Ending) (w : World) : Prop := ∃ gm n cm, e = .returned (.agg #[.slice (some ⟨gm, 0, none⟩) n cm]) ∧ 1 ≤ n ∧ ∃ (d : FuncD) (up ub : Option Addr) (cp cb : Nat), w.cell? ⟨gm, 0, none⟩ = some (.slice up d.params.length cp) ∧ w.cell? ⟨gm, 1, none⟩ = some (.int .i64 d.ret) ∧ w.cell? ⟨gm, 2, none⟩ = some (.slice ub d.blocks.length cb) ∧ SmFunc d ∧ (1 ≤ d.blocks.length ∧ d.blocks.length ≤ 400) ∧ IntsAt w v.heap.size up d.params ∧ BlocksAt w v.heap.size ub d.blocks ∧ Rd g a0 len cap w ∧ (∀ b, b < v.heap.size → b ≠ g → w.heap[b]? = v.heap[b]?) ∧ v.heap.size ≤ w.heap.size ∧ w.os = v.os ∧ w.tape = v.tape ∧ w.output = v.output
theorem ty2_low {w : World} {lo lo' : Nat} {d : FuncD} {up ub : Option Addr} (h : Ty2 w lo d up ub) (hl : lo' ≤ lo) : Ty2 w lo' d up ub := by
 obtain ⟨M, h1, h3⟩ := h
 refine ⟨M, fun b T m hb => ?_, h3⟩
 obtain ⟨k1, k2⟩ := h1 b T m hb
 exact ⟨by omega, k2⟩
def ModAll (g : Nat) (a0 : Option Addr) (len cap : Nat) (v : World) (e : Ending) (w : World) : Prop := ∃ gm n cm, e = .returned (.agg #[.slice (some ⟨gm, 0, none⟩) n cm]) ∧ 1 ≤ n ∧ n ≤ 2 ∧ v.heap.size ≤ gm ∧ (∃ cur, w.heap[gm]? = some (.cells cur 27 (0, 0))) ∧ (∀ i, i < n → ∃ (d : FuncD) (up ub : Option Addr) (cp cb : Nat), w.cell? ⟨gm, i * 3, none⟩ = some (.slice up d.params.length cp) ∧ w.cell? ⟨gm, i * 3 + 1, none⟩ = some (.int .i64 d.ret) ∧ w.cell? ⟨gm, i * 3 + 2, none⟩ = some (.slice ub d.blocks.length cb) ∧ Ty2 w v.heap.size d up ub) ∧ Rd g a0 len cap w ∧ (∀ b, b < v.heap.size → b ≠ g → w.heap[b]? = v.heap[b]?) ∧ v.heap.size ≤ w.heap.size ∧ w.os = v.os ∧ w.tape = v.tape ∧ w.output = v.output
set_option maxHeartbeats 4000000 in
set_option maxRecDepth 100000 in
theorem module_both (g : Nat) (a0 : Option Addr) (len cap : Nat) (v : World) (h : Rd g a0 len cap v) : Calls Tryd.prog 22 #[.pointer (some ⟨g, 0, none⟩)] v fun e w => ModTold2 g a0 len cap v e w ∧ ModAll g a0 len cap v e w := by
 have h0 := mst_start h
 have hs5 := size5 v
 go_enter Tryd.func22, Tryd.ntmps22
 go_wp2_with (first | (go_at_call 42; refine (below_any g a0 len cap _ ((((v.alloc (.cells #[.slice none 0 0] 59)).alloc (.cells #[.slice none 0 0] 59)).alloc (.cells #[] 2)).alloc (.cells #[] 24)) h0.rd).mono ?_; rintro e w0 ⟨n0, rfl, hn0, hn1, hr0, hg0⟩; obtain ⟨k0, rfl⟩ := Int.eq_ofNat_of_zero_le hn0; have M0 := h0.keep hr0 (fun b h1 h2 => hg0.block b h1 (by simpa using h2)) hg0.size hg0.os hg0.tape hg0.output; clear h0 hr0 hg0))
 generalize hz : v.heap.size = z0 at M0 ⊢
 go_loopw [4, 5, 6] (fun r s i wr => ∃ k n : Nat, i = .int .i64 n ∧ n + k ≤ 2 ∧ 0 < n + k ∧ MSt z0 g a0 len cap v k r s wr) (fun _ _ i _ => (intOf i).toNat)
 case atStart => exact ⟨0, 1 + k0, by first | rfl | go_num | (congr 1; omega), by omega, by omega, M0⟩
 case round =>
  clear M0
  obtain ⟨k, n, rfl, hkn, hkn0, hM⟩ := hrel
  by_cases hn : 0 < n
  ·obtain ⟨base, M, ur, cr, us, cs, hbase, rfl, rfl, hin, hbase2, hqc⟩ := hM.fnIn (by omega)
   have PF := fn_any base g a0 len cap M ur us k cr cs wr hin
   go_wp2_with (first | (go_at_call 43; refine PF.mono ?_; rintro e w1 ⟨up, np, cp, ret, ub, nb, cb, rfl, M2, th, sl1, sl2, hn2, hnb, hret, hpw, hrd, hkeep, ho1, ho2, ho3, hsz1, hhold⟩; obtain ⟨d, e1, e2, e3, hF⟩ := fnc_of (ret := ret) th (by omega) sl1 sl2 hn2 hnb hpw; subst e1 e2 e3; have TY1 := ty1_of (k := k) (r := .slice ur k cr) (s := .slice us k cs) th sl1 sl2 hn2 hnb hhold hqc; have PC := countS_any base d up cp ub cb (w1.alloc (.cells #[.slice up d.params.length cp, .int .i64 d.ret, .slice ub d.blocks.length cb] 27)) hF.sm (hF.mem.read.2.keep (agree_alloc _ _ _)); clear th sl1 sl2 hpw hhold))
   refine PC.mono ?_
   rintro e w3 ⟨rfl, hb3⟩
   have hbb := hin.bv
   have hz4 := hM.sz
   obtain ⟨⟨K1, K2, K3⟩, ⟨X1, X2, X3⟩, hlt13, KK, XX, hsx⟩ := mids hM hrd hkeep ho1 ho2 ho3 hsz1 hF hin.bv hb3
   obtain ⟨zs0, hro0⟩ := hM.ro
   obtain ⟨mf0, xs0, ps0, _, _, hso0, _⟩ := hM.fs
   have hqs : ∀ q, ((Value.slice ur k cr).ownBlock = some q ∨ (Value.slice us k cs).ownBlock = some q) → q < w3.heap.size := fun q hq => by
    rcases hq with hq | hq
    ·have := (hro0.lt q hq).2; omega
    ·have := (hso0.lt q hq).2; omega
   obtain ⟨TK, TX⟩ := mids_ty TY1 hb3 hqs (by omega)
   have HTK : Hid _ := TK
   have HTX : Hid _ := TX
   clear TK TX TY1 hqs hqc hro0 hso0
   obtain ⟨mf, xs, ps, zs, hmf, hfs⟩ := fs_at hM
   have FK := hfs w3 KK (by omega)
   have FX := hfs _ XX (by omega)
   have hTm0 : True := trivial
   have hTm : mf.ownBlock ≠ some w1.heap.size := fun e => by have := hmf _ e; omega
   obtain ⟨iF, fi, f0, f1, f2⟩ := info_parts infoF
   obtain ⟨iS, gi, g0', g1', g2'⟩ := info_parts infoSy
   obtain ⟨iI, ji, j0, j1, j2⟩ := info_parts info1
   have HF : Hid _ := (⟨fi, f0, f1, f2⟩ : _ ∧ _ ∧ _ ∧ _)
   have HS : Hid _ := (⟨gi, g0', g1', g2'⟩ : _ ∧ _ ∧ _ ∧ _)
   have HI : Hid _ := (⟨ji, j0, j1, j2⟩ : _ ∧ _ ∧ _ ∧ _)
   have hne2 : ¬ (w1.heap.size = z0 + 1) := by omega
   have HX : Hid _ := (⟨FX, X1, X2, X3⟩ : _ ∧ _ ∧ _ ∧ _)
   have HK : Hid _ := (⟨FK, K1, K2, K3⟩ : _ ∧ _ ∧ _ ∧ _)
   have t0 : w3.cell? ⟨w1.heap.size, 0, none⟩ = some (.slice up d.params.length cp) := (cell_of_heap K2).trans rfl
   have t1 : w3.cell? ⟨w1.heap.size, 1, none⟩ = some (.int .i64 d.ret) := (cell_of_heap K2).trans rfl
   have t2 : w3.cell? ⟨w1.heap.size, 2, none⟩ = some (.slice ub d.blocks.length cb) := (cell_of_heap K2).trans rfl
   have u0 : w3.frozen? ⟨w1.heap.size, 0, none⟩ = false := by simp [World.frozen?, K2]
   have u1 : w3.frozen? ⟨w1.heap.size, 1, none⟩ = false := by simp [World.frozen?, K2]
   have u2 : w3.frozen? ⟨w1.heap.size, 2, none⟩ = false := by simp [World.frozen?, K2]
   clear hs5 hsx X1 X2 X3 FX XX KK FK K1 K2 K3 PC hb3 hkeep PF hF hrd ho1 ho2 ho3 hfs fi f0 f1 f2 gi g0' g1' g2' ji j0 j1 j2
   by_cases hc : (60 : Int) < (cntF d : Int)
   ·go_upto_region 10 with fail
    replace HK := HX
    replace HTK := HTX
    clear HX HTX t0 t1 t2 u0 u1 u2
    generalize (((((w3.setCell ⟨w1.heap.size, 0, none⟩ (.slice none 0 0)).setCell ⟨w1.heap.size, 1, none⟩ (.int .i64 8)).setCell ⟨w1.heap.size, 2, none⟩ (.slice (some ⟨w3.heap.size + 1, 0, none⟩) 1 1)).alloc (.cells #[.int .i64 21, .int .i64 8, .int .i64 0, .int .i64 0, .int .i64 0, .int .i64 7, .slice none 0 0] 44)).alloc (.cells #[.slice none 0 0, .slice (some ⟨w3.heap.size, 0, none⟩) 1 1, .int .i64 1, .int .i64 0, .int .i64 0, .int .i64 0] 41)) = xw at HK HTK ⊢
    have t0 : xw.cell? ⟨w1.heap.size, 0, none⟩ = some (.slice none 0 0) := (cell_of_heap HK.out.2.2.1).trans rfl
    have t1 : xw.cell? ⟨w1.heap.size, 1, none⟩ = some (.int .i64 8) := (cell_of_heap HK.out.2.2.1).trans rfl
    have t2 : xw.cell? ⟨w1.heap.size, 2, none⟩ = some (.slice (some ⟨w3.heap.size + 1, 0, none⟩) 1 1) := (cell_of_heap HK.out.2.2.1).trans rfl
    have hxl := HK.out.2.1.sz
    have mc : xw.cell? ⟨z0 + 1, 0, none⟩ = some mf := (cell_of_heap HK.out.1.1).trans rfl
    go_wp2_with (first | (at_builtin; refine wpList_append_two _ rfl (.tmp 38) (.tmp 40) 57 rfl (z0 + 2) 27 iF (.agg #[.slice none 0 0, .int .i64 0, .slice none 0 0]) 3 56 Tryd.underlying57 HF.out.1 HF.out.2.1 HF.out.2.2.1 HF.out.2.2.2 rfl (by decide) mf k xs rfl (HK.out.1.2.1.alloc _) ⟨xw.heap.size, 0, none⟩ 1 [.slice none 0 0, .int .i64 8, .slice (some ⟨w3.heap.size + 1, 0, none⟩) 1 1] rfl rfl (three_of (heap_alloc_last _ _)) (by simp [Value.oneCell']) (by unfold maxLen; omega) (by omega) (by simp; omega) ?_; intro g4 c4 y1 o1 E1 l1; have e1 := E1.grown; have HE1 : Hid _ := E1; clear E1; obtain ⟨A1, A2, A3, A4, A5⟩ := after1 (g4 := g4) (c4 := c4) HK.out.2.1 HK.out.1.1 HK.out.1.2.1 HK.out.1.2.2.1 HK.out.1.2.2.2.1 HK.out.2.2.1 (by omega) hTm e1; have n0 : y1.cell? ⟨z0 + 1, 0, none⟩ = some mf := (cell_of_heap A1).trans rfl; have n1 : y1.frozen? ⟨z0 + 1, 0, none⟩ = false := (by simp [World.frozen?, A1]); have v1 : y1.cell? ⟨w1.heap.size, 1, none⟩ = some (.int .i64 8) := (cell_of_heap A2).trans rfl; have v0 : y1.cell? ⟨w1.heap.size, 0, none⟩ = some (.slice none 0 0) := (cell_of_heap A2).trans rfl; have HA : Hid _ := (⟨A2, A3, A4, o1⟩ : _ ∧ _ ∧ _ ∧ _); clear A1 A2 A3 A4 o1 e1 l1 t0 t1 t2 mc) | (at_builtin; refine wpList_append_two _ rfl (.tmp 43) (.tmp 46) 24 rfl (z0 + 2) 2 iI (.int .i64 0) 1 8 Tryd.underlying24 HI.out.1 HI.out.2.1 HI.out.2.2.1 HI.out.2.2.2 rfl (by decide) (.slice ur k cr) k (zs.map (Value.int .i64)) rfl (HA.out.2.1.alloc _) ⟨y1.heap.size, 0, none⟩ 1 [.int .i64 8] rfl rfl (one_of (heap_alloc_set _ _ _ _)) (by simp [Value.oneCell']) (by unfold maxLen; omega) (by omega) (by simp [World.size_setCell]; omega) ?_; intro g5 c5 y3 o2 E2 l2; have e2 := E2.grown; have HE2 : Hid _ := E2; clear E2; obtain ⟨B1, B2, B3⟩ := after2 HA.out.2.2.1 HA.out.2.1 ((Below.heap_setCell _ _ _ _ hne2).trans HA.out.1) e2; have v3 : y3.cell? ⟨w1.heap.size, 0, none⟩ = some (.slice none 0 0) := (cell_of_heap B1).trans rfl; have hs3 : z0 + 4 ≤ y3.heap.size := (by simp only [World.size_setCell] at B3; omega); have HB : Hid _ := (⟨B2, o2⟩ : _ ∧ _); clear B1 B2 B3 o2 e2 l2 n0 n1 v1 v0) | (at_builtin; refine wpList_append_two _ rfl (.tmp 48) (.tmp 51) 82 rfl (z0 + 2) 24 iS (.slice none 0 0) 1 24 Tryd.underlying82 HS.out.1 HS.out.2.1 HS.out.2.2.1 HS.out.2.2.2 rfl (by decide) (.slice us k cs) k ps rfl (HB.out.1.alloc _) ⟨y3.heap.size, 0, none⟩ 1 [.slice none 0 0] rfl rfl (one_of (heap_alloc_last _ _)) (by simp [Value.oneCell']) (by unfold maxLen; omega) (by omega) (by simp; omega) ?_; intro g6 c6 y4 o3 E3 l3; have HE3 : Hid _ := E3; have HC : Hid _ := o3; clear o3 E3 l3 v3))
    have NX := next_at (T7 := w1.heap.size) (d := fun7) (up := none) (cp := 0) (ub := (some ⟨w3.heap.size + 1, 0, none⟩)) (cb := 1) HK.out.2.1 (by omega) HK.out.2.2.2 hbase HTK.out hbase2 HK.out.1 HA.out.2.2.2 HE1.out HB.out.2 HE2.out HC.out HE3.out
    go_roundw
    case rel => exact ⟨k + 1, n - 1, by first | go_num | (congr 1; omega), by omega, by omega, NX⟩
    case measure => simp [intOf]; omega
   ·by_cases hl : (10 : Int) < (d.blocks.length : Int)
    ·go_upto_region 10 with fail
     replace HK := HX
     replace HTK := HTX
     clear HX HTX t0 t1 t2 u0 u1 u2
     generalize (((((w3.setCell ⟨w1.heap.size, 0, none⟩ (.slice none 0 0)).setCell ⟨w1.heap.size, 1, none⟩ (.int .i64 8)).setCell ⟨w1.heap.size, 2, none⟩ (.slice (some ⟨w3.heap.size + 1, 0, none⟩) 1 1)).alloc (.cells #[.int .i64 21, .int .i64 8, .int .i64 0, .int .i64 0, .int .i64 0, .int .i64 7, .slice none 0 0] 44)).alloc (.cells #[.slice none 0 0, .slice (some ⟨w3.heap.size, 0, none⟩) 1 1, .int .i64 1, .int .i64 0, .int .i64 0, .int .i64 0] 41)) = xw at HK HTK ⊢
     have t0 : xw.cell? ⟨w1.heap.size, 0, none⟩ = some (.slice none 0 0) := (cell_of_heap HK.out.2.2.1).trans rfl
     have t1 : xw.cell? ⟨w1.heap.size, 1, none⟩ = some (.int .i64 8) := (cell_of_heap HK.out.2.2.1).trans rfl
     have t2 : xw.cell? ⟨w1.heap.size, 2, none⟩ = some (.slice (some ⟨w3.heap.size + 1, 0, none⟩) 1 1) := (cell_of_heap HK.out.2.2.1).trans rfl
     have hxl := HK.out.2.1.sz
     have mc : xw.cell? ⟨z0 + 1, 0, none⟩ = some mf := (cell_of_heap HK.out.1.1).trans rfl
     go_wp2_with (first | (at_builtin; refine wpList_append_two _ rfl (.tmp 38) (.tmp 40) 57 rfl (z0 + 2) 27 iF (.agg #[.slice none 0 0, .int .i64 0, .slice none 0 0]) 3 56 Tryd.underlying57 HF.out.1 HF.out.2.1 HF.out.2.2.1 HF.out.2.2.2 rfl (by decide) mf k xs rfl (HK.out.1.2.1.alloc _) ⟨xw.heap.size, 0, none⟩ 1 [.slice none 0 0, .int .i64 8, .slice (some ⟨w3.heap.size + 1, 0, none⟩) 1 1] rfl rfl (three_of (heap_alloc_last _ _)) (by simp [Value.oneCell']) (by unfold maxLen; omega) (by omega) (by simp; omega) ?_; intro g4 c4 y1 o1 E1 l1; have e1 := E1.grown; have HE1 : Hid _ := E1; clear E1; obtain ⟨A1, A2, A3, A4, A5⟩ := after1 (g4 := g4) (c4 := c4) HK.out.2.1 HK.out.1.1 HK.out.1.2.1 HK.out.1.2.2.1 HK.out.1.2.2.2.1 HK.out.2.2.1 (by omega) hTm e1; have n0 : y1.cell? ⟨z0 + 1, 0, none⟩ = some mf := (cell_of_heap A1).trans rfl; have n1 : y1.frozen? ⟨z0 + 1, 0, none⟩ = false := (by simp [World.frozen?, A1]); have v1 : y1.cell? ⟨w1.heap.size, 1, none⟩ = some (.int .i64 8) := (cell_of_heap A2).trans rfl; have v0 : y1.cell? ⟨w1.heap.size, 0, none⟩ = some (.slice none 0 0) := (cell_of_heap A2).trans rfl; have HA : Hid _ := (⟨A2, A3, A4, o1⟩ : _ ∧ _ ∧ _ ∧ _); clear A1 A2 A3 A4 o1 e1 l1 t0 t1 t2 mc) | (at_builtin; refine wpList_append_two _ rfl (.tmp 43) (.tmp 46) 24 rfl (z0 + 2) 2 iI (.int .i64 0) 1 8 Tryd.underlying24 HI.out.1 HI.out.2.1 HI.out.2.2.1 HI.out.2.2.2 rfl (by decide) (.slice ur k cr) k (zs.map (Value.int .i64)) rfl (HA.out.2.1.alloc _) ⟨y1.heap.size, 0, none⟩ 1 [.int .i64 8] rfl rfl (one_of (heap_alloc_set _ _ _ _)) (by simp [Value.oneCell']) (by unfold maxLen; omega) (by omega) (by simp [World.size_setCell]; omega) ?_; intro g5 c5 y3 o2 E2 l2; have e2 := E2.grown; have HE2 : Hid _ := E2; clear E2; obtain ⟨B1, B2, B3⟩ := after2 HA.out.2.2.1 HA.out.2.1 ((Below.heap_setCell _ _ _ _ hne2).trans HA.out.1) e2; have v3 : y3.cell? ⟨w1.heap.size, 0, none⟩ = some (.slice none 0 0) := (cell_of_heap B1).trans rfl; have hs3 : z0 + 4 ≤ y3.heap.size := (by simp only [World.size_setCell] at B3; omega); have HB : Hid _ := (⟨B2, o2⟩ : _ ∧ _); clear B1 B2 B3 o2 e2 l2 n0 n1 v1 v0) | (at_builtin; refine wpList_append_two _ rfl (.tmp 48) (.tmp 51) 82 rfl (z0 + 2) 24 iS (.slice none 0 0) 1 24 Tryd.underlying82 HS.out.1 HS.out.2.1 HS.out.2.2.1 HS.out.2.2.2 rfl (by decide) (.slice us k cs) k ps rfl (HB.out.1.alloc _) ⟨y3.heap.size, 0, none⟩ 1 [.slice none 0 0] rfl rfl (one_of (heap_alloc_last _ _)) (by simp [Value.oneCell']) (by unfold maxLen; omega) (by omega) (by simp; omega) ?_; intro g6 c6 y4 o3 E3 l3; have HE3 : Hid _ := E3; have HC : Hid _ := o3; clear o3 E3 l3 v3))
     have NX := next_at (T7 := w1.heap.size) (d := fun7) (up := none) (cp := 0) (ub := (some ⟨w3.heap.size + 1, 0, none⟩)) (cb := 1) HK.out.2.1 (by omega) HK.out.2.2.2 hbase HTK.out hbase2 HK.out.1 HA.out.2.2.2 HE1.out HB.out.2 HE2.out HC.out HE3.out
     go_roundw
     case rel => exact ⟨k + 1, n - 1, by first | go_num | (congr 1; omega), by omega, by omega, NX⟩
     case measure => simp [intOf]; omega
    ·clear HX HTX u0 u1 u2
     have mc : w3.cell? ⟨z0 + 1, 0, none⟩ = some mf := (cell_of_heap HK.out.1.1).trans rfl
     go_wp2_with (first | (at_builtin; refine wpList_append_two _ rfl (.tmp 38) (.tmp 40) 57 rfl (z0 + 2) 27 iF (.agg #[.slice none 0 0, .int .i64 0, .slice none 0 0]) 3 56 Tryd.underlying57 HF.out.1 HF.out.2.1 HF.out.2.2.1 HF.out.2.2.2 rfl (by decide) mf k xs rfl (HK.out.1.2.1.alloc _) ⟨w3.heap.size, 0, none⟩ 1 [.slice up d.params.length cp, .int .i64 d.ret, .slice ub d.blocks.length cb] rfl rfl (three_of (heap_alloc_last _ _)) (by simp [Value.oneCell']) (by unfold maxLen; omega) (by omega) (by simp; omega) ?_; intro g4 c4 y1 o1 E1 l1; have e1 := E1.grown; have HE1 : Hid _ := E1; clear E1; obtain ⟨A1, A2, A3, A4, A5⟩ := after1 (g4 := g4) (c4 := c4) HK.out.2.1 HK.out.1.1 HK.out.1.2.1 HK.out.1.2.2.1 HK.out.1.2.2.2.1 HK.out.2.2.1 (by omega) hTm e1; have n0 : y1.cell? ⟨z0 + 1, 0, none⟩ = some mf := (cell_of_heap A1).trans rfl; have n1 : y1.frozen? ⟨z0 + 1, 0, none⟩ = false := (by simp [World.frozen?, A1]); have v1 : y1.cell? ⟨w1.heap.size, 1, none⟩ = some (.int .i64 d.ret) := (cell_of_heap A2).trans rfl; have v0 : y1.cell? ⟨w1.heap.size, 0, none⟩ = some (.slice up d.params.length cp) := (cell_of_heap A2).trans rfl; have HA : Hid _ := (⟨A2, A3, A4, o1⟩ : _ ∧ _ ∧ _ ∧ _); clear A1 A2 A3 A4 o1 e1 l1 t0 t1 t2 mc) | (at_builtin; refine wpList_append_two _ rfl (.tmp 43) (.tmp 46) 24 rfl (z0 + 2) 2 iI (.int .i64 0) 1 8 Tryd.underlying24 HI.out.1 HI.out.2.1 HI.out.2.2.1 HI.out.2.2.2 rfl (by decide) (.slice ur k cr) k (zs.map (Value.int .i64)) rfl (HA.out.2.1.alloc _) ⟨y1.heap.size, 0, none⟩ 1 [.int .i64 d.ret] rfl rfl (one_of (heap_alloc_set _ _ _ _)) (by simp [Value.oneCell']) (by unfold maxLen; omega) (by omega) (by simp [World.size_setCell]; omega) ?_; intro g5 c5 y3 o2 E2 l2; have e2 := E2.grown; have HE2 : Hid _ := E2; clear E2; obtain ⟨B1, B2, B3⟩ := after2 HA.out.2.2.1 HA.out.2.1 ((Below.heap_setCell _ _ _ _ hne2).trans HA.out.1) e2; have v3 : y3.cell? ⟨w1.heap.size, 0, none⟩ = some (.slice up d.params.length cp) := (cell_of_heap B1).trans rfl; have hs3 : z0 + 4 ≤ y3.heap.size := (by simp only [World.size_setCell] at B3; omega); have HB : Hid _ := (⟨B2, o2⟩ : _ ∧ _); clear B1 B2 B3 o2 e2 l2 n0 n1 v1 v0) | (at_builtin; refine wpList_append_two _ rfl (.tmp 48) (.tmp 51) 82 rfl (z0 + 2) 24 iS (.slice none 0 0) 1 24 Tryd.underlying82 HS.out.1 HS.out.2.1 HS.out.2.2.1 HS.out.2.2.2 rfl (by decide) (.slice us k cs) k ps rfl (HB.out.1.alloc _) ⟨y3.heap.size, 0, none⟩ 1 [.slice up d.params.length cp] rfl rfl (one_of (heap_alloc_last _ _)) (by simp [Value.oneCell']) (by unfold maxLen; omega) (by omega) (by simp; omega) ?_; intro g6 c6 y4 o3 E3 l3; have HE3 : Hid _ := E3; have HC : Hid _ := o3; clear o3 E3 l3 v3))
     have NX := next_at (T7 := w1.heap.size) (d := d) (up := up) (cp := cp) (ub := ub) (cb := cb) HK.out.2.1 (by omega) HK.out.2.2.2 hbase HTK.out hbase2 HK.out.1 HA.out.2.2.2 HE1.out HB.out.2 HE2.out HC.out HE3.out
     go_roundw
     case rel => exact ⟨k + 1, n - 1, by first | go_num | (congr 1; omega), by omega, by omega, NX⟩
     case measure => simp [intOf]; omega
  ·have hn0 : n = 0 := by omega
   subst hn0
   obtain ⟨mf, xs, ps, zs, hmf, hfs⟩ := fs_at hM
   obtain ⟨m1, m2, m3, m5, m0, m4, m6⟩ := hfs wr (fun _ _ _ => rfl) (Nat.le_refl _)
   obtain ⟨d, up, cp, ub, cb, H, x0, x1, x2, hF, _, _, _, _, _, hT1⟩ := m4 (by omega)
   have hgz := hM.gz
   have hz4 := hM.sz
   rcases m2.2 with ⟨_, e⟩ | ⟨gm, cm, cur, rfl, hgm, hcur, _⟩
   ·omega
   have cm1 : wr.cell? ⟨z0 + 1, 0, none⟩ = some (.slice (some ⟨gm, 0, none⟩) k cm) := (cell_of_heap m1).trans rfl
   have cz : wr.cell? ⟨z0, 0, none⟩ = some (.slice none 0 0) := (cell_of_heap hM.res).trans rfl
   have fz : wr.frozen? ⟨z0, 0, none⟩ = false := by simp [World.frozen?, hM.res]
   have r0 : wr.cell? ⟨gm, 0, none⟩ = some (.slice up d.params.length cp) := (own_at (k := 0) m2 (by omega)).trans x0
   have r1 : wr.cell? ⟨gm, 1, none⟩ = some (.int .i64 d.ret) := (own_at (k := 1) m2 (by omega)).trans x1
   have r2 : wr.cell? ⟨gm, 2, none⟩ = some (.slice ub d.blocks.length cb) := (own_at (k := 2) m2 (by omega)).trans x2
   have HR : Hid _ := hM.res
   have hmd := hF.mem.read
   have hr := heap_set (o := 0) (v := .slice (some ⟨gm, 0, none⟩) k cm) hM.res
   go_wp2_with fail
   have hset : ∀ b, b ≠ z0 → (wr.setCell ⟨z0, 0, none⟩ (.slice (some ⟨gm, 0, none⟩) k cm)).heap[b]? = wr.heap[b]? := fun b hb => Below.heap_setCell _ _ _ _ hb
   have hag : Agree (z0 + 4) wr (wr.setCell ⟨z0, 0, none⟩ (.slice (some ⟨gm, 0, none⟩) k cm)) := ⟨by simp only [World.size_setCell]; exact Nat.le_refl _, fun b h1 _ => hset b (by omega)⟩
   refine bodyPost_ret (v := .agg #[.slice (some ⟨gm, 0, none⟩) k cm]) ((results_cell_row Tryd.results22 _ _ z0 59 _ (0, 0) _ rfl hr Tryd.underlying59 rfl (by kernel_rfl)).trans (by rfl)) rfl ⟨⟨gm, k, cm, rfl, by omega, d, up, ub, cp, cb, ?_, ?_, ?_, hF.sm, hF.one, (hmd.1.keep hag).low (by omega), (hmd.2.keep hag).low (by omega), rd_keep hM.rd (by simp only [World.size_setCell]; exact Nat.le_refl _) fun b hb => hset b (by omega), fun b h1 h2 => (hset b (by omega)).trans (hM.old b (by omega) h2), by simp only [World.size_setCell]; omega, (set_os _ _ _).trans hM.os, (set_tape _ _ _).trans hM.tape, (set_output _ _ _).trans hM.output⟩, ?_⟩
   ·exact (cell_blk (hset gm (by omega))).trans r0
   ·exact (cell_blk (hset gm (by omega))).trans r1
   ·exact (cell_blk (hset gm (by omega))).trans r2
   ·refine ⟨gm, k, cm, rfl, by omega, by omega, by omega, ⟨cur, (hset gm (by omega)).trans hcur⟩, fun i hi => ?_, rd_keep hM.rd (by simp only [World.size_setCell]; exact Nat.le_refl _) fun b hb => hset b (by omega), fun b h1 h2 => (hset b (by omega)).trans (hM.old b (by omega) h2), by simp only [World.size_setCell]; omega, (set_os _ _ _).trans hM.os, (set_tape _ _ _).trans hM.tape, (set_output _ _ _).trans hM.output⟩
    rcases i with _ | _ | i
    ·exact ⟨d, up, ub, cp, cb, (cell_blk (hset gm (by omega))).trans r0, (cell_blk (hset gm (by omega))).trans r1, (cell_blk (hset gm (by omega))).trans r2, (hT1.keep (g := z0) (fun b _ hb => hset b hb) (by omega)).two (by omega)⟩
    ·obtain ⟨d2, up2, cp2, ub2, cb2, y0, y1, y2, hT2⟩ := m6 (by omega)
     exact ⟨d2, up2, ub2, cp2, cb2, (cell_blk (hset gm (by omega))).trans ((own_at (k := 3) m2 (by omega)).trans y0), (cell_blk (hset gm (by omega))).trans ((own_at (k := 4) m2 (by omega)).trans y1), (cell_blk (hset gm (by omega))).trans ((own_at (k := 5) m2 (by omega)).trans y2), ty2_low (hT2.keep (g := z0) (fun b _ hb => hset b hb) (by omega)) (by omega)⟩
    ·omega
theorem module_two (g : Nat) (a0 : Option Addr) (len cap : Nat) (v : World) (h : Rd g a0 len cap v) : Calls Tryd.prog 22 #[.pointer (some ⟨g, 0, none⟩)] v fun e w => ModTold2 g a0 len cap v e w :=
 (module_both g a0 len cap v h).mono fun _ _ k => k.1
end Go.Proofs.YtenbodghkpbghaaDoor
namespace Go.Proofs.YtenbodghkpbghaaDoor
open Go.RowKit
def Row (w : World) (base : Nat) (v : Value) (l : List Int) : Prop := w.ownsRow base 2 1 v l.length (l.map (Value.int .i64))
theorem Row.nil (w : World) (base : Nat) : Row w base (.slice none 0 0) [] := World.ownsRow_nil _ _ _ _
theorem Row.slice {w : World} {base : Nat} {v : Value} {l : List Int} (h : Row w base v l) : ∃ a c, v = .slice a l.length c := by
 rcases h.2 with ⟨rfl, hn⟩ | ⟨g, cap, cur, rfl, _⟩
 ·exact ⟨none, 0, by rw [hn]⟩
 ·exact ⟨_, _, rfl⟩
theorem Row.ge {w : World} {base : Nat} {v : Value} {l : List Int} (h : Row w base v l) {g : Nat} (hv : v.ownBlock = some g) : base ≤ g ∧ g < w.heap.size := by
 rcases h.2 with ⟨rfl, _⟩ | ⟨g', cap, cur, rfl, hb, hg, r⟩
 ·cases hv
 ·cases hv; exact ⟨hb, (Array.getElem?_eq_some_iff.1 hg).1⟩
theorem Row.block {w w' : World} {base : Nat} {v : Value} {l : List Int} (h : Row w base v l) (k : ∀ g, v.ownBlock = some g → g < w.heap.size → w'.heap[g]? = w.heap[g]?) : Row w' base v l := by
 refine ⟨h.1, ?_⟩
 rcases h.2 with h2 | ⟨g, cap, cur, rfl, hb, hg, r⟩
 ·exact .inl h2
 ·exact .inr ⟨g, cap, cur, rfl, hb, (k g rfl (Array.getElem?_eq_some_iff.1 hg).1).trans hg, r⟩
theorem Row.keep {w w' : World} {base : Nat} {v : Value} {l : List Int} (h : Row w base v l) (k : Below w.heap.size w w') : Row w' base v l := h.block fun g _ hg => k.block g hg
theorem Row.alloc {w : World} {base : Nat} {v : Value} {l : List Int} (h : Row w base v l) (o : Obj) : Row (w.alloc o) base v l := World.ownsRow.alloc h o
theorem Row.low {w : World} {lo lo' : Nat} {v : Value} {l : List Int} (h : Row w lo v l) (k : lo' ≤ lo) : Row w lo' v l := by
 refine ⟨h.1, ?_⟩
 rcases h.2 with h2 | ⟨g, cap, cur, hv, hb, r⟩
 ·exact .inl h2
 ·exact .inr ⟨g, cap, cur, hv, Nat.le_trans k hb, r⟩
theorem Row.ints {w : World} {base : Nat} {v : Value} {l : List Int} (hm : l.length ≤ 4194304) (h : Row w base v l) : ∃ u c, v = .slice u l.length c ∧ IntsAt w base u l := by
 rcases h.2 with ⟨hv, hn⟩ | ⟨g, cap, cur, hv, hb, hg, hnc, _, hcs, htk⟩
 ·exact ⟨none, 0, by rw [hv, hn], by omega, .inl (List.length_eq_zero_iff.1 hn)⟩
 ·refine ⟨_, cap, hv, by omega, .inr ⟨g, 0, rfl, hb, (Array.getElem?_eq_some_iff.1 hg).1, fun i hi => ?_⟩⟩
  have e : (cur.toList.take (l.length * 1))[i]? = (l.map (Value.int .i64))[i]? := by rw [htk]
  rw [List.getElem?_take, if_pos (by omega)] at e
  simp [hi] at e
  rw [Nat.zero_add, cell_of_heap hg]
  simpa [List.getD, hi] using e
theorem Row.lit (w : World) (base : Nat) (h : base ≤ w.heap.size) : Row (w.alloc (.cells #[] 2)) base (.slice (some ⟨w.heap.size, 0, none⟩) 0 0) [] :=
 World.ownsRow_lit w #[] 0 h (by decide) (by simp)
theorem one_cell (w : World) (v : Value) (t : TypeId) : (w.alloc (.cells #[v] t)).cell? ⟨w.heap.size, 0, none⟩ = some v := (cell_of_heap (heap_alloc_last _ _)).trans rfl
theorem one_cell_at {w : World} {v : Value} {t : TypeId} {s : Nat} (h : w.heap.size = s) : (w.alloc (.cells #[v] t)).cell? ⟨s, 0, none⟩ = some v := by subst h; exact one_cell w v t
theorem push_int {ops : Array Oper} {rest : List Oper} {o : Oper} {a : Act} {Q : Exit → Act → World → Prop} {w : World} (hgd : o.guard = none) (s x : Operand)
  (ho : o.op = .call { callee := .builtin .append, args := #[s, x], argTypes := #[24, 24] })
  (base : Nat) (v : Value) (l : List Int) (hs : a.eval s = v) (hown : Row w base v l) (n : Int) (b c : Nat) (hx : a.eval x = .slice (some ⟨b, 0, none⟩) 1 c) (hc : w.cell? ⟨b, 0, none⟩ = some (.int .i64 n)) (hl : l.length ≤ 4194304) (hbase : base ≤ w.heap.size)
  (h : ∀ v' w', Row w' base v' (l ++ [n]) → w.grownBy w' v.ownBlock → wpList Tryd.prog ops Q rest (a.put o.dst v') w') : wpList Tryd.prog ops Q (o :: rest) a w := by
 obtain ⟨i0, hi, hz0, hz1, hz2⟩ := info_parts infoI
 refine wpList_append_own w hgd s x 24 ho base 2 i0 (.int .i64 0) 1 8 Tryd.underlying24 hi hz0 hz1 hz2 rfl (by decide) v l.length (l.map (Value.int .i64)) hs hown ⟨b, 0, none⟩ 1 c [.int .i64 n] hx (by simp) ?_ (by simp [Value.oneCell']) (by unfold maxLen; omega) (by omega) hbase ?_
 ·intro j u hj
  match j, hj with
  | 0, hj => rw [Addr.add_lit]; simp at hj; rw [← hj]; exact hc
 ·intro v' w' h1 h2 _
  refine h v' w' ?_ h2
  unfold Row
  rw [List.length_append, List.map_append]
  exact h1
end Go.Proofs.YtenbodghkpbghaaDoor
namespace Go.Proofs.YtenbodghkpbghaaDoor
open Go.RowKit
def At (w : World) (g : Nat) (cs : Array Value) (T : TypeId) : Prop := w.heap[g]? = some (.cells cs T (0, 0))
theorem At.lt {w : World} {g : Nat} {cs : Array Value} {T : TypeId} (h : At w g cs T) : g < w.heap.size := (Array.getElem?_eq_some_iff.1 h).1
theorem At.below {w w' : World} {g : Nat} {cs : Array Value} {T : TypeId} (h : At w g cs T) (k : Below w.heap.size w w') : At w' g cs T := (k.block g h.lt).trans h
theorem At.new (w : World) (cs : Array Value) (T : TypeId) : At (w.alloc (.cells cs T)) w.heap.size cs T := heap_alloc_last w _
theorem At.cell {w : World} {g : Nat} {cs : Array Value} {T : TypeId} (h : At w g cs T) (o : Nat) : w.cell? ⟨g, o, none⟩ = cs[o]? := cell_of_heap h
theorem At.setOther {w : World} {g gi o : Nat} {cs : Array Value} {T : TypeId} {v : Value} (h : At w g cs T) (hn : g ≠ gi) : At (w.setCell ⟨gi, o, none⟩ v) g cs T := (Below.heap_setCell _ _ _ _ (by show g ≠ gi; exact hn)).trans h
end Go.Proofs.YtenbodghkpbghaaDoor
namespace Go.Proofs.YtenbodghkpbghaaDoor
open Go.RowKit
set_option linter.unusedVariables false
theorem yesH {P : Program} {ops : Array Oper} {S : World → Prop} {o : Oper} {v : Value} {a : Act} (h : Region.wanted o (yielded ops a.tmps) = true) (k : ∀ w, S w → (execOp a.eval o).run P w = .ok (.value v) w) : YieldsIf P ops S o v a := .inl ⟨h, k⟩
theorem tkh {P : Program} {ops : Array Oper} {Q : Exit → Act → World → Prop} {md : Region.Mode} {S : World → Prop} (i : Nat) {oi : Oper} {v : Value} {fuel : Nat} {listed : Array Bool} {s : Tmp} {a : Act} {w : World} (hi : ops[i]? = some oi) (hd : oi.dst = some s)
  (hc : (Region.noSelect ops && (Region.free md ops listed i && (Region.ready md ops listed).contains i)) = true)
  (hQ : ∀ c a w, Q (.panic c) (a.put oi.dst v) w → Q (.panic c) a w) (hy : YieldsIf P ops S oi v a) (hS : S w)
  (h : wpAnyH P md ops Q S fuel (listed.setIfInBounds i true) { a with tmps := a.tmps.setIfInBounds s v } w) : wpAnyH P md ops Q S (fuel + 1) listed a w := by
 simp only [Bool.and_eq_true] at hc
 refine wpAnyH_take hi hc.1 hc.2.1 hc.2.2 hQ hy hS ?_
 rw [hd]
 exact h
theorem sA {α : Type} (l : List α) (i : Nat) (a : α) : l.toArray.setIfInBounds i a = (l.set i a).toArray := List.setIfInBounds_toArray ..
theorem sB {α : Type} (x : α) (l : List α) (a : α) : (x :: l).set 0 a = a :: l := rfl
theorem sC {α : Type} (x : α) (l : List α) (n : Nat) (a : α) : (x :: l).set (n + 1) a = x :: l.set n a := rfl
end Go.Proofs.YtenbodghkpbghaaDoor
