import Derived.Test.YtkpmiikafconmaaGreatDoorMkLV
import Derived.Test.YtkpmiikafconmaaGreatDoorReHV
import Derived.Test.YtkpmiikafconmaaGreatDoorRiDV
import Derived.Test.YtkpmiikafconmaaGreatDoorFmIV
namespace Go.Proofs.YtkpmiikafconmaaGreatDoor
open Go.RowKit
set_option linter.unusedVariables false
set_option linter.unusedSimpArgs false
theorem Sub.each {α : Type} {O : World → Nat → Nat → α → Prop} {w : World} : ∀ {es : List α} {lo hi : Nat}, Sub O w lo hi es → ∀ e ∈ es, ∃ a m, lo ≤ a ∧ O w a m e
 | [], _, _, _, e, he => by cases he
 | x :: es, lo, hi, ⟨a, m, h1, h2, h3, h4⟩, e, he => by
  rcases List.mem_cons.1 he with rfl | he
  ·exact ⟨a, m, h1, h3⟩
  ·obtain ⟨a', m', k1, k2⟩ := h4.each e he
   exact ⟨a', m', by omega, k2⟩
def KI (w : World) (K : List Addr) : Prop := ∀ a ∈ K, ∃ z : Int, w.cell? a = some (.int .i64 z)
theorem KI.slice {w : World} {K : List Addr} (h : KI w K) {a : Addr} {u : Option Addr} {n c : Nat} (ha : w.cell? a = some (.slice u n c)) : a ∉ K := fun hk => by
 obtain ⟨z, hz⟩ := h a hk
 rw [ha] at hz
 cases hz
theorem InA.ki {w : World} {lo hi k : Nat} {A : List Addr} (h : InA w lo hi k A) : KI w A := fun a ha => (h a ha).2.2.2
theorem map_get {α β : Type} (f : α → β) (z : β) {l : List α} {i : Nat} {e : α} (h : l[i]? = some e) : (l.map f).getD i z = f e := by simp [List.getD, h]
theorem strR_of {α : Type} {T : TypeId} {s f : Nat} {F : List Nat} {C : α → List Value} {O : World → Nat → Nat → α → Prop} {w : World} {lo hi : Nat} {u : Option Addr} {es : List α} {K : List Addr} (hd : α → Option Addr × Nat) (h : OwnL T s C O w lo hi u es) (hK : KI w K) (hf : f < s) (hF : ∀ x ∈ F, x < s)
  (h1 : ∀ e, ∃ c, (C e)[f]? = some (.slice (hd e).1 (hd e).2 c)) (h2 : ∀ e, ∀ x ∈ F, ∃ z : Int, (C e)[x]? = some (.int .i64 z)) (h3 : ∀ a m e, O w a m e → IntR w (hd e).1 (hd e).2) : StrR K w s f F u (es.map hd) := by
 refine ⟨by rw [List.length_map]; exact h.1, ?_⟩
 rcases h.2.1 with e | ⟨g, cur, rfl, _, _, hg, hc⟩
 ·exact .inl (by rw [e]; rfl)
 ·refine .inr ⟨g, 0, rfl, fun i hi x hx => ?_, fun i hi => ?_⟩
  ·rw [List.length_map] at hi
   obtain ⟨e, he⟩ : ∃ e, es[i]? = some e := ⟨es[i], List.getElem?_eq_getElem hi⟩
   obtain ⟨z, hz⟩ := h2 e x hx
   refine ⟨⟨z, ?_⟩, froz_of_heap hg⟩
   rw [cell_of_heap hg, Nat.zero_add, hc i e he x (hF x hx)]
   exact hz
  ·rw [List.length_map] at hi
   obtain ⟨e, he⟩ : ∃ e, es[i]? = some e := ⟨es[i], List.getElem?_eq_getElem hi⟩
   obtain ⟨c, hz⟩ := h1 e
   rw [map_get hd (none, 0) he]
   have hcell : w.cell? ⟨g, 0 + i * s + f, none⟩ = some (.slice (hd e).1 (hd e).2 c) := by
    rw [cell_of_heap hg, Nat.zero_add, hc i e he f hf]
    exact hz
   obtain ⟨a, m, _, ho⟩ := h.2.2.each e (List.mem_of_getElem? he)
   exact ⟨⟨c, hcell⟩, hK.slice hcell, h3 _ _ _ ho⟩
theorem phsQ (es : List PhE) : rowsQ (es.map PhE.h) = es.map fun e => ([], rowH e.2.1 e.1.ins.length) := by simp [rowsQ, PhE.h]
theorem insQ (es : List InE) : rowsQ (es.map InE.h) = es.map fun e => ([], rowH e.2.1 e.1.args.length) := by simp [rowsQ, InE.h]
theorem OwnPhs.inA {w : World} {lo hi : Nat} {u : Option Addr} {es : List PhE} (h : OwnPhs w lo hi u es) : InA w lo hi 2 (strO 2 [0] u (es.map PhE.h)) ∧ (strO 2 [0] u (es.map PhE.h)).Nodup := by
 have hq : ∀ lo hi (e : PhE), OwnPhE w lo hi e → InA w lo hi 1 (([] : List Addr) ++ rowH e.2.1 e.1.ins.length) := fun lo hi e he => OwnI.inA he
 rcases h.2.1 with rfl | ⟨g, cur, rfl, h1, h2, hg, hc⟩
 ·rw [List.map_nil, strO_nil]; exact ⟨InA.nil, List.nodup_nil⟩
 ·show InA w lo hi 2 (strA g 2 [0] 0 (rowsQ (es.map PhE.h))) ∧ (strA g 2 [0] 0 (rowsQ (es.map PhE.h))).Nodup
  rw [phsQ]
  have hs := sub_inA (q := fun e : PhE => (([] : List Addr), rowH e.2.1 e.1.ins.length)) hq h.2.2
  refine ⟨row_inA hg h1 h2 (by decide) (hs.wide (Nat.le_refl _) (Nat.le_refl _) (by decide)) fun i e he f hf => ?_, row_nodup hg (by decide) hs (sub_nodup (q := fun e => (([] : List Addr), rowH e.2.1 _)) hq (fun lo hi e he => rowH_nodup _ _) h.2.2) (by decide) (by decide)⟩
  obtain rfl := List.mem_singleton.1 hf
  exact ⟨e.1.w, hc i e he 0 (by decide)⟩
theorem OwnIns.inA {w : World} {lo hi : Nat} {u : Option Addr} {es : List InE} (h : OwnIns w lo hi u es) : InA w lo hi 3 (strO 7 [0, 1, 2, 3, 4, 5] u (es.map InE.h)) ∧ (strO 7 [0, 1, 2, 3, 4, 5] u (es.map InE.h)).Nodup := by
 have hq : ∀ lo hi (e : InE), OwnInE w lo hi e → InA w lo hi 1 (([] : List Addr) ++ rowH e.2.1 e.1.args.length) := fun lo hi e he => OwnI.inA he
 rcases h.2.1 with rfl | ⟨g, cur, rfl, h1, h2, hg, hc⟩
 ·rw [List.map_nil, strO_nil]; exact ⟨InA.nil, List.nodup_nil⟩
 ·show InA w lo hi 3 (strA g 7 [0, 1, 2, 3, 4, 5] 0 (rowsQ (es.map InE.h))) ∧ (strA g 7 [0, 1, 2, 3, 4, 5] 0 (rowsQ (es.map InE.h))).Nodup
  rw [insQ]
  have hs := sub_inA (q := fun e : InE => (([] : List Addr), rowH e.2.1 e.1.args.length)) hq h.2.2
  refine ⟨row_inA hg h1 h2 (by decide) (hs.wide (Nat.le_refl _) (Nat.le_refl _) (by decide)) fun i e he f hf => ?_, row_nodup hg (by decide) hs (sub_nodup (q := fun e => (([] : List Addr), rowH e.2.1 _)) hq (fun lo hi e he => rowH_nodup _ _) h.2.2) (by decide) (by decide)⟩
  have hc' := hc i e he
  simp only [List.mem_cons, List.not_mem_nil, or_false] at hf
  rcases hf with rfl | rfl | rfl | rfl | rfl | rfl
  ·exact ⟨_, hc' 0 (by decide)⟩
  ·exact ⟨_, hc' 1 (by decide)⟩
  ·exact ⟨_, hc' 2 (by decide)⟩
  ·exact ⟨_, hc' 3 (by decide)⟩
  ·exact ⟨_, hc' 4 (by decide)⟩
  ·exact ⟨_, hc' 5 (by decide)⟩
theorem OwnPhs.strR {w : World} {lo hi : Nat} {u : Option Addr} {es : List PhE} {K : List Addr} (h : OwnPhs w lo hi u es) (hK : KI w K) : StrR K w 2 1 [0] u (es.map PhE.h) :=
 strR_of PhE.h h hK (by decide) (by decide) (fun e => ⟨e.2.2, rfl⟩) (fun e x hx => by obtain rfl := List.mem_singleton.1 hx; exact ⟨e.1.w, rfl⟩) fun a m e he => OwnI.intR he
theorem OwnIns.strR {w : World} {lo hi : Nat} {u : Option Addr} {es : List InE} {K : List Addr} (h : OwnIns w lo hi u es) (hK : KI w K) : StrR K w 7 6 [0, 1, 2, 3, 4, 5] u (es.map InE.h) :=
 strR_of InE.h h hK (by decide) (by decide) (fun e => ⟨e.2.2, rfl⟩) (fun e x hx => by
  simp only [List.mem_cons, List.not_mem_nil, or_false] at hx
  rcases hx with rfl | rfl | rfl | rfl | rfl | rfl
  all_goals exact ⟨_, rfl⟩) fun a m e he => OwnI.intR he
theorem OwnBk.inA {w : World} {lo hi : Nat} {b : BkE} (h : OwnBk w lo hi b) : InA w lo hi 3 (blkA b.h) ∧ (blkA b.h).Nodup := by
 obtain ⟨m, h1, h2, h3, h4⟩ := h
 obtain ⟨a1, a2⟩ := h3.inA
 obtain ⟨b1, b2⟩ := h4.inA
 exact ⟨(a1.wide (Nat.le_refl _) h2 (by decide)).append (b1.wide h1 (Nat.le_refl _) (Nat.le_refl _)), a1.apart b1 (Nat.le_refl _) a2 b2⟩
theorem bksQ (es : List BkE) : blksQ (es.map BkE.h) = es.map fun b => (blkA b.h, []) := by simp [blksQ]
theorem OwnBks.inA {w : World} {lo hi : Nat} {u : Option Addr} {es : List BkE} (h : OwnBks w lo hi u es) : InA w lo hi 4 (strB u (es.map BkE.h)) ∧ (strB u (es.map BkE.h)).Nodup := by
 have hq : ∀ lo hi (e : BkE), OwnBk w lo hi e → InA w lo hi 3 (blkA e.h ++ ([] : List Addr)) := fun lo hi e he => by rw [List.append_nil]; exact he.inA.1
 rcases h.2.1 with rfl | ⟨g, cur, rfl, h1, h2, hg, hc⟩
 ·rw [List.map_nil, strB_nil]; exact ⟨InA.nil, List.nodup_nil⟩
 ·show InA w lo hi 4 (strA g 6 [2, 3, 4, 5] 0 (blksQ (es.map BkE.h))) ∧ (strA g 6 [2, 3, 4, 5] 0 (blksQ (es.map BkE.h))).Nodup
  rw [bksQ]
  have hs := sub_inA (q := fun b : BkE => (blkA b.h, ([] : List Addr))) hq h.2.2
  refine ⟨row_inA hg h1 h2 (by decide) (hs.wide (Nat.le_refl _) (Nat.le_refl _) (by decide)) fun i e he f hf => ?_, row_nodup hg (by decide) hs (sub_nodup (q := fun b : BkE => (blkA b.h, ([] : List Addr))) hq (fun lo hi e he => by rw [List.append_nil]; exact he.inA.2) h.2.2) (by decide) (by decide)⟩
  have hc' := hc i e he
  simp only [List.mem_cons, List.not_mem_nil, or_false] at hf
  rcases hf with rfl | rfl | rfl | rfl
  ·exact ⟨_, hc' 2 (by decide)⟩
  ·exact ⟨_, hc' 3 (by decide)⟩
  ·exact ⟨_, hc' 4 (by decide)⟩
  ·exact ⟨_, hc' 5 (by decide)⟩
theorem OwnBks.blsR {w : World} {lo hi : Nat} {u : Option Addr} {es : List BkE} {K : List Addr} (h : OwnBks w lo hi u es) (hK : KI w K) : BlsR K w u (es.map BkE.h) := by
 refine ⟨by rw [List.length_map]; exact h.1, ?_⟩
 rcases h.2.1 with e | ⟨g, cur, rfl, _, _, hg, hc⟩
 ·exact .inl (by rw [e]; rfl)
 ·refine .inr ⟨g, 0, rfl, fun i hi x hx => ?_, fun i hi => ?_⟩
  ·rw [List.length_map] at hi
   obtain ⟨e, he⟩ : ∃ e, es[i]? = some e := ⟨es[i], List.getElem?_eq_getElem hi⟩
   have hc' := hc i e he
   refine ⟨?_, froz_of_heap hg⟩
   simp only [List.mem_cons, List.not_mem_nil, or_false] at hx
   rcases hx with rfl | rfl | rfl | rfl
   all_goals rw [cell_of_heap hg, Nat.zero_add, hc' _ (by decide)]; exact ⟨_, rfl⟩
  ·rw [List.length_map] at hi
   obtain ⟨e, he⟩ : ∃ e, es[i]? = some e := ⟨es[i], List.getElem?_eq_getElem hi⟩
   have hc' := hc i e he
   obtain ⟨a, m, _, m', h1, h2, h3, h4⟩ := h.2.2.each e (List.mem_of_getElem? he)
   rw [map_get BkE.h blk0 he]
   have c0 : w.cell? ⟨g, 0 + i * 6, none⟩ = some (.slice e.pu e.ps.length e.pc) := by
    rw [cell_of_heap hg, Nat.zero_add]; exact hc' 0 (by decide)
   have c1 : w.cell? ⟨g, 0 + i * 6 + 1, none⟩ = some (.slice e.iu e.is.length e.ic) := by
    rw [cell_of_heap hg, Nat.zero_add]; exact hc' 1 (by decide)
   refine ⟨⟨e.pc, ?_⟩, hK.slice c0, ⟨e.ic, ?_⟩, hK.slice c1, h3.strR hK, h4.strR hK⟩
   ·rw [c0]; simp [BkE.h]
   ·rw [c1]; simp [BkE.h]
theorem OwnFn.inA {w : World} {lo hi : Nat} {f : FnE} (h : OwnFn w lo hi f) : InA w lo hi 4 (rowH f.pu f.pars.length ++ strB f.bu (f.bs.map BkE.h)) ∧ (rowH f.pu f.pars.length ++ strB f.bu (f.bs.map BkE.h)).Nodup := by
 obtain ⟨m, h1, h2, h3, h4⟩ := h
 obtain ⟨b1, b2⟩ := h4.inA
 exact ⟨(h3.inA.wide (Nat.le_refl _) h2 (by decide)).append (b1.wide h1 (Nat.le_refl _) (Nat.le_refl _)), h3.inA.apart b1 (Nat.le_refl _) (rowH_nodup _ _) b2⟩
theorem fnsQ (es : List FnE) : funsQ (es.map FnE.h) = es.map fun f => (rowH f.pu f.pars.length, strB f.bu (f.bs.map BkE.h)) := by simp [funsQ, FnE.h]
theorem OwnFns.inA {w : World} {lo hi : Nat} {u : Option Addr} {es : List FnE} (h : OwnFns w lo hi u es) : InA w lo hi 5 (strF u (es.map FnE.h)) ∧ (strF u (es.map FnE.h)).Nodup := by
 rcases h.2.1 with rfl | ⟨g, cur, rfl, h1, h2, hg, hc⟩
 ·rw [List.map_nil, strF_nil]; exact ⟨InA.nil, List.nodup_nil⟩
 ·show InA w lo hi 5 (strA g 3 [1] 0 (funsQ (es.map FnE.h))) ∧ (strA g 3 [1] 0 (funsQ (es.map FnE.h))).Nodup
  rw [fnsQ]
  have hs := sub_inA (k := 4) (q := fun f : FnE => (rowH f.pu f.pars.length, strB f.bu (f.bs.map BkE.h))) (fun lo hi e he => he.inA.1) h.2.2
  refine ⟨row_inA hg h1 h2 (by decide) (hs.wide (Nat.le_refl _) (Nat.le_refl _) (by decide)) fun i e he f hf => ?_, row_nodup hg (by decide) hs (sub_nodup (k := 4) (fun lo hi e he => he.inA.1) (fun lo hi e he => he.inA.2) h.2.2) (by decide) (by decide)⟩
  obtain rfl := List.mem_singleton.1 hf
  exact ⟨_, hc i e he 1 (by decide)⟩
theorem OwnFns.fusR {w : World} {lo hi : Nat} {u : Option Addr} {es : List FnE} {K : List Addr} (h : OwnFns w lo hi u es) (hK : KI w K) : FusR K w u (es.map FnE.h) := by
 refine ⟨by rw [List.length_map]; exact h.1, ?_⟩
 rcases h.2.1 with e | ⟨g, cur, rfl, _, _, hg, hc⟩
 ·exact .inl (by rw [e]; rfl)
 ·refine .inr ⟨g, 0, rfl, fun i hi x hx => ?_, fun i hi => ?_⟩
  ·rw [List.length_map] at hi
   obtain ⟨e, he⟩ : ∃ e, es[i]? = some e := ⟨es[i], List.getElem?_eq_getElem hi⟩
   refine ⟨?_, froz_of_heap hg⟩
   obtain rfl := List.mem_singleton.1 hx
   rw [cell_of_heap hg, Nat.zero_add, hc i e he 1 (by decide)]; exact ⟨_, rfl⟩
  ·rw [List.length_map] at hi
   obtain ⟨e, he⟩ : ∃ e, es[i]? = some e := ⟨es[i], List.getElem?_eq_getElem hi⟩
   have hc' := hc i e he
   obtain ⟨a, m, _, m', h1, h2, h3, h4⟩ := h.2.2.each e (List.mem_of_getElem? he)
   rw [map_get FnE.h fun0H he]
   have c0 : w.cell? ⟨g, 0 + i * 3, none⟩ = some (.slice e.pu e.pars.length e.pc) := by
    rw [cell_of_heap hg, Nat.zero_add]; exact hc' 0 (by decide)
   have c2 : w.cell? ⟨g, 0 + i * 3 + 2, none⟩ = some (.slice e.bu e.bs.length e.bc) := by
    rw [cell_of_heap hg, Nat.zero_add]; exact hc' 2 (by decide)
   refine ⟨⟨e.pc, ?_⟩, hK.slice c0, ⟨e.bc, ?_⟩, hK.slice c2, h3.intR, h4.blsR hK⟩
   ·rw [c0]; rfl
   ·rw [c2]; simp [FnE.h]
theorem OwnPhs.at_ {w : World} {lo hi : Nat} {u : Option Addr} {es : List PhE} (h : OwnPhs w lo hi u es) : PhisAt w lo u (es.map (·.1)) := by
 refine ⟨by rw [List.length_map]; have := h.1; omega, ?_⟩
 rcases h.2.1 with e | ⟨g, cur, rfl, h1, _, hg, hc⟩
 ·exact .inl (by rw [e]; rfl)
 ·refine .inr ⟨g, 0, rfl, h1, (Array.getElem?_eq_some_iff.1 hg).1, fun i hi => ?_⟩
  rw [List.length_map] at hi
  obtain ⟨e, he⟩ : ∃ e, es[i]? = some e := ⟨es[i], List.getElem?_eq_getElem hi⟩
  have hc' := hc i e he
  obtain ⟨a, m, k1, ho⟩ := h.2.2.each e (List.mem_of_getElem? he)
  rw [map_get (·.1) phi0 he]
  refine ⟨by rw [cell_of_heap hg, Nat.zero_add]; exact hc' 0 (by decide), e.2.1, e.2.2, by rw [cell_of_heap hg, Nat.zero_add]; exact hc' 1 (by decide), (OwnI.ints ho).low k1⟩
theorem OwnIns.at_ {w : World} {lo hi : Nat} {u : Option Addr} {es : List InE} (h : OwnIns w lo hi u es) : InstsAt w lo u (es.map (·.1)) := by
 refine ⟨by rw [List.length_map]; have := h.1; omega, ?_⟩
 rcases h.2.1 with e | ⟨g, cur, rfl, h1, _, hg, hc⟩
 ·exact .inl (by rw [e]; rfl)
 ·refine .inr ⟨g, 0, rfl, h1, (Array.getElem?_eq_some_iff.1 hg).1, fun i hi => ?_⟩
  rw [List.length_map] at hi
  obtain ⟨e, he⟩ : ∃ e, es[i]? = some e := ⟨es[i], List.getElem?_eq_getElem hi⟩
  have hc' := hc i e he
  obtain ⟨a, m, k1, ho⟩ := h.2.2.each e (List.mem_of_getElem? he)
  rw [map_get (·.1) inst0 he]
  have key : ∀ j, j < 7 → w.cell? ⟨g, 0 + i * 7 + j, none⟩ = (inC e)[j]? := fun j hj => by rw [cell_of_heap hg, Nat.zero_add]; exact hc' j hj
  exact ⟨key 0 (by decide), key 1 (by decide), key 2 (by decide), key 3 (by decide), key 4 (by decide), key 5 (by decide), e.2.1, e.2.2, key 6 (by decide), (OwnI.ints ho).low k1⟩
theorem OwnBks.at_ {w : World} {lo hi : Nat} {u : Option Addr} {es : List BkE} (h : OwnBks w lo hi u es) : BlocksAt w lo u (es.map BkE.d) := by
 refine ⟨by rw [List.length_map]; have := h.1; omega, ?_⟩
 rcases h.2.1 with e | ⟨g, cur, rfl, h1, _, hg, hc⟩
 ·exact .inl (by rw [e]; rfl)
 ·refine .inr ⟨g, 0, rfl, h1, (Array.getElem?_eq_some_iff.1 hg).1, fun i hi => ?_⟩
  rw [List.length_map] at hi
  obtain ⟨e, he⟩ : ∃ e, es[i]? = some e := ⟨es[i], List.getElem?_eq_getElem hi⟩
  have hc' := hc i e he
  obtain ⟨a, m, k1, m', g1, g2, g3, g4⟩ := h.2.2.each e (List.mem_of_getElem? he)
  rw [map_get BkE.d block0 he]
  have key : ∀ j, j < 6 → w.cell? ⟨g, 0 + i * 6 + j, none⟩ = (bkC e)[j]? := fun j hj => by rw [cell_of_heap hg, Nat.zero_add]; exact hc' j hj
  have l1 : (e.ps.map (·.1)).length = e.ps.length := List.length_map ..
  have l2 : (e.is.map (·.1)).length = e.is.length := List.length_map ..
  refine ⟨⟨e.pu, e.pc, ?_, (OwnPhs.at_ g3).low k1⟩, ⟨e.iu, e.ic, ?_, (OwnIns.at_ g4).low (by omega)⟩, key 2 (by decide), key 3 (by decide), key 4 (by decide), key 5 (by decide)⟩
  ·show _ = some (Value.slice e.pu (e.ps.map (·.1)).length e.pc)
   rw [l1]; exact key 0 (by decide)
  ·show _ = some (Value.slice e.iu (e.is.map (·.1)).length e.ic)
   rw [l2]; exact key 1 (by decide)
theorem OwnFns.at_ {w : World} {lo hi : Nat} {u : Option Addr} {es : List FnE} (h : OwnFns w lo hi u es) : FuncsAt w lo u (es.map FnE.d) := by
 refine ⟨by rw [List.length_map]; have := h.1; omega, ?_⟩
 rcases h.2.1 with e | ⟨g, cur, rfl, h1, _, hg, hc⟩
 ·exact .inl (by rw [e]; rfl)
 ·refine .inr ⟨g, 0, rfl, h1, (Array.getElem?_eq_some_iff.1 hg).1, fun i hi => ?_⟩
  rw [List.length_map] at hi
  obtain ⟨e, he⟩ : ∃ e, es[i]? = some e := ⟨es[i], List.getElem?_eq_getElem hi⟩
  have hc' := hc i e he
  obtain ⟨a, m, k1, m', g1, g2, g3, g4⟩ := h.2.2.each e (List.mem_of_getElem? he)
  rw [map_get FnE.d func0 he]
  have key : ∀ j, j < 3 → w.cell? ⟨g, 0 + i * 3 + j, none⟩ = (fnC e)[j]? := fun j hj => by rw [cell_of_heap hg, Nat.zero_add]; exact hc' j hj
  have l1 : (e.bs.map BkE.d).length = e.bs.length := List.length_map ..
  refine ⟨⟨e.pu, e.pc, key 0 (by decide), (OwnI.ints g3).low k1⟩, key 1 (by decide), e.bu, e.bc, ?_, (OwnBks.at_ g4).low (by omega)⟩
  show _ = some (Value.slice e.bu (e.bs.map BkE.d).length e.bc)
  rw [l1]; exact key 2 (by decide)
end Go.Proofs.YtkpmiikafconmaaGreatDoor
namespace Go.Proofs.YtkpmiikafconmaaGreatDoor
open Go.RowKit
set_option linter.unusedVariables false
set_option linter.unusedSimpArgs false
theorem str_neq {a b : ByteArray} (h : ¬ a = b) : (a.toList == b.toList) = false := by
 rw [ByteArray.toList_eq, ByteArray.toList_eq, beq_eq_false_iff_ne]
 exact fun e => h (ByteArray.ext (Array.toList_inj.1 e))
theorem str_eqq {a b : ByteArray} (h : a = b) : (a.toList == b.toList) = true := by
 subst h
 exact beq_self_eq_true _
theorem OwnFns.sm {w : World} {lo hi : Nat} {u : Option Addr} {es : List FnE} (h : OwnFns w lo hi u es) : SmMod (es.map FnE.d) := by
 refine ⟨by rw [List.length_map]; exact h.1, fun d hd => ?_⟩
 obtain ⟨f, hf, rfl⟩ := List.mem_map.1 hd
 obtain ⟨_, _, _, _, _, _, h3, h4⟩ := h.2.2.each f hf
 refine ⟨h3.1, by show (f.bs.map BkE.d).length ≤ _; rw [List.length_map]; exact h4.1, fun b hb => ?_⟩
 obtain ⟨x, hx, rfl⟩ := List.mem_map.1 hb
 obtain ⟨_, _, _, _, _, _, h5, h6⟩ := h4.2.2.each x hx
 refine ⟨⟨by show (x.ps.map (·.1)).length ≤ _; rw [List.length_map]; exact h5.1, fun p hp => ?_⟩, by show (x.is.map (·.1)).length ≤ _; rw [List.length_map]; exact h6.1, fun i hi => ?_⟩
 ·obtain ⟨e, he, rfl⟩ := List.mem_map.1 hp
  obtain ⟨_, _, _, h7⟩ := h5.2.2.each e he
  exact h7.1
 ·obtain ⟨e, he, rfl⟩ := List.mem_map.1 hi
  obtain ⟨_, _, _, h7⟩ := h6.2.2.each e he
  exact h7.1
theorem infoLnL : (Tryz.prog.info? 43).map (fun i => (i.zero, i.size, i.bytes)) = some (some (.agg #[.string ⟨#[]⟩, .slice none 0 0]), 2, 40) := by kernel_rfl
theorem infoFnL : (Tryz.prog.info? 55).map (fun i => (i.zero, i.size, i.bytes)) = some (some (.agg #[.slice none 0 0, .int .i64 0, .slice none 0 0]), 3, 56) := by kernel_rfl
theorem lf_list : blankN.toList = [10] := by rw [ByteArray.toList_eq]; rfl
theorem sfx_cut {s b : ByteArray} (h : s.data.toList = b.data.toList ++ [10]) : 1 ≤ s.size ∧ s.extract 0 (s.size - 1) = b ∧ s.extract (s.size - 1) s.size = blankN := by
 have hz : s.size = b.size + 1 := by rw [size_data, h, List.length_append, ← size_data]; rfl
 refine ⟨by omega, ba_ext ?_, ba_ext ?_⟩
 ·rw [ext_data, h, hz, List.drop_zero, Nat.sub_zero, Nat.add_sub_cancel, size_data, List.take_left]
 ·rw [ext_data, h, hz, Nat.add_sub_cancel, size_data b, List.drop_left, Nat.add_sub_cancel_left]
  rfl
theorem sfx_back {s : ByteArray} (h1 : 1 ≤ s.size) (h2 : s.extract (s.size - 1) s.size = blankN) : s.data.toList = (s.extract 0 (s.size - 1)).data.toList ++ [10] := by
 have e : s.data.toList.drop (s.size - 1) = [10] := by
  have this : (s.extract (s.size - 1) s.size).data.toList = [10] := by rw [h2]; rfl
  rw [ext_data, List.take_of_length_le (by rw [List.length_drop, ← size_data]; omega)] at this
  exact this
 rw [ext_data, List.drop_zero, Nat.sub_zero, ← e, List.take_append_drop]
set_option maxHeartbeats 1000000 in
theorem hasSY (s : ByteArray) (w : World) (hs : s.size ≤ 1048576) (h1 : 1 ≤ s.size) (h2 : s.extract (s.size - 1) s.size = blankN) :
  Calls Tryz.prog 117 #[.string s, .string blankN] w fun e w' => e = .returned (.bool true) ∧ w' = w := by
 have E : ((s.extract (s.size - 1) s.size).toList == [10]) = true := by
  have e := str_eqq h2
  rwa [lf_list] at e
 have hI : (1 : Int) ≤ (s.size : Int) := by omega
 have hb : (blankN.size : Int) = 1 := rfl
 have hx : ((s.size : Int) - 1).toNat = s.size - 1 := by omega
 have h3 : (0 : Int) ≤ (s.size : Int) - 1 := by omega
 have h4 : (s.size : Int) - 1 ≤ (s.size : Int) := by omega
 have hsl : ∀ v : World, (Instr.slice 9 (.string s) (some (.int .i64 ((s.size : Int) - 1))) none none).run Tryz.prog v = .ok (.string (s.extract (s.size - 1) s.size)) v := fun v => by
  rw [run_slice_string_from_if (h := Tryz.underlying9), if_pos (by omega), hx]
 clear h2
 unfold blankN at *
 go_enter Tryz.func117, Tryz.ntmps117
 go_wp2_with fail
 go_ret
 exact ⟨rfl, rfl⟩
set_option maxHeartbeats 1000000 in
theorem hasSN (s : ByteArray) (w : World) (hs : s.size ≤ 1048576) (h : ¬ (1 ≤ s.size ∧ s.extract (s.size - 1) s.size = blankN)) :
  Calls Tryz.prog 117 #[.string s, .string blankN] w fun e w' => e = .returned (.bool false) ∧ w' = w := by
 by_cases h1 : 1 ≤ s.size
 ·have E : ((s.extract (s.size - 1) s.size).toList == [10]) = false := by
   have e := str_neq (fun e => h ⟨h1, e⟩)
   rwa [lf_list] at e
  have hI : (1 : Int) ≤ (s.size : Int) := by omega
  have hx : ((s.size : Int) - 1).toNat = s.size - 1 := by omega
  have h3 : (0 : Int) ≤ (s.size : Int) - 1 := by omega
  have h4 : (s.size : Int) - 1 ≤ (s.size : Int) := by omega
  have hsl : ∀ v : World, (Instr.slice 9 (.string s) (some (.int .i64 ((s.size : Int) - 1))) none none).run Tryz.prog v = .ok (.string (s.extract (s.size - 1) s.size)) v := fun v => by
   rw [run_slice_string_from_if (h := Tryz.underlying9), if_pos (by omega), hx]
  clear h
  unfold blankN at *
  go_enter Tryz.func117, Tryz.ntmps117
  go_wp2_with fail
  go_ret
  exact ⟨rfl, rfl⟩
 ·have hI : ¬ (1 : Int) ≤ (s.size : Int) := by omega
  clear h
  unfold blankN at *
  go_enter Tryz.func117, Tryz.ntmps117
  go_wp2_with fail
  go_ret
  exact ⟨rfl, rfl⟩
set_option maxHeartbeats 1000000 in
theorem cutSfxY (s : ByteArray) (w : World) (hs : s.size ≤ 1048576) (h1 : 1 ≤ s.size) (h2 : s.extract (s.size - 1) s.size = blankN) :
  Calls Tryz.prog 45 #[.string s, .string blankN] w fun e w' => e = .returned (.tuple #[.string (s.extract 0 (s.size - 1)), .bool true]) ∧ w' = w := by
 have P := hasSY s w hs h1 h2
 have hx : ((s.size : Int) - 1).toNat = s.size - 1 := by omega
 have h3 : (0 : Int) ≤ (s.size : Int) - 1 := by omega
 have h4 : (s.size : Int) - 1 ≤ (s.size : Int) := by omega
 have hsl : ∀ v : World, (Instr.slice 9 (.string s) none (some (.int .i64 ((s.size : Int) - 1))) none).run Tryz.prog v = .ok (.string (s.extract 0 (s.size - 1))) v := fun v => by
  rw [run_slice_string_to_if (h := Tryz.underlying9), if_pos (by omega), hx]
 clear h2
 unfold blankN at *
 have Q : Calls Tryz.prog 78 #[.string s, .string ⟨#[10]⟩] w fun e w' => e = .returned (.tuple #[.string (s.extract 0 (s.size - 1)), .bool true]) ∧ w' = w := by
  go_enter Tryz.func78, Tryz.ntmps78
  go_wp2_with fail
  refine P.mono ?_
  rintro e w1 ⟨rfl, h9⟩
  have h8 := h9.symm
  clear h9
  subst h8
  go_wp2_with fail
  go_ret2
  exact ⟨rfl, rfl⟩
 clear hsl
 go_enter Tryz.func45, Tryz.ntmps45
 go_wp2_with fail
 refine Q.mono ?_
 rintro e w1 ⟨rfl, h9⟩
 have h8 := h9.symm
 clear h9
 subst h8
 go_wp2_with fail
 go_ret2
 exact ⟨rfl, rfl⟩
set_option maxHeartbeats 1000000 in
theorem cutSfxN (s : ByteArray) (w : World) (hs : s.size ≤ 1048576) (h : ¬ (1 ≤ s.size ∧ s.extract (s.size - 1) s.size = blankN)) :
  Calls Tryz.prog 45 #[.string s, .string blankN] w fun e w' => e = .returned (.tuple #[.string s, .bool false]) ∧ w' = w := by
 have P := hasSN s w hs h
 clear h
 unfold blankN at *
 have Q : Calls Tryz.prog 78 #[.string s, .string ⟨#[10]⟩] w fun e w' => e = .returned (.tuple #[.string s, .bool false]) ∧ w' = w := by
  go_enter Tryz.func78, Tryz.ntmps78
  go_wp2_with fail
  refine P.mono ?_
  rintro e w1 ⟨rfl, h9⟩
  have h8 := h9.symm
  clear h9
  subst h8
  go_wp2_with fail
  go_ret2
  exact ⟨rfl, rfl⟩
 go_enter Tryz.func45, Tryz.ntmps45
 go_wp2_with fail
 refine Q.mono ?_
 rintro e w1 ⟨rfl, h9⟩
 have h8 := h9.symm
 clear h9
 subst h8
 go_wp2_with fail
 go_ret2
 exact ⟨rfl, rfl⟩
abbrev LnE := Ln × Value
def lnC (e : LnE) : List Value := [.string (bs e.1.1), e.2]
def LnO (w : World) (base : Nat) (e : LnE) : Prop := Row w base e.2 e.1.2 ∧ e.1.2.length ≤ 20000 ∧ Pos e.1.2
def LnsW (w : World) (base : Nat) (v : Value) (es : List LnE) : Prop := RowS 43 2 lnC w base v es ∧ ∀ e ∈ es, LnO w base e
theorem RowS.blk {α : Type} {T : TypeId} {s : Nat} {C : α → List Value} {w w' : World} {base : Nat} {v : Value} {es : List α} (h : RowS T s C w base v es) (k : ∀ g, v.ownBlock = some g → w'.heap[g]? = w.heap[g]?) : RowS T s C w' base v es := by
 refine ⟨h.1, ?_⟩
 rcases h.2 with h2 | ⟨g, cap, cur, hv, hb, hg, r⟩
 ·exact .inl h2
 ·exact .inr ⟨g, cap, cur, hv, hb, (k g (by rw [hv]; rfl)).trans hg, r⟩
theorem Row.stillE {w w' : World} {base : Nat} {v : Value} {l : List Int} {k : Nat} (h : Row w base v l) (st : Still k w w') (hk : 0 < k) : Row w' base v l := by
 refine ⟨h.1, ?_⟩
 rcases h.2 with h2 | ⟨g, cap, cur, hv, hb, hg, r⟩
 ·exact .inl h2
 ·exact .inr ⟨g, cap, cur, hv, hb, st g cur _ hg (by rw [show lvT 2 = 0 by decide]; exact hk), r⟩
theorem LnsW.keep {w w' : World} {base : Nat} {v : Value} {es : List LnE} (h : LnsW w base v es) (k : Below w.heap.size w w') : LnsW w' base v es :=
 ⟨h.1.still (Still.below (k := 10) k) (by decide), fun e he => ⟨(h.2 e he).1.keep k, (h.2 e he).2⟩⟩
theorem LnsW.wait {w : World} {base R : Nat} {v : Value} {es : List LnE} (h : LnsW w base v es) (hR : R < base) (hA : At w R #[v] 83) : LwIn w.heap.size R w (es.map (·.1)) := by
 obtain ⟨u, c, rfl⟩ := h.1.slice
 rcases h.1.2 with ⟨hv, hn⟩ | ⟨g, cap, cur, hv, hb, hg, hnc, hcm, hcs, htk⟩
 ·have he : es = [] := List.length_eq_zero_iff.1 hn
  subst he
  cases hv
  exact .inl ⟨rfl, hA⟩
 ·cases hv
  have hgz := (Array.getElem?_eq_some_iff.1 hg).1
  refine .inr ⟨g, 0, c, by rw [List.length_map]; exact hA, by rw [List.length_map]; exact hnc, by unfold maxLen at hcm; omega, by omega, ⟨hgz, Nat.le_refl _⟩, fun i hi => ?_⟩
  rw [List.length_map] at hi
  have he : es[i]? = some es[i] := List.getElem?_eq_getElem hi
  have key : ∀ j, j < 2 → cur[i * 2 + j]? = (lnC es[i])[j]? := fun j hj => by
   rw [← flat_at (C := lnC) (fun _ => rfl) es i j es[i] he hj, ← htk, List.getElem?_take, if_pos (by
    have := Nat.mul_le_mul_right 2 (show i + 1 ≤ es.length from hi)
    rw [Nat.succ_mul] at this
    omega)]
   simp
  have hx : (es.map (·.1)).getD i ln0 = es[i].1 := by simp [List.getD, hi]
  rw [hx]
  obtain ⟨o1, o2, o3⟩ := h.2 es[i] (List.getElem_mem hi)
  refine ⟨by rw [cell_of_heap hg, Nat.zero_add]; exact key 0 (by decide), es[i].2, by rw [cell_of_heap hg, Nat.zero_add]; exact key 1 (by decide), ⟨o1.low (Nat.zero_le _), o2, o3, fun q hq => ?_⟩⟩
  have := o1.ge hq
  exact ⟨this.2, by omega⟩
theorem nums_pos {ws : List ByteArray} {l : List Int} (h : NumsIs ws l) : Pos l := fun x hx => by
 obtain ⟨j, hj, rfl⟩ := List.getElem_of_mem hx
 obtain ⟨k, e, _⟩ := h.2 j hj
 simp [List.getD, hj] at e
 omega
theorem bs_back (b : ByteArray) : bs b.data.toList = b := by unfold bs; simp
theorem pieces_few (s : ByteArray) : (pieces s).length ≤ s.size + 1 := by
 rw [pieces_len]
 have := count_size s
 omega
theorem piecesN_few (s : ByteArray) : (piecesN s).length ≤ s.size + 1 := by
 rw [pieces_lenN]
 have := count_sizeN s
 omega
end Go.Proofs.YtkpmiikafconmaaGreatDoor
