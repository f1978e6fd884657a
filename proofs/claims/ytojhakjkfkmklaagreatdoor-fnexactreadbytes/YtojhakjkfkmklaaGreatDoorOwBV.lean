import Derived.Test.YtojhakjkfkmklaaGreatDoorOwAV
import Derived.Test.YtojhakjkfkmklaaGreatDoorMkIV
namespace Go.Proofs.YtojhakjkfkmklaaGreatDoor
open Go.RowKit
set_option linter.unusedVariables false
set_option linter.unusedSimpArgs false
def PhE.h (e : PhE) : Option Addr × Nat := (e.2.1, e.1.ins.length)
def InE.h (e : InE) : Option Addr × Nat := (e.2.1, e.1.args.length)
def BkE.h (b : BkE) : BlkH := ((b.pu, b.ps.map PhE.h), (b.iu, b.is.map InE.h))
def FnE.h (f : FnE) : FunH := ((f.pu, f.pars.length), (f.bu, f.bs.map BkE.h))
def InA (w : World) (lo hi k : Nat) (A : List Addr) : Prop := ∀ a ∈ A, lo ≤ a.block ∧ a.block < hi ∧ (∃ (cur : Array Value) (T : TypeId), w.heap[a.block]? = some (.cells cur T (0, 0)) ∧ lvT T < k) ∧ ∃ z : Int, w.cell? a = some (.int .i64 z)
theorem InA.wide {w : World} {lo hi k lo' hi' k' : Nat} {A : List Addr} (h : InA w lo hi k A) (h1 : lo' ≤ lo) (h2 : hi ≤ hi') (h3 : k ≤ k') : InA w lo' hi' k' A := fun a ha => by
 obtain ⟨k1, k2, ⟨cur, T, k3, k4⟩, k5⟩ := h a ha
 exact ⟨by omega, by omega, ⟨cur, T, k3, by omega⟩, k5⟩
theorem InA.nil {w : World} {lo hi k : Nat} : InA w lo hi k [] := fun a ha => by cases ha
theorem InA.append {w : World} {lo hi k : Nat} {A B : List Addr} (h : InA w lo hi k A) (h2 : InA w lo hi k B) : InA w lo hi k (A ++ B) := fun a ha => by
 rcases List.mem_append.1 ha with h' | h'
 ·exact h a h'
 ·exact h2 a h'
theorem InA.apart {w : World} {lo m m' hi k k' : Nat} {A B : List Addr} (h : InA w lo m k A) (h2 : InA w m' hi k' B) (hm : m ≤ m') (hA : A.Nodup) (hB : B.Nodup) : (A ++ B).Nodup :=
 apart_of_blocks (fun a ha b hb e => by have := (h a ha).2.1; have := (h2 b hb).1; omega) hA hB
theorem OwnI.inA {w : World} {lo hi : Nat} {u : Option Addr} {l : List Int} (h : OwnI w lo hi u l) : InA w lo hi 1 (rowH u l.length) := by
 rcases h.2 with h | ⟨g, cur, rfl, h1, h2, h3, h4⟩
 ·subst h
  rw [show ([] : List Int).length = 0 from rfl, rowH_zero]
  exact InA.nil
 ·intro a ha
  obtain ⟨i, hi, rfl⟩ := List.mem_map.1 (show a ∈ rowA g 0 l.length 1 from ha)
  have hi' : i < l.length := by simpa using hi
  refine ⟨h1, h2, ⟨cur, _, h3, by decide⟩, l.getD i 0, ?_⟩
  rw [cell_of_heap h3, Nat.zero_add, Nat.mul_one]
  exact h4 i hi'
theorem OwnI.intR {w : World} {lo hi : Nat} {u : Option Addr} {l : List Int} (h : OwnI w lo hi u l) : IntR w u l.length := by
 refine ⟨h.1, ?_⟩
 rcases h.2 with h | ⟨g, cur, rfl, h1, h2, h3, h4⟩
 ·exact .inl (by rw [h]; rfl)
 ·exact .inr ⟨g, 0, rfl, fun i hi => ⟨⟨_, by rw [cell_of_heap h3, Nat.zero_add]; exact h4 i hi⟩, froz_of_heap h3⟩⟩
theorem sub_inA {α : Type} {O : World → Nat → Nat → α → Prop} {w : World} {k : Nat} {q : α → List Addr × List Addr} (hq : ∀ lo hi e, O w lo hi e → InA w lo hi k ((q e).1 ++ (q e).2)) : ∀ {es : List α} {lo hi : Nat}, Sub O w lo hi es → InA w lo hi k (subA (es.map q))
 | [], _, _, _ => InA.nil
 | e :: es, lo, hi, ⟨a, m, h1, h2, h3, h4⟩ => by
  have h5 := hq _ _ _ h3
  have h6 := sub_inA hq h4
  have hle := h4.le
  show InA w lo hi k ((q e).1 ++ ((q e).2 ++ subA (es.map q)))
  rw [← List.append_assoc]
  exact (h5.wide h1 hle (Nat.le_refl _)).append (h6.wide (Nat.le_trans h1 h2) (Nat.le_refl _) (Nat.le_refl _))
theorem sub_nodup {α : Type} {O : World → Nat → Nat → α → Prop} {w : World} {k : Nat} {q : α → List Addr × List Addr} (hq : ∀ lo hi e, O w lo hi e → InA w lo hi k ((q e).1 ++ (q e).2)) (hn : ∀ lo hi e, O w lo hi e → ((q e).1 ++ (q e).2).Nodup) : ∀ {es : List α} {lo hi : Nat}, Sub O w lo hi es → (subA (es.map q)).Nodup
 | [], _, _, _ => List.nodup_nil
 | e :: es, lo, hi, ⟨a, m, h1, h2, h3, h4⟩ => by
  show ((q e).1 ++ ((q e).2 ++ subA (es.map q))).Nodup
  rw [← List.append_assoc]
  exact (hq _ _ _ h3).apart (sub_inA hq h4) (Nat.le_refl _) (hn _ _ _ h3) (sub_nodup hq hn h4)
theorem row_inA {α : Type} {T : TypeId} {s : Nat} {w : World} {lo hi k : Nat} {F : List Nat} {q : α → List Addr × List Addr} {g : Nat} {cur : Array Value} {es : List α} (hg : w.heap[g]? = some (.cells cur T (0, 0))) (h1 : lo ≤ g) (h2 : g < hi) (hT : lvT T < k) (hk : InA w lo hi k (subA (es.map q)))
  (hF : ∀ i e, es[i]? = some e → ∀ f ∈ F, ∃ z : Int, cur[i * s + f]? = some (.int .i64 z)) : InA w lo hi k (strA g s F 0 (es.map q)) := by
 suffices H : ∀ (es : List α) (n : Nat), InA w lo hi k (subA (es.map q)) → (∀ i e, es[i]? = some e → ∀ f ∈ F, ∃ z : Int, cur[(n + i) * s + f]? = some (.int .i64 z)) → InA w lo hi k (strA g s F (n * s) (es.map q)) by
  have := H es 0 hk (fun i e he f hf => by rw [Nat.zero_add]; exact hF i e he f hf)
  rwa [Nat.zero_mul] at this
 intro es
 induction es with
 | nil => intro n _ _; exact InA.nil
 | cons e es ih =>
  intro n hs hc
  have hs' : InA w lo hi k ((q e).1 ++ ((q e).2 ++ subA (es.map q))) := hs
  show InA w lo hi k ((q e).1 ++ (F.map (fun f => (⟨g, n * s + f, none⟩ : Addr)) ++ ((q e).2 ++ strA g s F (n * s + s) (es.map q))))
  have ih' := ih (n + 1) (fun a ha => hs' a (List.mem_append_right _ (List.mem_append_right _ ha))) (fun i x hx f hf => by
   have := hc (i + 1) x (by simpa using hx) f hf
   rwa [show n + (i + 1) = n + 1 + i by omega] at this)
  rw [Nat.succ_mul] at ih'
  refine InA.append (fun a ha => hs' a (List.mem_append_left _ ha)) (InA.append (fun a ha => ?_) (InA.append (fun a ha => hs' a (List.mem_append_right _ (List.mem_append_left _ ha))) ih'))
  obtain ⟨f, hf, rfl⟩ := List.mem_map.1 ha
  refine ⟨h1, h2, ⟨cur, T, hg, hT⟩, ?_⟩
  obtain ⟨z, hz⟩ := hc 0 e rfl f hf
  refine ⟨z, ?_⟩
  rw [cell_of_heap hg]
  simpa using hz
theorem row_nodup {α : Type} {T : TypeId} {s : Nat} {w : World} {lo hi k : Nat} {F : List Nat} {q : α → List Addr × List Addr} {g : Nat} {cur : Array Value} {es : List α} (hg : w.heap[g]? = some (.cells cur T (0, 0))) (hT : k ≤ lvT T) (hk : InA w lo hi k (subA (es.map q))) (hn : (subA (es.map q)).Nodup) (hF : F.Nodup) (hs : ∀ f ∈ F, f < s) : (strA g s F 0 (es.map q)).Nodup :=
 strA_nodup hF hs _ _ hn fun a ha e => by
  obtain ⟨_, _, ⟨cur2, T2, h3, h4⟩, _⟩ := hk a ha
  rw [e, hg] at h3
  cases h3
  omega
end Go.Proofs.YtojhakjkfkmklaaGreatDoor
namespace Go.Proofs.YtojhakjkfkmklaaGreatDoor
open Go.RowKit
set_option linter.unusedVariables false
set_option linter.unusedSimpArgs false
theorem Sub.each {α : Type} {O : World → Nat → Nat → α → Prop} {w : World} : ∀ {es : List α} {lo hi : Nat}, Sub O w lo hi es → ∀ e ∈ es, ∃ a m, lo ≤ a ∧ O w a m e
 | [], _, _, _, e, he => by cases he
 | x :: es, lo, hi, ⟨a, m, h1, h2, h3, h4⟩, e, he => by
  rcases List.mem_cons.1 he with rfl | he
  ·exact ⟨a, m, h1, h3⟩
  ·obtain ⟨a', m', k1, k2⟩ := h4.each e he
   exact ⟨a', m', by omega, k2⟩
def KI (w : World) (K : List Addr) : Prop := ∀ a ∈ K, ∃ z : Int, w.cell? a = some (.int .i64 z)
theorem KI.slice {w : World} {K : List Addr} (h : KI w K) {a : Addr} {u : Option Addr} {n c : Nat} (ha : w.cell? a = some (.slice u n c)) : a ∉ K := fun hk => by
 obtain ⟨z, hz⟩ := h a hk
 rw [ha] at hz
 cases hz
theorem InA.ki {w : World} {lo hi k : Nat} {A : List Addr} (h : InA w lo hi k A) : KI w A := fun a ha => (h a ha).2.2.2
theorem map_get {α β : Type} (f : α → β) (z : β) {l : List α} {i : Nat} {e : α} (h : l[i]? = some e) : (l.map f).getD i z = f e := by simp [List.getD, h]
theorem strR_of {α : Type} {T : TypeId} {s f : Nat} {F : List Nat} {C : α → List Value} {O : World → Nat → Nat → α → Prop} {w : World} {lo hi : Nat} {u : Option Addr} {es : List α} {K : List Addr} (hd : α → Option Addr × Nat) (h : OwnL T s C O w lo hi u es) (hK : KI w K) (hf : f < s) (hF : ∀ x ∈ F, x < s)
  (h1 : ∀ e, ∃ c, (C e)[f]? = some (.slice (hd e).1 (hd e).2 c)) (h2 : ∀ e, ∀ x ∈ F, ∃ z : Int, (C e)[x]? = some (.int .i64 z)) (h3 : ∀ a m e, O w a m e → IntR w (hd e).1 (hd e).2) : StrR K w s f F u (es.map hd) := by
 refine ⟨by rw [List.length_map]; exact h.1, ?_⟩
 rcases h.2.1 with e | ⟨g, cur, rfl, _, _, hg, hc⟩
 ·exact .inl (by rw [e]; rfl)
 ·refine .inr ⟨g, 0, rfl, fun i hi x hx => ?_, fun i hi => ?_⟩
  ·rw [List.length_map] at hi
   obtain ⟨e, he⟩ : ∃ e, es[i]? = some e := ⟨es[i], List.getElem?_eq_getElem hi⟩
   obtain ⟨z, hz⟩ := h2 e x hx
   refine ⟨⟨z, ?_⟩, froz_of_heap hg⟩
   rw [cell_of_heap hg, Nat.zero_add, hc i e he x (hF x hx)]
   exact hz
  ·rw [List.length_map] at hi
   obtain ⟨e, he⟩ : ∃ e, es[i]? = some e := ⟨es[i], List.getElem?_eq_getElem hi⟩
   obtain ⟨c, hz⟩ := h1 e
   rw [map_get hd (none, 0) he]
   have hcell : w.cell? ⟨g, 0 + i * s + f, none⟩ = some (.slice (hd e).1 (hd e).2 c) := by
    rw [cell_of_heap hg, Nat.zero_add, hc i e he f hf]
    exact hz
   obtain ⟨a, m, _, ho⟩ := h.2.2.each e (List.mem_of_getElem? he)
   exact ⟨⟨c, hcell⟩, hK.slice hcell, h3 _ _ _ ho⟩
theorem phsQ (es : List PhE) : rowsQ (es.map PhE.h) = es.map fun e => ([], rowH e.2.1 e.1.ins.length) := by simp [rowsQ, PhE.h]
theorem insQ (es : List InE) : rowsQ (es.map InE.h) = es.map fun e => ([], rowH e.2.1 e.1.args.length) := by simp [rowsQ, InE.h]
theorem OwnPhs.inA {w : World} {lo hi : Nat} {u : Option Addr} {es : List PhE} (h : OwnPhs w lo hi u es) : InA w lo hi 2 (strO 2 [0] u (es.map PhE.h)) ∧ (strO 2 [0] u (es.map PhE.h)).Nodup := by
 have hq : ∀ lo hi (e : PhE), OwnPhE w lo hi e → InA w lo hi 1 (([] : List Addr) ++ rowH e.2.1 e.1.ins.length) := fun lo hi e he => OwnI.inA he
 rcases h.2.1 with rfl | ⟨g, cur, rfl, h1, h2, hg, hc⟩
 ·rw [List.map_nil, strO_nil]; exact ⟨InA.nil, List.nodup_nil⟩
 ·show InA w lo hi 2 (strA g 2 [0] 0 (rowsQ (es.map PhE.h))) ∧ (strA g 2 [0] 0 (rowsQ (es.map PhE.h))).Nodup
  rw [phsQ]
  have hs := sub_inA (q := fun e : PhE => (([] : List Addr), rowH e.2.1 e.1.ins.length)) hq h.2.2
  refine ⟨row_inA hg h1 h2 (by decide) (hs.wide (Nat.le_refl _) (Nat.le_refl _) (by decide)) fun i e he f hf => ?_, row_nodup hg (by decide) hs (sub_nodup (q := fun e => (([] : List Addr), rowH e.2.1 _)) hq (fun lo hi e he => rowH_nodup _ _) h.2.2) (by decide) (by decide)⟩
  obtain rfl := List.mem_singleton.1 hf
  exact ⟨e.1.w, hc i e he 0 (by decide)⟩
theorem OwnIns.inA {w : World} {lo hi : Nat} {u : Option Addr} {es : List InE} (h : OwnIns w lo hi u es) : InA w lo hi 3 (strO 7 [0, 1, 2, 3, 4, 5] u (es.map InE.h)) ∧ (strO 7 [0, 1, 2, 3, 4, 5] u (es.map InE.h)).Nodup := by
 have hq : ∀ lo hi (e : InE), OwnInE w lo hi e → InA w lo hi 1 (([] : List Addr) ++ rowH e.2.1 e.1.args.length) := fun lo hi e he => OwnI.inA he
 rcases h.2.1 with rfl | ⟨g, cur, rfl, h1, h2, hg, hc⟩
 ·rw [List.map_nil, strO_nil]; exact ⟨InA.nil, List.nodup_nil⟩
 ·show InA w lo hi 3 (strA g 7 [0, 1, 2, 3, 4, 5] 0 (rowsQ (es.map InE.h))) ∧ (strA g 7 [0, 1, 2, 3, 4, 5] 0 (rowsQ (es.map InE.h))).Nodup
  rw [insQ]
  have hs := sub_inA (q := fun e : InE => (([] : List Addr), rowH e.2.1 e.1.args.length)) hq h.2.2
  refine ⟨row_inA hg h1 h2 (by decide) (hs.wide (Nat.le_refl _) (Nat.le_refl _) (by decide)) fun i e he f hf => ?_, row_nodup hg (by decide) hs (sub_nodup (q := fun e => (([] : List Addr), rowH e.2.1 _)) hq (fun lo hi e he => rowH_nodup _ _) h.2.2) (by decide) (by decide)⟩
  have hc' := hc i e he
  simp only [List.mem_cons, List.not_mem_nil, or_false] at hf
  rcases hf with rfl | rfl | rfl | rfl | rfl | rfl
  ·exact ⟨_, hc' 0 (by decide)⟩
  ·exact ⟨_, hc' 1 (by decide)⟩
  ·exact ⟨_, hc' 2 (by decide)⟩
  ·exact ⟨_, hc' 3 (by decide)⟩
  ·exact ⟨_, hc' 4 (by decide)⟩
  ·exact ⟨_, hc' 5 (by decide)⟩
theorem OwnPhs.strR {w : World} {lo hi : Nat} {u : Option Addr} {es : List PhE} {K : List Addr} (h : OwnPhs w lo hi u es) (hK : KI w K) : StrR K w 2 1 [0] u (es.map PhE.h) :=
 strR_of PhE.h h hK (by decide) (by decide) (fun e => ⟨e.2.2, rfl⟩) (fun e x hx => by obtain rfl := List.mem_singleton.1 hx; exact ⟨e.1.w, rfl⟩) fun a m e he => OwnI.intR he
theorem OwnIns.strR {w : World} {lo hi : Nat} {u : Option Addr} {es : List InE} {K : List Addr} (h : OwnIns w lo hi u es) (hK : KI w K) : StrR K w 7 6 [0, 1, 2, 3, 4, 5] u (es.map InE.h) :=
 strR_of InE.h h hK (by decide) (by decide) (fun e => ⟨e.2.2, rfl⟩) (fun e x hx => by
  simp only [List.mem_cons, List.not_mem_nil, or_false] at hx
  rcases hx with rfl | rfl | rfl | rfl | rfl | rfl
  all_goals exact ⟨_, rfl⟩) fun a m e he => OwnI.intR he
theorem OwnBk.inA {w : World} {lo hi : Nat} {b : BkE} (h : OwnBk w lo hi b) : InA w lo hi 3 (blkA b.h) ∧ (blkA b.h).Nodup := by
 obtain ⟨m, h1, h2, h3, h4⟩ := h
 obtain ⟨a1, a2⟩ := h3.inA
 obtain ⟨b1, b2⟩ := h4.inA
 exact ⟨(a1.wide (Nat.le_refl _) h2 (by decide)).append (b1.wide h1 (Nat.le_refl _) (Nat.le_refl _)), a1.apart b1 (Nat.le_refl _) a2 b2⟩
theorem bksQ (es : List BkE) : blksQ (es.map BkE.h) = es.map fun b => (blkA b.h, []) := by simp [blksQ]
theorem OwnBks.inA {w : World} {lo hi : Nat} {u : Option Addr} {es : List BkE} (h : OwnBks w lo hi u es) : InA w lo hi 4 (strB u (es.map BkE.h)) ∧ (strB u (es.map BkE.h)).Nodup := by
 have hq : ∀ lo hi (e : BkE), OwnBk w lo hi e → InA w lo hi 3 (blkA e.h ++ ([] : List Addr)) := fun lo hi e he => by rw [List.append_nil]; exact he.inA.1
 rcases h.2.1 with rfl | ⟨g, cur, rfl, h1, h2, hg, hc⟩
 ·rw [List.map_nil, strB_nil]; exact ⟨InA.nil, List.nodup_nil⟩
 ·show InA w lo hi 4 (strA g 6 [2, 3, 4, 5] 0 (blksQ (es.map BkE.h))) ∧ (strA g 6 [2, 3, 4, 5] 0 (blksQ (es.map BkE.h))).Nodup
  rw [bksQ]
  have hs := sub_inA (q := fun b : BkE => (blkA b.h, ([] : List Addr))) hq h.2.2
  refine ⟨row_inA hg h1 h2 (by decide) (hs.wide (Nat.le_refl _) (Nat.le_refl _) (by decide)) fun i e he f hf => ?_, row_nodup hg (by decide) hs (sub_nodup (q := fun b : BkE => (blkA b.h, ([] : List Addr))) hq (fun lo hi e he => by rw [List.append_nil]; exact he.inA.2) h.2.2) (by decide) (by decide)⟩
  have hc' := hc i e he
  simp only [List.mem_cons, List.not_mem_nil, or_false] at hf
  rcases hf with rfl | rfl | rfl | rfl
  ·exact ⟨_, hc' 2 (by decide)⟩
  ·exact ⟨_, hc' 3 (by decide)⟩
  ·exact ⟨_, hc' 4 (by decide)⟩
  ·exact ⟨_, hc' 5 (by decide)⟩
theorem OwnBks.blsR {w : World} {lo hi : Nat} {u : Option Addr} {es : List BkE} {K : List Addr} (h : OwnBks w lo hi u es) (hK : KI w K) : BlsR K w u (es.map BkE.h) := by
 refine ⟨by rw [List.length_map]; exact h.1, ?_⟩
 rcases h.2.1 with e | ⟨g, cur, rfl, _, _, hg, hc⟩
 ·exact .inl (by rw [e]; rfl)
 ·refine .inr ⟨g, 0, rfl, fun i hi x hx => ?_, fun i hi => ?_⟩
  ·rw [List.length_map] at hi
   obtain ⟨e, he⟩ : ∃ e, es[i]? = some e := ⟨es[i], List.getElem?_eq_getElem hi⟩
   have hc' := hc i e he
   refine ⟨?_, froz_of_heap hg⟩
   simp only [List.mem_cons, List.not_mem_nil, or_false] at hx
   rcases hx with rfl | rfl | rfl | rfl
   all_goals rw [cell_of_heap hg, Nat.zero_add, hc' _ (by decide)]; exact ⟨_, rfl⟩
  ·rw [List.length_map] at hi
   obtain ⟨e, he⟩ : ∃ e, es[i]? = some e := ⟨es[i], List.getElem?_eq_getElem hi⟩
   have hc' := hc i e he
   obtain ⟨a, m, _, m', h1, h2, h3, h4⟩ := h.2.2.each e (List.mem_of_getElem? he)
   rw [map_get BkE.h blk0 he]
   have c0 : w.cell? ⟨g, 0 + i * 6, none⟩ = some (.slice e.pu e.ps.length e.pc) := by
    rw [cell_of_heap hg, Nat.zero_add]; exact hc' 0 (by decide)
   have c1 : w.cell? ⟨g, 0 + i * 6 + 1, none⟩ = some (.slice e.iu e.is.length e.ic) := by
    rw [cell_of_heap hg, Nat.zero_add]; exact hc' 1 (by decide)
   refine ⟨⟨e.pc, ?_⟩, hK.slice c0, ⟨e.ic, ?_⟩, hK.slice c1, h3.strR hK, h4.strR hK⟩
   ·rw [c0]; simp [BkE.h]
   ·rw [c1]; simp [BkE.h]
theorem OwnFn.inA {w : World} {lo hi : Nat} {f : FnE} (h : OwnFn w lo hi f) : InA w lo hi 4 (rowH f.pu f.pars.length ++ strB f.bu (f.bs.map BkE.h)) ∧ (rowH f.pu f.pars.length ++ strB f.bu (f.bs.map BkE.h)).Nodup := by
 obtain ⟨m, h1, h2, h3, h4⟩ := h
 obtain ⟨b1, b2⟩ := h4.inA
 exact ⟨(h3.inA.wide (Nat.le_refl _) h2 (by decide)).append (b1.wide h1 (Nat.le_refl _) (Nat.le_refl _)), h3.inA.apart b1 (Nat.le_refl _) (rowH_nodup _ _) b2⟩
theorem fnsQ (es : List FnE) : funsQ (es.map FnE.h) = es.map fun f => (rowH f.pu f.pars.length, strB f.bu (f.bs.map BkE.h)) := by simp [funsQ, FnE.h]
theorem OwnFns.inA {w : World} {lo hi : Nat} {u : Option Addr} {es : List FnE} (h : OwnFns w lo hi u es) : InA w lo hi 5 (strF u (es.map FnE.h)) ∧ (strF u (es.map FnE.h)).Nodup := by
 rcases h.2.1 with rfl | ⟨g, cur, rfl, h1, h2, hg, hc⟩
 ·rw [List.map_nil, strF_nil]; exact ⟨InA.nil, List.nodup_nil⟩
 ·show InA w lo hi 5 (strA g 3 [1] 0 (funsQ (es.map FnE.h))) ∧ (strA g 3 [1] 0 (funsQ (es.map FnE.h))).Nodup
  rw [fnsQ]
  have hs := sub_inA (k := 4) (q := fun f : FnE => (rowH f.pu f.pars.length, strB f.bu (f.bs.map BkE.h))) (fun lo hi e he => he.inA.1) h.2.2
  refine ⟨row_inA hg h1 h2 (by decide) (hs.wide (Nat.le_refl _) (Nat.le_refl _) (by decide)) fun i e he f hf => ?_, row_nodup hg (by decide) hs (sub_nodup (k := 4) (fun lo hi e he => he.inA.1) (fun lo hi e he => he.inA.2) h.2.2) (by decide) (by decide)⟩
  obtain rfl := List.mem_singleton.1 hf
  exact ⟨_, hc i e he 1 (by decide)⟩
theorem OwnFns.fusR {w : World} {lo hi : Nat} {u : Option Addr} {es : List FnE} {K : List Addr} (h : OwnFns w lo hi u es) (hK : KI w K) : FusR K w u (es.map FnE.h) := by
 refine ⟨by rw [List.length_map]; exact h.1, ?_⟩
 rcases h.2.1 with e | ⟨g, cur, rfl, _, _, hg, hc⟩
 ·exact .inl (by rw [e]; rfl)
 ·refine .inr ⟨g, 0, rfl, fun i hi x hx => ?_, fun i hi => ?_⟩
  ·rw [List.length_map] at hi
   obtain ⟨e, he⟩ : ∃ e, es[i]? = some e := ⟨es[i], List.getElem?_eq_getElem hi⟩
   refine ⟨?_, froz_of_heap hg⟩
   obtain rfl := List.mem_singleton.1 hx
   rw [cell_of_heap hg, Nat.zero_add, hc i e he 1 (by decide)]; exact ⟨_, rfl⟩
  ·rw [List.length_map] at hi
   obtain ⟨e, he⟩ : ∃ e, es[i]? = some e := ⟨es[i], List.getElem?_eq_getElem hi⟩
   have hc' := hc i e he
   obtain ⟨a, m, _, m', h1, h2, h3, h4⟩ := h.2.2.each e (List.mem_of_getElem? he)
   rw [map_get FnE.h fun0H he]
   have c0 : w.cell? ⟨g, 0 + i * 3, none⟩ = some (.slice e.pu e.pars.length e.pc) := by
    rw [cell_of_heap hg, Nat.zero_add]; exact hc' 0 (by decide)
   have c2 : w.cell? ⟨g, 0 + i * 3 + 2, none⟩ = some (.slice e.bu e.bs.length e.bc) := by
    rw [cell_of_heap hg, Nat.zero_add]; exact hc' 2 (by decide)
   refine ⟨⟨e.pc, ?_⟩, hK.slice c0, ⟨e.bc, ?_⟩, hK.slice c2, h3.intR, h4.blsR hK⟩
   ·rw [c0]; rfl
   ·rw [c2]; simp [FnE.h]
theorem OwnPhs.at_ {w : World} {lo hi : Nat} {u : Option Addr} {es : List PhE} (h : OwnPhs w lo hi u es) : PhisAt w lo u (es.map (·.1)) := by
 refine ⟨by rw [List.length_map]; have := h.1; omega, ?_⟩
 rcases h.2.1 with e | ⟨g, cur, rfl, h1, _, hg, hc⟩
 ·exact .inl (by rw [e]; rfl)
 ·refine .inr ⟨g, 0, rfl, h1, (Array.getElem?_eq_some_iff.1 hg).1, fun i hi => ?_⟩
  rw [List.length_map] at hi
  obtain ⟨e, he⟩ : ∃ e, es[i]? = some e := ⟨es[i], List.getElem?_eq_getElem hi⟩
  have hc' := hc i e he
  obtain ⟨a, m, k1, ho⟩ := h.2.2.each e (List.mem_of_getElem? he)
  rw [map_get (·.1) phi0 he]
  refine ⟨by rw [cell_of_heap hg, Nat.zero_add]; exact hc' 0 (by decide), e.2.1, e.2.2, by rw [cell_of_heap hg, Nat.zero_add]; exact hc' 1 (by decide), (OwnI.ints ho).low k1⟩
theorem OwnIns.at_ {w : World} {lo hi : Nat} {u : Option Addr} {es : List InE} (h : OwnIns w lo hi u es) : InstsAt w lo u (es.map (·.1)) := by
 refine ⟨by rw [List.length_map]; have := h.1; omega, ?_⟩
 rcases h.2.1 with e | ⟨g, cur, rfl, h1, _, hg, hc⟩
 ·exact .inl (by rw [e]; rfl)
 ·refine .inr ⟨g, 0, rfl, h1, (Array.getElem?_eq_some_iff.1 hg).1, fun i hi => ?_⟩
  rw [List.length_map] at hi
  obtain ⟨e, he⟩ : ∃ e, es[i]? = some e := ⟨es[i], List.getElem?_eq_getElem hi⟩
  have hc' := hc i e he
  obtain ⟨a, m, k1, ho⟩ := h.2.2.each e (List.mem_of_getElem? he)
  rw [map_get (·.1) inst0 he]
  have key : ∀ j, j < 7 → w.cell? ⟨g, 0 + i * 7 + j, none⟩ = (inC e)[j]? := fun j hj => by rw [cell_of_heap hg, Nat.zero_add]; exact hc' j hj
  exact ⟨key 0 (by decide), key 1 (by decide), key 2 (by decide), key 3 (by decide), key 4 (by decide), key 5 (by decide), e.2.1, e.2.2, key 6 (by decide), (OwnI.ints ho).low k1⟩
theorem OwnBks.at_ {w : World} {lo hi : Nat} {u : Option Addr} {es : List BkE} (h : OwnBks w lo hi u es) : BlocksAt w lo u (es.map BkE.d) := by
 refine ⟨by rw [List.length_map]; have := h.1; omega, ?_⟩
 rcases h.2.1 with e | ⟨g, cur, rfl, h1, _, hg, hc⟩
 ·exact .inl (by rw [e]; rfl)
 ·refine .inr ⟨g, 0, rfl, h1, (Array.getElem?_eq_some_iff.1 hg).1, fun i hi => ?_⟩
  rw [List.length_map] at hi
  obtain ⟨e, he⟩ : ∃ e, es[i]? = some e := ⟨es[i], List.getElem?_eq_getElem hi⟩
  have hc' := hc i e he
  obtain ⟨a, m, k1, m', g1, g2, g3, g4⟩ := h.2.2.each e (List.mem_of_getElem? he)
  rw [map_get BkE.d block0 he]
  have key : ∀ j, j < 6 → w.cell? ⟨g, 0 + i * 6 + j, none⟩ = (bkC e)[j]? := fun j hj => by rw [cell_of_heap hg, Nat.zero_add]; exact hc' j hj
  have l1 : (e.ps.map (·.1)).length = e.ps.length := List.length_map ..
  have l2 : (e.is.map (·.1)).length = e.is.length := List.length_map ..
  refine ⟨⟨e.pu, e.pc, ?_, (OwnPhs.at_ g3).low k1⟩, ⟨e.iu, e.ic, ?_, (OwnIns.at_ g4).low (by omega)⟩, key 2 (by decide), key 3 (by decide), key 4 (by decide), key 5 (by decide)⟩
  ·show _ = some (Value.slice e.pu (e.ps.map (·.1)).length e.pc)
   rw [l1]; exact key 0 (by decide)
  ·show _ = some (Value.slice e.iu (e.is.map (·.1)).length e.ic)
   rw [l2]; exact key 1 (by decide)
theorem OwnFns.at_ {w : World} {lo hi : Nat} {u : Option Addr} {es : List FnE} (h : OwnFns w lo hi u es) : FuncsAt w lo u (es.map FnE.d) := by
 refine ⟨by rw [List.length_map]; have := h.1; omega, ?_⟩
 rcases h.2.1 with e | ⟨g, cur, rfl, h1, _, hg, hc⟩
 ·exact .inl (by rw [e]; rfl)
 ·refine .inr ⟨g, 0, rfl, h1, (Array.getElem?_eq_some_iff.1 hg).1, fun i hi => ?_⟩
  rw [List.length_map] at hi
  obtain ⟨e, he⟩ : ∃ e, es[i]? = some e := ⟨es[i], List.getElem?_eq_getElem hi⟩
  have hc' := hc i e he
  obtain ⟨a, m, k1, m', g1, g2, g3, g4⟩ := h.2.2.each e (List.mem_of_getElem? he)
  rw [map_get FnE.d func0 he]
  have key : ∀ j, j < 3 → w.cell? ⟨g, 0 + i * 3 + j, none⟩ = (fnC e)[j]? := fun j hj => by rw [cell_of_heap hg, Nat.zero_add]; exact hc' j hj
  have l1 : (e.bs.map BkE.d).length = e.bs.length := List.length_map ..
  refine ⟨⟨e.pu, e.pc, key 0 (by decide), (OwnI.ints g3).low k1⟩, key 1 (by decide), e.bu, e.bc, ?_, (OwnBks.at_ g4).low (by omega)⟩
  show _ = some (Value.slice e.bu (e.bs.map BkE.d).length e.bc)
  rw [l1]; exact key 2 (by decide)
end Go.Proofs.YtojhakjkfkmklaaGreatDoor
