import Derived.Test.YtkpmiikafconmaaGreatDoorReOV
namespace Go.Proofs.YtkpmiikafconmaaGreatDoor
open Go.RowKit
set_option linter.unusedVariables false
set_option linter.unusedSimpArgs false
theorem OpS.keep {w w2 : World} {R T n : Nat} {fs : List FnE} {f : FnE} {bs : List BkE} {x : BkE} {v : Value} (h : OpS w R T n fs f bs x v) (k : Below w.heap.size w w2) : OpS w2 R T n fs f bs x v := by
 have st : Stay [] w w2 := Stay.below (Stay.refl [] w) k
 have no : ∀ hi b, b ∈ ([] : List Nat) → hi ≤ b ∨ Lv 4 w b := fun _ _ hb => by cases hb
 have no1 : ∀ hi b, b ∈ ([] : List Nat) → hi ≤ b ∨ Lv 1 w b := fun _ _ hb => by cases hb
 exact ⟨h.box.below k, h.row.stay st (fun _ _ hm => by cases hm), fun q hq => (h.fsv q hq).stay st (no _), h.par.stay st (no1 _), h.blk.stay st (fun _ _ hm => by cases hm), h.fbs, fun q hq => (h.bsv q hq).stay st (no _), h.phr.stay st (fun _ _ hm => by cases hm), h.isr.stay st (fun _ _ hm => by cases hm), fun q hq => IntO.wide (IntO.stay (h.phE q hq) st (no1 _)) (Nat.le_refl _) k.size, fun q hq => IntO.wide (IntO.stay (h.isE q hq) st (no1 _)) (Nat.le_refl _) k.size, h.tk, h.hR, Nat.le_trans h.hT k.size, h.len, h.bl, h.lb, h.lp, h.li⟩
theorem ne_types {w : World} {a b : Nat} {c1 c2 : Array Value} {T1 T2 : TypeId} {z1 z2 : Nat × Nat} (h1 : w.heap[a]? = some (.cells c1 T1 z1)) (h2 : w.heap[b]? = some (.cells c2 T2 z2)) (h : T1 ≠ T2) : a ≠ b := by
 rintro rfl
 rw [h1] at h2
 cases h2
 exact h rfl
structure OpN (w : World) (R T n : Nat) (fs : List FnE) (f : FnE) (bs : List BkE) (x : BkE) (v : Value) (b : Bool) : Prop where
 box : At w R #[v, .bool b] 62
 row : RowS 55 3 fnC w (R + 1) v (fs ++ [f])
 fsv : ∀ f, f ∈ fs → SFn w (R + 1) T f
 par : IntO w (R + 1) T f.pu f.pars
 blk : RowS 74 6 bkC w T (.slice f.bu f.bs.length f.bc) f.bs
 fbs : f.bs = bs ++ [x]
 bsv : ∀ b, b ∈ bs → SBk w (R + 1) T b
 phr : RowS 92 2 phC w T (.slice x.pu x.ps.length x.pc) x.ps
 isr : RowS 95 7 inC w T (.slice x.iu x.is.length x.ic) x.is
 phE : ∀ p, p ∈ x.ps → SPh w (R + 1) w.heap.size p
 isE : ∀ p, p ∈ x.is → SIn w (R + 1) w.heap.size p
 hR : R < T
 hT : T ≤ w.heap.size
 len : fs.length + 1 ≤ n
 bl : ∀ f, f ∈ fs → f.bs.length ≤ n
 lb : f.bs.length ≤ n
 lp : x.ps.length ≤ n
 li : x.is.length ≤ n
theorem OpS.n {w : World} {R T n : Nat} {fs : List FnE} {f : FnE} {bs : List BkE} {x : BkE} {v : Value} (h : OpS w R T n fs f bs x v) : OpN w R T n fs f bs x v true :=
 ⟨h.box, h.row, h.fsv, h.par, h.blk, h.fbs, h.bsv, h.phr, h.isr, h.phE, h.isE, h.hR, h.hT, h.len, h.bl, h.lb, h.lp, h.li⟩
theorem OpN.op {w : World} {R T n : Nat} {fs : List FnE} {f : FnE} {bs : List BkE} {x : BkE} {v : Value} (h : OpN w R T n fs f bs x v true) (tk : x.t = ⟨0, 0, 0, 0⟩) : OpS w R T n fs f bs x v :=
 ⟨h.box, h.row, h.fsv, h.par, h.blk, h.fbs, h.bsv, h.phr, h.isr, h.phE, h.isE, tk, h.hR, h.hT, h.len, h.bl, h.lb, h.lp, h.li⟩
theorem OpN.fns {w : World} {R T n : Nat} {fs : List FnE} {f : FnE} {bs : List BkE} {x : BkE} {v : Value} {b : Bool} (h : OpN w R T n fs f bs x v b) (hn : n ≤ 1048576) : ∀ q, q ∈ fs ++ [f] → SFn w (R + 1) w.heap.size q := fun q hq => by
 have hR := h.hR
 rcases List.mem_append.1 hq with hq | hq
 ·exact (h.fsv q hq).wide (Nat.le_refl _) h.hT
 ·obtain rfl := List.mem_singleton.1 hq
  refine ⟨h.par.wide (Nat.le_refl _) h.hT, RowS.sl (C := bkC) (s := 6) (fun _ => rfl) (by have := h.lb; omega) h.blk (fun y hy => ?_) (by omega) (Nat.le_refl _)⟩
  rw [h.fbs] at hy
  rcases List.mem_append.1 hy with hy | hy
  ·exact (h.bsv y hy).wide (Nat.le_refl _) h.hT
  ·obtain rfl := List.mem_singleton.1 hy
   exact ⟨RowS.sl (C := phC) (s := 2) (fun _ => rfl) (by have := h.lp; omega) h.phr h.phE (by omega) (Nat.le_refl _), RowS.sl (C := inC) (s := 7) (fun _ => rfl) (by have := h.li; omega) h.isr h.isE (by omega) (Nat.le_refl _)⟩
theorem OpN.cl {w : World} {R T n : Nat} {fs : List FnE} {f : FnE} {bs : List BkE} {x : BkE} {v : Value} (h : OpN w R T n fs f bs x v false) (hn : n ≤ 1048576) : ClS w R n (fs ++ [f]) v :=
 ⟨h.box, h.row, h.fns hn, by rw [List.length_append, List.length_singleton]; exact h.len, fun q hq => by
  rcases List.mem_append.1 hq with hq | hq
  ·exact h.bl q hq
  ·obtain rfl := List.mem_singleton.1 hq
   exact h.lb⟩
theorem OpS.at_ {w : World} {R T n : Nat} {fs : List FnE} {f : FnE} {bs : List BkE} {x : BkE} {v : Value} (h : OpS w R T n fs f bs x v) (hn : n ≤ 1048576) : ∃ u c, v = .slice u (fs ++ [f]).length c ∧ FuncsAt w (R + 1) u ((fs ++ [f]).map FnE.d) ∧ SmMod ((fs ++ [f]).map FnE.d) := by
 obtain ⟨u, c, rfl⟩ := h.row.slice
 have k := RowS.sl (C := fnC) (s := 3) (O := SFn) (fun _ => rfl) (by have := h.len; rw [List.length_append, List.length_singleton]; omega) h.row (h.n.fns hn) (Nat.le_refl _) (Nat.le_refl _)
 exact ⟨u, c, rfl, SFns.at_ k, SFns.sm k⟩
structure MidS (w : World) (R T n : Nat) (fs : List FnE) (f : FnE) (bs : List BkE) (x y : BkE) (v : Value) : Prop where
 box : At w R #[v, .bool true] 62
 row : RowS 55 3 fnC w (R + 1) v (fs ++ [f])
 fsv : ∀ f, f ∈ fs → SFn w (R + 1) T f
 par : IntO w (R + 1) T f.pu f.pars
 blk : RowS 74 6 bkC w T (.slice f.bu f.bs.length f.bc) f.bs
 fbs : f.bs = bs ++ [x]
 bsv : ∀ b, b ∈ bs → SBk w (R + 1) T b
 phr : RowS 92 2 phC w T (.slice y.pu y.ps.length y.pc) y.ps
 isr : RowS 95 7 inC w T (.slice y.iu y.is.length y.ic) y.is
 phE : ∀ p, p ∈ y.ps → SPh w (R + 1) w.heap.size p
 isE : ∀ p, p ∈ y.is → SIn w (R + 1) w.heap.size p
 hR : R < T
 hT : T ≤ w.heap.size
 len : fs.length + 1 ≤ n
 bl : ∀ f, f ∈ fs → f.bs.length ≤ n
 lb : f.bs.length ≤ n
 lp : y.ps.length ≤ n + 1
 li : y.is.length ≤ n + 1
 tk : y.t.kind = 0 → y.t = ⟨0, 0, 0, 0⟩
def putB (f : FnE) (bs : List BkE) (y : BkE) : FnE := ⟨f.pars, f.pu, f.pc, f.ret, bs ++ [y], f.bu, f.bc⟩
def putW (w : World) (R q g : Nat) (fs : List FnE) (f : FnE) (bs : List BkE) (y : BkE) : World :=
 ((w.setCell ⟨R, 1, none⟩ (.bool (y.t.kind == 0))).setCells q (bs.length * 6) (bkC y)).setCells g (fs.length * 3) (fnC (putB f bs y))
theorem MidS.put {w : World} {R T n q g c : Nat} {fs : List FnE} {f : FnE} {bs : List BkE} {x y : BkE} (h : MidS w R T n fs f bs x y (.slice (some ⟨g, 0, none⟩) (fs.length + 1) c)) (hq : f.bu = some ⟨q, 0, none⟩) : OpN (putW w R q g fs f bs y) R T (n + 1) fs (putB f bs y) bs y (.slice (some ⟨g, 0, none⟩) (fs.length + 1) c) (y.t.kind == 0) := by
 have hR := h.hR
 obtain ⟨hg1, gcur, hgc⟩ := h.row.ge (g := g) rfl
 have hblk := h.blk
 have eb : f.bs.length = bs.length + 1 := by rw [h.fbs]; simp
 rw [hq, eb, h.fbs] at hblk
 obtain ⟨hq1, qcur, hqc⟩ := hblk.ge (g := q) rfl
 have hgq : g ≠ q := ne_types hgc hqc (by decide)
 have hql : q < w.heap.size := (Array.getElem?_eq_some_iff.1 hqc).1
 let w1 := w.setCell ⟨R, 1, none⟩ (.bool (y.t.kind == 0))
 let w2 := w1.setCells q (bs.length * 6) (bkC y)
 let w3 := w2.setCells g (fs.length * 3) (fnC (putB f bs y))
 have e3 : putW w R q g fs f bs y = w3 := rfl
 have S1 : Stay [R] w w1 := (Stay.refl _ _).set (.inl (by simp))
 have S2 : Stay [q] w1 w2 := Stay.sets _ _ (Stay.refl _ _) (.inl (by simp))
 have S3 : Stay [g] w2 w3 := Stay.sets _ _ (Stay.refl _ _) (.inl (by simp))
 have ST : Stay [R, q, g] w w3 := Stay.sets _ _ (Stay.sets _ _ ((Stay.refl _ _).set (.inl (by simp))) (.inl (by simp))) (.inl (by simp))
 have A1 : At w1 R #[.slice (some ⟨g, 0, none⟩) (fs.length + 1) c, .bool (y.t.kind == 0)] 62 := heap_set (o := 1) h.box
 have hRl : R < w.heap.size := by omega
 have A2 : At w2 R #[.slice (some ⟨g, 0, none⟩) (fs.length + 1) c, .bool (y.t.kind == 0)] 62 := (S2.block R (Nat.lt_of_lt_of_le hRl S1.size) (by simp; omega)).trans A1
 have A3 : At w3 R #[.slice (some ⟨g, 0, none⟩) (fs.length + 1) c, .bool (y.t.kind == 0)] 62 := (S3.block R (Nat.lt_of_lt_of_le (Nat.lt_of_lt_of_le hRl S1.size) S2.size) (by simp; omega)).trans A2
 have LV : ∀ b, b ∈ [R, q, g] → T ≤ b ∨ Lv 4 w b := fun b hb => by
  simp only [List.mem_cons, List.not_mem_nil, or_false] at hb
  rcases hb with rfl | rfl | rfl
  ·exact .inr (Lv.of h.box (by decide))
  ·exact .inl hq1
  ·exact .inr (Lv.of hgc (by decide))
 have LV1 : ∀ b, b ∈ [R, q, g] → w.heap.size ≤ b ∨ Lv 1 w b := fun b hb => .inr (by
  simp only [List.mem_cons, List.not_mem_nil, or_false] at hb
  rcases hb with rfl | rfl | rfl
  ·exact Lv.of h.box (by decide)
  ·exact Lv.of hqc (by decide)
  ·exact Lv.of hgc (by decide))
 have NO : ∀ {b cur T'}, w.heap[b]? = some (.cells cur T' (0, 0)) → T' ≠ 62 → T' ≠ 74 → T' ≠ 55 → ¬ b ∈ [R, q, g] := fun hb k1 k2 k3 hm => by
  simp only [List.mem_cons, List.not_mem_nil, or_false] at hm
  rcases hm with rfl | rfl | rfl
  ·exact ne_types hb h.box k1 rfl
  ·exact ne_types hb hqc k2 rfl
  ·exact ne_types hb hgc k3 rfl
 rw [e3]
 refine ⟨A3, ?_, fun p hp => (h.fsv p hp).stay ST LV, h.par.stay ST (lv_one LV), ?_, rfl, fun p hp => (h.bsv p hp).stay ST LV, h.phr.stay ST (fun b hb => ?_), h.isr.stay ST (fun b hb => ?_), fun p hp => IntO.wide (IntO.stay (h.phE p hp) ST LV1) (Nat.le_refl _) ST.size, fun p hp => IntO.wide (IntO.stay (h.isE p hp) ST LV1) (Nat.le_refl _) ST.size, hR, Nat.le_trans h.hT ST.size, by have := h.len; omega, fun p hp => by have := h.bl p hp; omega, ?_, h.lp, h.li⟩
 ·have r2 : RowS 55 3 fnC w2 (R + 1) (.slice (some ⟨g, 0, none⟩) (fs.length + 1) c) (fs ++ [f]) := (h.row.stay S1 (fun b hb => by cases hb; simp; omega)).stay S2 (fun b hb => by cases hb; simpa using hgq)
  exact RowS.last (C := fnC) (s := 3) (fun _ => rfl) r2 fun cur hc => heap_setCells _ _ _ _ hc
 ·have r1 : RowS 74 6 bkC w1 T (.slice (some ⟨q, 0, none⟩) (bs.length + 1) f.bc) (bs ++ [x]) := hblk.stay S1 (fun b hb => by cases hb; simp; omega)
  have r2 : RowS 74 6 bkC w2 T (.slice (some ⟨q, 0, none⟩) (bs.length + 1) f.bc) (bs ++ [y]) := RowS.last (C := bkC) (s := 6) (fun _ => rfl) r1 fun cur hc => heap_setCells _ _ _ _ hc
  have r3 := r2.stay S3 (fun b hb => by cases hb; simpa using hgq.symm)
  show RowS _ _ _ _ _ (.slice f.bu (bs ++ [y]).length f.bc) _
  rw [hq, List.length_append, List.length_singleton]
  exact r3
 ·obtain ⟨_, cur, hc⟩ := h.phr.ge hb
  exact NO hc (by decide) (by decide) (by decide)
 ·obtain ⟨_, cur, hc⟩ := h.isr.ge hb
  exact NO hc (by decide) (by decide) (by decide)
 ·show (bs ++ [y]).length ≤ n + 1
  have := h.lb
  rw [List.length_append, List.length_singleton]
  omega
theorem below_sets {k : Nat} {w : World} {g : Nat} : ∀ {vs : List Value} {o : Nat} {w' : World}, Below k w w' → k ≤ g → Below k w (w'.setCells g o vs)
 | [], _, _, h, _ => h
 | _ :: r, o, _, h, hg => below_sets (vs := r) (o := o + 1) (h.setCell hg _) hg
theorem MidS.low {w : World} {R T n q g c : Nat} {fs : List FnE} {f : FnE} {bs : List BkE} {x y : BkE} (h : MidS w R T n fs f bs x y (.slice (some ⟨g, 0, none⟩) (fs.length + 1) c)) (hq : f.bu = some ⟨q, 0, none⟩) : Below R w (putW w R q g fs f bs y) := by
 have hR := h.hR
 have hg1 := (h.row.ge (g := g) rfl).1
 have eb : f.bs.length = bs.length + 1 := by rw [h.fbs]; simp
 have hblk := h.blk
 rw [hq, eb, h.fbs] at hblk
 have hq1 := (hblk.ge (g := q) rfl).1
 exact below_sets (below_sets ((Below.refl R w).setCell (by dsimp only; omega) _) (by omega)) (by omega)
def nxtO (fs : List FnE) (f : FnE) (bs : List BkE) (y : BkE) : PSt := if y.t.kind = 0 then stO fs f bs y else stC (fs ++ [putB f bs y])
theorem MidS.stH {w : World} {R T n q g c : Nat} {fs : List FnE} {f : FnE} {bs : List BkE} {x y : BkE} (hn : n ≤ 20000) (h : MidS w R T n fs f bs x y (.slice (some ⟨g, 0, none⟩) (fs.length + 1) c)) (hq : f.bu = some ⟨q, 0, none⟩) : StH (putW w R q g fs f bs y) R (n + 1) (nxtO fs f bs y) := by
 have k := h.put hq
 by_cases hk : y.t.kind = 0
 ·rw [show (y.t.kind == 0) = true by simp [hk]] at k
  exact .inr ⟨T, fs, putB f bs y, bs, y, _, k.op (h.tk hk), by unfold nxtO; rw [if_pos hk]; rfl⟩
 ·rw [show (y.t.kind == 0) = false by simp [hk]] at k
  exact .inl ⟨fs ++ [putB f bs y], _, k.cl (by omega), by unfold nxtO; rw [if_neg hk]⟩
theorem OpS.term {w wc : World} {R T n : Nat} {fs : List FnE} {f : FnE} {bs : List BkE} {x : BkE} {v : Value} {t : TermD} (h : OpS w R T n fs f bs x v) (k : Below w.heap.size w wc) (ht : t.kind ≠ 0) : MidS wc R T n fs f bs x ⟨x.ps, x.pu, x.pc, x.is, x.iu, x.ic, t⟩ v := by
 have q := h.keep k
 exact ⟨q.box, q.row, q.fsv, q.par, q.blk, q.fbs, q.bsv, q.phr, q.isr, q.phE, q.isE, q.hR, q.hT, q.len, q.bl, q.lb, Nat.le_succ_of_le q.lp, Nat.le_succ_of_le q.li, fun e => absurd e ht⟩
theorem OpS.phi {w wc : World} {R T n c : Nat} {fs : List FnE} {f : FnE} {bs : List BkE} {x : BkE} {v : Value} {u : Option Addr} {p : PhE} {S : List Nat} (h : OpS w R T n fs f bs x v) (k : Stay S w wc) (hS : ∀ b, b ∈ S → (Value.slice x.pu x.ps.length x.pc).ownBlock = some b) (hr : RowS 92 2 phC wc T (.slice u (x.ps.length + 1) c) (x.ps ++ [p])) (hp : SPh wc (R + 1) wc.heap.size p) : MidS wc R T n fs f bs x ⟨x.ps ++ [p], u, c, x.is, x.iu, x.ic, x.t⟩ v := by
 have hP : ∀ b, b ∈ S → T ≤ b ∧ ∃ cur, w.heap[b]? = some (.cells cur 92 (0, 0)) := fun b hb => h.phr.ge (hS b hb)
 have LV : ∀ b, b ∈ S → T ≤ b ∨ Lv 4 w b := fun b hb => .inl (hP b hb).1
 have LV1 : ∀ b, b ∈ S → w.heap.size ≤ b ∨ Lv 1 w b := fun b hb => .inr (by
  obtain ⟨_, cur, hc⟩ := hP b hb
  exact Lv.of hc (by decide))
 have NO : ∀ {b cur T'}, w.heap[b]? = some (.cells cur T' (0, 0)) → T' ≠ 92 → ¬ b ∈ S := fun hb k1 hm => by
  obtain ⟨_, cur, hc⟩ := hP _ hm
  exact ne_types hb hc k1 rfl
 have NR : ∀ {α : Type} {T' : TypeId} {s : Nat} {C : α → List Value} {base : Nat} {v : Value} {es : List α}, RowS T' s C w base v es → T' ≠ 92 → ∀ g, v.ownBlock = some g → ¬ g ∈ S := fun hr k1 g hg => by
  obtain ⟨_, cur, hc⟩ := hr.ge hg
  exact NO hc k1
 have hRl : R < w.heap.size := h.box.lt
 refine ⟨(k.block R hRl (NO h.box (by decide))).trans h.box, h.row.stay k (NR h.row (by decide)), fun p hp => (h.fsv p hp).stay k LV, h.par.stay k (lv_one LV), h.blk.stay k (NR h.blk (by decide)), h.fbs, fun p hp => (h.bsv p hp).stay k LV, ?_, h.isr.stay k (NR h.isr (by decide)), fun e he => ?_, fun p hp => IntO.wide (IntO.stay (h.isE p hp) k LV1) (Nat.le_refl _) k.size, h.hR, Nat.le_trans h.hT k.size, h.len, h.bl, h.lb, ?_, Nat.le_succ_of_le h.li, fun _ => h.tk⟩
 ·show RowS _ _ _ _ _ (.slice u (x.ps ++ [p]).length c) _
  rw [List.length_append, List.length_singleton]
  exact hr
 ·rcases List.mem_append.1 he with he | he
  ·exact IntO.wide (IntO.stay (h.phE e he) k LV1) (Nat.le_refl _) k.size
  ·obtain rfl := List.mem_singleton.1 he
   exact hp
 ·show (x.ps ++ [p]).length ≤ n + 1
  have := h.lp
  rw [List.length_append, List.length_singleton]
  omega
theorem OpS.ins {w wc : World} {R T n c : Nat} {fs : List FnE} {f : FnE} {bs : List BkE} {x : BkE} {v : Value} {u : Option Addr} {p : InE} {S : List Nat} (h : OpS w R T n fs f bs x v) (k : Stay S w wc) (hS : ∀ b, b ∈ S → (Value.slice x.iu x.is.length x.ic).ownBlock = some b) (hr : RowS 95 7 inC wc T (.slice u (x.is.length + 1) c) (x.is ++ [p])) (hp : SIn wc (R + 1) wc.heap.size p) : MidS wc R T n fs f bs x ⟨x.ps, x.pu, x.pc, x.is ++ [p], u, c, x.t⟩ v := by
 have hP : ∀ b, b ∈ S → T ≤ b ∧ ∃ cur, w.heap[b]? = some (.cells cur 95 (0, 0)) := fun b hb => h.isr.ge (hS b hb)
 have LV : ∀ b, b ∈ S → T ≤ b ∨ Lv 4 w b := fun b hb => .inl (hP b hb).1
 have LV1 : ∀ b, b ∈ S → w.heap.size ≤ b ∨ Lv 1 w b := fun b hb => .inr (by
  obtain ⟨_, cur, hc⟩ := hP b hb
  exact Lv.of hc (by decide))
 have NO : ∀ {b cur T'}, w.heap[b]? = some (.cells cur T' (0, 0)) → T' ≠ 95 → ¬ b ∈ S := fun hb k1 hm => by
  obtain ⟨_, cur, hc⟩ := hP _ hm
  exact ne_types hb hc k1 rfl
 have NR : ∀ {α : Type} {T' : TypeId} {s : Nat} {C : α → List Value} {base : Nat} {v : Value} {es : List α}, RowS T' s C w base v es → T' ≠ 95 → ∀ g, v.ownBlock = some g → ¬ g ∈ S := fun hr k1 g hg => by
  obtain ⟨_, cur, hc⟩ := hr.ge hg
  exact NO hc k1
 have hRl : R < w.heap.size := h.box.lt
 refine ⟨(k.block R hRl (NO h.box (by decide))).trans h.box, h.row.stay k (NR h.row (by decide)), fun p hp => (h.fsv p hp).stay k LV, h.par.stay k (lv_one LV), h.blk.stay k (NR h.blk (by decide)), h.fbs, fun p hp => (h.bsv p hp).stay k LV, h.phr.stay k (NR h.phr (by decide)), ?_, fun p hp => IntO.wide (IntO.stay (h.phE p hp) k LV1) (Nat.le_refl _) k.size, fun e he => ?_, h.hR, Nat.le_trans h.hT k.size, h.len, h.bl, h.lb, Nat.le_succ_of_le h.lp, ?_, fun _ => h.tk⟩
 ·show RowS _ _ _ _ _ (.slice u (x.is ++ [p]).length c) _
  rw [List.length_append, List.length_singleton]
  exact hr
 ·rcases List.mem_append.1 he with he | he
  ·exact IntO.wide (IntO.stay (h.isE e he) k LV1) (Nat.le_refl _) k.size
  ·obtain rfl := List.mem_singleton.1 he
   exact hp
 ·show (x.is ++ [p]).length ≤ n + 1
  have := h.li
  rw [List.length_append, List.length_singleton]
  omega
theorem StH.keep {w w2 : World} {R n : Nat} {p : PSt} (h : StH w R n p) (k : Below w.heap.size w w2) : StH w2 R n p := by
 rcases h with ⟨fs, v, hc, rfl⟩ | ⟨T, fs, f, bs, x, v, ho, rfl⟩
 ·exact .inl ⟨fs, v, hc.keep k, rfl⟩
 ·exact .inr ⟨T, fs, f, bs, x, v, ho.keep k, rfl⟩
end Go.Proofs.YtkpmiikafconmaaGreatDoor
