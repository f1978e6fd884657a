/- How much a value holds, as the laws reckon it: the contracts of the sz functions. -/
import Derived.Test.YtojhakjkfkmklaaGreatDoorRvrQ
import Derived.Laws.AppendOwnNone
import Derived.Deep.LoopGhost
import Derived.Test.YtojhakjkfkmklaaGreatDoorKnd
namespace Go.Proofs.YtojhakjkfkmklaaGreatDoor
open Go.RowKit

def szI (n : Nat) (left : Int) : Int := if left - n < 0 then -1 else left - n
def szL {α : Type} (f : α → Int → Int) : List α → Int → Int
  | [], x => x
  | d :: r, x => if f d x < 0 then -1 else szL f r (f d x)
def szS {α : Type} (f : α → Int → Int) (l : List α) (x : Int) : Int := if x - l.length < 0 then -1 else szL f l (x - l.length)
/-- What is left is -1, or no more than was there. -/
def Falls {α : Type} (f : α → Int → Int) : Prop := ∀ d x, 0 ≤ x → f d x = -1 ∨ (0 ≤ f d x ∧ f d x ≤ x)
theorem szI_falls (n : Nat) (x : Int) : szI n x = -1 ∨ (0 ≤ szI n x ∧ szI n x ≤ x) := by unfold szI; split <;> omega
theorem szL_falls {α : Type} {f : α → Int → Int} (hf : Falls f) : ∀ (l : List α) (x : Int), 0 ≤ x → szL f l x = -1 ∨ (0 ≤ szL f l x ∧ szL f l x ≤ x)
  | [], x, hx => .inr ⟨hx, Int.le_refl _⟩
  | d :: r, x, hx => by
    unfold szL
    rcases hf d x hx with h | ⟨h, h'⟩
    · rw [if_pos (by omega)]; exact .inl rfl
    · rw [if_neg (by omega)]
      rcases szL_falls hf r (f d x) h with k | ⟨k, k'⟩
      · exact .inl k
      · exact .inr ⟨k, by omega⟩
theorem szS_falls {α : Type} {f : α → Int → Int} (hf : Falls f) (l : List α) (x : Int) : szS f l x = -1 ∨ (0 ≤ szS f l x ∧ szS f l x ≤ x) := by
  unfold szS; split
  · exact .inl rfl
  · rcases szL_falls hf l (x - l.length) (by omega) with h | h
    · exact .inl h
    · exact .inr ⟨h.1, by omega⟩
theorem szL_each {α : Type} {f : α → Int → Int} (hf : Falls f) : ∀ (l : List α) (x : Int), 0 ≤ x → 0 ≤ szL f l x → ∀ d ∈ l, ∃ y, 0 ≤ y ∧ y ≤ x ∧ 0 ≤ f d y
  | [], _, _, _, _, hd => by cases hd
  | c :: r, x, hx, h, d, hd => by
    unfold szL at h
    rcases hf c x hx with k | ⟨k, k'⟩
    · rw [if_pos (by omega)] at h; omega
    · rw [if_neg (by omega)] at h
      rcases List.mem_cons.1 hd with rfl | hd
      · exact ⟨x, hx, Int.le_refl _, k⟩
      · obtain ⟨y, y0, y1, y2⟩ := szL_each hf r (f c x) k h d hd
        exact ⟨y, y0, by omega, y2⟩
theorem szS_each {α : Type} {f : α → Int → Int} (hf : Falls f) {l : List α} {x : Int} (h : 0 ≤ szS f l x) : (l.length : Int) ≤ x ∧ ∀ d ∈ l, ∃ y, 0 ≤ y ∧ y ≤ x ∧ 0 ≤ f d y := by
  unfold szS at h
  split at h
  · omega
  · refine ⟨by omega, fun d hd => ?_⟩
    obtain ⟨y, y0, y1, y2⟩ := szL_each hf l (x - l.length) (by omega) h d hd
    exact ⟨y, y0, by omega, y2⟩
def szPhi (d : PhiD) (x : Int) : Int := szI d.ins.length x
def szInst (d : InstD) (x : Int) : Int := szI d.args.length x
def szBlock (d : BlockD) (x : Int) : Int := if szS szPhi d.phis x < 0 then -1 else szS szInst d.insts (szS szPhi d.phis x)
def szFunc (d : FuncD) (x : Int) : Int := if szI d.params.length x < 0 then -1 else szS szBlock d.blocks (szI d.params.length x)
theorem szPhi_falls : Falls szPhi := fun _ _ _ => szI_falls _ _
theorem szInst_falls : Falls szInst := fun _ _ _ => szI_falls _ _
theorem szBlock_falls : Falls szBlock := fun d x _ => by
  unfold szBlock
  rcases szS_falls szPhi_falls d.phis x with h | ⟨h, h'⟩
  · rw [if_pos (by omega)]; exact .inl rfl
  · rw [if_neg (by omega)]
    rcases szS_falls szInst_falls d.insts (szS szPhi d.phis x) with k | ⟨k, k'⟩
    · exact .inl k
    · exact .inr ⟨k, by omega⟩
theorem szFunc_falls : Falls szFunc := fun d x _ => by
  unfold szFunc
  rcases szI_falls d.params.length x with h | ⟨h, h'⟩
  · rw [if_pos (by omega)]; exact .inl rfl
  · rw [if_neg (by omega)]
    rcases szS_falls szBlock_falls d.blocks (szI d.params.length x) with k | ⟨k, k'⟩
    · exact .inl k
    · exact .inr ⟨k, by omega⟩
/-- Every list in it is of at most 1048576. -/
def SmI (l : List Int) : Prop := l.length ≤ 1048576
def SmPhi (d : PhiD) : Prop := d.ins.length ≤ 1048576
def SmInst (d : InstD) : Prop := d.args.length ≤ 1048576
def SmBlock (d : BlockD) : Prop := (d.phis.length ≤ 1048576 ∧ ∀ p ∈ d.phis, SmPhi p) ∧ (d.insts.length ≤ 1048576 ∧ ∀ p ∈ d.insts, SmInst p)
def SmFunc (d : FuncD) : Prop := d.params.length ≤ 1048576 ∧ (d.blocks.length ≤ 1048576 ∧ ∀ p ∈ d.blocks, SmBlock p)
theorem szI_small {n : Nat} {x : Int} (hx : x ≤ 1048576) (h : 0 ≤ szI n x) : n ≤ 1048576 := by unfold szI at h; split at h <;> omega
theorem szBlock_small {d : BlockD} {x : Int} (hx : x ≤ 1048576) (h : 0 ≤ szBlock d x) : SmBlock d := by
  unfold szBlock at h
  rcases szS_falls szPhi_falls d.phis x with k | ⟨k, k'⟩
  · rw [if_pos (by omega)] at h; omega
  · rw [if_neg (by omega)] at h
    obtain ⟨p1, p2⟩ := szS_each szPhi_falls k
    obtain ⟨i1, i2⟩ := szS_each szInst_falls h
    refine ⟨⟨by omega, fun p hp => ?_⟩, ⟨by omega, fun p hp => ?_⟩⟩
    · obtain ⟨y, _, y1, y2⟩ := p2 p hp
      exact szI_small (by omega) y2
    · obtain ⟨y, _, y1, y2⟩ := i2 p hp
      exact szI_small (by omega) y2
theorem szFunc_small {d : FuncD} {x : Int} (hx : x ≤ 1048576) (h : 0 ≤ szFunc d x) : SmFunc d := by
  unfold szFunc at h
  rcases szI_falls d.params.length x with k | ⟨k, k'⟩
  · rw [if_pos (by omega)] at h; omega
  · rw [if_neg (by omega)] at h
    obtain ⟨b1, b2⟩ := szS_each szBlock_falls h
    refine ⟨szI_small hx k, by omega, fun p hp => ?_⟩
    obtain ⟨y, _, y1, y2⟩ := b2 p hp
    exact szBlock_small (by omega) y2
theorem ret_i {a b : Int} (h : a = b) : Ending.returned (.int .i64 a) = .returned (.int .i64 b) := by rw [h]

end Go.Proofs.YtojhakjkfkmklaaGreatDoor
namespace Go.Proofs.YtojhakjkfkmklaaGreatDoor
open Go.RowKit

theorem heap_alloc_last (w : World) (o : Obj) : (w.alloc o).heap[w.heap.size]? = some o := by
  show (w.heap.push o)[w.heap.size]? = _
  simp
theorem cell_of_heap {w : World} {g o : Nat} {cur : Array Value} {t : TypeId} (h : w.heap[g]? = some (.cells cur t (0, 0))) : w.cell? ⟨g, o, none⟩ = cur[o]? := by
  unfold World.cell?; rw [h]; rfl
theorem froz_of_heap {w : World} {g o : Nat} {cur : Array Value} {t : TypeId} (h : w.heap[g]? = some (.cells cur t (0, 0))) : w.frozen? ⟨g, o, none⟩ = false := by
  unfold World.frozen?; rw [h]; rfl
theorem heap_set {w : World} {g o : Nat} {cur : Array Value} {t : TypeId} {v : Value} (h : w.heap[g]? = some (.cells cur t (0, 0))) : (w.setCell ⟨g, o, none⟩ v).heap[g]? = some (.cells (cur.setIfInBounds o v) t (0, 0)) := by
  show (w.heap.modify g _)[g]? = _
  rw [Array.getElem?_modify, if_pos rfl, h]
  rfl
theorem heap_other {w : World} {g : Nat} {p : Addr} {v : Value} {x : Option Obj} (hp : g ≠ p.block) (h : w.heap[g]? = x) : (w.setCell p v).heap[g]? = x := (Below.heap_setCell w p v g hp).trans h
theorem heap_mid (w : World) (o1 o2 o3 : Obj) : (((w.alloc o1).alloc o2).alloc o3).heap[w.heap.size + 1]? = some o2 := by
  rw [Below.heap_alloc _ _ _ (by simp)]
  have h := heap_alloc_last (w.alloc o1) o2
  have e : (w.alloc o1).heap.size = w.heap.size + 1 := by simp
  rw [e] at h
  exact h
theorem heap_alloc_at (w : World) (o : Obj) : (w.alloc o).heap[w.heap.size]? = some o := by
  show (w.heap.push o)[w.heap.size]? = _
  simp
theorem mk_any {t e : TypeId} {i : TypeInfo} {z : Value} {s by' : Nat} (n : Nat) (ht : Tryz.prog.underlying t = some (.slice e)) (hi : Tryz.prog.info? e = some i) (hz : i.zero = some z) (hs : i.size = s) (hb : i.bytes = by') (hm : by' ≤ 1000) (hn : n ≤ 1048576) (W : World) :
    (Instr.makeSlice t (.int .i64 (n : Int)) (.int .i64 (n : Int))).run Tryz.prog W = .ok (.slice (some ⟨W.heap.size, 0, none⟩) n n) (W.alloc (.cells (madeCells z.cells (n * s)) e)) := by
  subst hs hb
  have h := run_make (P := Tryz.prog) W t e i z ht hi hz .i64 .i64 n n (by omega) (Int.le_refl _) (by
    have : i.bytes * n ≤ 1000 * 1048576 := Nat.mul_le_mul hm hn
    have h2 : ((i.bytes * n : Nat) : Int) ≤ 1048576000 := by omega
    rw [Int.natCast_mul] at h2; omega) (by omega)
  simpa using h
theorem infoI : (Tryz.prog.info? 2).map (fun i => (i.zero, i.size, i.bytes)) = some (some (.int .i64 0), 1, 8) := by kernel_rfl

theorem infoPhi : (Tryz.prog.info? 88).map (fun i => (i.zero, i.size, i.bytes)) = some (some (.agg #[.int .i64 0, .slice none 0 0]), 2, 32) := by kernel_rfl
theorem infoInst : (Tryz.prog.info? 91).map (fun i => (i.zero, i.size, i.bytes)) = some (some (.agg #[.int .i64 0, .int .i64 0, .int .i64 0, .int .i64 0, .int .i64 0, .int .i64 0, .slice none 0 0]), 7, 72) := by kernel_rfl
end Go.Proofs.YtojhakjkfkmklaaGreatDoor
namespace Go.Proofs.YtojhakjkfkmklaaGreatDoor
open Go.RowKit

/-- A slice of numbers at the head of a row of cells that nobody has frozen, in a block from lo on. -/
def OwnAt (w : World) (lo : Nat) (a : Option Addr) (l : List Int) : Prop :=
  l.length ≤ 9223372036854775807 ∧ (l = [] ∨ ∃ g cur, a = some ⟨g, 0, none⟩ ∧ lo ≤ g ∧ w.heap[g]? = some (.cells cur 2 (0, 0)) ∧ ∀ i, i < l.length → cur[i]? = some (.int .i64 (l.getD i 0)))
theorem OwnAt.ints {w : World} {lo : Nat} {a : Option Addr} {l : List Int} (h : OwnAt w lo a l) : IntsAt w lo a l := by
  obtain ⟨hm, h⟩ := h
  refine ⟨hm, ?_⟩
  rcases h with h | ⟨g, cur, ha, hl, hb, hc⟩
  · exact .inl h
  · exact .inr ⟨g, 0, ha, hl, (Array.getElem?_eq_some_iff.1 hb).1, fun i hi => by rw [Nat.zero_add, cell_of_heap hb]; exact hc i hi⟩
theorem OwnAt.keep {w w' : World} {lo : Nat} {a : Option Addr} {l : List Int} (h : OwnAt w lo a l) (k : Agree lo w w') : OwnAt w' lo a l := by
  obtain ⟨hm, h⟩ := h
  refine ⟨hm, ?_⟩
  rcases h with h | ⟨g, cur, ha, hl, hb, hc⟩
  · exact .inl h
  · exact .inr ⟨g, cur, ha, hl, (k.2 g hl (Array.getElem?_eq_some_iff.1 hb).1).trans hb, hc⟩
theorem OwnAt.low {w : World} {lo lo' : Nat} {a : Option Addr} {l : List Int} (h : OwnAt w lo a l) (k : lo' ≤ lo) : OwnAt w lo' a l := by
  obtain ⟨hm, h⟩ := h
  refine ⟨hm, ?_⟩
  rcases h with h | ⟨g, cur, ha, hl, hb, hc⟩
  · exact .inl h
  · exact .inr ⟨g, cur, ha, Nat.le_trans k hl, hb, hc⟩
theorem own_lit (w : World) (l : List Int) (hm : l.length ≤ 1000) (cs : Array Value) (hc : ∀ i, i < l.length → cs[i]? = some (.int .i64 (l.getD i 0))) : OwnAt (w.alloc (.cells cs 2)) w.heap.size (some ⟨w.heap.size, 0, none⟩) l :=
  ⟨by omega, .inr ⟨w.heap.size, cs, rfl, Nat.le_refl _, heap_alloc_last _ _, hc⟩⟩
/-- Out of the law of append: what is owned holds the numbers. -/
theorem own_of_row {w : World} {base : Nat} {v : Value} {l : List Int} (hm : l.length ≤ 1048576) (h : w.ownsRow base 2 1 v l.length (l.map (Value.int .i64))) : ∃ u c, v = .slice u l.length c ∧ OwnAt w base u l := by
  rcases h.2 with ⟨hv, hn⟩ | ⟨g, cap, cur, hv, hb, hg, hnc, _, hcs, htk⟩
  · exact ⟨none, 0, by rw [hv, hn], by omega, .inl (List.length_eq_zero_iff.1 hn)⟩
  · refine ⟨_, cap, hv, by omega, .inr ⟨g, cur, rfl, hb, hg, fun i hi => ?_⟩⟩
    have e : (cur.toList.take (l.length * 1))[i]? = (l.map (Value.int .i64))[i]? := by rw [htk]
    rw [List.getElem?_take, if_pos (by omega)] at e
    simp [hi] at e
    simpa [List.getD, hi] using e
theorem append_none {t ty : TypeId} (v : Value) (hv : v = .slice none 0 0 ∨ ∃ g, v = .slice (some ⟨g, 0, none⟩) 0 0) (c : Nat) (w : World) (i : TypeInfo) (ht : Tryz.prog.underlying t = some (.slice 2)) (hi : Tryz.prog.info? 2 = some i) :
    (Builtin.append_ #[t, t] ty #[v, .slice none 0 c]).run Tryz.prog w = .ok v w := by
  rcases hv with rfl | ⟨g, rfl⟩
  · simp [Builtin.append_, run_underlying ht, sizeOf, typeInfo, hi, Builtin.lenOf, Builtin.firstCells]
  · simp [Builtin.append_, run_underlying ht, sizeOf, typeInfo, hi, Builtin.lenOf, Builtin.firstCells, storeCells]
set_option maxHeartbeats 1000000 in
theorem copyS_any (lo : Nat) (a : Option Addr) (cap : Nat) (l : List Int) (w : World) (hl : l.length ≤ 1048576) (hv : IntsAt w lo a l) :
    Calls Tryz.prog 126 #[.slice a l.length cap] w fun e w' => ∃ u c, e = .returned (.slice u l.length c) ∧ OwnAt w' w.heap.size u l ∧ Below w.heap.size w w' := by
  obtain ⟨i0, hi, hz0, hz1, hz2⟩ := info_parts infoI
  rcases a with _ | ad
  · have hnil : l = [] := by
      rcases hv.2 with h | ⟨b, off, h, _⟩
      · exact h
      · simp at h
    subst hnil
    go_enter Tryz.func126, Tryz.ntmps126
    have hap := fun g => append_none (t := 46) (ty := 46) (.slice (some ⟨g, 0, none⟩) 0 0) (.inr ⟨g, rfl⟩) cap (w.alloc (.cells #[] 2)) i0 Tryz.underlying46 hi
    clear hi hz0 hz1 hz2
    go_wp2_with fail
    go_ret
    exact ⟨_, _, rfl, ⟨by simp, .inl rfl⟩, (Below.refl _ _).alloc (Nat.le_refl _) _⟩
  · have hcell : ∀ j u, (l.map (Value.int .i64))[j]? = some u → (w.alloc (.cells #[] 2)).cell? (ad.add j) = some u := by
      intro j u hj
      rcases hv.2 with h | ⟨b, off, h, _, hb, hc⟩
      · simp [h] at hj
      · simp at h
        subst h
        have hjl : j < l.length := by
          have := (List.getElem?_eq_some_iff.1 hj).1
          simpa using this
        have hat : (⟨b, off, none⟩ : Addr).add j = ⟨b, off + j, none⟩ := by unfold Addr.add; split <;> simp_all
        rw [hat, cell_block (Below.heap_alloc w _ b hb), hc j hjl]
        simp [hjl] at hj
        rw [← hj]; simp [List.getD, hjl]
    go_enter Tryz.func126, Tryz.ntmps126
    go_wp2_with (at_builtin; refine wpList_append_own _ rfl _ _ 46 rfl w.heap.size 2 i0 (.int .i64 0) 1 8 Tryz.underlying46 hi hz0 hz1 hz2 rfl (by decide) _ 0 [] rfl (World.ownsRow_lit w #[] 0 (Nat.le_refl _) (by decide) (by simp)) ad l.length cap (l.map (Value.int .i64)) rfl (by simp) hcell (by simp [Value.oneCell']) (by unfold maxLen; omega) (by omega) (by simp) ?_; intro v' w1 hown hgrow _)
    simp only [Nat.zero_add, List.nil_append] at hown
    obtain ⟨u, c, rfl, ho⟩ := own_of_row hl hown
    go_ret
    exact ⟨u, c, rfl, ho, ((Below.refl _ _).alloc (Nat.le_refl _) _).grown hgrow (by simp) (fun k hk => by have hk' : some w.heap.size = some k := hk; simp at hk'; omega)⟩
end Go.Proofs.YtojhakjkfkmklaaGreatDoor
namespace Go.Proofs.YtojhakjkfkmklaaGreatDoor
open Go.RowKit

def opsD (d : InstD) : List Int :=
  if opB d.op = true ∨ d.op = 24 then [d.a, d.b] else if d.op = 18 ∨ d.op = 19 ∨ d.op = 20 ∨ d.op = 23 ∨ d.op = 25 ∨ d.op = 27 then [d.a] else if d.op = 22 then [d.a, d.b, d.c] else if d.op = 26 then d.args else []
theorem own_mk {w : World} {l : List Int} {cs : Array Value} {v : List Int} (e : v = l) (hm : l.length ≤ 1000) (hc : ∀ i, i < l.length → cs[i]? = some (.int .i64 (l.getD i 0))) : OwnAt (w.alloc (.cells cs 2)) w.heap.size (some ⟨w.heap.size, 0, none⟩) v := by
  subst e; exact own_lit w _ hm cs hc
theorem own_mk2 {w : World} {o : Obj} {l : List Int} {cs : Array Value} {v : List Int} (e : v = l) (hm : l.length ≤ 1000) (hc : ∀ i, i < l.length → cs[i]? = some (.int .i64 (l.getD i 0))) : OwnAt ((w.alloc o).alloc (.cells cs 2)) w.heap.size (some ⟨w.heap.size + 1, 0, none⟩) v := by
  have h := own_mk (w := w.alloc o) e hm hc
  have hz : (w.alloc o).heap.size = w.heap.size + 1 := by simp
  rw [hz] at h
  exact h.low (by omega)
theorem two_cells (a b : Int) : ∀ i, i < [a, b].length → (#[Value.int .i64 a, Value.int .i64 b] : Array Value)[i]? = some (.int .i64 ([a, b].getD i 0)) := by
  intro i hi
  match i, hi with
  | 0, _ => rfl
  | 1, _ => rfl
theorem one_cells (a : Int) : ∀ i, i < [a].length → (#[Value.int .i64 a] : Array Value)[i]? = some (.int .i64 ([a].getD i 0)) := by
  intro i hi
  match i, hi with
  | 0, _ => rfl
theorem three_cells (a b c : Int) : ∀ i, i < [a, b, c].length → (#[Value.int .i64 a, Value.int .i64 b, Value.int .i64 c] : Array Value)[i]? = some (.int .i64 ([a, b, c].getD i 0)) := by
  intro i hi
  match i, hi with
  | 0, _ => rfl
  | 1, _ => rfl
  | 2, _ => rfl
set_option maxHeartbeats 1000000 in
theorem operS_bin (d : InstD) (u : Option Addr) (q : Nat) (w : World) (h : opB d.op = true) :
    Calls Tryz.prog 94 #[.agg #[.int .i64 d.op, .int .i64 d.w, .int .i64 d.a, .int .i64 d.b, .int .i64 d.c, .int .i64 d.imm, .slice u d.args.length q]] w fun e w' => ∃ u c, e = .returned (.slice u (opsD d).length c) ∧ OwnAt w' w.heap.size u (opsD d) ∧ Below w.heap.size w w' := by
  have E : opsD d = [d.a, d.b] := by simp [opsD, h]
  rw [E]; clear E
  have dd : (decide (1 ≤ d.op) && decide (d.op ≤ 17)) = true := h
  clear h
  go_enter Tryz.func94, Tryz.ntmps94
  go_wp2_with (go_at_call 55; refine (inS _ _ _ _).mono ?_; rintro e w' ⟨rfl, rfl⟩)
  go_ret
  refine ⟨_, _, rfl, own_mk2 rfl (by simp) (two_cells d.a d.b), ((Below.refl _ _).alloc (Nat.le_refl _) _).alloc (by simp) _⟩
set_option maxHeartbeats 1000000 in
theorem bk_oper (a b : Int) (w : World) : Calls Tryz.prog 172 #[.agg #[.int .i64 a, .int .i64 b]] w fun e w' => ∃ u c, e = .returned (.slice u 2 c) ∧ OwnAt w' w.heap.size u [a, b] ∧ Below w.heap.size w w' := by
  go_enter Tryz.func172, Tryz.ntmps172
  go_wp2_with fail
  go_ret
  refine ⟨_, _, rfl, own_mk2 rfl (by simp) (two_cells a b), ((Below.refl _ _).alloc (Nat.le_refl _) _).alloc (by simp) _⟩
end Go.Proofs.YtojhakjkfkmklaaGreatDoor
namespace Go.Proofs.YtojhakjkfkmklaaGreatDoor
open Go.RowKit

set_option maxHeartbeats 1000000 in
theorem operS_18 (iw a b c imm : Int) (args : List Int) (u : Option Addr) (q : Nat) (w : World) :
    Calls Tryz.prog 94 #[.agg #[.int .i64 18, .int .i64 iw, .int .i64 a, .int .i64 b, .int .i64 c, .int .i64 imm, .slice u args.length q]] w fun e w' => ∃ v r, e = .returned (.slice v 1 r) ∧ OwnAt w' w.heap.size v [a] ∧ Below w.heap.size w w' := by
  go_enter Tryz.func94, Tryz.ntmps94
  go_wp2_with (go_at_call 55; refine (inS _ _ _ _).mono ?_; rintro e w' ⟨rfl, rfl⟩)
  go_ret
  exact ⟨_, _, rfl, own_mk2 rfl (by simp) (one_cells a), ((Below.refl _ _).alloc (Nat.le_refl _) _).alloc (by simp) _⟩
set_option maxHeartbeats 1000000 in
theorem operS_19 (iw a b c imm : Int) (args : List Int) (u : Option Addr) (q : Nat) (w : World) :
    Calls Tryz.prog 94 #[.agg #[.int .i64 19, .int .i64 iw, .int .i64 a, .int .i64 b, .int .i64 c, .int .i64 imm, .slice u args.length q]] w fun e w' => ∃ v r, e = .returned (.slice v 1 r) ∧ OwnAt w' w.heap.size v [a] ∧ Below w.heap.size w w' := by
  go_enter Tryz.func94, Tryz.ntmps94
  go_wp2_with (go_at_call 55; refine (inS _ _ _ _).mono ?_; rintro e w' ⟨rfl, rfl⟩)
  go_ret
  exact ⟨_, _, rfl, own_mk2 rfl (by simp) (one_cells a), ((Below.refl _ _).alloc (Nat.le_refl _) _).alloc (by simp) _⟩
set_option maxHeartbeats 1000000 in
theorem operS_20 (iw a b c imm : Int) (args : List Int) (u : Option Addr) (q : Nat) (w : World) :
    Calls Tryz.prog 94 #[.agg #[.int .i64 20, .int .i64 iw, .int .i64 a, .int .i64 b, .int .i64 c, .int .i64 imm, .slice u args.length q]] w fun e w' => ∃ v r, e = .returned (.slice v 1 r) ∧ OwnAt w' w.heap.size v [a] ∧ Below w.heap.size w w' := by
  go_enter Tryz.func94, Tryz.ntmps94
  go_wp2_with (go_at_call 55; refine (inS _ _ _ _).mono ?_; rintro e w' ⟨rfl, rfl⟩)
  go_ret
  exact ⟨_, _, rfl, own_mk2 rfl (by simp) (one_cells a), ((Below.refl _ _).alloc (Nat.le_refl _) _).alloc (by simp) _⟩
set_option maxHeartbeats 1000000 in
theorem operS_21 (iw a b c imm : Int) (args : List Int) (u : Option Addr) (q : Nat) (w : World) :
    Calls Tryz.prog 94 #[.agg #[.int .i64 21, .int .i64 iw, .int .i64 a, .int .i64 b, .int .i64 c, .int .i64 imm, .slice u args.length q]] w fun e w' => ∃ v r, e = .returned (.slice v 0 r) ∧ OwnAt w' w.heap.size v [] ∧ Below w.heap.size w w' := by
  go_enter Tryz.func94, Tryz.ntmps94
  go_wp2_with (go_at_call 55; refine (inS _ _ _ _).mono ?_; rintro e w' ⟨rfl, rfl⟩)
  go_ret
  exact ⟨_, _, rfl, own_mk2 rfl (by simp) (fun i hi => by simp at hi), ((Below.refl _ _).alloc (Nat.le_refl _) _).alloc (by simp) _⟩
set_option maxHeartbeats 1000000 in
theorem operS_22 (iw a b c imm : Int) (args : List Int) (u : Option Addr) (q : Nat) (w : World) :
    Calls Tryz.prog 94 #[.agg #[.int .i64 22, .int .i64 iw, .int .i64 a, .int .i64 b, .int .i64 c, .int .i64 imm, .slice u args.length q]] w fun e w' => ∃ v r, e = .returned (.slice v 3 r) ∧ OwnAt w' w.heap.size v [a, b, c] ∧ Below w.heap.size w w' := by
  go_enter Tryz.func94, Tryz.ntmps94
  go_wp2_with (go_at_call 55; refine (inS _ _ _ _).mono ?_; rintro e w' ⟨rfl, rfl⟩)
  go_ret
  exact ⟨_, _, rfl, own_mk2 rfl (by simp) (three_cells a b c), ((Below.refl _ _).alloc (Nat.le_refl _) _).alloc (by simp) _⟩
set_option maxHeartbeats 1000000 in
theorem operS_23 (iw a b c imm : Int) (args : List Int) (u : Option Addr) (q : Nat) (w : World) :
    Calls Tryz.prog 94 #[.agg #[.int .i64 23, .int .i64 iw, .int .i64 a, .int .i64 b, .int .i64 c, .int .i64 imm, .slice u args.length q]] w fun e w' => ∃ v r, e = .returned (.slice v 1 r) ∧ OwnAt w' w.heap.size v [a] ∧ Below w.heap.size w w' := by
  go_enter Tryz.func94, Tryz.ntmps94
  go_wp2_with (go_at_call 55; refine (inS _ _ _ _).mono ?_; rintro e w' ⟨rfl, rfl⟩)
  go_ret
  exact ⟨_, _, rfl, own_mk2 rfl (by simp) (one_cells a), ((Below.refl _ _).alloc (Nat.le_refl _) _).alloc (by simp) _⟩
set_option maxHeartbeats 1000000 in
theorem operS_24 (iw a b c imm : Int) (args : List Int) (u : Option Addr) (q : Nat) (w : World) :
    Calls Tryz.prog 94 #[.agg #[.int .i64 24, .int .i64 iw, .int .i64 a, .int .i64 b, .int .i64 c, .int .i64 imm, .slice u args.length q]] w fun e w' => ∃ v r, e = .returned (.slice v 2 r) ∧ OwnAt w' w.heap.size v [a, b] ∧ Below w.heap.size w w' := by
  go_enter Tryz.func94, Tryz.ntmps94
  go_wp2_with (go_at_call 55; refine (inS _ _ _ _).mono ?_; rintro e w' ⟨rfl, rfl⟩)
  go_ret
  exact ⟨_, _, rfl, own_mk2 rfl (by simp) (two_cells a b), ((Below.refl _ _).alloc (Nat.le_refl _) _).alloc (by simp) _⟩
set_option maxHeartbeats 1000000 in
theorem operS_25 (iw a b c imm : Int) (args : List Int) (u : Option Addr) (q : Nat) (w : World) :
    Calls Tryz.prog 94 #[.agg #[.int .i64 25, .int .i64 iw, .int .i64 a, .int .i64 b, .int .i64 c, .int .i64 imm, .slice u args.length q]] w fun e w' => ∃ v r, e = .returned (.slice v 1 r) ∧ OwnAt w' w.heap.size v [a] ∧ Below w.heap.size w w' := by
  go_enter Tryz.func94, Tryz.ntmps94
  go_wp2_with (go_at_call 55; refine (inS _ _ _ _).mono ?_; rintro e w' ⟨rfl, rfl⟩)
  go_ret
  exact ⟨_, _, rfl, own_mk2 rfl (by simp) (one_cells a), ((Below.refl _ _).alloc (Nat.le_refl _) _).alloc (by simp) _⟩
set_option maxHeartbeats 1000000 in
theorem operS_27 (iw a b c imm : Int) (args : List Int) (u : Option Addr) (q : Nat) (w : World) :
    Calls Tryz.prog 94 #[.agg #[.int .i64 27, .int .i64 iw, .int .i64 a, .int .i64 b, .int .i64 c, .int .i64 imm, .slice u args.length q]] w fun e w' => ∃ v r, e = .returned (.slice v 1 r) ∧ OwnAt w' w.heap.size v [a] ∧ Below w.heap.size w w' := by
  go_enter Tryz.func94, Tryz.ntmps94
  go_wp2_with (go_at_call 55; refine (inS _ _ _ _).mono ?_; rintro e w' ⟨rfl, rfl⟩)
  go_ret
  exact ⟨_, _, rfl, own_mk2 rfl (by simp) (one_cells a), ((Below.refl _ _).alloc (Nat.le_refl _) _).alloc (by simp) _⟩
set_option maxHeartbeats 1000000 in
theorem operS_26 (lo : Nat) (iw a b c imm : Int) (args : List Int) (u : Option Addr) (q : Nat) (w : World) (hs : args.length ≤ 1048576) (k : IntsAt w lo u args) :
    Calls Tryz.prog 94 #[.agg #[.int .i64 26, .int .i64 iw, .int .i64 a, .int .i64 b, .int .i64 c, .int .i64 imm, .slice u args.length q]] w fun e w' => ∃ v r, e = .returned (.slice v args.length r) ∧ OwnAt w' w.heap.size v args ∧ Below w.heap.size w w' := by
  go_enter Tryz.func94, Tryz.ntmps94
  go_wp2_with (first | (go_at_call 55; refine (inS _ _ _ _).mono ?_; rintro e w' ⟨rfl, rfl⟩) | (go_at_call 126; refine (copyS_any lo _ _ _ _ hs (k.keep (agree_alloc _ _ _))).mono ?_; rintro e w1 ⟨v, r, rfl, ho, hb1⟩))
  go_ret
  exact ⟨_, _, rfl, ho.low (by simp), ((Below.refl _ _).alloc (Nat.le_refl _) _).trans (hb1.mono (by simp))⟩
set_option maxHeartbeats 1000000 in
theorem operS_no (op iw a b c imm : Int) (args : List Int) (u : Option Addr) (q : Nat) (w : World) (h : op < 1 ∨ 27 < op) :
    Calls Tryz.prog 94 #[.agg #[.int .i64 op, .int .i64 iw, .int .i64 a, .int .i64 b, .int .i64 c, .int .i64 imm, .slice u args.length q]] w fun e w' => ∃ v r, e = .returned (.slice v 0 r) ∧ OwnAt w' w.heap.size v [] ∧ Below w.heap.size w w' := by
  have d1 : (decide (1 ≤ op) && decide (op ≤ 17)) = false := by simp; omega
  have d2 : (decide (18 ≤ op) && decide (op ≤ 20)) = false := by simp; omega
  have e1 : ¬ op = 24 := by omega
  have e2 : ¬ op = 23 := by omega
  have e3 : ¬ op = 25 := by omega
  have e4 : ¬ op = 27 := by omega
  have e5 : ¬ op = 22 := by omega
  have e6 : ¬ op = 26 := by omega
  clear h
  go_enter Tryz.func94, Tryz.ntmps94
  go_wp2_with (go_at_call 55; refine (inS _ _ _ _).mono ?_; rintro e w' ⟨rfl, rfl⟩)
  go_ret
  exact ⟨_, _, rfl, own_mk2 rfl (by simp) (fun i hi => by simp at hi), ((Below.refl _ _).alloc (Nat.le_refl _) _).alloc (by simp) _⟩
theorem operS (lo : Nat) (d : InstD) (u : Option Addr) (q : Nat) (w : World) (hs : d.args.length ≤ 1048576) (k : IntsAt w lo u d.args) :
    Calls Tryz.prog 94 #[.agg #[.int .i64 d.op, .int .i64 d.w, .int .i64 d.a, .int .i64 d.b, .int .i64 d.c, .int .i64 d.imm, .slice u d.args.length q]] w fun e w' => ∃ v r, e = .returned (.slice v (opsD d).length r) ∧ OwnAt w' w.heap.size v (opsD d) ∧ Below w.heap.size w w' := by
  rcases op_split d.op with h | h
  · exact operS_bin d u q w h
  obtain ⟨op, iw, a, b, c, imm, args⟩ := d
  dsimp only at h hs k ⊢
  rcases h with h | h | h | h | h | h | h | h | h | h | ⟨ho, h⟩
  · subst h
    have E : opsD ⟨18, iw, a, b, c, imm, args⟩ = [a] := by rfl
    rw [E]
    exact operS_18 iw a b c imm args u q w
  · subst h
    have E : opsD ⟨19, iw, a, b, c, imm, args⟩ = [a] := by rfl
    rw [E]
    exact operS_19 iw a b c imm args u q w
  · subst h
    have E : opsD ⟨20, iw, a, b, c, imm, args⟩ = [a] := by rfl
    rw [E]
    exact operS_20 iw a b c imm args u q w
  · subst h
    have E : opsD ⟨21, iw, a, b, c, imm, args⟩ = [] := by rfl
    rw [E]
    exact operS_21 iw a b c imm args u q w
  · subst h
    have E : opsD ⟨22, iw, a, b, c, imm, args⟩ = [a, b, c] := by rfl
    rw [E]
    exact operS_22 iw a b c imm args u q w
  · subst h
    have E : opsD ⟨23, iw, a, b, c, imm, args⟩ = [a] := by rfl
    rw [E]
    exact operS_23 iw a b c imm args u q w
  · subst h
    have E : opsD ⟨24, iw, a, b, c, imm, args⟩ = [a, b] := by rfl
    rw [E]
    exact operS_24 iw a b c imm args u q w
  · subst h
    have E : opsD ⟨25, iw, a, b, c, imm, args⟩ = [a] := by rfl
    rw [E]
    exact operS_25 iw a b c imm args u q w
  · subst h
    have E : opsD ⟨26, iw, a, b, c, imm, args⟩ = args := by rfl
    rw [E]
    exact operS_26 lo iw a b c imm args u q w hs k
  · subst h
    have E : opsD ⟨27, iw, a, b, c, imm, args⟩ = [a] := by rfl
    rw [E]
    exact operS_27 iw a b c imm args u q w
  · have E : opsD ⟨op, iw, a, b, c, imm, args⟩ = [] := by
      have e0 : ¬ opB op = true := by rw [ho]; decide
      unfold opsD
      dsimp only
      rw [if_neg (by simp only [not_or]; exact ⟨e0, by omega⟩), if_neg (by omega), if_neg (by omega), if_neg (by omega)]
    rw [E]
    exact operS_no op iw a b c imm args u q w h
theorem opsD_len (d : InstD) (hs : d.args.length ≤ 1048576) : (opsD d).length ≤ 1048576 := by
  unfold opsD
  split
  · simp
  · split
    · simp
    · split
      · simp
      · split
        · exact hs
        · simp
end Go.Proofs.YtojhakjkfkmklaaGreatDoor
