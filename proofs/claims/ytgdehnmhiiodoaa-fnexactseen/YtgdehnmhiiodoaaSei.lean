/- Lists of numbers in memory, and the laws' own functions on them. -/
import Derived.Test.YtgdehnmhiiodoaaRows
import Derived.WalkKit
import Derived.WalkSpells
import Derived.Deep.QuietTactic
import Derived.BigQuiet
import Derived.Deep.RegionWith
import Derived.WalkSmall
import Derived.Laws.AppendOwnNone
import Derived.Deep.LoopGhost
namespace Go.Proofs.Ytgdehnmhiiodoaa
open Go.RowKit

/-- From block lo on all that was there is as it was. -/
def Agree (lo : Nat) (w w' : World) : Prop := w.heap.size ≤ w'.heap.size ∧ ∀ b, lo ≤ b → b < w.heap.size → w'.heap[b]? = w.heap[b]?
theorem Agree.refl (lo : Nat) (w : World) : Agree lo w w := ⟨Nat.le_refl _, fun _ _ _ => rfl⟩
theorem Agree.trans {lo : Nat} {a b c : World} (h : Agree lo a b) (k : Agree lo b c) : Agree lo a c :=
  ⟨Nat.le_trans h.1 k.1, fun i hi hl => (k.2 i hi (Nat.lt_of_lt_of_le hl h.1)).trans (h.2 i hi hl)⟩
theorem Agree.mono {lo lo' : Nat} {a b : World} (h : Agree lo a b) (hl : lo ≤ lo') : Agree lo' a b := ⟨h.1, fun i hi hb => h.2 i (Nat.le_trans hl hi) hb⟩
theorem agree_of_below {w w' : World} (h : Below w.heap.size w w') (lo : Nat) : Agree lo w w' := ⟨h.size, fun b _ hb => h.block b hb⟩
theorem agree_alloc (w : World) (o : Obj) (lo : Nat) : Agree lo w (w.alloc o) := ⟨by simp, fun b _ hb => Below.heap_alloc w o b hb⟩
theorem agree_setCell (w : World) (g o lo : Nat) (v : Value) (h : g < lo) : Agree lo w (w.setCell ⟨g, o, none⟩ v) :=
  ⟨by simp [World.setCell], fun b hb _ => Below.heap_setCell _ _ _ _ (by show b ≠ g; omega)⟩
theorem cell_block {w w' : World} {b o : Nat} (h : w'.heap[b]? = w.heap[b]?) : w'.cell? ⟨b, o, none⟩ = w.cell? ⟨b, o, none⟩ := by
  unfold World.cell?; rw [h]
theorem cell_agree {lo : Nat} {w w' : World} (h : Agree lo w w') {b o : Nat} (hl : lo ≤ b) (hb : b < w.heap.size) : w'.cell? ⟨b, o, none⟩ = w.cell? ⟨b, o, none⟩ := by
  unfold World.cell?; rw [h.2 b hl hb]
theorem bcell {W w1 : World} (hb : Below W.heap.size W w1) : ∀ b o, b < W.heap.size → w1.cell? ⟨b, o, none⟩ = W.cell? ⟨b, o, none⟩ := fun b o h => hb.cell (p := ⟨b, o, none⟩) h
theorem bfroz {W w1 : World} (hb : Below W.heap.size W w1) : ∀ b o, b < W.heap.size → w1.frozen? ⟨b, o, none⟩ = W.frozen? ⟨b, o, none⟩ := fun b o h => hb.frozen (p := ⟨b, o, none⟩) h
theorem drop_get {α : Type} (z : α) (l : List α) (k : Nat) (h : k < l.length) : l.drop k = l.getD k z :: l.drop (k + 1) := by
  rw [List.drop_eq_getElem_cons h]; simp [List.getD, h]
theorem getD_mem {α : Type} (z : α) (l : List α) (k : Nat) (h : k < l.length) : l.getD k z ∈ l := by simp [List.getD, h]

/-- A slice of numbers, in a block from lo on. -/
def IntsAt (w : World) (lo : Nat) (a : Option Addr) (l : List Int) : Prop :=
  l.length ≤ 9223372036854775807 ∧ (l = [] ∨ ∃ b off, a = some ⟨b, off, none⟩ ∧ lo ≤ b ∧ b < w.heap.size ∧ ∀ i, i < l.length → w.cell? ⟨b, off + i, none⟩ = some (.int .i64 (l.getD i 0)))
theorem IntsAt.keep {w w' : World} {lo : Nat} {a : Option Addr} {l : List Int} (h : IntsAt w lo a l) (k : Agree lo w w') : IntsAt w' lo a l := by
  obtain ⟨hm, h⟩ := h
  refine ⟨hm, ?_⟩
  rcases h with h | ⟨b, off, ha, hl, hb, hc⟩
  · exact .inl h
  · exact .inr ⟨b, off, ha, hl, Nat.lt_of_lt_of_le hb k.1, fun i hi => (cell_agree k hl hb).trans (hc i hi)⟩
theorem IntsAt.low {w : World} {lo lo' : Nat} {a : Option Addr} {l : List Int} (h : IntsAt w lo a l) (k : lo' ≤ lo) : IntsAt w lo' a l := by
  obtain ⟨hm, h⟩ := h
  refine ⟨hm, ?_⟩
  rcases h with h | ⟨b, off, ha, hl, hb, hc⟩
  · exact .inl h
  · exact .inr ⟨b, off, ha, Nat.le_trans k hl, hb, hc⟩
def szI (n : Nat) (left : Int) : Int := if left - n < 0 then -1 else left - n
def szL {α : Type} (f : α → Int → Int) : List α → Int → Int
  | [], x => x
  | d :: r, x => if f d x < 0 then -1 else szL f r (f d x)
def szS {α : Type} (f : α → Int → Int) (l : List α) (x : Int) : Int := if x - l.length < 0 then -1 else szL f l (x - l.length)
/-- What is left is -1, or no more than was there. -/
def Falls {α : Type} (f : α → Int → Int) : Prop := ∀ d x, 0 ≤ x → f d x = -1 ∨ (0 ≤ f d x ∧ f d x ≤ x)
theorem szI_falls (n : Nat) (x : Int) : szI n x = -1 ∨ (0 ≤ szI n x ∧ szI n x ≤ x) := by unfold szI; split <;> omega
theorem szL_falls {α : Type} {f : α → Int → Int} (hf : Falls f) : ∀ (l : List α) (x : Int), 0 ≤ x → szL f l x = -1 ∨ (0 ≤ szL f l x ∧ szL f l x ≤ x)
  | [], x, hx => .inr ⟨hx, Int.le_refl _⟩
  | d :: r, x, hx => by
    unfold szL
    rcases hf d x hx with h | ⟨h, h'⟩
    · rw [if_pos (by omega)]; exact .inl rfl
    · rw [if_neg (by omega)]
      rcases szL_falls hf r (f d x) h with k | ⟨k, k'⟩
      · exact .inl k
      · exact .inr ⟨k, by omega⟩
theorem szS_falls {α : Type} {f : α → Int → Int} (hf : Falls f) (l : List α) (x : Int) : szS f l x = -1 ∨ (0 ≤ szS f l x ∧ szS f l x ≤ x) := by
  unfold szS; split
  · exact .inl rfl
  · rcases szL_falls hf l (x - l.length) (by omega) with h | h
    · exact .inl h
    · exact .inr ⟨h.1, by omega⟩
theorem szL_each {α : Type} {f : α → Int → Int} (hf : Falls f) : ∀ (l : List α) (x : Int), 0 ≤ x → 0 ≤ szL f l x → ∀ d ∈ l, ∃ y, 0 ≤ y ∧ y ≤ x ∧ 0 ≤ f d y
  | [], _, _, _, _, hd => by cases hd
  | c :: r, x, hx, h, d, hd => by
    unfold szL at h
    rcases hf c x hx with k | ⟨k, k'⟩
    · rw [if_pos (by omega)] at h; omega
    · rw [if_neg (by omega)] at h
      rcases List.mem_cons.1 hd with rfl | hd
      · exact ⟨x, hx, Int.le_refl _, k⟩
      · obtain ⟨y, y0, y1, y2⟩ := szL_each hf r (f c x) k h d hd
        exact ⟨y, y0, by omega, y2⟩
theorem szS_each {α : Type} {f : α → Int → Int} (hf : Falls f) {l : List α} {x : Int} (h : 0 ≤ szS f l x) : (l.length : Int) ≤ x ∧ ∀ d ∈ l, ∃ y, 0 ≤ y ∧ y ≤ x ∧ 0 ≤ f d y := by
  unfold szS at h
  split at h
  · omega
  · refine ⟨by omega, fun d hd => ?_⟩
    obtain ⟨y, y0, y1, y2⟩ := szL_each hf l (x - l.length) (by omega) h d hd
    exact ⟨y, y0, by omega, y2⟩
theorem szI_small {n : Nat} {x : Int} (hx : x ≤ 1048576) (h : 0 ≤ szI n x) : n ≤ 1048576 := by unfold szI at h; split at h <;> omega
theorem ret_i {a b : Int} (h : a = b) : Ending.returned (.int .i64 a) = .returned (.int .i64 b) := by rw [h]

theorem szInts_any (a : Option Addr) (n cap : Nat) (x : Int) (w : World) (h0 : 0 ≤ x) (h1 : x ≤ 1048576) (hn : n ≤ 9223372036854775807) :
    Calls Try.prog 11 #[.slice a n cap, .int .i64 x] w fun e w' => e = .returned (.int .i64 (szI n x)) ∧ w' = w := by
  by_cases hc : x - n < 0
  · have E : Hid (-1 = szI n x) := by show _ = _; rw [szI, if_pos hc]
    go_enter Try.func11, Try.ntmps11
    go_wp2_with fail
    go_ret
    exact ⟨ret_i E.out, rfl⟩
  · have E : Hid (x - n = szI n x) := by show _ = _; rw [szI, if_neg hc]
    go_enter Try.func11, Try.ntmps11
    go_wp2_with fail
    go_ret
    exact ⟨ret_i E.out, rfl⟩

theorem heap_alloc_last (w : World) (o : Obj) : (w.alloc o).heap[w.heap.size]? = some o := by
  show (w.heap.push o)[w.heap.size]? = _
  simp
theorem cell_of_heap {w : World} {g o : Nat} {cur : Array Value} {t : TypeId} (h : w.heap[g]? = some (.cells cur t (0, 0))) : w.cell? ⟨g, o, none⟩ = cur[o]? := by
  unfold World.cell?; rw [h]; rfl
theorem froz_of_heap {w : World} {g o : Nat} {cur : Array Value} {t : TypeId} (h : w.heap[g]? = some (.cells cur t (0, 0))) : w.frozen? ⟨g, o, none⟩ = false := by
  unfold World.frozen?; rw [h]; rfl
theorem heap_set {w : World} {g o : Nat} {cur : Array Value} {t : TypeId} {v : Value} (h : w.heap[g]? = some (.cells cur t (0, 0))) : (w.setCell ⟨g, o, none⟩ v).heap[g]? = some (.cells (cur.setIfInBounds o v) t (0, 0)) := by
  show (w.heap.modify g _)[g]? = _
  rw [Array.getElem?_modify, if_pos rfl, h]
  rfl
theorem heap_other {w : World} {g : Nat} {p : Addr} {v : Value} {x : Option Obj} (hp : g ≠ p.block) (h : w.heap[g]? = x) : (w.setCell p v).heap[g]? = x := (Below.heap_setCell w p v g hp).trans h
theorem heap_mid (w : World) (o1 o2 o3 : Obj) : (((w.alloc o1).alloc o2).alloc o3).heap[w.heap.size + 1]? = some o2 := by
  rw [Below.heap_alloc _ _ _ (by simp)]
  have h := heap_alloc_last (w.alloc o1) o2
  have e : (w.alloc o1).heap.size = w.heap.size + 1 := by simp
  rw [e] at h
  exact h
theorem heap_alloc_at (w : World) (o : Obj) : (w.alloc o).heap[w.heap.size]? = some o := by
  show (w.heap.push o)[w.heap.size]? = _
  simp
theorem mk_any {t e : TypeId} {i : TypeInfo} {z : Value} {s by' : Nat} (n : Nat) (ht : Try.prog.underlying t = some (.slice e)) (hi : Try.prog.info? e = some i) (hz : i.zero = some z) (hs : i.size = s) (hb : i.bytes = by') (hm : by' ≤ 1000) (hn : n ≤ 1048576) (W : World) :
    (Instr.makeSlice t (.int .i64 (n : Int)) (.int .i64 (n : Int))).run Try.prog W = .ok (.slice (some ⟨W.heap.size, 0, none⟩) n n) (W.alloc (.cells (madeCells z.cells (n * s)) e)) := by
  subst hs hb
  have h := run_make (P := Try.prog) W t e i z ht hi hz .i64 .i64 n n (by omega) (Int.le_refl _) (by
    have : i.bytes * n ≤ 1000 * 1048576 := Nat.mul_le_mul hm hn
    have h2 : ((i.bytes * n : Nat) : Int) ≤ 1048576000 := by omega
    rw [Int.natCast_mul] at h2; omega) (by omega)
  simpa using h
theorem infoI : (Try.prog.info? 2).map (fun i => (i.zero, i.size, i.bytes)) = some (some (.int .i64 0), 1, 8) := by kernel_rfl

set_option maxHeartbeats 1000000 in
theorem toInts_any (lo : Nat) (a : Option Addr) (cap : Nat) (l : List Int) (w : World) (hl : l.length ≤ 1048576) (hv : IntsAt w lo a l) :
    Calls Try.prog 13 #[.slice a l.length cap] w fun e w' => ∃ u c, e = .returned (.slice u l.length c) ∧ IntsAt w' w.heap.size u l ∧ Below w.heap.size w w' := by
  obtain ⟨i0, hi, hz0, hz1, hz2⟩ := info_parts infoI
  have hmk := mk_any (t := 22) l.length Try.underlying22 hi hz0 hz1 hz2 (by omega) hl
  clear hi hz0 hz1 hz2
  have hm := hv.1
  go_enter Try.func13, Try.ntmps13
  go_wp2_with fail
  go_loopw [4] (fun i wr => ∃ (k : Nat) (cur : Array Value), k ≤ l.length ∧ i = .int .i64 k ∧ cur.size = l.length ∧ wr.heap[w.heap.size]? = some (.cells cur 2 (0, 0)) ∧ (∀ j, j < k → cur[j]? = some (.int .i64 (l.getD j 0))) ∧ Below w.heap.size w wr) (fun i _ => l.length - (intOf i).toNat)
  case atStart => exact ⟨0, _, by omega, rfl, by simp [size_madeCells], heap_alloc_at _ _, fun j hj => by omega, (Below.refl _ _).alloc (Nat.le_refl _) _⟩
  case round =>
    obtain ⟨k, cur, hk, rfl, hcs, hblk, hdone, hB⟩ := hrel
    by_cases hlt : k < l.length
    · rcases hv.2 with rfl | ⟨b, off, rfl, hlo, hb, hcell⟩
      · simp at hlt
      have e0 : wr.cell? ⟨b, off + k, none⟩ = some (.int .i64 (l.getD k 0)) := (cell_block (hB.block b hb)).trans (hcell k hlt)
      have e1 : wr.cell? ⟨w.heap.size, k, none⟩ = some (cur[k]'(by omega)) := by rw [cell_of_heap hblk]; simp [hcs, hlt]
      have e2 : wr.frozen? ⟨w.heap.size, k, none⟩ = false := froz_of_heap hblk
      have hdone2 : ∀ j, j < k + 1 → (cur.setIfInBounds k (.int .i64 (l.getD k 0)))[j]? = some (.int .i64 (l.getD j 0)) := fun j hj => by
        by_cases hjk : j = k
        · subst hjk; simp [hcs, hlt]
        · rw [Array.getElem?_setIfInBounds_ne (by omega)]; exact hdone j (by omega)
      have HD : Hid (∀ j, j < k + 1 → (cur.setIfInBounds k (.int .i64 (l.getD k 0)))[j]? = some (.int .i64 (l.getD j 0))) := hdone2
      have HH : Hid ((wr.setCell ⟨w.heap.size, k, none⟩ (.int .i64 (l.getD k 0))).heap[w.heap.size]? = some (.cells (cur.setIfInBounds k (.int .i64 (l.getD k 0))) 2 (0, 0))) := heap_set hblk
      generalize l.getD k 0 = d at e0 HD HH
      clear hmk hdone hdone2 hblk
      go_wp2_with fail
      go_roundw
      case rel => exact ⟨k + 1, _, by omega, by go_num, by simpa using hcs, HH.out, HD.out, hB.setCell (Nat.le_refl _) _⟩
      case measure => simp [intOf]; omega
    · have hke : k = l.length := by omega
      have HH : Hid (wr.heap[w.heap.size]? = some (.cells cur 2 (0, 0))) := hblk
      clear hmk hblk
      go_wp2_with fail
      go_ret
      refine ⟨_, _, rfl, ⟨hm, .inr ⟨w.heap.size, 0, rfl, Nat.le_refl _, ?_, fun i hi => ?_⟩⟩, hB⟩
      · exact (Array.getElem?_eq_some_iff.1 HH.out).1
      · rw [Nat.zero_add, cell_of_heap HH.out]; exact hdone i (by omega)

set_option maxHeartbeats 1000000 in
theorem eqInts_any (lo lo' : Nat) (a b : Option Addr) (ca cb : Nat) (l : List Int) (w : World) (ha : IntsAt w lo a l) (hb : IntsAt w lo' b l) :
    Calls Try.prog 15 #[.slice a l.length ca, .slice b l.length cb] w fun e w' => e = .returned (.bool true) ∧ Below w.heap.size w w' := by
  have hm := ha.1
  go_enter Try.func15, Try.ntmps15
  go_wp2_with fail
  go_loopw [5] (fun i wr => ∃ (k : Nat), k ≤ l.length ∧ i = .int .i64 k ∧ Below w.heap.size w wr) (fun i _ => l.length - (intOf i).toNat)
  case atStart => exact ⟨0, by omega, rfl, Below.refl _ _⟩
  case round =>
    obtain ⟨k, hk, rfl, hB⟩ := hrel
    by_cases hlt : k < l.length
    · rcases ha.2 with rfl | ⟨ba, offa, rfl, hla, hba, hca⟩
      · simp at hlt
      rcases hb.2 with rfl | ⟨bb, offb, rfl, hlb, hbb, hcb⟩
      · simp at hlt
      have e0 : wr.cell? ⟨ba, offa + k, none⟩ = some (.int .i64 (l.getD k 0)) := (cell_block (hB.block ba hba)).trans (hca k hlt)
      have e1 : wr.cell? ⟨bb, offb + k, none⟩ = some (.int .i64 (l.getD k 0)) := (cell_block (hB.block bb hbb)).trans (hcb k hlt)
      generalize l.getD k 0 = d at e0 e1
      have HB : Hid (Below w.heap.size w wr) := hB
      clear hca hcb hB ha hb
      go_wp2_with fail
      go_quiet (fail)
      go_wp2_with fail
      go_roundw
      case rel => exact ⟨k + 1, by omega, by go_num, below_drewN HB.out _⟩
      case measure => simp [intOf]; omega
    · go_wp2_with fail
      go_ret
      exact ⟨rfl, hB⟩
def OI (w : World) (lo : Nat) (a : Option Addr) (l : List Int) : Prop :=
  l.length ≤ 9223372036854775807 ∧ (l = [] ∨ ∃ g cur, a = some ⟨g, 0, none⟩ ∧ lo ≤ g ∧ w.heap[g]? = some (.cells cur 2 (0, 0)) ∧ ∀ i, i < l.length → cur[i]? = some (.int .i64 (l.getD i 0)))
theorem OI.keep {w w' : World} {lo : Nat} {a : Option Addr} {l : List Int} (h : OI w lo a l) (k : Agree lo w w') : OI w' lo a l := by
  obtain ⟨hm, h⟩ := h
  refine ⟨hm, ?_⟩
  rcases h with h | ⟨g, cur, ha, hl, hb, hc⟩
  · exact .inl h
  · exact .inr ⟨g, cur, ha, hl, (k.2 g hl (Array.getElem?_eq_some_iff.1 hb).1).trans hb, hc⟩
theorem OI.low {w : World} {lo lo' : Nat} {a : Option Addr} {l : List Int} (h : OI w lo a l) (k : lo' ≤ lo) : OI w lo' a l := by
  obtain ⟨hm, h⟩ := h
  refine ⟨hm, ?_⟩
  rcases h with h | ⟨g, cur, ha, hl, hb, hc⟩
  · exact .inl h
  · exact .inr ⟨g, cur, ha, Nat.le_trans k hl, hb, hc⟩
theorem OI.at {w : World} {lo : Nat} {a : Option Addr} {l : List Int} (h : OI w lo a l) : IntsAt w lo a l := by
  obtain ⟨hm, h⟩ := h
  refine ⟨hm, ?_⟩
  rcases h with h | ⟨g, cur, ha, hl, hb, hc⟩
  · exact .inl h
  · exact .inr ⟨g, 0, ha, hl, (Array.getElem?_eq_some_iff.1 hb).1, fun i hi => (cell_of_heap hb).trans (by simpa using hc i hi)⟩
set_option maxHeartbeats 1000000 in
theorem toInts_own (lo : Nat) (a : Option Addr) (cap : Nat) (l : List Int) (w : World) (hl : l.length ≤ 1048576) (hv : IntsAt w lo a l) :
    Calls Try.prog 13 #[.slice a l.length cap] w fun e w' => ∃ u c, e = .returned (.slice u l.length c) ∧ OI w' w.heap.size u l ∧ Below w.heap.size w w' := by
  obtain ⟨i0, hi, hz0, hz1, hz2⟩ := info_parts infoI
  have hmk := mk_any (t := 22) l.length Try.underlying22 hi hz0 hz1 hz2 (by omega) hl
  clear hi hz0 hz1 hz2
  have hm := hv.1
  go_enter Try.func13, Try.ntmps13
  go_wp2_with fail
  go_loopw [4] (fun i wr => ∃ (k : Nat) (cur : Array Value), k ≤ l.length ∧ i = .int .i64 k ∧ cur.size = l.length ∧ wr.heap[w.heap.size]? = some (.cells cur 2 (0, 0)) ∧ (∀ j, j < k → cur[j]? = some (.int .i64 (l.getD j 0))) ∧ Below w.heap.size w wr) (fun i _ => l.length - (intOf i).toNat)
  case atStart => exact ⟨0, _, by omega, rfl, by simp [size_madeCells], heap_alloc_at _ _, fun j hj => by omega, (Below.refl _ _).alloc (Nat.le_refl _) _⟩
  case round =>
    obtain ⟨k, cur, hk, rfl, hcs, hblk, hdone, hB⟩ := hrel
    by_cases hlt : k < l.length
    · rcases hv.2 with rfl | ⟨b, off, rfl, hlo, hb, hcell⟩
      · simp at hlt
      have e0 : wr.cell? ⟨b, off + k, none⟩ = some (.int .i64 (l.getD k 0)) := (cell_block (hB.block b hb)).trans (hcell k hlt)
      have e1 : wr.cell? ⟨w.heap.size, k, none⟩ = some (cur[k]'(by omega)) := by rw [cell_of_heap hblk]; simp [hcs, hlt]
      have e2 : wr.frozen? ⟨w.heap.size, k, none⟩ = false := froz_of_heap hblk
      have hdone2 : ∀ j, j < k + 1 → (cur.setIfInBounds k (.int .i64 (l.getD k 0)))[j]? = some (.int .i64 (l.getD j 0)) := fun j hj => by
        by_cases hjk : j = k
        · subst hjk; simp [hcs, hlt]
        · rw [Array.getElem?_setIfInBounds_ne (by omega)]; exact hdone j (by omega)
      have HD : Hid (∀ j, j < k + 1 → (cur.setIfInBounds k (.int .i64 (l.getD k 0)))[j]? = some (.int .i64 (l.getD j 0))) := hdone2
      have HH : Hid ((wr.setCell ⟨w.heap.size, k, none⟩ (.int .i64 (l.getD k 0))).heap[w.heap.size]? = some (.cells (cur.setIfInBounds k (.int .i64 (l.getD k 0))) 2 (0, 0))) := heap_set hblk
      generalize l.getD k 0 = d at e0 HD HH
      clear hmk hdone hdone2 hblk
      go_wp2_with fail
      go_roundw
      case rel => exact ⟨k + 1, _, by omega, by go_num, by simpa using hcs, HH.out, HD.out, hB.setCell (Nat.le_refl _) _⟩
      case measure => simp [intOf]; omega
    · have hke : k = l.length := by omega
      have HH : Hid (wr.heap[w.heap.size]? = some (.cells cur 2 (0, 0))) := hblk
      clear hmk hblk
      go_wp2_with fail
      go_ret
      refine ⟨_, _, rfl, ⟨hm, .inr ⟨w.heap.size, cur, rfl, Nat.le_refl _, HH.out, fun i hi => ?_⟩⟩, hB⟩
      · exact hdone i (by omega)

def isI : Value → Bool | .int .i64 _ => true | _ => false
theorem isI_yes {v : Value} (h : isI v = true) : ∃ z, v = .int .i64 z := by
  unfold isI at h
  split at h
  · exact ⟨_, rfl⟩
  · cases h
/-- Where a cell held a number it holds one, else what it held. -/
def Cur (cur cur' : Array Value) : Prop := ∀ (j : Nat) (v : Value), cur[j]? = some v → ∃ v', cur'[j]? = some v' ∧ (isI v = true → isI v' = true) ∧ (isI v = false → v' = v)
theorem Cur.int {cur cur' : Array Value} (h : Cur cur cur') {j : Nat} {z : Int} (hj : cur[j]? = some (.int .i64 z)) : ∃ z : Int, cur'[j]? = some (.int .i64 z) := by
  obtain ⟨v', h1, h2, _⟩ := h j _ hj
  obtain ⟨y, rfl⟩ := isI_yes (h2 rfl)
  exact ⟨y, h1⟩
theorem Cur.slice {cur cur' : Array Value} (h : Cur cur cur') {j : Nat} {u : Option Addr} {n c : Nat} (hj : cur[j]? = some (.slice u n c)) : cur'[j]? = some (.slice u n c) := by
  obtain ⟨v', h1, _, h3⟩ := h j _ hj
  rw [h1, h3 rfl]
theorem Cur.refl (cur : Array Value) : Cur cur cur := fun _ v h => ⟨v, h, fun h => h, fun _ => rfl⟩
theorem Cur.trans {a b c : Array Value} (h : Cur a b) (k : Cur b c) : Cur a c := fun j v hv => by
  obtain ⟨v1, h1, h2, h3⟩ := h j v hv
  obtain ⟨v2, k1, k2, k3⟩ := k j v1 h1
  refine ⟨v2, k1, fun e => k2 (h2 e), fun e => ?_⟩
  have e1 := h3 e
  subst e1
  exact k3 e
theorem Cur.set {cur : Array Value} {o : Nat} {z : Int} (h : cur[o]? = some (.int .i64 z)) (y : Int) : Cur cur (cur.setIfInBounds o (.int .i64 y)) := fun j v hv => by
  by_cases e : o = j
  · subst e
    rw [h] at hv
    cases hv
    have hlt := (Array.getElem?_eq_some_iff.1 h).1
    exact ⟨.int .i64 y, by simp [hlt], fun _ => rfl, fun e => by cases e⟩
  · exact ⟨v, by rw [Array.getElem?_setIfInBounds_ne e]; exact hv, fun h => h, fun _ => rfl⟩
/-- Of the blocks from lo to hi only numbers were turned; no other block was touched. -/
structure Hdr (lo hi : Nat) (w w' : World) : Prop where
  os : w'.os = w.os
  tape : w'.tape = w.tape
  output : w'.output = w.output
  size : w.heap.size ≤ w'.heap.size
  out : ∀ g : Nat, g < lo ∨ hi ≤ g → g < w.heap.size → w'.heap[g]? = w.heap[g]?
  cells : ∀ (g : Nat) (cur : Array Value) (T : TypeId), w.heap[g]? = some (.cells cur T (0, 0)) → ∃ cur', w'.heap[g]? = some (.cells cur' T (0, 0)) ∧ Cur cur cur'
theorem Hdr.refl (lo hi : Nat) (w : World) : Hdr lo hi w w := ⟨rfl, rfl, rfl, Nat.le_refl _, fun _ _ _ => rfl, fun _ cur _ h => ⟨cur, h, Cur.refl _⟩⟩
theorem Hdr.trans {lo hi : Nat} {a b c : World} (h : Hdr lo hi a b) (k : Hdr lo hi b c) : Hdr lo hi a c :=
  ⟨k.os.trans h.os, k.tape.trans h.tape, k.output.trans h.output, Nat.le_trans h.size k.size, fun g hg hl => (k.out g hg (Nat.lt_of_lt_of_le hl h.size)).trans (h.out g hg hl), fun g cur T hc => by
    obtain ⟨c1, h1, h2⟩ := h.cells g cur T hc
    obtain ⟨c2, k1, k2⟩ := k.cells g c1 T h1
    exact ⟨c2, k1, h2.trans k2⟩⟩
theorem Hdr.alloc (lo hi : Nat) (w : World) (o : Obj) : Hdr lo hi w (w.alloc o) :=
  ⟨rfl, rfl, rfl, by simp, fun g _ hl => Below.heap_alloc w o g hl, fun g cur T hc => ⟨cur, (Below.heap_alloc w o g (Array.getElem?_eq_some_iff.1 hc).1).trans hc, Cur.refl _⟩⟩
theorem Hdr.store {lo hi : Nat} {w w1 : World} (h : Hdr lo hi w w1) {g o : Nat} {cur : Array Value} {T : TypeId} {z : Int} (hc : w.heap[g]? = some (.cells cur T (0, 0))) (ho : cur[o]? = some (.int .i64 z)) (hl : lo ≤ g) (hh : g < hi) (y : Int) :
    Hdr lo hi w (w1.setCell ⟨g, o, none⟩ (.int .i64 y)) := by
  refine h.trans ⟨rfl, rfl, rfl, by simp [World.setCell], fun k hk _ => Below.heap_setCell _ _ _ _ (by show k ≠ g; omega), fun k c1 T1 h1 => ?_⟩
  by_cases e : k = g
  · subst e
    obtain ⟨c2, h2, h3⟩ := h.cells k cur T hc
    rw [h2] at h1
    cases h1
    obtain ⟨z1, hz1⟩ := h3.int ho
    exact ⟨_, heap_set h2, Cur.set hz1 y⟩
  · exact ⟨c1, (Below.heap_setCell _ _ _ _ (by show k ≠ g; omega)).trans h1, Cur.refl _⟩
/-- What a store wants to know, behind other stores. -/
theorem Hdr.cell {lo hi : Nat} {w w1 : World} (h : Hdr lo hi w w1) {g o : Nat} {cur : Array Value} {T : TypeId} {z : Int} (hc : w.heap[g]? = some (.cells cur T (0, 0))) (ho : cur[o]? = some (.int .i64 z)) :
    (∃ y : Int, w1.cell? ⟨g, o, none⟩ = some (.int .i64 y)) ∧ w1.frozen? ⟨g, o, none⟩ = false := by
  obtain ⟨c2, h2, h3⟩ := h.cells g cur T hc
  obtain ⟨z1, hz1⟩ := h3.int ho
  exact ⟨⟨z1, (cell_of_heap h2).trans hz1⟩, froz_of_heap h2⟩
theorem Hdr.head {lo hi : Nat} {w w1 : World} (h : Hdr lo hi w w1) {g o : Nat} {cur : Array Value} {T : TypeId} {u : Option Addr} {n c : Nat} (hc : w.heap[g]? = some (.cells cur T (0, 0))) (ho : cur[o]? = some (.slice u n c)) :
    w1.cell? ⟨g, o, none⟩ = some (.slice u n c) := by
  obtain ⟨c2, h2, h3⟩ := h.cells g cur T hc
  exact (cell_of_heap h2).trans (h3.slice ho)
def SI (w : World) (lo hi : Nat) (a : Option Addr) (n : Nat) : Prop :=
  n = 0 ∨ ∃ g cur, a = some ⟨g, 0, none⟩ ∧ lo ≤ g ∧ g < hi ∧ w.heap[g]? = some (.cells cur 2 (0, 0)) ∧ ∀ i, i < n → ∃ z : Int, cur[i]? = some (.int .i64 z)
theorem SI.keep {w w' : World} {lo hi : Nat} {a : Option Addr} {n : Nat} (h : SI w lo hi a n) (k : Hdr lo hi w w') : SI w' lo hi a n := by
  rcases h with h | ⟨g, cur, ha, hl, hh, hb, hc⟩
  · exact .inl h
  · obtain ⟨cur', hb', hi⟩ := k.cells g cur _ hb
    exact .inr ⟨g, cur', ha, hl, hh, hb', fun i hi' => by obtain ⟨z, hz⟩ := hc i hi'; exact hi.int hz⟩
theorem OI.sh {w : World} {lo : Nat} {a : Option Addr} {l : List Int} (h : OI w lo a l) : SI w lo w.heap.size a l.length := by
  rcases h.2 with h | ⟨g, cur, ha, hl, hb, hc⟩
  · exact .inl (by simp [h])
  · exact .inr ⟨g, cur, ha, hl, (Array.getElem?_eq_some_iff.1 hb).1, hb, fun i hi' => ⟨_, hc i hi'⟩⟩
/-- Only one block was touched. -/
structure Only (g : Nat) (w w' : World) : Prop where
  os : w'.os = w.os
  tape : w'.tape = w.tape
  output : w'.output = w.output
  size : w'.heap.size = w.heap.size
  other : ∀ k : Nat, k ≠ g → w'.heap[k]? = w.heap[k]?
theorem Only.refl (g : Nat) (w : World) : Only g w w := ⟨rfl, rfl, rfl, rfl, fun _ _ => rfl⟩
theorem Only.set {g : Nat} {w w1 : World} (h : Only g w w1) (o : Nat) (v : Value) : Only g w (w1.setCell ⟨g, o, none⟩ v) :=
  ⟨h.os, h.tape, h.output, by simp [World.setCell]; exact h.size, fun k hk => (Below.heap_setCell _ _ _ _ hk).trans (h.other k hk)⟩
/-- The numbers from k on. -/
def marks (k : Int) (n : Nat) : List Int := (List.range n).map fun i : Nat => k + (i : Int)
theorem marks_len (k : Int) (n : Nat) : (marks k n).length = n := by simp [marks]
theorem marks_at (k : Int) {n i : Nat} (h : i < n) : (marks k n).getD i 0 = k + i := by simp [marks, List.getD, h]

set_option maxHeartbeats 1000000 in
theorem markVals (g c n : Nat) (k : Int) (cur : Array Value) (w : World) (hn : n ≤ 1048576) (hk0 : 0 ≤ k) (hk : k ≤ 4611686018427387904) (hb : w.heap[g]? = some (.cells cur 2 (0, 0))) (hc : ∀ i, i < n → ∃ z : Int, cur[i]? = some (.int .i64 z)) :
    Calls Try.prog 16 #[.slice (some ⟨g, 0, none⟩) n c, .int .i64 k] w fun e w' => e = .returned (.int .i64 (k + n)) ∧ Only g w w' ∧ ∃ cur', w'.heap[g]? = some (.cells cur' 2 (0, 0)) ∧ Cur cur cur' ∧ ∀ i, i < n → cur'[i]? = some (.int .i64 (k + i)) := by
  have HB : Hid (w.heap[g]? = some (.cells cur 2 (0, 0))) := hb
  have HC : Hid (∀ i, i < n → ∃ z : Int, cur[i]? = some (.int .i64 z)) := hc
  clear hb hc
  go_enter Try.func16, Try.ntmps16
  go_wp2_with fail
  go_loopw [1, 5] (fun q i wr => ∃ (j : Nat) (cj : Array Value), j ≤ n ∧ i = .int .i64 j ∧ q = .int .i64 (k + j) ∧ Hid (wr.heap[g]? = some (.cells cj 2 (0, 0))) ∧ Hid (Cur cur cj) ∧ Hid (∀ i, i < j → cj[i]? = some (.int .i64 (k + i))) ∧ Hid (Only g w wr)) (fun _ i _ => n - (intOf i).toNat)
  case atStart => exact ⟨0, cur, by omega, rfl, by simp, HB.out, Cur.refl _, fun i hi => by omega, Only.refl _ _⟩
  case round =>
    obtain ⟨j, cj, hj, rfl, rfl, HJ, HCu, HD, HO⟩ := hrel
    by_cases hlt : j < n
    · obtain ⟨z, hz⟩ := HC.out j hlt
      obtain ⟨y, hy⟩ := HCu.out.int hz
      have e1 : wr.cell? ⟨g, j, none⟩ = some (.int .i64 y) := (cell_of_heap HJ.out).trans hy
      have e2 : wr.frozen? ⟨g, j, none⟩ = false := froz_of_heap HJ.out
      have HH : Hid ((wr.setCell ⟨g, j, none⟩ (.int .i64 (k + j))).heap[g]? = some (.cells (cj.setIfInBounds j (.int .i64 (k + j))) 2 (0, 0))) := heap_set HJ.out
      have HC2 : Hid (Cur cur (cj.setIfInBounds j (.int .i64 (k + j)))) := HCu.out.trans (Cur.set hy _)
      have HD2 : Hid (∀ i, i < j + 1 → (cj.setIfInBounds j (.int .i64 (k + j)))[i]? = some (.int .i64 (k + i))) := fun i hi => by
        by_cases e : i = j
        · subst e
          have hl := (Array.getElem?_eq_some_iff.1 hy).1
          simp [hl]
        · rw [Array.getElem?_setIfInBounds_ne (by omega)]; exact HD.out i (by omega)
      clear hz hy
      go_wp2_with fail
      go_roundw
      case rel => exact ⟨j + 1, _, by omega, by go_num, by refine congrArg (Value.int .i64) ?_; first | omega | (unfold wrap64; omega), HH.out, HC2.out, HD2.out, HO.out.set _ _⟩
      case measure => simp [intOf]; omega
    · have hke : j = n := by omega
      subst hke
      go_wp2_with fail
      go_ret
      exact ⟨rfl, HO.out, cj, HJ.out, HCu.out, HD.out⟩
set_option maxHeartbeats 1000000 in
theorem markZero (a : Option Addr) (c : Nat) (k : Int) (w : World) :
    Calls Try.prog 16 #[.slice a 0 c, .int .i64 k] w fun e w' => e = .returned (.int .i64 k) ∧ w' = w := by
  go_enter Try.func16, Try.ntmps16
  go_wp2_with fail
  go_loop [1, 5] (fun q i => q = .int .i64 k ∧ i = .int .i64 0) (fun _ _ => 0)
  case atStart => exact ⟨rfl, rfl⟩
  case round =>
    obtain ⟨rfl, rfl⟩ := hrel
    go_wp2_with fail
    go_ret
    exact ⟨rfl, rfl⟩
theorem only_hdr {g lo hi : Nat} {w w' : World} {cur cur' : Array Value} {T : TypeId} (h : Only g w w') (hb : w.heap[g]? = some (.cells cur T (0, 0))) (hb' : w'.heap[g]? = some (.cells cur' T (0, 0))) (hc : Cur cur cur') (hl : lo ≤ g) (hh : g < hi) : Hdr lo hi w w' :=
  ⟨h.os, h.tape, h.output, by rw [h.size]; exact Nat.le_refl _, fun k hk _ => h.other k (by omega), fun k c1 T1 h1 => by
    by_cases e : k = g
    · subst e
      rw [hb] at h1
      cases h1
      exact ⟨cur', hb', hc⟩
    · exact ⟨c1, (h.other k e).trans h1, Cur.refl _⟩⟩
theorem markInts (lo hi : Nat) (a : Option Addr) (c n : Nat) (k : Int) (w : World) (hn : n ≤ 1048576) (hk0 : 0 ≤ k) (hk : k ≤ 4611686018427387904) (hv : SI w lo hi a n) :
    Calls Try.prog 16 #[.slice a n c, .int .i64 k] w fun e w' => e = .returned (.int .i64 (k + n)) ∧ Hdr lo hi w w' := by
  rcases hv with rfl | ⟨g, cur, rfl, hl, hh, hb, hc⟩
  · refine (markZero a c k w).mono ?_
    rintro e w1 ⟨rfl, rfl⟩
    exact ⟨by simp, Hdr.refl _ _ _⟩
  · refine (markVals g c n k cur w hn hk0 hk hb hc).mono ?_
    rintro e w1 ⟨rfl, ho, cur', hb', hcu, _⟩
    exact ⟨rfl, only_hdr ho hb hb' hcu hl hh⟩
set_option maxHeartbeats 1000000 in
theorem heldInts (lo : Nat) (a : Option Addr) (c n : Nat) (k : Int) (w : World) (hn : n ≤ 1048576) (hk0 : 0 ≤ k) (hk : k ≤ 4611686018427387904) (hv : IntsAt w lo a (marks k n)) :
    Calls Try.prog 17 #[.slice a n c, .int .i64 k] w fun e w' => e = .returned (.int .i64 (k + n)) ∧ w' = w := by
  have HV : Hid (n = 0 ∨ ∃ b off, a = some ⟨b, off, none⟩ ∧ ∀ i, i < n → w.cell? ⟨b, off + i, none⟩ = some (.int .i64 (k + i))) := by
    rcases hv.2 with h | ⟨b, off, ha, _, _, hc⟩
    · exact .inl (by have := congrArg List.length h; simpa [marks_len] using this)
    · exact .inr ⟨b, off, ha, fun i hi => by rw [hc i (by rw [marks_len]; exact hi), marks_at k hi]⟩
  clear hv
  go_enter Try.func17, Try.ntmps17
  go_wp2_with fail
  go_loop [1, 5] (fun q i => ∃ j : Nat, j ≤ n ∧ i = .int .i64 j ∧ q = .int .i64 (k + j)) (fun _ i => n - (intOf i).toNat)
  case atStart => exact ⟨0, by omega, rfl, by simp⟩
  case round =>
    obtain ⟨j, hj, rfl, rfl⟩ := hrel
    by_cases hlt : j < n
    · rcases HV.out with h | ⟨b, off, rfl, hc⟩
      · omega
      have e1 := hc j hlt
      clear hc
      go_wp2_with fail
      exact ⟨⟨j + 1, by omega, by go_num, by refine congrArg (Value.int .i64) ?_; first | omega | (unfold wrap64; omega)⟩, by simp only [intOf]; omega⟩
    · have hke : j = n := by omega
      subst hke
      go_wp2_with fail
      go_ret
      exact ⟨rfl, rfl⟩
/-- A slice of numbers at the head of a row of cells that nobody has frozen, in a block from lo on. -/
def OwnAt (w : World) (lo : Nat) (a : Option Addr) (l : List Int) : Prop :=
  l.length ≤ 9223372036854775807 ∧ (l = [] ∨ ∃ g cur, a = some ⟨g, 0, none⟩ ∧ lo ≤ g ∧ w.heap[g]? = some (.cells cur 2 (0, 0)) ∧ ∀ i, i < l.length → cur[i]? = some (.int .i64 (l.getD i 0)))
theorem OwnAt.ints {w : World} {lo : Nat} {a : Option Addr} {l : List Int} (h : OwnAt w lo a l) : IntsAt w lo a l := by
  obtain ⟨hm, h⟩ := h
  refine ⟨hm, ?_⟩
  rcases h with h | ⟨g, cur, ha, hl, hb, hc⟩
  · exact .inl h
  · exact .inr ⟨g, 0, ha, hl, (Array.getElem?_eq_some_iff.1 hb).1, fun i hi => by rw [Nat.zero_add, cell_of_heap hb]; exact hc i hi⟩
theorem OwnAt.keep {w w' : World} {lo : Nat} {a : Option Addr} {l : List Int} (h : OwnAt w lo a l) (k : Agree lo w w') : OwnAt w' lo a l := by
  obtain ⟨hm, h⟩ := h
  refine ⟨hm, ?_⟩
  rcases h with h | ⟨g, cur, ha, hl, hb, hc⟩
  · exact .inl h
  · exact .inr ⟨g, cur, ha, hl, (k.2 g hl (Array.getElem?_eq_some_iff.1 hb).1).trans hb, hc⟩
theorem OwnAt.low {w : World} {lo lo' : Nat} {a : Option Addr} {l : List Int} (h : OwnAt w lo a l) (k : lo' ≤ lo) : OwnAt w lo' a l := by
  obtain ⟨hm, h⟩ := h
  refine ⟨hm, ?_⟩
  rcases h with h | ⟨g, cur, ha, hl, hb, hc⟩
  · exact .inl h
  · exact .inr ⟨g, cur, ha, Nat.le_trans k hl, hb, hc⟩
/-- Out of the law of append: what is owned holds the numbers. -/
theorem own_of_row {w : World} {base : Nat} {v : Value} {l : List Int} (hm : l.length ≤ 1048576) (h : w.ownsRow base 2 1 v l.length (l.map (Value.int .i64))) : ∃ u c, v = .slice u l.length c ∧ OwnAt w base u l := by
  rcases h.2 with ⟨hv, hn⟩ | ⟨g, cap, cur, hv, hb, hg, hnc, _, hcs, htk⟩
  · exact ⟨none, 0, by rw [hv, hn], by omega, .inl (List.length_eq_zero_iff.1 hn)⟩
  · refine ⟨_, cap, hv, by omega, .inr ⟨g, cur, rfl, hb, hg, fun i hi => ?_⟩⟩
    have e : (cur.toList.take (l.length * 1))[i]? = (l.map (Value.int .i64))[i]? := by rw [htk]
    rw [List.getElem?_take, if_pos (by omega)] at e
    simp [hi] at e
    simpa [List.getD, hi] using e
theorem append_none {t ty : TypeId} (v : Value) (hv : v = .slice none 0 0 ∨ ∃ g, v = .slice (some ⟨g, 0, none⟩) 0 0) (c : Nat) (w : World) (i : TypeInfo) (ht : Try.prog.underlying t = some (.slice 2)) (hi : Try.prog.info? 2 = some i) :
    (Builtin.append_ #[t, t] ty #[v, .slice none 0 c]).run Try.prog w = .ok v w := by
  rcases hv with rfl | ⟨g, rfl⟩
  · simp [Builtin.append_, run_underlying ht, sizeOf, typeInfo, hi, Builtin.lenOf, Builtin.firstCells]
  · simp [Builtin.append_, run_underlying ht, sizeOf, typeInfo, hi, Builtin.lenOf, Builtin.firstCells, storeCells]
set_option maxHeartbeats 1000000 in
theorem copyS_any (lo : Nat) (a : Option Addr) (cap : Nat) (l : List Int) (w : World) (hl : l.length ≤ 1048576) (hv : IntsAt w lo a l) :
    Calls Try.prog 12 #[.slice a l.length cap] w fun e w' => ∃ u c, e = .returned (.slice u l.length c) ∧ OwnAt w' w.heap.size u l ∧ Below w.heap.size w w' := by
  obtain ⟨i0, hi, hz0, hz1, hz2⟩ := info_parts infoI
  rcases a with _ | ad
  · have hnil : l = [] := by
      rcases hv.2 with h | ⟨b, off, h, _⟩
      · exact h
      · simp at h
    subst hnil
    go_enter Try.func12, Try.ntmps12
    have hap := fun g => append_none (t := 22) (ty := 22) (.slice (some ⟨g, 0, none⟩) 0 0) (.inr ⟨g, rfl⟩) cap (w.alloc (.cells #[] 2)) i0 Try.underlying22 hi
    clear hi hz0 hz1 hz2
    go_wp2_with fail
    go_ret
    exact ⟨_, _, rfl, ⟨by simp, .inl rfl⟩, (Below.refl _ _).alloc (Nat.le_refl _) _⟩
  · have hcell : ∀ j u, (l.map (Value.int .i64))[j]? = some u → (w.alloc (.cells #[] 2)).cell? (ad.add j) = some u := by
      intro j u hj
      rcases hv.2 with h | ⟨b, off, h, _, hb, hc⟩
      · simp [h] at hj
      · simp at h
        subst h
        have hjl : j < l.length := by
          have := (List.getElem?_eq_some_iff.1 hj).1
          simpa using this
        have hat : (⟨b, off, none⟩ : Addr).add j = ⟨b, off + j, none⟩ := by unfold Addr.add; split <;> simp_all
        rw [hat, cell_block (Below.heap_alloc w _ b hb), hc j hjl]
        simp [hjl] at hj
        rw [← hj]; simp [List.getD, hjl]
    go_enter Try.func12, Try.ntmps12
    go_wp2_with (at_builtin; refine wpList_append_own _ rfl _ _ 22 rfl w.heap.size 2 i0 (.int .i64 0) 1 8 Try.underlying22 hi hz0 hz1 hz2 rfl (by decide) _ 0 [] rfl (World.ownsRow_lit w #[] 0 (Nat.le_refl _) (by decide) (by simp)) ad l.length cap (l.map (Value.int .i64)) rfl (by simp) hcell (by simp [Value.oneCell']) (by unfold maxLen; omega) (by omega) (by simp) ?_; intro v' w1 hown hgrow _)
    simp only [Nat.zero_add, List.nil_append] at hown
    obtain ⟨u, c, rfl, ho⟩ := own_of_row hl hown
    go_ret
    exact ⟨u, c, rfl, ho, ((Below.refl _ _).alloc (Nat.le_refl _) _).grown hgrow (by simp) (fun k hk => by have hk' : some w.heap.size = some k := hk; simp at hk'; omega)⟩
theorem below_box {w w' : World} {o : Obj} (h : Below (w.heap.size + 1) (w.alloc o) w') : Below w.heap.size w w' :=
  ((Below.refl w.heap.size w).alloc (Nat.le_refl _) o).trans (h.mono (by omega))
theorem box_next {w w1 w2 : World} {o : Obj} (h : Below (w.heap.size + 1) (w.alloc o) w1) (k : Below w1.heap.size w1 w2) : Below (w.heap.size + 1) (w.alloc o) w2 :=
  h.trans (k.mono (by have := h.size; simp at this; omega))
theorem box_alloc {w w1 : World} {o p : Obj} (h : Below (w.heap.size + 1) (w.alloc o) w1) : Below (w.heap.size + 1) (w.alloc o) (w1.alloc p) :=
  h.alloc (by have := h.size; simp at this; omega) p
theorem box_first {w w1 : World} {o : Obj} (h : Below (w.alloc o).heap.size (w.alloc o) w1) : Below (w.heap.size + 1) (w.alloc o) w1 := h.mono (by simp)

theorem below_hdr {B lo hi : Nat} {w a b : World} (h : Below B w a) (k : Hdr lo hi a b) (hB : B ≤ lo) (hz : B ≤ a.heap.size) : Below B w b :=
  ⟨k.os.trans h.os, k.tape.trans h.tape, k.output.trans h.output, Nat.le_trans h.size k.size, fun g hg => (k.out g (.inl (by omega)) (by omega)).trans (h.block g hg)⟩
theorem below_only {B g : Nat} {w a b : World} (h : Below B w a) (k : Only g a b) (hB : B ≤ g) : Below B w b :=
  ⟨k.os.trans h.os, k.tape.trans h.tape, k.output.trans h.output, by rw [k.size]; exact h.size, fun i hi => (k.other i (by omega)).trans (h.block i hi)⟩
theorem row_own {w : World} {base : Nat} {v : Value} {l : List Int} (hm : l.length ≤ 1048576) (h : w.ownsRow base 2 1 v l.length (l.map (Value.int .i64))) : ∃ u c, v = .slice u l.length c ∧ OI w base u l := by
  rcases h.2 with ⟨hv, hn⟩ | ⟨g, cap, cur, hv, hb, hg, hnc, _, hcs, htk⟩
  · exact ⟨none, 0, by rw [hv, hn], by omega, .inl (List.length_eq_zero_iff.1 hn)⟩
  · refine ⟨_, cap, hv, by omega, .inr ⟨g, cur, rfl, hb, hg, fun i hi => ?_⟩⟩
    have e : (cur.toList.take (l.length * 1))[i]? = (l.map (Value.int .i64))[i]? := by rw [htk]
    rw [List.getElem?_take, if_pos (by omega)] at e
    simp [hi] at e
    simpa [List.getD, hi] using e
theorem hdr_below {lo hi : Nat} {w w' : World} (h : Below w.heap.size w w') : Hdr lo hi w w' :=
  ⟨h.os, h.tape, h.output, h.size, fun g _ hg => h.block g hg, fun g cur _ hc => ⟨cur, (h.block g (Array.getElem?_eq_some_iff.1 hc).1).trans hc, Cur.refl _⟩⟩
theorem agree_hdr {lo' lo hi : Nat} {a b c : World} (h : Agree lo' a b) (k : Hdr lo hi b c) (hz : a.heap.size ≤ lo) : Agree lo' a c :=
  ⟨Nat.le_trans h.1 k.size, fun g hg hl => (k.out g (.inl (by omega)) (Nat.lt_of_lt_of_le hl h.1)).trans (h.2 g hg hl)⟩
theorem agree_only {lo' g : Nat} {a b c : World} (h : Agree lo' a b) (k : Only g b c) (hz : a.heap.size ≤ g) : Agree lo' a c :=
  ⟨by rw [k.size]; exact h.1, fun i hi hl => (k.other i (by omega)).trans (h.2 i hi hl)⟩
theorem agree_below {lo' : Nat} {a b c : World} (h : Agree lo' a b) (k : Below b.heap.size b c) : Agree lo' a c := h.trans (agree_of_below k _)
/-- What numbers written into a list of the call's own leave. -/
theorem mark_own (lo : Nat) (a : Option Addr) (c : Nat) (l : List Int) (w : World) (hl : l.length ≤ 1048576) (hv : OI w lo a l) :
    Calls Try.prog 16 #[.slice a l.length c, .int .i64 1] w fun e w' => e = .returned (.int .i64 (1 + l.length)) ∧ OI w' lo a (marks 1 l.length) ∧ ∃ g, lo ≤ g ∧ Only g w w' := by
  rcases hv.2 with h | ⟨g, cur, rfl, hlo, hb, hc⟩
  · subst h
    refine (markZero a c 1 w).mono ?_
    rintro e w1 ⟨rfl, rfl⟩
    exact ⟨by simp, ⟨by simp [marks], .inl (by simp [marks])⟩, lo, Nat.le_refl _, Only.refl _ _⟩
  · refine (markVals g c l.length 1 cur w hl (by omega) (by omega) hb (fun i hi => ⟨_, hc i hi⟩)).mono ?_
    rintro e w1 ⟨rfl, ho, cur', hb', _, hd⟩
    exact ⟨rfl, ⟨by rw [marks_len]; omega, .inr ⟨g, cur', rfl, hlo, hb', fun i hi => by rw [marks_len] at hi; rw [hd i hi, marks_at 1 hi]⟩⟩, g, hlo, ho⟩

end Go.Proofs.Ytgdehnmhiiodoaa
