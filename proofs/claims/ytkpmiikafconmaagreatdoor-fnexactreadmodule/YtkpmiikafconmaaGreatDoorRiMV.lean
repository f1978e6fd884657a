import Derived.Test.YtkpmiikafconmaaGreatDoorRiLV
namespace Go.Proofs.YtkpmiikafconmaaGreatDoor
open Go.RowKit
set_option linter.unusedVariables false
set_option linter.unusedSimpArgs false
def lastOp (b : ByteArray) : Nat → Int
 | 0 => 0
 | k + 1 => if opW (k + 1) = b then ((k + 1 : Nat) : Int) else lastOp b k
theorem last_word {m : Nat} (h1 : 1 ≤ m) (h2 : m ≤ 27) : lastOp (opW m) 27 = m := by
 have : ∀ k : Fin 28, lastOp (opW k.1) 27 = (k.1 : Int) := by decide
 exact this ⟨m, by omega⟩
theorem last_rng (b : ByteArray) : ∀ k, 0 ≤ lastOp b k ∧ lastOp b k ≤ k
 | 0 => by simp [lastOp]
 | k + 1 => by
  have := last_rng b k
  unfold lastOp
  split <;> omega
def modelD (op : Int) (n : List Int) : InstD :=
 if op = 26 then ⟨op, n.getD 0 0, 0, 0, 0, n.getD 1 0, n.drop 2⟩ else if op = 21 then ⟨op, n.getD 0 0, 0, 0, 0, n.getD 1 0, []⟩ else ⟨op, n.getD 0 0, n.getD 1 0, n.getD 2 0, n.getD 3 0, 0, []⟩
theorem model_of {op : Int} {n : List Int} {j : InstD} (h : ofNums op n = some j) : modelD op n = j := by
 cases n with
 | nil => cases h
 | cons x r =>
  cases hb : immB op with
  | true =>
   cases r with
   | nil => simp [ofNums, hb] at h
   | cons m r2 =>
    simp only [ofNums, hb, if_true] at h
    obtain ⟨e1, e2⟩ := fin_ops h
    by_cases h26 : op = 26
    ·rw [e1]
     simp [modelD, mkD, h26]
    ·have h21 : op = 21 := by
      unfold immB at hb
      simpa [h26] using hb
     rw [e1]
     rw [e1] at e2
     subst h21
     have e3 : r2 = [] := by
      rw [← e2]
      simp [opsD, mkD]
      decide
     subst e3
     simp [modelD, mkD]
  | false =>
   simp only [ofNums, hb, Bool.false_eq_true, if_false] at h
   obtain ⟨e1, e2⟩ := fin_ops h
   have h26 : ¬ op = 26 := by rintro rfl; simp [immB] at hb
   have h21 : ¬ op = 21 := by rintro rfl; simp [immB] at hb
   rw [e1]
   simp [modelD, mkD, h26, h21, List.getD]
theorem model_read {s word : ByteArray} {out : List Int} {ok : Bool} (h : SplitTold s word out ok) {j : InstD} (hj : ReadOk s j) : ok = true ∧ lastOp word 27 = j.op ∧ ¬ j.op = 0 ∧ ¬ out = [] ∧ modelD (lastOp word 27) out = j := by
 obtain ⟨h1, h2, h3⟩ := h j hj
 have hF := instB_inF hj.1
 have hp := read_pieces hj
 obtain ⟨_, hn⟩ := read_nums hj hp
 have ho := ((read_iff hp hn j).1 hj).1
 have hop : lastOp word 27 = j.op := by
  have := hF.op1
  have := hF.op27
  rw [h2, last_word (by omega) (by omega)]
  omega
 have hon : opNum (opW j.op.toNat) = j.op := by
  have := hF.op1
  have := hF.op27
  rw [opNum_word (by omega) (by omega)]
  omega
 rw [hon] at ho
 refine ⟨h1, hop, by have := hF.op1; omega, ?_, ?_⟩
 ·rw [h3]; unfold instN; simp
 ·rw [hop, h3]; exact model_of ho
theorem model_args (op : Int) (n : List Int) (h : n.length ≤ 20) : (modelD op n).args.length ≤ 20 := by
 unfold modelD
 split
 ·simp; omega
 ·split <;> simp
def IntsBt (w : World) (lo hi : Nat) (u : Option Addr) (l : List Int) : Prop := l = [] ∨ ∃ b, u = some ⟨b, 0, none⟩ ∧ lo ≤ b ∧ b < hi ∧ hi ≤ w.heap.size ∧ ∀ i, i < l.length → w.cell? ⟨b, i, none⟩ = some (.int .i64 (l.getD i 0))
theorem IntsBt.keep {w w' : World} {lo hi : Nat} {u : Option Addr} {l : List Int} (h : IntsBt w lo hi u l) (k : Below hi w w') : IntsBt w' lo hi u l := by
 rcases h with h | ⟨b, h1, h2, h3, h4, h5⟩
 ·exact .inl h
 ·exact .inr ⟨b, h1, h2, h3, Nat.le_trans h4 k.size, fun i hi => (cell_block (k.block b h3)).trans (h5 i hi)⟩
theorem IntsBt.set {w : World} {lo hi B o : Nat} {u : Option Addr} {l : List Int} {v : Value} (h : IntsBt w lo hi u l) (hB : hi ≤ B) : IntsBt (w.setCell ⟨B, o, none⟩ v) lo hi u l := h.keep ((Below.refl _ _).setCell hB _)
theorem IntsBt.of {w : World} {lo : Nat} {u : Option Addr} {n c : Nat} {l : List Int} (h : Row w lo (.slice u n c) l) : IntsBt w lo w.heap.size u l ∧ l.length ≤ c ∧ c ≤ 9223372036854775807 := by
 rcases h.2 with ⟨hv, hn⟩ | ⟨g, cap, cur, hv, hb, hg, hnc, hcm, hcs, htk⟩
 ·simp only [Value.slice.injEq] at hv
  obtain ⟨_, _, rfl⟩ := hv
  exact ⟨.inl (List.length_eq_zero_iff.1 hn), by omega, by omega⟩
 ·simp only [Value.slice.injEq] at hv
  obtain ⟨rfl, _, rfl⟩ := hv
  refine ⟨.inr ⟨g, rfl, hb, (Array.getElem?_eq_some_iff.1 hg).1, Nat.le_refl _, fun i hi => ?_⟩, hnc, by unfold maxLen at hcm; omega⟩
  rw [cell_of_heap hg]
  have e : (cur.toList.take (l.length * 1))[i]? = (l.map (Value.int .i64))[i]? := by rw [htk]
  rw [List.getElem?_take, if_pos (by omega)] at e
  simp [hi] at e
  simpa [List.getD, hi] using e
theorem IntsBt.ints {w : World} {lo hi : Nat} {u : Option Addr} {l : List Int} (h : IntsBt w lo hi u l) (hl : l.length ≤ 1048576) : IntsAt w lo u l := by
 refine ⟨by omega, ?_⟩
 rcases h with h | ⟨b, h1, h2, h3, h4, h5⟩
 ·exact .inl h
 ·exact .inr ⟨b, 0, h1, h2, by omega, fun i hi => by rw [Nat.zero_add]; exact h5 i hi⟩
theorem IntsBt.tail {w : World} {lo hi b : Nat} {l : List Int} (h : IntsBt w lo hi (some ⟨b, 0, none⟩) l) (hl : l.length ≤ 1048576) : IntsAt w lo (some ⟨b, 2, none⟩) (l.drop 2) := by
 refine ⟨by simp; omega, ?_⟩
 rcases h with h | ⟨b', h1, h2, h3, h4, h5⟩
 ·exact .inl (by rw [h]; rfl)
 ·cases h1
  refine .inr ⟨b, 2, rfl, h2, by omega, fun i hi => ?_⟩
  simp only [List.length_drop] at hi
  rw [h5 (2 + i) (by omega)]
  simp [List.getD]
set_option maxHeartbeats 1000000 in
theorem atS (lo hi : Nat) (u : Option Addr) (c : Nat) (l : List Int) (k : Nat) (w : World) (h : IntsBt w lo hi u l) (hl : l.length ≤ 1048576) (hk : k ≤ 3) :
  Calls Tryz.prog 62 #[.slice u l.length c, .int .i64 (k : Int)] w fun e w' => e = .returned (.int .i64 (l.getD k 0)) ∧ w' = w := by
 by_cases hlt : k < l.length
 ·have q : (k : Int) < (l.length : Int) := by omega
  have q0 : (0 : Int) ≤ (k : Int) := by omega
  rcases h with h | ⟨b, rfl, h2, h3, h4, h5⟩
  ·subst h
   cases hlt
  ·have hc := h5 k hlt
   have hz : ((k : Int)).toNat = k := by omega
   clear h5
   generalize l.getD k 0 = z at hc ⊢
   go_enter Tryz.func62, Tryz.ntmps62
   go_wp2_with fail
   go_ret
   exact ⟨rfl, rfl⟩
 ·have q : ¬ (k : Int) < (l.length : Int) := by omega
  have e : l.getD k 0 = 0 := by simp [List.getD, List.getElem?_eq_none (Nat.le_of_not_lt hlt)]
  rw [e]
  clear e
  go_enter Tryz.func62, Tryz.ntmps62
  go_wp2_with fail
  go_ret
  exact ⟨rfl, rfl⟩
end Go.Proofs.YtkpmiikafconmaaGreatDoor
namespace Go.Proofs.YtkpmiikafconmaaGreatDoor
open Go.RowKit
set_option linter.unusedVariables false
set_option linter.unusedSimpArgs false
theorem text_ok {s : ByteArray} {d : InstD} (h : instText d = s) (hs : ¬ s = ⟨#[]⟩) : ReadOk s d := by
 unfold instText at h
 split at h
 ·rename_i k
  exact ⟨k, h.symm⟩
 ·exact absurd h.symm hs
theorem ok_text {s : ByteArray} {d : InstD} (h : ReadOk s d) : instText d = s := by
 unfold instText
 rw [if_pos h.1]
 exact h.2.symm
structure Mst (w wr : World) (G : Nat) (u : Option Addr) (n : List Int) (V : Array Value) : Prop where
 hG : w.heap.size < G
 r : At wr w.heap.size #[.int .i64 0, .int .i64 0, .int .i64 0, .int .i64 0, .int .i64 0, .int .i64 0, .slice none 0 0] 95
 wd : ∀ j, j < 28 → wr.cell? ⟨G, j, none⟩ = some (.string (opW j))
 b : At wr (G + 1) V 95
 row : IntsBt wr (w.heap.size + 1) G u n
 below : Below w.heap.size w wr
 size : G + 2 ≤ wr.heap.size
theorem Mst.keep {w wr w2 : World} {G : Nat} {u : Option Addr} {n : List Int} {V : Array Value} (h : Mst w wr G u n V) (k : Below wr.heap.size wr w2) : Mst w w2 G u n V := by
 have := h.size
 exact ⟨h.hG, h.r.below k, fun j hj => (cell_block (k.block G (by omega))).trans (h.wd j hj), h.b.below k, h.row.keep (k.mono (by omega)), h.below.trans (k.mono h.below.size), Nat.le_trans h.size k.size⟩
theorem Mst.set {w wr : World} {G : Nat} {u : Option Addr} {n : List Int} {V : Array Value} (h : Mst w wr G u n V) (o : Nat) (v : Value) : Mst w (wr.setCell ⟨G + 1, o, none⟩ v) G u n (V.setIfInBounds o v) := by
 have := h.hG
 exact ⟨h.hG, h.r.setOther (by omega), fun j hj => (cell_block (Below.heap_setCell _ _ _ _ (by show G ≠ G + 1; omega))).trans (h.wd j hj), heap_set (o := o) h.b, h.row.set (by omega), h.below.setCell (by show w.heap.size ≤ G + 1; omega) _, by simpa using h.size⟩
end Go.Proofs.YtkpmiikafconmaaGreatDoor
