/- What a run leaves behind: telling; what a register holds. -/
import Derived.Test.YtofgfiakccjimaaMaA
namespace Go.Proofs.Ytofgfiakccjimaa
open Go.RowKit
set_option linter.unusedVariables false
set_option linter.unusedSimpArgs false

/-- Below B all but block M is as it was. -/
structure Keeps (M B : Nat) (w w' : World) : Prop where
  os : w'.os = w.os
  tape : w'.tape = w.tape
  output : w'.output = w.output
  size : w.heap.size ≤ w'.heap.size
  block : ∀ k, k < B → k ≠ M → w'.heap[k]? = w.heap[k]?
theorem Keeps.refl (M B : Nat) (w : World) : Keeps M B w w := ⟨rfl, rfl, rfl, Nat.le_refl _, fun _ _ _ => rfl⟩
theorem Keeps.trans {M B : Nat} {a b c : World} (h : Keeps M B a b) (k : Keeps M B b c) : Keeps M B a c :=
  ⟨k.os.trans h.os, k.tape.trans h.tape, k.output.trans h.output, Nat.le_trans h.size k.size, fun i hi hn => (k.block i hi hn).trans (h.block i hi hn)⟩
theorem Keeps.mono {M B B' : Nat} {a b : World} (h : Keeps M B a b) (k : B' ≤ B) : Keeps M B' a b := ⟨h.os, h.tape, h.output, h.size, fun i hi hn => h.block i (Nat.lt_of_lt_of_le hi k) hn⟩
theorem Keeps.of_grown {M B : Nat} {a b : World} (h : a.grownBy b (some M)) (k : B ≤ a.heap.size) : Keeps M B a b := ⟨h.os, h.tape, h.output, h.size, fun i hi hn => h.block i (Nat.lt_of_lt_of_le hi k) (by simpa using hn)⟩
theorem Keeps.of_below {M B : Nat} {a b : World} (h : Below a.heap.size a b) (k : B ≤ a.heap.size) : Keeps M B a b := ⟨h.os, h.tape, h.output, h.size, fun i hi _ => h.block i (Nat.lt_of_lt_of_le hi k)⟩
theorem Keeps.below {M B : Nat} {a b : World} (h : Keeps M B a b) (k : M ≤ B) : Below M a b := ⟨h.os, h.tape, h.output, h.size, fun i hi => h.block i (by omega) (by omega)⟩
theorem Keeps.set {M B : Nat} {a b : World} (h : Keeps M B a b) (o : Nat) (v : Value) : Keeps M B a (b.setCell ⟨M, o, none⟩ v) :=
  ⟨h.os, h.tape, h.output, by have := h.size; simp [World.setCell]; omega, fun k hk hn => (Below.heap_setCell _ _ _ _ (by show k ≠ M; exact hn)).trans (h.block k hk hn)⟩
theorem ownsRow_at {w w' : World} {b : Nat} {e : TypeId} {s : Nat} {v : Value} {n : Nat} {xs : List Value} (h : w.ownsRow b e s v n xs) (k : ∀ g, v.ownBlock = some g → g < w.heap.size → w'.heap[g]? = w.heap[g]?) : w'.ownsRow b e s v n xs := by
  obtain ⟨hl, h⟩ := h
  refine ⟨hl, ?_⟩
  rcases h with h | ⟨g, cap, cur, hv, hb, hg, r⟩
  · exact .inl h
  · refine .inr ⟨g, cap, cur, hv, hb, ?_, r⟩
    subst hv
    exact (k g rfl (Array.getElem?_eq_some_iff.1 hg).1).trans hg
theorem ownsRow_ge {w : World} {b : Nat} {e : TypeId} {s : Nat} {v : Value} {n : Nat} {xs : List Value} (h : w.ownsRow b e s v n xs) {g : Nat} (hv : v.ownBlock = some g) : b ≤ g ∧ g < w.heap.size := by
  rcases h.2 with ⟨h, _⟩ | ⟨g', cap, cur, he, hb, hg, _⟩
  · subst h; simp [Value.ownBlock] at hv
  · subst he
    simp [Value.ownBlock] at hv
    subst hv
    exact ⟨hb, (Array.getElem?_eq_some_iff.1 hg).1⟩
theorem ownsRow_slice {w : World} {b : Nat} {e : TypeId} {s : Nat} {v : Value} {n : Nat} {xs : List Value} (h : w.ownsRow b e s v n xs) : ∃ a c, v = .slice a n c := by
  rcases h.2 with ⟨h, hn⟩ | ⟨g, cap, _, h, _⟩
  · exact ⟨none, 0, by rw [h, hn]⟩
  · exact ⟨_, cap, h⟩
theorem lit_one {w : World} {x : Value} {T : TypeId} : ∀ j u, [x][j]? = some u → (w.alloc (.cells #[x] T)).cell? ((⟨w.heap.size, 0, none⟩ : Addr).add j) = some u := by
  intro j u hj
  have hj0 : j = 0 := by
    have := (List.getElem?_eq_some_iff.1 hj).1
    simp at this; omega
  subst hj0
  simp at hj
  subst hj
  exact (cell_of_heap (heap_alloc_at _ _)).trans rfl
set_option maxHeartbeats 1000000 in
theorem tellI_no (M : Nat) (cur : Array Value) (T : TypeId) (u : Option Addr) (c : Nat) (x : Int) (w : World) (hb : w.heap[M]? = some (.cells cur T (0, 0))) (h2 : cur[32]? = some (.slice u 30 c)) :
    Calls Try.prog 81 #[.pointer (some ⟨M, 0, none⟩), .int .i64 x] w fun e w' => e = .returned (.int .i64 7) ∧ w' = w := by
  have y2 := (cell_of_heap (o := 32) hb).trans h2
  go_enter Try.func81, Try.ntmps81
  go_wp2_with fail
  go_ret
  exact ⟨rfl, rfl⟩
set_option maxHeartbeats 2000000 in
theorem tellI_ok (M B : Nat) (cur : Array Value) (T : TypeId) (v : Value) (out : List Int) (x : Int) (w : World) (hb : w.heap[M]? = some (.cells cur T (0, 0))) (h2 : cur[32]? = some v) (hM : M < B) (hB : B ≤ w.heap.size)
    (ho : w.ownsRow B 2 1 v out.length (out.map (Value.int .i64))) (hl : out.length < 30) :
    Calls Try.prog 81 #[.pointer (some ⟨M, 0, none⟩), .int .i64 x] w fun e w' => e = .returned (.int .i64 0) ∧ ∃ v', w'.heap[M]? = some (.cells (cur.setIfInBounds 32 v') T (0, 0)) ∧ w'.ownsRow B 2 1 v' (out ++ [x]).length ((out ++ [x]).map (Value.int .i64)) ∧ Keeps M B w w' ∧ (∀ k, k < w.heap.size → k ≠ M → some k ≠ v.ownBlock → w'.heap[k]? = w.heap[k]?) := by
  obtain ⟨i0, hi, hz0, hz1, hz2⟩ := info_parts infoI
  obtain ⟨u, c, rfl⟩ := ownsRow_slice ho
  have y2 := (cell_of_heap (o := 32) hb).trans h2
  have hl2 : ((out.length : Int) == 30) = false := by simp; omega
  have HO : Hid ((w.alloc (.cells #[.int .i64 x] 2)).ownsRow B 2 1 (.slice u out.length c) out.length (out.map (Value.int .i64))) := ownsRow_at ho fun g _ hg => Below.heap_alloc _ _ _ hg
  have HB : Hid (w.heap[M]? = some (.cells cur T (0, 0))) := hb
  have H2 : Hid (cur[32]? = some (.slice u out.length c)) := h2
  have HI : Hid (Try.prog.info? 2 = some i0) := hi
  have HZ0 : Hid (i0.zero = some (Value.int .i64 0)) := hz0
  have HZ1 : Hid (i0.size = 1) := hz1
  have HZ2 : Hid (i0.bytes = 8) := hz2
  have hMw : M < w.heap.size := by omega
  have HL : Hid (out.length < 30 ∧ M < B ∧ B ≤ w.heap.size ∧ M < w.heap.size) := ⟨hl, hM, hB, hMw⟩
  clear hi hz0 hz1 hz2 hb ho h2 hl hM hB hMw
  go_enter Try.func81, Try.ntmps81
  go_wp2_with (at_builtin; obtain ⟨hl, hM, hB, hMw⟩ := HL.out; refine wpList_append_own _ rfl _ _ 22 rfl B 2 i0 (.int .i64 0) 1 8 Try.underlying22 HI.out HZ0.out HZ1.out HZ2.out rfl (by decide) (.slice u out.length c) out.length (out.map (Value.int .i64)) rfl (by exact HO.out) ⟨w.heap.size, 0, none⟩ 1 1 [.int .i64 x] rfl (by simp) (by exact lit_one) (by simp [Value.oneCell']) (by unfold maxLen; omega) (by omega) (by simp; omega) ?_; intro v3 w3 ho3 hg3 _; have hM3 : w3.heap[M]? = some (.cells cur T (0, 0)) := ((hg3.block M (by simp; omega) (fun e => by have := ownsRow_ge HO.out e.symm; omega)).trans (Below.heap_alloc _ _ _ hMw)).trans HB.out; have z2 : w3.cell? ⟨M, 32, none⟩ = some (.slice u out.length c) := (cell_of_heap hM3).trans H2.out; have f2 : w3.frozen? ⟨M, 32, none⟩ = false := froz_of_heap hM3; have HM3 : Hid (w3.heap[M]? = some (.cells cur T (0, 0))) := hM3; have HO3 : Hid _ := ho3; have HG3 : Hid (Keeps M B w w3) := ⟨hg3.os, hg3.tape, hg3.output, Nat.le_trans (by simp) hg3.size, fun k hk hn => (hg3.block k (by simp; omega) (fun e => by have := ownsRow_ge HO.out e.symm; omega)).trans (Below.heap_alloc _ _ _ (by omega))⟩; have HK3 : Hid (∀ k, k < w.heap.size → some k ≠ (Value.slice u out.length c).ownBlock → w3.heap[k]? = w.heap[k]?) := (fun k hk hn => (hg3.block k (by simp; omega) hn).trans (Below.heap_alloc _ _ _ hk)); obtain ⟨u3, c3, rfl⟩ := ownsRow_slice ho3; clear hM3 ho3 hg3 hl hM hB hMw)
  go_ret
  refine ⟨rfl, _, heap_set HM3.out, ?_, HG3.out.set _ _, fun k hk hn ho => (Below.heap_setCell _ _ _ _ (by show k ≠ M; exact hn)).trans (HK3.out k hk ho)⟩
  have h := HO3.out
  rw [List.length_append, List.map_append]
  refine ownsRow_at h fun g hg _ => Below.heap_setCell _ _ _ _ ?_
  show g ≠ M
  have := ownsRow_ge h hg
  have := HL.out
  omega
theorem odd_of {x : Int} (h : 0 ≤ x) : x.tmod 2 = x % 2 := Int.tmod_eq_emod_of_nonneg h
set_option maxHeartbeats 1000000 in
theorem oddI (M : Nat) (cur : Array Value) (T : TypeId) (r : Nat) (x : Int) (w : World) (hb : w.heap[M]? = some (.cells cur T (0, 0))) (hr : r < 130) (hx : cur[36 + r]? = some (.int .i64 x)) (x0 : 0 ≤ x) :
    Calls Try.prog 67 #[.pointer (some ⟨M, 0, none⟩), .int .i64 r] w fun e w' => e = .returned (.bool (x % 2 == 1)) ∧ w' = w := by
  have y := (cell_of_heap (o := 36 + r) hb).trans hx
  have hr2 : (r : Int) < 130 := by omega
  have e := odd_of x0
  go_enter Try.func67, Try.ntmps67
  go_wp2_with fail
  go_ret
  exact ⟨rfl, rfl⟩
set_option maxHeartbeats 1000000 in
theorem cutI (M : Nat) (cur : Array Value) (T : TypeId) (r : Nat) (a x : Int) (w : World) (hb : w.heap[M]? = some (.cells cur T (0, 0))) (hr : r < 130) (hx : cur[36 + r]? = some (.int .i64 x)) :
    Calls Try.prog 68 #[.pointer (some ⟨M, 0, none⟩), .int .i64 a, .int .i64 r] w fun e w' => e = .returned (.int .i64 (maskZ a x)) ∧ w' = w := by
  have y := (cell_of_heap (o := 36 + r) hb).trans hx
  have hr2 : (r : Int) < 130 := by omega
  go_enter Try.func68, Try.ntmps68
  go_wp2_with (go_at_call 79; refine (maskI _ _ _).mono ?_; rintro e w' ⟨rfl, rfl⟩)
  go_ret
  exact ⟨rfl, rfl⟩
end Go.Proofs.Ytofgfiakccjimaa
