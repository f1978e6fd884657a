/- The table of the binary rules: an array of functions that the program makes anew at each call, and what is read off it. -/
import Derived.Test.YtofgfiakccjimaaBin
import Derived.Laws.EntriesVeiled
import Derived.Laws.Tables
namespace Go.Proofs.Ytofgfiakccjimaa
open Go.RowKit
def fnv (n : Nat) : Value := .func (.func n) #[] #[]
def rulesA : Array Value := #[.nilFunc, fnv 91, fnv 92, fnv 93, fnv 94, fnv 95, fnv 96, fnv 97, fnv 98, fnv 99, fnv 100, fnv 101, fnv 102, fnv 103, fnv 104, fnv 105, fnv 106, fnv 107]
theorem heap_new (w : World) (o : Obj) : (w.alloc o).heap[w.heap.size]? = some o := by
  show (w.heap.push o)[w.heap.size]? = _
  simp
theorem heap_new2 (w : World) (o p : Obj) : ((w.alloc o).alloc p).heap[w.heap.size + 1]? = some p := by
  have h := heap_new (w.alloc o) p
  have e : (w.alloc o).heap.size = w.heap.size + 1 := by simp
  rw [e] at h
  exact h
theorem setRow_new (w : World) (old new : Array Value) (t : TypeId) : (w.alloc (.cells old t)).setRow w.heap.size new = w.alloc (.cells new t) := by
  unfold World.setRow World.alloc
  congr 1
  apply Array.ext
  · simp
  · intro k h1 h2
    simp only [Array.getElem_modify, Array.getElem_push]
    split
    · rename_i hk; subst hk; simp
    · rename_i hk
      have : k < w.heap.size := by simp at h2; omega
      simp [this]
theorem setRow_new2 (w : World) (o : Obj) (old new : Array Value) (t : TypeId) : ((w.alloc o).alloc (.cells old t)).setRow (w.heap.size + 1) new = (w.alloc o).alloc (.cells new t) := by
  have h := setRow_new (w.alloc o) old new t
  have e : (w.alloc o).heap.size = w.heap.size + 1 := by simp
  rw [e] at h
  exact h
theorem cell_rule (w : World) (o : Obj) (k n : Nat) (h : rulesA[k]? = some (.func (.func n) #[] #[])) : ((w.alloc o).alloc (.cells rulesA 120)).cell? ⟨w.heap.size + 1, k, none⟩ = some (.func (.func n) #[] #[]) := by
  have g := heap_new2 w o (.cells rulesA 120)
  unfold World.cell?
  rw [g]
  exact h
set_option maxHeartbeats 400000 in
theorem rulesI (w : World) : Calls Try.prog 90 #[] w fun e w' => e = .returned (.agg rulesA) ∧ w' = w.alloc (.cells rulesA 120) := by
  go_enter Try.func90, Try.ntmps90
  go_wp2_with (refine wpList_store_row rfl 120 _ _ rfl w.heap.size rulesA rfl rfl 120 _ (heap_new _ _) (by kernel_rfl) rfl (by kernel_rfl) ?_)
  rw [setRow_new]
  exact bodyPost_ret (v := .agg rulesA) (results_cell_row Try.results90 _ _ w.heap.size 120 rulesA (0, 0) _ rfl (heap_new _ _) Try.underlying120 rfl (by kernel_rfl)) rfl ⟨rfl, rfl⟩
theorem two_new (w : World) (c d : Array Value) (s t : TypeId) : Below w.heap.size w ((w.alloc (.cells c s)).alloc (.cells d t)) ∧ Grown w ((w.alloc (.cells c s)).alloc (.cells d t)) :=
  ⟨((Below.refl _ _).alloc (Nat.le_refl _) _).alloc (by simp) _, ((Grown.refl _).alloc _ _).alloc _ _⟩
end Go.Proofs.Ytofgfiakccjimaa
