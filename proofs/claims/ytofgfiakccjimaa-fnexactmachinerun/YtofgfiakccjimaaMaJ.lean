/- A machine: its block when it is made. -/
import Derived.Test.YtofgfiakccjimaaMaI
import Derived.Test.YtofgfiakccjimaaPgJ
import Derived.Deep.RegionHeld2
import Derived.Laws.Tables
namespace Go.Proofs.Ytofgfiakccjimaa
open Go.RowKit
set_option linter.unusedVariables false
set_option linter.unusedSimpArgs false

theorem foldL : ∀ (l : List Value) (k : Nat) (base : Array Value), ((l.zipIdx k).foldl (fun cs x => cs.setIfInBounds x.2 x.1) base).size = base.size ∧ ∀ i, ((l.zipIdx k).foldl (fun cs x => cs.setIfInBounds x.2 x.1) base)[i]? = if k ≤ i ∧ i < k + l.length ∧ i < base.size then l[i - k]? else base[i]?
  | [], k, base => ⟨rfl, fun i => by rw [if_neg (by simp; omega)]; rfl⟩
  | x :: l, k, base => by
    obtain ⟨h1, h2⟩ := foldL l (k + 1) (base.setIfInBounds k x)
    refine ⟨by simpa using h1, fun i => ?_⟩
    rw [List.zipIdx_cons, List.foldl_cons, h2 i]
    by_cases hi : i = k
    · subst hi
      rw [if_neg (by omega)]
      by_cases hb : i < base.size
      · rw [if_pos ⟨by omega, by simp, hb⟩]; simp [hb]
      · rw [if_neg (by omega)]; simp [Array.getElem?_eq_none (Nat.le_of_not_lt hb), hb]
    · rw [Array.getElem?_setIfInBounds_ne (by omega)]
      by_cases hc : k + 1 ≤ i ∧ i < k + 1 + l.length ∧ i < base.size
      · rw [if_pos (by simpa using hc), if_pos ⟨by omega, by simp; omega, hc.2.2⟩]
        rw [show i - k = (i - (k + 1)) + 1 by omega, List.getElem?_cons_succ]
      · rw [if_neg (by simpa using hc), if_neg (by simp; omega)]
theorem foldR (arr base : Array Value) (ha : arr.size = 35) (hb : base.size = 167) : (Array.foldl (fun cs x => cs.setIfInBounds x.snd x.fst) base arr.zipIdx 0 35).size = 167 ∧ (∀ i, i < 35 → (Array.foldl (fun cs x => cs.setIfInBounds x.snd x.fst) base arr.zipIdx 0 35)[i]? = arr[i]?) ∧ ∀ i, 35 ≤ i → (Array.foldl (fun cs x => cs.setIfInBounds x.snd x.fst) base arr.zipIdx 0 35)[i]? = base[i]? := by
  have e : Array.foldl (fun cs x => cs.setIfInBounds x.snd x.fst) base arr.zipIdx 0 35 = (arr.toList.zipIdx 0).foldl (fun cs x => cs.setIfInBounds x.2 x.1) base := by
    have h : (35 : Nat) = arr.zipIdx.size := by simp [ha]
    rw [← Array.toList_zipIdx, Array.foldl_toList, ← h]
  rw [e]
  obtain ⟨h1, h2⟩ := foldL arr.toList 0 base
  refine ⟨by rw [h1, hb], fun i hi => ?_, fun i hi => ?_⟩
  · rw [h2 i, if_pos ⟨by omega, by simp [ha]; omega, by omega⟩]; simp
  · rw [h2 i, if_neg (by simp [ha]; omega)]
theorem zero78 : Try.zeroCells78 = worldA 0 ++ (#[.slice none 0 0] ++ Array.replicate 131 (.int .i64 0)) := by kernel_rfl
theorem zero78_at (i : Nat) (h : 36 ≤ i) (h' : i < 167) : Try.zeroCells78[i]? = some (.int .i64 0) := by
  rw [zero78, Array.getElem?_append_right (by show 35 ≤ i; omega), Array.getElem?_append_right (by show 1 ≤ i - 35; omega)]
  have e : (i - (worldA 0).size - (#[Value.slice none 0 0]).size) < 131 := by show i - 35 - 1 < 131; omega
  rw [Array.getElem?_replicate, if_pos e]
theorem info78 : (Try.prog.info? 78).map (·.size) = some 167 := by kernel_rfl
/-- A machine's cells when it is made. -/
theorem made_row {cs : Array Value} {mem : ByteArray} {fuel : Int} {cv : Value} (h : WorldA cs mem fuel) :
    RowM ((Array.foldl (fun cs x => cs.setIfInBounds x.snd x.fst) Try.zeroCells78 cs.zipIdx 0 35).setIfInBounds 35 cv) ⟨memF mem, [], 0, fun _ => 0, 0⟩ fuel (.slice none 0 0) cv := by
  obtain ⟨k1, k2, k3⟩ := foldR cs Try.zeroCells78 h.size Try.zeroCells78_size
  generalize Array.foldl (fun cs x => cs.setIfInBounds x.snd x.fst) Try.zeroCells78 cs.zipIdx 0 35 = r at k1 k2 k3
  refine ⟨by simp [k1], fun i hi => ?_, ?_, ?_, ?_, ?_, fun i hi => ?_, ?_⟩
  · rw [setI_other (by omega), k2 i (by omega)]; exact h.mem i hi
  · rw [setI_other (by omega), k2 32 (by omega)]; exact h.out
  · rw [setI_other (by omega), k2 33 (by omega)]; exact h.fuel
  · rw [setI_other (by omega), k2 34 (by omega)]; exact h.steps
  · exact setI_same (by omega)
  · rw [setI_other (by omega), k3 _ (by omega)]; exact zero78_at _ (by omega) (by omega)
  · rw [setI_other (by omega), k3 _ (by omega)]; exact zero78_at _ (by omega) (by omega)
theorem RowM.one {cur : Array Value} {s : MSt} {fuel : Int} {u : Option Addr} {n q : Nat} {u' : Option Addr} {n' q' : Nat} (h : RowM cur s fuel (.slice u n q) (.slice u' n' q')) : cur.all (·.oneCell') = true := by
  rw [Array.all_eq_true]
  intro i hi
  have hg : cur[i]? = some cur[i] := Array.getElem?_eq_getElem hi
  have hs := h.size
  by_cases c0 : i < 32
  · have e := h.mem i c0; rw [hg] at e; rw [Option.some.inj e]; rfl
  by_cases c1 : i = 32
  · subst c1; have e := h.out; rw [hg] at e; rw [Option.some.inj e]; rfl
  by_cases c2 : i = 33
  · subst c2; have e := h.fuel; rw [hg] at e; rw [Option.some.inj e]; rfl
  by_cases c3 : i = 34
  · subst c3; have e := h.steps; rw [hg] at e; rw [Option.some.inj e]; rfl
  by_cases c4 : i = 35
  · subst c4; have e := h.code; rw [hg] at e; rw [Option.some.inj e]; rfl
  by_cases c5 : i = 166
  · subst c5; have e := h.pc; rw [hg] at e; rw [Option.some.inj e]; rfl
  have e := h.regs (i - 36) (by omega)
  rw [show 36 + (i - 36) = i by omega, hg] at e
  rw [Option.some.inj e]; rfl
theorem made_size {cs : Array Value} {mem : ByteArray} {fuel : Int} (h : WorldA cs mem fuel) : ¬ (Array.foldl (fun cs x => cs.setIfInBounds x.snd x.fst) Try.zeroCells78 cs.zipIdx 0 35).size < 36 := by
  have := (foldR cs Try.zeroCells78 h.size Try.zeroCells78_size).1
  omega
end Go.Proofs.Ytofgfiakccjimaa
