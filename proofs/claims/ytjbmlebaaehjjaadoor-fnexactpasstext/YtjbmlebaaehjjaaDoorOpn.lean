/- An argument that came in, opened: from the form's reading to lists of numbers and of records in memory. -/
import Derived.Test.YtjbmlebaaehjjaaDoorMem
import Derived.ProofKit
import Derived.OpenShut
import Derived.Deep.Slices
import Derived.Lib.SmallJoins
namespace Go.Proofs.YtjbmlebaaehjjaaDoor
open Go.ChangeShapes Go.WideShapes Go.ChangeAt Go.RowKit Go.Deep

section
variable {H : Type} {enc : TypeId × Value → H} {w : World}
theorem slice_of {α : Type} (z : α) {t e : TypeId} {sz fuel : Nat} {c : Value} {x : DataW H × List MemPlace} (Rep : List Value → α → Prop) (ht : Tryd.prog.underlying t = some (.slice e)) (hsz : Tryd.prog.cellsOf e = sz) (h0 : 0 < sz)
    (hrep : ∀ fuel cs x, DataW.trod enc Tryd.prog w 0 (fun _ => true) true fuel e cs = some x → ∃ d, Rep cs d) (h : DataW.trod enc Tryd.prog w 0 (fun _ => true) true fuel t [c] = some x) :
    ∃ (a : Option Addr) (l : List α) (cap : Nat), c = .slice a l.length cap ∧ l.length ≤ 9223372036854775807 ∧ (l = [] ∨ ∃ b off, a = some ⟨b, off, none⟩ ∧ 0 ≤ b ∧ b < w.heap.size ∧ ∀ i, i < l.length → ∃ cs : List Value, cs.length = sz ∧ (∀ j, j < sz → w.cell? ⟨b, off + i * sz + j, none⟩ = cs[j]?) ∧ Rep cs (l.getD i z)) := by
  rcases open_slice ht h with ⟨hc, _⟩ | ⟨a, len, cap, m, n, D, Pl, hc, _, hl, hm, hmm, _, hx⟩
  · simp at hc
    exact ⟨none, [], 0, by simpa using hc, by simp, .inl rfl⟩
  · simp at hc
    have hml : len ≤ m := by simp at hmm; omega
    rw [hsz] at hx
    have hy : ∀ i, i < len → ∃ d : α, ∃ cs' : List Value, w.cells? 0 (a.add (i * sz)) sz = some cs' ∧ Rep cs' d := fun i hi => by
      obtain ⟨cs', h1, h2⟩ := hx i (by omega)
      obtain ⟨d, hd⟩ := hrep _ _ _ h2
      exact ⟨d, cs', h1, hd⟩
    have hin : Inhabited α := ⟨z⟩
    obtain ⟨f, hf⟩ := choose_lt hy
    have hlen : ((List.range len).map f).length = len := by simp
    refine ⟨some a, (List.range len).map f, cap, by rw [hlen]; exact hc, ?_, ?_⟩
    · rw [hlen]; unfold maxLen at hm; omega
    · rw [hlen]
      by_cases hz : len = 0
      · left; simp [hz]
      right
      obtain ⟨b, off, spot⟩ := a
      have hcell : ∀ i, i < len → ∃ cs : List Value, cs.length = sz ∧ (∀ j, j < sz → w.cell? ((⟨b, off, spot⟩ : Addr).add (i * sz + j)) = cs[j]?) ∧ Rep cs (f i) := fun i hi => by
        obtain ⟨cs', h1, h2⟩ := hf i hi
        obtain ⟨_, h3, h4⟩ := World.cells?_some h1
        exact ⟨cs', h3, fun j hj => by rw [← add_add]; exact h4 j hj, h2⟩
      have hspot : spot = none := by
        obtain ⟨cs, h3, h4, _⟩ := hcell 0 (by omega)
        have h5 := h4 0 h0
        rw [List.getElem?_eq_getElem (by omega)] at h5
        simpa [Addr.add] using World.cell?_spot h5
      subst hspot
      have hat : ∀ k, (⟨b, off, none⟩ : Addr).add k = ⟨b, off + k, none⟩ := fun k => by unfold Addr.add; split <;> simp_all
      have hbl : b < w.heap.size := by
        obtain ⟨cs, h3, h4, _⟩ := hcell 0 (by omega)
        have h5 := h4 0 h0
        rw [hat, List.getElem?_eq_getElem (by omega)] at h5
        unfold World.cell? at h5
        cases hb : w.heap[b]? with
        | none => simp [hb] at h5
        | some x => exact (Array.getElem?_eq_some_iff.1 hb).1
      refine ⟨b, off, rfl, Nat.zero_le _, hbl, fun i hi => ?_⟩
      obtain ⟨cs, h3, h4, h5⟩ := hcell i hi
      refine ⟨cs, h3, fun j hj => ?_, ?_⟩
      · have := h4 j hj
        rw [hat] at this
        rw [Nat.add_assoc]; exact this
      · have e : ((List.range len).map f).getD i z = f i := by simp [List.getD, hi]
        rw [e]; exact h5

theorem int_of {fuel : Nat} {cs : List Value} {x : DataW H × List MemPlace} (h : DataW.trod enc Tryd.prog w 0 (fun _ => true) true fuel 2 cs = some x) : ∃ n : Int, cs = [.int .i64 n] := by
  obtain ⟨n, e, _⟩ := DataW.trod_int Tryd.underlying2 h
  exact ⟨n, e⟩
theorem ints_of {fuel : Nat} {c : Value} {x : DataW H × List MemPlace} (h : DataW.trod enc Tryd.prog w 0 (fun _ => true) true fuel 24 [c] = some x) : ∃ (u : Option Addr) (l : List Int) (q : Nat), c = .slice u l.length q ∧ IntsAt w 0 u l := by
  obtain ⟨a, l, cap, hc, hm, hl⟩ := slice_of (α := Int) 0 (sz := 1) (fun cs n => cs = [.int .i64 n]) Tryd.underlying24 (by kernel_rfl) (by omega) (fun _ _ _ h => int_of h) h
  refine ⟨a, l, cap, hc, hm, ?_⟩
  rcases hl with hl | ⟨b, off, ha, h0, hb, hcell⟩
  · exact .inl hl
  · refine .inr ⟨b, off, ha, h0, hb, fun i hi => ?_⟩
    obtain ⟨cs, _, h4, rfl⟩ := hcell i hi
    have := h4 0 (by omega)
    simpa using this
theorem list2 {l : List Value} (h : l.length = 2) : ∃ a b, l = [a, b] := by
  match l, h with
  | [a, b], _ => exact ⟨a, b, rfl⟩
theorem list3 {l : List Value} (h : l.length = 3) : ∃ a b c, l = [a, b, c] := by
  match l, h with
  | [a, b, c], _ => exact ⟨a, b, c, rfl⟩
theorem list4 {l : List Value} (h : l.length = 4) : ∃ a b c d, l = [a, b, c, d] := by
  match l, h with
  | [a, b, c, d], _ => exact ⟨a, b, c, d, rfl⟩
theorem list6 {l : List Value} (h : l.length = 6) : ∃ a b c d e f, l = [a, b, c, d, e, f] := by
  match l, h with
  | [a, b, c, d, e, f], _ => exact ⟨a, b, c, d, e, f, rfl⟩
theorem list7 {l : List Value} (h : l.length = 7) : ∃ a b c d e f g, l = [a, b, c, d, e, f, g] := by
  match l, h with
  | [a, b, c, d, e, f, g], _ => exact ⟨a, b, c, d, e, f, g, rfl⟩
theorem some_at {α : Type} {l : List α} {n i : Nat} (h : l.length = n) (hi : i < n) : ∃ y, l[i]? = some y := ⟨l[i]'(by omega), List.getElem?_eq_getElem (by omega)⟩
def PhiRep (w : World) (cs : List Value) (d : PhiD) : Prop := ∃ u1 q1, cs = [.int .i64 d.w, .slice u1 d.ins.length q1] ∧ IntsAt w 0 u1 d.ins
def InstRep (w : World) (cs : List Value) (d : InstD) : Prop := ∃ u6 q6, cs = [.int .i64 d.op, .int .i64 d.w, .int .i64 d.a, .int .i64 d.b, .int .i64 d.c, .int .i64 d.imm, .slice u6 d.args.length q6] ∧ IntsAt w 0 u6 d.args
def BlockRep (w : World) (cs : List Value) (d : BlockD) : Prop := ∃ u0 q0 u1 q1, cs = [.slice u0 d.phis.length q0, .slice u1 d.insts.length q1, .int .i64 d.term.kind, .int .i64 d.term.a, .int .i64 d.term.x, .int .i64 d.term.y] ∧ PhisAt w 0 u0 d.phis ∧ InstsAt w 0 u1 d.insts
def FuncRep (w : World) (cs : List Value) (d : FuncD) : Prop := ∃ u0 q0 u2 q2, cs = [.slice u0 d.params.length q0, .int .i64 d.ret, .slice u2 d.blocks.length q2] ∧ IntsAt w 0 u0 d.params ∧ BlocksAt w 0 u2 d.blocks
end
end Go.Proofs.YtjbmlebaaehjjaaDoor
