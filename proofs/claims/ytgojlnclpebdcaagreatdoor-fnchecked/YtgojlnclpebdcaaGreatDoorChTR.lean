import Derived.Test.YtgojlnclpebdcaaGreatDoorMemR
import Derived.Test.YtgojlnclpebdcaaGreatDoorChKR
import Derived.Test.YtgojlnclpebdcaaGreatDoorFmKR
import Derived.Laws.EntriesVeiled
import Derived.WalkKit
import Derived.LaidEql
import Derived.Stop.Asserts
import Derived.RowKitTokens
namespace Go.Proofs.YtgojlnclpebdcaaGreatDoor
open Go.RowKit
set_option linter.unusedVariables false
set_option linter.unusedSimpArgs false
structure Errs (w : World) (aF aN aE aC aW aU : Addr) : Prop where
 f : Gv w 1 (errV aF)
 n : Gv w 0 (errV aN)
 e : Gv w 2 (errV aE)
 c : Gv w 3 (errV aC)
 wd : Gv w 4 (errV aW)
 u : Gv w 5 (errV aU)
theorem Errs.keep {w w' : World} {aF aN aE aC aW aU : Addr} (h : Errs w aF aN aE aC aW aU) (k : Below w.heap.size w w') : Errs w' aF aN aE aC aW aU :=
 ⟨h.f.keep k, h.n.keep k, h.e.keep k, h.c.keep k, h.wd.keep k, h.u.keep k⟩
def refV (c : Int) (a : Addr) : Value := .iface 93 (.agg #[.int .i64 c, .iface 212 (.pointer (some a))])
def RefR (l : List FuncD) (k : Int) (aF aN aE aC aW aU : Addr) (v : Value) : Prop :=
 (modB l = false ∧ v = refV 1 aF) ∨ (modB l = true ∧ ¬ (0 ≤ k ∧ k < l.length) ∧ v = refV 1 aN) ∨
 ((modB l = true ∧ 0 ≤ k ∧ k < l.length) ∧ ∃ c, CodeF l (l.getD k.toNat func0) c ∧ ((c = 0 ∧ v = .nilIface) ∨ (c ≠ 0 ∧ ∃ a, (a = aE ∨ a = aC ∨ a = aW ∨ a = aU) ∧ v = refV c a)))
def passed (l : List FuncD) (d : FuncD) (j : Nat) : Prop := (0 < j → entB d = true) ∧ (1 < j → phsB d = true) ∧ (2 < j → typB d = true) ∧ (3 < j → clsB l d = true) ∧ (4 < j → DomsP d)
def AnsV (l : List FuncD) (g : FuncD) (k : Nat) (aE aC aW aU : Addr) (v : Value) : Prop := (v = .nilIface ∧ passed l g (k + 1)) ∨ ∃ x, v = .iface 212 (.pointer (some x)) ∧ CodeF l g ((k + 2 : Nat) : Int) ∧ (x = aE ∨ x = aC ∨ x = aW ∨ x = aU)
def Ans (l : List FuncD) (g : FuncD) (k : Nat) (aE aC aW aU : Addr) (e : Ending) : Prop := ∃ v, e = .returned v ∧ AnsV l g k aE aC aW aU v
theorem Ans.good {l : List FuncD} {g : FuncD} {k : Nat} {aE aC aW aU : Addr} (h : passed l g (k + 1)) : Ans l g k aE aC aW aU (.returned .nilIface) := ⟨_, rfl, .inl ⟨rfl, h⟩⟩
theorem Ans.bad {l : List FuncD} {g : FuncD} {k : Nat} {aE aC aW aU x : Addr} {v : Value} (hx : x = aE ∨ x = aC ∨ x = aW ∨ x = aU) (h : CodeF l g ((k + 2 : Nat) : Int)) (hv : v = .iface 212 (.pointer (some x))) : Ans l g k aE aC aW aU (.returned v) := ⟨_, rfl, .inr ⟨x, hv, h, hx⟩⟩
theorem Ans.val {l : List FuncD} {g : FuncD} {k : Nat} {aE aC aW aU : Addr} {e : Ending} (h : Ans l g k aE aC aW aU e) : ∃ v, e = .returned v ∧ Hid (AnsV l g k aE aC aW aU v) := h
theorem infoCk : (Tryz.prog.info? 97).map (fun i => (i.zero.isSome, i.size)) = some (true, 2) := by kernel_rfl
theorem idxC (arr : Array Value) (x : Nat) (hx : x < 5) (W : World) : (Instr.index 98 (.agg arr) (.int .i64 (x : Int))).run Tryz.prog W = .ok (.agg (arr.extract (x * 2) (x * 2 + 2))) W := by
 obtain ⟨i, hi, hs⟩ : ∃ i, Tryz.prog.info? 97 = some i ∧ i.size = 2 := by
  have h := infoCk
  cases hq : Tryz.prog.info? 97 with
  | none => rw [hq] at h; cases h
  | some i => rw [hq] at h; simp at h; exact ⟨i, rfl, h.2⟩
 simp [Instr.index, asIntOf, run_underlying Tryz.underlying98, part, isAgg, run_underlying Tryz.underlying97, sizeOf, typeInfo, hi, hs]
 intro h; omega
set_option maxHeartbeats 8000000 in
set_option maxRecDepth 100000 in
theorem refI (lo : Nat) (l : List FuncD) (pm : Option Addr) (cm : Nat) (k : Int) (aF aN aE aC aW aU : Addr) (w : World) (hsl : SmMod l) (kM : FuncsAt w lo pm l) (hE : Errs w aF aN aE aC aW aU) :
  Calls Tryz.prog 27 #[.agg #[.slice pm l.length cm], .int .i64 k] w fun e w' => (∃ v, e = .returned v ∧ RefR l k aF aN aE aC aW aU v) ∧ Below w.heap.size w w' := by
 have hB0 : Below w.heap.size w (w.alloc (.cells #[.slice pm l.length cm] 26)) := (Below.refl _ _).alloc (Nat.le_refl _) _
 have DM := modShI lo l pm cm _ hsl (kM.keep (agree_of_below hB0 lo))
 have HSL : Hid (SmMod l) := hsl
 have HKM : Hid (FuncsAt w lo pm l) := kM
 have HE : Hid (Errs w aF aN aE aC aW aU) := hE
 have hll := hsl.1
 clear hsl kM hE
 by_cases hm : modB l = true
 ·have hl3 := mod_len hm
  have HM : Hid (modB l = true) := hm
  rw [hm] at DM
  clear hm
  by_cases hk : 0 ≤ k ∧ k < l.length
  ·obtain ⟨m, hme, hml⟩ := nat_of hk
   subst hme
   have HFm := mod_form HM.out hml
   have IB := fun (W : World) => belowI_t (m : Int) l.length W (by omega) (by omega)
   rcases HKM.out.2 with hn | ⟨fb, fo, hume, hflo, hfb', hfc⟩
   ·simp [hn] at hml
   subst hume
   obtain ⟨⟨g0, gq0, n0, nm0⟩, n1, ⟨g2, gq2, n2, nm2⟩⟩ := hfc m hml
   have hgs := HSL.out.2 _ (getD_mem func0 l m hml)
   have RR : Hid (∀ c v, CodeF l (l.getD m func0) c → ((c = 0 ∧ v = .nilIface) ∨ (c ≠ 0 ∧ ∃ a, (a = aE ∨ a = aC ∨ a = aW ∨ a = aU) ∧ v = refV c a)) → RefR l m aF aN aE aC aW aU v) := fun c v h h2 => .inr (.inr ⟨⟨HM.out, hk⟩, c, by rw [Int.toNat_natCast]; exact h, h2⟩)
   generalize l.getD m func0 = g at n0 nm0 n1 n2 nm2 hgs HFm RR
   have HGS : Hid (SmFunc g) := hgs
   have HFF : Hid (Form l.length g) := HFm
   have HN : Hid (IntsAt w lo g0 g.params ∧ BlocksAt w lo g2 g.blocks) := ⟨nm0, nm2⟩
   have HCa : Hid (_ ∧ _ ∧ _) := ⟨n0, n1, n2⟩
   have hmi : (m : Int) < l.length := by omega
   have HC0 : Hid (passed l g 5 → CodeF l g 0) := fun h => .inr (.inr (.inr (.inr (.inr ⟨h.1 (by omega), h.2.1 (by omega), h.2.2.1 (by omega), h.2.2.2.1 (by omega), h.2.2.2.2 (by omega), rfl⟩))))
   clear hfc n0 n1 n2 nm0 nm2 hgs HFm hk
   go_enter Tryz.func27, Tryz.ntmps27
   go_wp2_with (first | (go_at_call 12; refine DM.mono ?_; rintro e w1 ⟨rfl, hb1⟩; have HX1 : Hid (Below (w.heap.size + 1) (w.alloc (.cells #[.slice (some ⟨fb, fo, none⟩) l.length cm] 26)) w1) := hb1.mono (by simp); have am := (bcell hb1 w.heap.size 0 (by simp)).trans ((cell_of_heap (heap_alloc_last _ _)).trans rfl); have l1 : w.heap.size < w1.heap.size := (by have := hb1.size; simp at this; omega); clear hb1 DM) | (go_at_call 36; refine (IB _).mono ?_; rintro e w9 ⟨rfl, hw9⟩; rw [hw9]; clear hw9))
   have HB1 : Hid (Below w.heap.size w w1) := below_box HX1.out
   clear am
   go_loopw [34] (fun i wr => ∃ j : Nat, j ≤ 5 ∧ i = .int .i64 j ∧ Hid (passed l g j) ∧ Hid (Below (w.heap.size + 1) (w.alloc (.cells #[.slice (some ⟨fb, fo, none⟩) l.length cm] 26)) wr)) (fun i _ => 5 - (intOf i).toNat)
   case atStart => exact ⟨0, by omega, rfl, ⟨fun h => (by omega), fun h => (by omega), fun h => (by omega), fun h => (by omega), fun h => (by omega)⟩, HX1.out.alloc (by omega) _⟩
   case round =>
    obtain ⟨j, hj, rfl, HPS, HX⟩ := hrel
    obtain ⟨wo, hwo⟩ : ∃ wo, wo = wr := ⟨_, rfl⟩
    subst hwo
    clear HX1 HB1
    have HWo : Hid (Below w.heap.size w wo) := below_box HX.out
    have hzo : w.heap.size + 1 ≤ wo.heap.size := by have := HX.out.size; simp at this; omega
    have HAM : Hid (wo.cell? ⟨w.heap.size, 0, none⟩ = some (.slice (some ⟨fb, fo, none⟩) l.length cm)) := (cell_of_heap ((HX.out.block _ (by omega)).trans (heap_alloc_last _ _))).trans rfl
    by_cases hjl : j < 5
    ·rcases (by omega : j = 0 ∨ j = 1 ∨ j = 2 ∨ j = 3 ∨ j = 4) with rfl | rfl | rfl | rfl | rfl
     have DW : ∀ W, Below w.heap.size w W → W.cell? ⟨w.heap.size, 0, none⟩ = some (.slice (some ⟨fb, fo, none⟩) l.length cm) → w.heap.size < W.heap.size → Calls Tryz.prog 48 #[.agg #[.slice g0 g.params.length gq0, .int .i64 g.ret, .slice g2 g.blocks.length gq2]] W fun e w' => Ans l g 0 aE aC aW aU e ∧ Below W.heap.size W w' := fun W hW hMc hMl => by
      refine (entryI lo g g0 gq0 g2 gq2 aE W HGS.out (HN.out.2.keep (agree_of_below hW _)) HFF.out.right (HE.out.keep hW).e).mono ?_
      rintro e w' ⟨rfl, hb⟩
      refine ⟨?_, hb⟩
      cases hP : entB g
      ·exact .bad (.inl rfl) (.inl ⟨hP, rfl⟩) (by first | rfl | simp [errV])
      ·exact .good ⟨fun _ => hP, fun h => (by omega), fun h => (by omega), fun h => (by omega), fun h => (by omega)⟩
     have IX : ∀ W, (Instr.index 98 (.agg #[.int .i64 2, .func (.func 48) #[] #[], .int .i64 3, .func (.func 49) #[] #[], .int .i64 4, .func (.func 50) #[] #[], .int .i64 5, .func (.func 46) #[] #[.pointer (some ⟨w.heap.size, 0, none⟩)], .int .i64 6, .func (.func 51) #[] #[]]) (.int .i64 0)).run Tryz.prog W = .ok (.agg #[.int .i64 2, .func (.func 48) #[] #[]]) W := fun W => idxC #[.int .i64 2, .func (.func 48) #[] #[], .int .i64 3, .func (.func 49) #[] #[], .int .i64 4, .func (.func 50) #[] #[], .int .i64 5, .func (.func 46) #[] #[.pointer (some ⟨w.heap.size, 0, none⟩)], .int .i64 6, .func (.func 51) #[] #[]] 0 (by omega) W
     focus go_wp2_with fail
     clear IX
     have chk := heap_alloc_last wo (.cells #[.int .i64 2, .func (.func 48) #[] #[]] 97)
     have hB6 := (Below.refl wo.heap.size wo).alloc (Nat.le_refl _) (.cells #[.int .i64 2, .func (.func 48) #[] #[]] 97)
     generalize wo.alloc (.cells #[.int .i64 2, .func (.func 48) #[] #[]] 97) = w6 at chk hB6 ⊢
     rotate_left
     have DW : ∀ W, Below w.heap.size w W → W.cell? ⟨w.heap.size, 0, none⟩ = some (.slice (some ⟨fb, fo, none⟩) l.length cm) → w.heap.size < W.heap.size → Calls Tryz.prog 49 #[.agg #[.slice g0 g.params.length gq0, .int .i64 g.ret, .slice g2 g.blocks.length gq2]] W fun e w' => Ans l g 1 aE aC aW aU e ∧ Below W.heap.size W w' := fun W hW hMc hMl => by
      refine (phisI lo g g0 gq0 g2 gq2 aC W HGS.out (HN.out.2.keep (agree_of_below hW _)) HFF.out.right (HE.out.keep hW).c).mono ?_
      rintro e w' ⟨rfl, hb⟩
      refine ⟨?_, hb⟩
      cases hP : phsB g
      ·exact .bad (.inr (.inl rfl)) (.inr (.inl ⟨HPS.out.1 (by omega), hP, rfl⟩)) (by first | rfl | simp [errV])
      ·exact .good ⟨fun _ => HPS.out.1 (by omega), fun _ => hP, fun h => (by omega), fun h => (by omega), fun h => (by omega)⟩
     have IX : ∀ W, (Instr.index 98 (.agg #[.int .i64 2, .func (.func 48) #[] #[], .int .i64 3, .func (.func 49) #[] #[], .int .i64 4, .func (.func 50) #[] #[], .int .i64 5, .func (.func 46) #[] #[.pointer (some ⟨w.heap.size, 0, none⟩)], .int .i64 6, .func (.func 51) #[] #[]]) (.int .i64 1)).run Tryz.prog W = .ok (.agg #[.int .i64 3, .func (.func 49) #[] #[]]) W := fun W => idxC #[.int .i64 2, .func (.func 48) #[] #[], .int .i64 3, .func (.func 49) #[] #[], .int .i64 4, .func (.func 50) #[] #[], .int .i64 5, .func (.func 46) #[] #[.pointer (some ⟨w.heap.size, 0, none⟩)], .int .i64 6, .func (.func 51) #[] #[]] 1 (by omega) W
     focus go_wp2_with fail
     clear IX
     have chk := heap_alloc_last wo (.cells #[.int .i64 3, .func (.func 49) #[] #[]] 97)
     have hB6 := (Below.refl wo.heap.size wo).alloc (Nat.le_refl _) (.cells #[.int .i64 3, .func (.func 49) #[] #[]] 97)
     generalize wo.alloc (.cells #[.int .i64 3, .func (.func 49) #[] #[]] 97) = w6 at chk hB6 ⊢
     rotate_left
     have DW : ∀ W, Below w.heap.size w W → W.cell? ⟨w.heap.size, 0, none⟩ = some (.slice (some ⟨fb, fo, none⟩) l.length cm) → w.heap.size < W.heap.size → Calls Tryz.prog 50 #[.agg #[.slice g0 g.params.length gq0, .int .i64 g.ret, .slice g2 g.blocks.length gq2]] W fun e w' => Ans l g 2 aE aC aW aU e ∧ Below W.heap.size W w' := fun W hW hMc hMl => by
      refine (typI lo g g0 gq0 g2 gq2 aW l.length W HGS.out (HN.out.1.keep (agree_of_below hW _)) (HN.out.2.keep (agree_of_below hW _)) HFF.out (HE.out.keep hW).wd).mono ?_
      rintro e w' ⟨rfl, hb⟩
      refine ⟨?_, hb⟩
      cases hP : typB g
      ·exact .bad (.inr (.inr (.inl rfl))) (.inr (.inr (.inl ⟨HPS.out.1 (by omega), HPS.out.2.1 (by omega), hP, rfl⟩))) (by first | rfl | simp [errV])
      ·exact .good ⟨fun _ => HPS.out.1 (by omega), fun _ => HPS.out.2.1 (by omega), fun _ => hP, fun h => (by omega), fun h => (by omega)⟩
     have IX : ∀ W, (Instr.index 98 (.agg #[.int .i64 2, .func (.func 48) #[] #[], .int .i64 3, .func (.func 49) #[] #[], .int .i64 4, .func (.func 50) #[] #[], .int .i64 5, .func (.func 46) #[] #[.pointer (some ⟨w.heap.size, 0, none⟩)], .int .i64 6, .func (.func 51) #[] #[]]) (.int .i64 2)).run Tryz.prog W = .ok (.agg #[.int .i64 4, .func (.func 50) #[] #[]]) W := fun W => idxC #[.int .i64 2, .func (.func 48) #[] #[], .int .i64 3, .func (.func 49) #[] #[], .int .i64 4, .func (.func 50) #[] #[], .int .i64 5, .func (.func 46) #[] #[.pointer (some ⟨w.heap.size, 0, none⟩)], .int .i64 6, .func (.func 51) #[] #[]] 2 (by omega) W
     focus go_wp2_with fail
     clear IX
     have chk := heap_alloc_last wo (.cells #[.int .i64 4, .func (.func 50) #[] #[]] 97)
     have hB6 := (Below.refl wo.heap.size wo).alloc (Nat.le_refl _) (.cells #[.int .i64 4, .func (.func 50) #[] #[]] 97)
     generalize wo.alloc (.cells #[.int .i64 4, .func (.func 50) #[] #[]] 97) = w6 at chk hB6 ⊢
     rotate_left
     have DW : ∀ W, Below w.heap.size w W → W.cell? ⟨w.heap.size, 0, none⟩ = some (.slice (some ⟨fb, fo, none⟩) l.length cm) → w.heap.size < W.heap.size → Calls Tryz.prog 46 #[.agg #[.slice g0 g.params.length gq0, .int .i64 g.ret, .slice g2 g.blocks.length gq2], .pointer (some ⟨w.heap.size, 0, none⟩)] W fun e w' => Ans l g 3 aE aC aW aU e ∧ Below W.heap.size W w' := fun W hW hMc hMl => by
      refine (closI lo l g w.heap.size (some ⟨fb, fo, none⟩) cm g0 gq0 g2 gq2 aW aC W HSL.out HGS.out (HKM.out.keep (agree_of_below hW _)) (HN.out.1.keep (agree_of_below hW _)) (HN.out.2.keep (agree_of_below hW _)) HFF.out (HE.out.keep hW).wd (HE.out.keep hW).c hMc hMl).mono ?_
      rintro e w' ⟨⟨v, rfl, ho⟩, hb⟩
      refine ⟨?_, hb⟩
      cases hP : clsB l g
      ·obtain ⟨x, rfl, hx2⟩ := ho.no hP
       exact .bad (by rcases hx2 with rfl | rfl <;> simp) (.inr (.inr (.inr (.inl ⟨HPS.out.1 (by omega), HPS.out.2.1 (by omega), HPS.out.2.2.1 (by omega), hP, rfl⟩)))) rfl
      ·rw [ho.yes hP]; exact .good ⟨fun _ => HPS.out.1 (by omega), fun _ => HPS.out.2.1 (by omega), fun _ => HPS.out.2.2.1 (by omega), fun _ => hP, fun h => (by omega)⟩
     have IX : ∀ W, (Instr.index 98 (.agg #[.int .i64 2, .func (.func 48) #[] #[], .int .i64 3, .func (.func 49) #[] #[], .int .i64 4, .func (.func 50) #[] #[], .int .i64 5, .func (.func 46) #[] #[.pointer (some ⟨w.heap.size, 0, none⟩)], .int .i64 6, .func (.func 51) #[] #[]]) (.int .i64 3)).run Tryz.prog W = .ok (.agg #[.int .i64 5, .func (.func 46) #[] #[.pointer (some ⟨w.heap.size, 0, none⟩)]]) W := fun W => idxC #[.int .i64 2, .func (.func 48) #[] #[], .int .i64 3, .func (.func 49) #[] #[], .int .i64 4, .func (.func 50) #[] #[], .int .i64 5, .func (.func 46) #[] #[.pointer (some ⟨w.heap.size, 0, none⟩)], .int .i64 6, .func (.func 51) #[] #[]] 3 (by omega) W
     focus go_wp2_with fail
     clear IX
     have chk := heap_alloc_last wo (.cells #[.int .i64 5, .func (.func 46) #[] #[.pointer (some ⟨w.heap.size, 0, none⟩)]] 97)
     have hB6 := (Below.refl wo.heap.size wo).alloc (Nat.le_refl _) (.cells #[.int .i64 5, .func (.func 46) #[] #[.pointer (some ⟨w.heap.size, 0, none⟩)]] 97)
     generalize wo.alloc (.cells #[.int .i64 5, .func (.func 46) #[] #[.pointer (some ⟨w.heap.size, 0, none⟩)]] 97) = w6 at chk hB6 ⊢
     rotate_left
     have DW : ∀ W, Below w.heap.size w W → W.cell? ⟨w.heap.size, 0, none⟩ = some (.slice (some ⟨fb, fo, none⟩) l.length cm) → w.heap.size < W.heap.size → Calls Tryz.prog 51 #[.agg #[.slice g0 g.params.length gq0, .int .i64 g.ret, .slice g2 g.blocks.length gq2]] W fun e w' => Ans l g 4 aE aC aW aU e ∧ Below W.heap.size W w' := fun W hW hMc hMl => by
      refine (sightI lo g g0 gq0 g2 gq2 l.length aU W HGS.out (HN.out.2.keep (agree_of_below hW _)) HFF.out (HPS.out.2.1 (by omega)) (HE.out.keep hW).u).mono ?_
      rintro e w' ⟨⟨v, rfl, ho⟩, hb⟩
      refine ⟨?_, hb⟩
      rcases ho with ⟨hP, ho⟩ | ⟨hP, ho⟩
      ·rw [ho]; exact .good ⟨fun _ => HPS.out.1 (by omega), fun _ => HPS.out.2.1 (by omega), fun _ => HPS.out.2.2.1 (by omega), fun _ => HPS.out.2.2.2.1 (by omega), fun _ => hP⟩
      ·rw [ho]; exact .bad (.inr (.inr (.inr rfl))) (.inr (.inr (.inr (.inr (.inl ⟨HPS.out.1 (by omega), HPS.out.2.1 (by omega), HPS.out.2.2.1 (by omega), HPS.out.2.2.2.1 (by omega), hP, rfl⟩))))) rfl
     have IX : ∀ W, (Instr.index 98 (.agg #[.int .i64 2, .func (.func 48) #[] #[], .int .i64 3, .func (.func 49) #[] #[], .int .i64 4, .func (.func 50) #[] #[], .int .i64 5, .func (.func 46) #[] #[.pointer (some ⟨w.heap.size, 0, none⟩)], .int .i64 6, .func (.func 51) #[] #[]]) (.int .i64 4)).run Tryz.prog W = .ok (.agg #[.int .i64 6, .func (.func 51) #[] #[]]) W := fun W => idxC #[.int .i64 2, .func (.func 48) #[] #[], .int .i64 3, .func (.func 49) #[] #[], .int .i64 4, .func (.func 50) #[] #[], .int .i64 5, .func (.func 46) #[] #[.pointer (some ⟨w.heap.size, 0, none⟩)], .int .i64 6, .func (.func 51) #[] #[]] 4 (by omega) W
     focus go_wp2_with fail
     clear IX
     have chk := heap_alloc_last wo (.cells #[.int .i64 6, .func (.func 51) #[] #[]] 97)
     have hB6 := (Below.refl wo.heap.size wo).alloc (Nat.le_refl _) (.cells #[.int .i64 6, .func (.func 51) #[] #[]] 97)
     generalize wo.alloc (.cells #[.int .i64 6, .func (.func 51) #[] #[]] 97) = w6 at chk hB6 ⊢
     rotate_left
     all_goals
      have hy : wo.heap.size < w6.heap.size := (Array.getElem?_eq_some_iff.1 chk).1
      have HB6 : Hid (Below wo.heap.size wo w6) := hB6
      have HW6 : Hid (Below w.heap.size w w6) := HWo.out.trans (hB6.mono HWo.out.size)
      have am6 := (bcell hB6 _ _ (by omega)).trans HAM.out
      have L1 : w.heap.size < w6.heap.size := by omega
      have L2 : fb < w6.heap.size := by have := HW6.out.size; omega
      have f60 := (bcell HW6.out _ _ hfb').trans HCa.out.1
      have f61 := (bcell HW6.out _ _ hfb').trans HCa.out.2.1
      have f62 := (bcell HW6.out _ _ hfb').trans HCa.out.2.2
      clear hB6
      refine wp_region_held_drew (S := fun w' => Below w6.heap.size w6 w') (by kernel_rfl) ((Below.refl _ _).drew) (fun hHeld => ?_)
      refine tkh 0 (v := ?_) rfl rfl (by kernel_rfl) (fun _ _ _ h => h) (yesH (by rfl) ?_) hHeld ?_
      rotate_left
      ·intro w9 hS9
       go_simp
       try with_reducible rfl
      simp only [sA, sB, sC]
      refine tkh 1 (v := ?_) rfl rfl (by kernel_rfl) (fun _ _ _ h => h) (yesH (by rfl) ?_) hHeld ?_
      rotate_left
      ·intro w9 hS9
       have qa := (cell_of_heap (o := 1) ((hS9.block _ hy).trans chk)).trans rfl
       go_simp
       try with_reducible rfl
      simp only [sA, sB, sC]
      refine tkh 2 (v := ?_) rfl rfl (by kernel_rfl) (fun _ _ _ h => h) (yesH (by rfl) ?_) hHeld ?_
      rotate_left
      ·intro w9 hS9
       go_simp
       try with_reducible rfl
      simp only [sA, sB, sC]
      refine tkh 3 (v := ?_) rfl rfl (by kernel_rfl) (fun _ _ _ h => h) (yesH (by rfl) ?_) hHeld ?_
      rotate_left
      ·intro w9 hS9
       have qa := (bcell hS9 _ _ L1).trans am6
       go_simp
       try with_reducible rfl
      simp only [sA, sB, sC]
      refine tkh 4 (v := ?_) rfl rfl (by kernel_rfl) (fun _ _ _ h => h) (yesH (by rfl) ?_) hHeld ?_
      rotate_left
      ·intro w9 hS9
       go_simp
       try with_reducible rfl
      simp only [sA, sB, sC]
      refine tkh 5 (v := ?_) rfl rfl (by kernel_rfl) (fun _ _ _ h => h) (yesH (by rfl) ?_) hHeld ?_
      rotate_left
      ·intro w9 hS9
       go_simp
       try with_reducible rfl
      simp only [sA, sB, sC]
      refine tkh 6 (v := ?_) rfl rfl (by kernel_rfl) (fun _ _ _ h => h) (yesH (by rfl) ?_) hHeld ?_
      rotate_left
      ·intro w9 hS9
       have qa := (bcell hS9 _ _ L2).trans f60
       have qb := (bcell hS9 _ _ L2).trans f61
       have qc := (bcell hS9 _ _ L2).trans f62
       go_simp
       try with_reducible rfl
      simp only [sA, sB, sC]
      refine wpAnyH_ready (rs := [7]) (by kernel_rfl) (by simp) ?_
      refine AllReadyH.cons rfl (fun K hK => ?_) AllReadyH.nil
      go_simp
      go_wp2_with ((first | go_at_call 48 | go_at_call 49 | go_at_call 50 | go_at_call 46 | go_at_call 51); refine (DW _ (HW6.out.trans (hHeld.mono HW6.out.size)) ((bcell hHeld _ _ L1).trans am6) (Nat.lt_of_lt_of_le L1 hHeld.size)).mono ?_; rintro e w7 ⟨ha, hb7⟩; obtain ⟨v, rfl, HA⟩ := ha.val; have hb7s := hHeld.trans (hb7.mono hHeld.size))
      refine hK.out _ _ ?_ (fun hHeld2 => ?_)
      ·exact hb7s
      clear hK K hHeld
      have hHeld := hHeld2
      clear hHeld2
      try simp only [Act.put, sA, sB, sC]
      refine tkh 8 (v := ?_) rfl rfl (by kernel_rfl) (fun _ _ _ h => h) (yesH (by rfl) ?_) hHeld ?_
      rotate_left
      ·intro w9 hS9
       go_simp
       try with_reducible rfl
      simp only [sA, sB, sC]
      refine wpAnyH_done (by kernel_rfl) ?_ _
      have B7 : Hid (Below w.heap.size w w7) := HW6.out.trans (hb7s.mono HW6.out.size)
      rcases HA.out with ⟨rfl, h⟩ | ⟨x, rfl, h, hx⟩
      ·have HNX : Hid (passed l g _) := h
       have HX7 := HX.out.trans ((HB6.out.trans (hb7s.mono HB6.out.size)).mono (by omega))
       clear HA h
       go_wp2_with fail
       go_roundw
       case rel => exact ⟨_, by omega, by go_num, HNX.out, HX7⟩
       case measure => simp [intOf]
      ·have HCD : Hid (CodeF l g _) := h
       have ck0 := (cell_of_heap (o := 0) ((hb7s.block _ hy).trans chk)).trans rfl
       clear HA h
       go_wp2_with fail
       go_ret
       exact ⟨⟨_, rfl, RR.out _ _ HCD.out (.inr ⟨by decide, x, hx, rfl⟩)⟩, B7.out⟩
    ·have hj5 : j = 5 := by omega
     have E : Hid (RefR l m aF aN aE aC aW aU .nilIface) := RR.out 0 _ (HC0.out (by rw [← hj5]; exact HPS.out)) (.inl ⟨rfl, rfl⟩)
     go_wp2_with fail
     go_ret
     exact ⟨⟨_, rfl, E.out⟩, HWo.out⟩
  ·have E : Hid (RefR l k aF aN aE aC aW aU (refV 1 aN)) := .inr (.inl ⟨HM.out, hk, rfl⟩)
   have IB := fun (W : World) => belowI_f k l.length W hk
   clear hk
   go_enter Tryz.func27, Tryz.ntmps27
   go_wp2_with (first | (go_at_call 12; refine DM.mono ?_; rintro e w1 ⟨rfl, hb1⟩; have HB1 : Hid (Below w.heap.size w w1) := hB0.trans (hb1.mono (by simp)); have am := (bcell hb1 w.heap.size 0 (by simp)).trans ((cell_of_heap (heap_alloc_last _ _)).trans rfl); have e0 := (HE.out.keep HB1.out).n.cell; unfold errV at e0; clear hb1) | (go_at_call 36; refine (IB _).mono ?_; rintro e w9 ⟨rfl, hw9⟩; rw [hw9]; clear hw9))
   go_ret
   exact ⟨⟨_, rfl, E.out⟩, HB1.out⟩
 ·have hm' : modB l = false := by simpa using hm
  have E : Hid (RefR l k aF aN aE aC aW aU (refV 1 aF)) := .inl ⟨hm', rfl⟩
  rw [hm'] at DM
  clear hm hm'
  go_enter Tryz.func27, Tryz.ntmps27
  go_wp2_with (first | (go_at_call 12; refine DM.mono ?_; rintro e w1 ⟨rfl, hb1⟩; have HB1 : Hid (Below w.heap.size w w1) := hB0.trans (hb1.mono (by simp)); have e0 := (HE.out.keep HB1.out).f.cell; unfold errV at e0; clear hb1))
  go_ret
  exact ⟨⟨_, rfl, E.out⟩, HB1.out⟩
end Go.Proofs.YtgojlnclpebdcaaGreatDoor
namespace Go.Proofs.YtgojlnclpebdcaaGreatDoor
open Go.RowKit Go.Extern.Stop Go.Stop Go.Extern
set_option linter.unusedVariables false
set_option linter.unusedSimpArgs false
theorem asNil (t : Value) (w : World) :
  Calls Tryz.prog 54 #[.nilIface, t] w fun e w' => e = .returned (.bool false) ∧ w' = w := by
 go_enter Tryz.func54, Tryz.ntmps54
 go_wp2
 go_ret
 exact ⟨rfl, rfl⟩
theorem vP (t : Addr) (w : World) : (ReflectliteValue.unpack (.iface 105 (.pointer (some t)))).run Tryz.prog w
  = .ok (.agg #[.pointer (some ⟨7, 105, none⟩), .pointer (some ⟨w.heap.size, 0, none⟩), .int .u64 150]) (w.alloc (.cells #[.pointer (some t)] 105)) := by kernel_rfl
theorem tP (a : Addr) (w : World) : (ReflectliteValue.methodAny (ReflectliteValue.valueError "reflectlite.Value.Type" 0) (fun t _ _ _ => ReflectliteType.toType t) #[.agg #[.pointer (some ⟨7, 105, none⟩), .pointer (some a), .int .u64 150]]).run Tryz.prog w
  = .ok (.iface 151 (.agg #[.pointer (some ⟨7, 105, none⟩)])) w := by kernel_rfl
theorem mKind (h : Value) (w : World) : (Go.method 344 151 (.agg #[h]) "Kind").run Tryz.prog w = .ok (162, h) w := by kernel_rfl
theorem kP (w : World) : ((ReflectliteType.abiMethod fun t => (fun a : Nat => Value.int IntKind.u8 (a : Int)) <$> Rtype.kind t) #[.pointer (some ⟨7, 105, none⟩)]).run Tryz.prog w = .ok (.int .u8 22) w := by kernel_rfl
theorem kR (w : World) : ((ReflectliteType.abiMethod fun t => (fun a : Nat => Value.int IntKind.u8 (a : Int)) <$> Rtype.kind t) #[.pointer (some ⟨7, 93, none⟩)]).run Tryz.prog w = .ok (.int .u8 25) w := by kernel_rfl
theorem rlmC (z : Sem Value) (f : TypeId → Addr → Nat → Nat → Sem Value) (v : Value) (t : TypeId) (a : Addr) (fl : Nat) (W : World) (h : (ReflectliteValue.parts v).run Tryz.prog W = .ok (some (t, a, fl)) W) :
  (ReflectliteValue.method z f #[v]).run Tryz.prog W = (f t a fl (fl % 32)).run Tryz.prog W := by
 refine Eq.trans (b := Sem.run Tryz.prog (ReflectliteValue.parts v >>= _) W) rfl ?_
 rw [Sem.run_bind, h]
 rfl
theorem partsP (a : Addr) (w : World) : (ReflectliteValue.parts (.agg #[.pointer (some ⟨7, 105, none⟩), .pointer (some a), .int .u64 150])).run Tryz.prog w = .ok (some (105, a, 150)) w := by kernel_rfl
theorem isNilP (a p : Addr) (W : World) (ha : W.cell? a = some (.pointer (some p))) :
  (ReflectliteValue.method (ReflectliteValue.valueError "reflectlite.Value.IsNil" 0) ReflectliteValue.isNil #[.agg #[.pointer (some ⟨7, 105, none⟩), .pointer (some a), .int .u64 150]]).run Tryz.prog W = .ok (.bool false) W := by
 rw [rlmC _ _ _ _ _ _ _ (partsP a W)]
 simp [ReflectliteValue.isNil, loadVar, isAgg, underlying, Tryz.underlying105, ha, Result.andThen]
theorem mElem (h : Value) (w : World) : (Go.method 344 151 (.agg #[h]) "Elem").run Tryz.prog w = .ok (181, .agg #[h]) w := by kernel_rfl
theorem mImpl (h : Value) (w : World) : (Go.method 344 151 (.agg #[h]) "Implements").run Tryz.prog w = .ok (182, .agg #[h]) w := by kernel_rfl
theorem mAss (h : Value) (w : World) : (Go.method 344 151 (.agg #[h]) "AssignableTo").run Tryz.prog w = .ok (179, .agg #[h]) w := by kernel_rfl
theorem elP (w : World) : (ReflectliteType.method ReflectliteType.elem #[.agg #[.pointer (some ⟨7, 105, none⟩)]]).run Tryz.prog w = .ok (.iface 151 (.agg #[.pointer (some ⟨7, 93, none⟩)])) w := by kernel_rfl
theorem imR (w : World) : (ReflectliteType.relation "Implements" ReflectliteType.implements_ #[.agg #[.pointer (some ⟨7, 93, none⟩)], .iface 151 (.agg #[.pointer (some ⟨7, 61, none⟩)])]).run Tryz.prog w = .ok (.bool true) w := by kernel_rfl
theorem toR (v : Value) (w : World) : (ReflectliteType.typeOf #[.iface 93 v]).run Tryz.prog w = .ok (.iface 151 (.agg #[.pointer (some ⟨7, 93, none⟩)])) w := by kernel_rfl
theorem asR (w : World) : (ReflectliteType.relation "AssignableTo" ReflectliteType.assignableTo #[.agg #[.pointer (some ⟨7, 93, none⟩)], .iface 151 (.agg #[.pointer (some ⟨7, 93, none⟩)])]).run Tryz.prog w = .ok (.bool true) w := by kernel_rfl
theorem vR (c : Int) (y : Value) (w : World) : (ReflectliteValue.unpack (.iface 93 (.agg #[.int .i64 c, y]))).run Tryz.prog w
  = .ok (.agg #[.pointer (some ⟨7, 93, none⟩), .pointer (some ⟨w.heap.size, 0, none⟩), .int .u64 153]) (w.alloc (.cells #[.int .i64 c, y] 93)) := by kernel_rfl
theorem eoP (w : World) : (Rtype.elem? 105).run Tryz.prog w = .ok (some 93) w := by kernel_rfl
theorem mkR (p : Addr) (w : World) : (ReflectliteValue.mk 93 p ReflectliteValue.flagAddr).run Tryz.prog w = .ok (.agg #[.pointer (some ⟨7, 93, none⟩), .pointer (some p), .int .u64 409]) w := by kernel_rfl
theorem elvP (a p : Addr) (W : World) (ha : W.cell? a = some (.pointer (some p))) :
  (ReflectliteValue.method (ReflectliteValue.valueError "reflectlite.Value.Elem" 0) ReflectliteValue.elem #[.agg #[.pointer (some ⟨7, 105, none⟩), .pointer (some a), .int .u64 150]]).run Tryz.prog W
   = .ok (.agg #[.pointer (some ⟨7, 93, none⟩), .pointer (some p), .int .u64 409]) W := by
 rw [rlmC _ _ _ _ _ _ _ (partsP a W)]
 simp [ReflectliteValue.elem, loadVar, isAgg, underlying, Tryz.underlying105, ha, Result.andThen, eoP, mkR]
theorem partsRa (a : Addr) (w : World) : (ReflectliteValue.parts (.agg #[.pointer (some ⟨7, 93, none⟩), .pointer (some a), .int .u64 409])).run Tryz.prog w = .ok (some (93, a, 409)) w := by kernel_rfl
theorem partsR (a : Addr) (w : World) : (ReflectliteValue.parts (.agg #[.pointer (some ⟨7, 93, none⟩), .pointer (some a), .int .u64 153])).run Tryz.prog w = .ok (some (93, a, 153)) w := by kernel_rfl
theorem dirR (w : World) : (Rtype.directlyAssignable 93 93).run Tryz.prog w = .ok true w := by kernel_rfl
theorem sizR (w : World) : (sizeOf 93).run Tryz.prog w = .ok 2 w := by kernel_rfl
theorem setR (ta b : Nat) (c : Int) (a : Addr) (W : World) (hb : W.heap[b]? = some (.cells #[.int .i64 c, errV a] 93 (0, 0))) (q0 q1 : Value) (ht : W.heap[ta]? = some (.cells #[q0, q1] 93 (0, 0))) :
  (ReflectliteValue.set #[.agg #[.pointer (some ⟨7, 93, none⟩), .pointer (some ⟨ta, 0, none⟩), .int .u64 409], .agg #[.pointer (some ⟨7, 93, none⟩), .pointer (some ⟨b, 0, none⟩), .int .u64 153]]).run Tryz.prog W
   = .ok (.tuple #[]) ((W.setCell ⟨ta, 0, none⟩ (.int .i64 c)).setCell ⟨ta, 1, none⟩ (errV a)) := by
 have hb0 : W.cell? ⟨b, 0, none⟩ = some (.int .i64 c) := (cell_of_heap hb).trans rfl
 have hb1 : W.cell? ⟨b, 1, none⟩ = some (errV a) := (cell_of_heap hb).trans rfl
 have ht0 : W.cell? ⟨ta, 0, none⟩ = some q0 := (cell_of_heap ht).trans rfl
 have hs := heap_setCell_same W ta 0 #[q0, q1] 93 (.int .i64 c) ht
 have ht1 : (W.setCell ⟨ta, 0, none⟩ (.int .i64 c)).cell? ⟨ta, 1, none⟩ = some q1 := (cell_of_heap hs).trans rfl
 have hf0 := frozen_of_row W ta 0 _ _ ht
 have hf1 := frozen_of_row _ ta 1 _ _ hs
 have LC : (loadCells ⟨b, 0, none⟩ 2).run Tryz.prog W = .ok #[.int .i64 c, errV a] W := by
  have := run_loadCells_list (P := Tryz.prog) W ⟨b, 0, none⟩ [.int .i64 c, errV a] (fun j v hv => by
   rcases j with _ | _ | j
   ·simp at hv; subst hv; exact hb0
   ·simp at hv; subst hv; exact hb1
   ·simp at hv)
  exact this
 have S0 : (store ⟨ta, 0, none⟩ (.int .i64 c)).run Tryz.prog W = .ok () (W.setCell ⟨ta, 0, none⟩ (.int .i64 c)) := by
  rw [run_store Tryz.prog W _ _ _ (by rfl), ht0]
  simp [hf0]
 have S1 : (store ⟨ta, 1, none⟩ (errV a)).run Tryz.prog (W.setCell ⟨ta, 0, none⟩ (.int .i64 c)) = .ok () ((W.setCell ⟨ta, 0, none⟩ (.int .i64 c)).setCell ⟨ta, 1, none⟩ (errV a)) := by
  rw [run_store Tryz.prog _ _ _ _ (by rfl), ht1]
  simp [hf1]
 refine Eq.trans (b := Sem.run Tryz.prog (ReflectliteValue.parts (.agg #[.pointer (some ⟨7, 93, none⟩), .pointer (some ⟨ta, 0, none⟩), .int .u64 409]) >>= fun r => ReflectliteValue.parts (.agg #[.pointer (some ⟨7, 93, none⟩), .pointer (some ⟨b, 0, none⟩), .int .u64 153]) >>= _) W) rfl ?_
 simp only [Sem.run_bind, partsRa, partsR, Result.andThen]
 simp [ReflectliteValue.flagAddr, loadVar, isAgg, underlying, Tryz.underlying93, Result.andThen, dirR, sizR, storeVar, Value.cells, LC]
 simp [storeCells, Addr.add, S0, S1, Result.andThen]
set_option maxHeartbeats 4000000 in
theorem asIn (ta vb : Nat) (c : Int) (a : Addr) (q0 q1 : Value) (w : World) (hv : w.cell? ⟨vb, 0, none⟩ = some (.pointer (some ⟨ta, 0, none⟩))) (ht : w.heap[ta]? = some (.cells #[q0, q1] 93 (0, 0))) :
  Calls Tryz.prog 91 #[refV c a, .iface 105 (.pointer (some ⟨ta, 0, none⟩)), .agg #[.pointer (some ⟨7, 105, none⟩), .pointer (some ⟨vb, 0, none⟩), .int .u64 150], .iface 151 (.agg #[.pointer (some ⟨7, 93, none⟩)])] w
   fun ev w' => ev = .returned (.bool true) ∧ Below ta w w' ∧ w'.cell? ⟨ta, 0, none⟩ = some (.int .i64 c) := by
 have h39 := @run_callFunc_extern Tryz.prog 52 _ ReflectliteType.typeOf Tryz.func52 (by kernel_rfl) (by kernel_rfl) (by kernel_rfl) (by kernel_rfl)
 have h56 := @run_callFunc_extern Tryz.prog 88 _ (fun args => ReflectliteValue.unpack (args.getD 0 (.tuple #[]))) Tryz.func88 (by kernel_rfl) (by kernel_rfl) (by kernel_rfl) (by kernel_rfl)
 have h155 := @run_callFunc_extern Tryz.prog 179 _ (ReflectliteType.relation "AssignableTo" ReflectliteType.assignableTo) Tryz.func179 (by kernel_rfl) (by kernel_rfl) (by kernel_rfl) (by kernel_rfl)
 have h82 := @run_callFunc_extern Tryz.prog 127 _ (ReflectliteValue.method (ReflectliteValue.valueError "reflectlite.Value.Elem" 0) ReflectliteValue.elem) Tryz.func127 (by kernel_rfl) (by kernel_rfl) (by kernel_rfl) (by kernel_rfl)
 have h83 := @run_callFunc_extern Tryz.prog 128 _ ReflectliteValue.set Tryz.func128 (by kernel_rfl) (by kernel_rfl) (by kernel_rfl) (by kernel_rfl)
 have tO := toR
 have mA := mAss
 have a25 := asR
 have v25 := vR
 have htl : ta < w.heap.size := by
  rcases Nat.lt_or_ge ta w.heap.size with h | h
  ·exact h
  ·rw [Array.getElem?_eq_none h] at ht; cases ht
 have hvl : vb < w.heap.size := by
  rcases Nat.lt_or_ge vb w.heap.size with h | h
  ·exact h
  ·simp [World.cell?, Array.getElem?_eq_none h] at hv
 have el := elvP ⟨vb, 0, none⟩ ⟨ta, 0, none⟩ (w.alloc (.cells #[.pointer (some ⟨7, 105, none⟩), .pointer (some ⟨vb, 0, none⟩), .int .u64 150] 164)) (by rw [World.cell?_alloc_lt _ _ ⟨vb, 0, none⟩ hvl]; exact hv)
 have st := setR ta (w.heap.size + 1) c a ((w.alloc (.cells #[.pointer (some ⟨7, 105, none⟩), .pointer (some ⟨vb, 0, none⟩), .int .u64 150] 164)).alloc (.cells #[.int .i64 c, errV a] 93))
  (by have := heap_alloc_last (w.alloc (.cells #[.pointer (some ⟨7, 105, none⟩), .pointer (some ⟨vb, 0, none⟩), .int .u64 150] 164)) (.cells #[.int .i64 c, errV a] 93); simpa using this) q0 q1
  ((((Below.refl _ _).alloc (by simp) _ : Below w.heap.size _ _).block ta htl).trans ((((Below.refl _ _).alloc (Nat.le_refl _) _ : Below w.heap.size w _).block ta htl).trans ht))
 have HT : Hid (w.heap[ta]? = some (.cells #[q0, q1] 93 (0, 0))) := ht
 unfold errV at st
 unfold refV
 clear ht hv
 go_enter Tryz.func91, Tryz.ntmps91
 go_wp2
 refine wp_loop_rounds 1 ?_
 rw [rounds_succ]
 go_wp2
 go_ret
 have R1 := heap_setCell_same _ ta 0 _ _ (.int .i64 c) HT.out
 have R2 := heap_setCell_same _ ta 1 _ _ (errV a) R1
 exact ⟨rfl, ((((Below.refl ta w).setCell (p := ⟨ta, 0, none⟩) (Nat.le_refl _) _).setCell (p := ⟨ta, 1, none⟩) (Nat.le_refl _) _).alloc (by simp; omega) _).alloc (by simp; omega) _,
  (cell_of_heap ((((Below.refl (ta + 1) _).alloc (by simp; omega) _ |>.alloc (by simp; omega) _).block ta (by omega)).trans R2)).trans rfl⟩
set_option maxHeartbeats 4000000 in
theorem asHit (ta : Nat) (c : Int) (a : Addr) (q0 q1 : Value) (w : World) (hg : Gv w 6 (.iface 151 (.agg #[.pointer (some ⟨7, 61, none⟩)]))) (ht : w.heap[ta]? = some (.cells #[q0, q1] 93 (0, 0))) :
  Calls Tryz.prog 54 #[refV c a, .iface 105 (.pointer (some ⟨ta, 0, none⟩))] w
   fun ev w' => ev = .returned (.bool true) ∧ Below ta w w' ∧ w'.cell? ⟨ta, 0, none⟩ = some (.int .i64 c) := by
 have h56 := @run_callFunc_extern Tryz.prog 88 _ (fun args => ReflectliteValue.unpack (args.getD 0 (.tuple #[]))) Tryz.func88 (by kernel_rfl) (by kernel_rfl) (by kernel_rfl) (by kernel_rfl)
 have h57 := @run_callFunc_extern Tryz.prog 89 _ (ReflectliteValue.methodAny (ReflectliteValue.valueError "reflectlite.Value.Type" 0) (fun t _ _ _ => ReflectliteType.toType t)) Tryz.func89 (by kernel_rfl) (by kernel_rfl) (by kernel_rfl) (by kernel_rfl)
 have h58 := @run_callFunc_extern Tryz.prog 90 _ (ReflectliteValue.method (ReflectliteValue.valueError "reflectlite.Value.IsNil" 0) ReflectliteValue.isNil) Tryz.func90 (by kernel_rfl) (by kernel_rfl) (by kernel_rfl) (by kernel_rfl)
 have h144 := @run_callFunc_extern Tryz.prog 162 _ (ReflectliteType.abiMethod fun t => do pure (.int .u8 (← Rtype.kind t))) Tryz.func162 (by kernel_rfl) (by kernel_rfl) (by kernel_rfl) (by kernel_rfl)
 have h157 := @run_callFunc_extern Tryz.prog 181 _ (ReflectliteType.method ReflectliteType.elem) Tryz.func181 (by kernel_rfl) (by kernel_rfl) (by kernel_rfl) (by kernel_rfl)
 have h158 := @run_callFunc_extern Tryz.prog 182 _ (ReflectliteType.relation "Implements" ReflectliteType.implements_) Tryz.func182 (by kernel_rfl) (by kernel_rfl) (by kernel_rfl) (by kernel_rfl)
 have f6 := vP
 have f7 := tP
 have mK := mKind
 have mE := mElem
 have mI := mImpl
 have k27 := kP
 have k25 := kR
 have e27 := elP
 have i25 := imR
 have htl : ta < w.heap.size := by
  rcases Nat.lt_or_ge ta w.heap.size with h | h
  ·exact h
  ·rw [Array.getElem?_eq_none h] at ht; cases ht
 have n8 := isNilP ⟨w.heap.size, 0, none⟩ ⟨ta, 0, none⟩ ((w.alloc (.cells #[.pointer (some ⟨ta, 0, none⟩)] 105)).alloc (.cells #[.pointer (some ⟨7, 105, none⟩), .pointer (some ⟨w.heap.size, 0, none⟩), .int .u64 150] 164)) (by simp)
 have hB : Below w.heap.size w ((w.alloc (.cells #[.pointer (some ⟨ta, 0, none⟩)] 105)).alloc (.cells #[.pointer (some ⟨7, 105, none⟩), .pointer (some ⟨w.heap.size, 0, none⟩), .int .u64 150] 164)) := ((Below.refl _ _).alloc (Nat.le_refl _) _).alloc (by simp) _
 have hg2 := (hg.keep hB).cell
 have AS := asIn ta w.heap.size c a q0 q1 ((w.alloc (.cells #[.pointer (some ⟨ta, 0, none⟩)] 105)).alloc (.cells #[.pointer (some ⟨7, 105, none⟩), .pointer (some ⟨w.heap.size, 0, none⟩), .int .u64 150] 164)) (by simp) ((hB.block ta htl).trans ht)
 have HB : Hid (Below w.heap.size w _) := hB
 unfold refV at AS ⊢
 clear ht hB hg
 go_enter Tryz.func54, Tryz.ntmps54
 go_wp2_with (go_at_call 91; refine AS.mono ?_; rintro e w1 ⟨rfl, hb1, hc1⟩)
 go_ret
 exact ⟨rfl, (HB.out.mono (by omega)).trans hb1, hc1⟩
set_option maxHeartbeats 4000000 in
theorem codeI (c : Int) (a : Addr) (w : World) (hg : Gv w 6 (.iface 151 (.agg #[.pointer (some ⟨7, 61, none⟩)]))) :
  Calls Tryz.prog 29 #[refV c a] w fun e w' => e = .returned (.int .i64 c) ∧ Below w.heap.size w w' := by
 have hB : Below w.heap.size w (w.alloc (.cells #[.int .i64 0, .nilIface] 93)) := (Below.refl _ _).alloc (Nat.le_refl _) _
 have AS := asHit w.heap.size c a (.int .i64 0) .nilIface (w.alloc (.cells #[.int .i64 0, .nilIface] 93)) (hg.keep hB) (heap_alloc_last _ _)
 have HB : Hid (Below w.heap.size w _) := hB
 unfold refV at AS ⊢
 clear hB hg
 go_enter Tryz.func29, Tryz.ntmps29
 go_wp2_with (go_at_call 54; refine AS.mono ?_; rintro e w1 ⟨rfl, hb1, hc1⟩)
 go_ret
 exact ⟨rfl, HB.out.trans hb1⟩
theorem codeNil (w : World) :
  Calls Tryz.prog 29 #[.nilIface] w fun e w' => e = .returned (.int .i64 0) ∧ Below w.heap.size w w' := by
 have hB : Below w.heap.size w (w.alloc (.cells #[.int .i64 0, .nilIface] 93)) := (Below.refl _ _).alloc (Nat.le_refl _) _
 have AS := fun t => asNil t (w.alloc (.cells #[.int .i64 0, .nilIface] 93))
 have HB : Hid (Below w.heap.size w _) := hB
 clear hB
 go_enter Tryz.func29, Tryz.ntmps29
 go_wp2_with (go_at_call 54; refine (AS _).mono ?_; rintro e w1 ⟨rfl, rfl⟩)
 go_ret
 exact ⟨rfl, HB.out⟩
end Go.Proofs.YtgojlnclpebdcaaGreatDoor
namespace Go.Proofs.YtgojlnclpebdcaaGreatDoor
open Go.RowKit Go.Extern.Stop Go.Stop Go.Extern
set_option linter.unusedVariables false
set_option linter.unusedSimpArgs false
theorem isTO (v : Value) (w : World) : (Extern.ReflectliteType.typeOf #[.iface 212 v]).run Tryz.prog w = .ok (.iface 151 (.agg #[.pointer (some ⟨7, 212, none⟩)])) w := by kernel_rfl
noncomputable def cmpE : Array Value → Sem Value := (Extern.find Tryz.f180).getD fun _ => pure (.bool true)
theorem isCm (w : World) : (cmpE #[.agg #[.pointer (some ⟨7, 212, none⟩)]]).run Tryz.prog w = .ok (.bool true) w := by kernel_rfl
theorem isMC (v : Value) (w : World) : (Go.method 344 151 v "Comparable").run Tryz.prog w = .ok (180, v) w := by kernel_rfl
theorem isComp : (Tryz.prog.info? 212).map (·.comparable) = some true := by kernel_rfl
theorem isSize : (Tryz.prog.info? 232).map (·.size) = some 1 := by kernel_rfl
theorem noIsE (v : Value) (xT : TypeId) (w : World) : (Instr.typeAssert (.iface 212 v) xT 153 true).run Tryz.prog w = .ok (.tuple #[.nilIface, .bool false]) w := run_typeAssert_lacksB Tryz.underlying153 (by kernel_rfl) (by kernel_rfl) v xT w
theorem noUnE (v : Value) (xT : TypeId) (w : World) : (Instr.typeAssert (.iface 212 v) xT 156 true).run Tryz.prog w = .ok (.tuple #[.nilIface, .bool false]) w := run_typeAssert_lacksB Tryz.underlying156 (by kernel_rfl) (by kernel_rfl) v xT w
theorem noUsE (v : Value) (xT : TypeId) (w : World) : (Instr.typeAssert (.iface 212 v) xT 158 true).run Tryz.prog w = .ok (.tuple #[.nilIface, .bool false]) w := run_typeAssert_lacksB Tryz.underlying158 (by kernel_rfl) (by kernel_rfl) v xT w
theorem noIsR (v : Value) (xT : TypeId) (w : World) : (Instr.typeAssert (.iface 93 v) xT 153 true).run Tryz.prog w = .ok (.tuple #[.nilIface, .bool false]) w := run_typeAssert_lacksB Tryz.underlying153 (by kernel_rfl) (by kernel_rfl) v xT w
theorem hasUnR (v : Value) (xT : TypeId) (w : World) : (Instr.typeAssert (.iface 93 v) xT 156 true).run Tryz.prog w = .ok (.tuple #[.iface 93 v, .bool true]) w := run_typeAssert_hasB Tryz.underlying156 (by kernel_rfl) v xT w
theorem mUnw (v : Value) (w : World) : (Go.method 344 93 v "Unwrap").run Tryz.prog w = .ok (168, v) w := by kernel_rfl
set_option maxHeartbeats 4000000 in
theorem unwI (c : Int) (y : Value) (w : World) : Calls Tryz.prog 168 #[.agg #[.int .i64 c, y]] w fun e w' => e = .returned y ∧ Below w.heap.size w w' := by
 have HB : Hid (Below w.heap.size w (w.alloc (.cells #[.int .i64 c, y] 93))) := (Below.refl _ _).alloc (Nat.le_refl _) _
 go_enter Tryz.func168, Tryz.ntmps168
 go_wp2
 go_ret
 first | exact ⟨rfl, HB.out⟩ | exact ⟨rfl, Below.refl _ _⟩
theorem isNilI (b : Addr) (w : World) :
  Calls Tryz.prog 28 #[.nilIface, errV b] w fun e w' => e = .returned (.bool false) ∧ w' = w := by
 have hn := run_eql_iface_nil_left (P := Tryz.prog) w 212 (.pointer (some b)) Tryz.underlying61
 unfold errV
 go_enter Tryz.func28, Tryz.ntmps28
 go_wp2
 go_ret
 exact ⟨rfl, rfl⟩
set_option maxHeartbeats 4000000 in
theorem isInS (c : Int) (b : Addr) (w : World) :
  Calls Tryz.prog 53 #[refV c b, errV b, .bool true] w fun e w' => e = .returned (.bool true) ∧ Below w.heap.size w w' := by
 obtain ⟨i, hi, hcmp⟩ := Option.map_eq_some_iff.1 isComp
 obtain ⟨j, hj, hjs⟩ := Option.map_eq_some_iff.1 isSize
 have nE := noIsE
 have uE := noUnE
 have vE := noUsE
 have nW := noIsR
 have uW := hasUnR
 have mU := mUnw
 have heq := fun W : World => run_eql_iface_ptr_same (P := Tryz.prog) W b Tryz.underlying61 Tryz.underlying212 hi hcmp hj
 have hty := run_eql_iface_types (P := Tryz.prog) 93 212 (.agg #[.int .i64 c, .iface 212 (.pointer (some b))]) (.pointer (some b)) Tryz.underlying61 (by decide) w
 have UN := unwI c (.iface 212 (.pointer (some b))) w
 unfold refV errV
 go_enter Tryz.func53, Tryz.ntmps53
 go_wp2
 refine wp_loop_rounds 2 ?_
 rw [rounds_succ]
 go_wp2_with (go_at_call 168; refine UN.mono ?_; rintro e w1 ⟨rfl, hb1⟩)
 rw [rounds_succ]
 go_wp2
 go_ret
 exact ⟨rfl, hb1⟩
set_option maxHeartbeats 4000000 in
theorem isInO (c : Int) (a b : Addr) (ca cb : Array Value) (ta tb : TypeId) (w : World) (hne : a ≠ b) (ha : w.heap[a.block]? = some (.cells ca ta (0, 0))) (hb : w.heap[b.block]? = some (.cells cb tb (0, 0))) :
  Calls Tryz.prog 53 #[refV c a, errV b, .bool true] w fun e w' => e = .returned (.bool false) ∧ Below w.heap.size w w' := by
 obtain ⟨i, hi, hcmp⟩ := Option.map_eq_some_iff.1 isComp
 obtain ⟨j, hj, hjs⟩ := Option.map_eq_some_iff.1 isSize
 have nE := noIsE
 have uE := noUnE
 have vE := noUsE
 have nW := noIsR
 have uW := hasUnR
 have mU := mUnw
 have hla : a.block < w.heap.size := by
  rcases Nat.lt_or_ge a.block w.heap.size with h | h
  ·exact h
  ·rw [Array.getElem?_eq_none h] at ha; cases ha
 have hlb : b.block < w.heap.size := by
  rcases Nat.lt_or_ge b.block w.heap.size with h | h
  ·exact h
  ·rw [Array.getElem?_eq_none h] at hb; cases hb
 have heq := fun (W : World) (k : Below w.heap.size w W) => run_eql_iface_ptr_other (P := Tryz.prog) W Tryz.underlying61 Tryz.underlying212 hi hcmp hj (by rw [hjs]; decide) hne ((k.block _ hla).trans ha) ((k.block _ hlb).trans hb)
 have hty := run_eql_iface_types (P := Tryz.prog) 93 212 (.agg #[.int .i64 c, .iface 212 (.pointer (some a))]) (.pointer (some b)) Tryz.underlying61 (by decide) w
 have UN := unwI c (.iface 212 (.pointer (some a))) w
 unfold refV errV
 clear ha hb
 go_enter Tryz.func53, Tryz.ntmps53
 go_wp2
 refine wp_loop_rounds 2 ?_
 rw [rounds_succ]
 go_wp2_with (go_at_call 168; refine UN.mono ?_; rintro e w1 ⟨rfl, hb1⟩; have hq := heq w1 hb1; clear heq)
 rw [rounds_succ]
 go_wp2
 go_ret
 exact ⟨rfl, hb1⟩
set_option maxHeartbeats 4000000 in
theorem isI (c : Int) (a b : Addr) (w : World) (v : Bool) (hin : Calls Tryz.prog 53 #[refV c a, errV b, .bool true] w fun e w' => e = .returned (.bool v) ∧ Below w.heap.size w w') :
  Calls Tryz.prog 28 #[refV c a, errV b] w fun e w' => e = .returned (.bool v) ∧ Below w.heap.size w w' := by
 have h8 := @run_callFunc_extern Tryz.prog 52 _ Extern.ReflectliteType.typeOf Tryz.func52 (by kernel_rfl) (by kernel_rfl) (by kernel_rfl) (by kernel_rfl)
 have h32 := @run_callFunc_extern Tryz.prog 180 _ cmpE Tryz.func180 (by kernel_rfl) (by kernel_rfl) (by kernel_rfl) (by kernel_rfl)
 have tT := isTO
 have cT := isCm
 have mR := isMC
 unfold refV errV at hin ⊢
 go_enter Tryz.func28, Tryz.ntmps28
 go_wp2_with (go_at_call 53; refine hin.mono ?_; rintro e w1 ⟨rfl, hb1⟩)
 go_ret
 exact ⟨rfl, hb1⟩
end Go.Proofs.YtgojlnclpebdcaaGreatDoor
