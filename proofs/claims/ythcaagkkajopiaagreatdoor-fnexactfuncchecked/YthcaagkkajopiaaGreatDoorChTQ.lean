/- What is refused, and why: refusalOf. -/
import Derived.Test.YthcaagkkajopiaaGreatDoorChKQ
import Derived.Test.YthcaagkkajopiaaGreatDoorFmJQ
import Derived.Test.YthcaagkkajopiaaGreatDoorFmIQ
import Derived.Laws.EntriesVeiled
namespace Go.Proofs.YthcaagkkajopiaaGreatDoor
open Go.RowKit
set_option linter.unusedVariables false
set_option linter.unusedSimpArgs false

/-- The errors that the package keeps. -/
structure Errs (w : World) (aF aN aE aC aW aU : Addr) : Prop where
  f : Gv w 1 (errV aF)
  n : Gv w 0 (errV aN)
  e : Gv w 3 (errV aE)
  c : Gv w 4 (errV aC)
  wd : Gv w 5 (errV aW)
  u : Gv w 6 (errV aU)
theorem Errs.keep {w w' : World} {aF aN aE aC aW aU : Addr} (h : Errs w aF aN aE aC aW aU) (k : Below w.heap.size w w') : Errs w' aF aN aE aC aW aU :=
  ⟨h.f.keep k, h.n.keep k, h.e.keep k, h.c.keep k, h.wd.keep k, h.u.keep k⟩
def refV (c : Int) (a : Addr) : Value := .iface 66 (.agg #[.int .i64 c, .iface 212 (.pointer (some a))])
/-- What refusalOf answers. -/
def RefR (l : List FuncD) (k : Int) (aF aN aE aC aW aU : Addr) (v : Value) : Prop :=
  (modB l = false ∧ v = refV 1 aF) ∨ (modB l = true ∧ ¬ (0 ≤ k ∧ k < l.length) ∧ v = refV 1 aN) ∨
  ((modB l = true ∧ 0 ≤ k ∧ k < l.length) ∧ ∃ c, CodeF l (l.getD k.toNat func0) c ∧ ((c = 0 ∧ v = .nilIface) ∨ (c ≠ 0 ∧ ∃ a, (a = aE ∨ a = aC ∨ a = aW ∨ a = aU) ∧ v = refV c a)))
def passed (l : List FuncD) (d : FuncD) (j : Nat) : Prop := (0 < j → entB d = true) ∧ (1 < j → phsB d = true) ∧ (2 < j → typB d = true) ∧ (3 < j → clsB l d = true) ∧ (4 < j → DomsP d)
theorem infoCk : (Tryz.prog.info? 73).map (fun i => (i.zero.isSome, i.size)) = some (true, 2) := by kernel_rfl
theorem idxC (arr : Array Value) (x : Nat) (hx : x < 5) (W : World) : (Instr.index 74 (.agg arr) (.int .i64 (x : Int))).run Tryz.prog W = .ok (.agg (arr.extract (x * 2) (x * 2 + 2))) W := by
  obtain ⟨i, hi, hs⟩ : ∃ i, Tryz.prog.info? 73 = some i ∧ i.size = 2 := by
    have h := infoCk
    cases hq : Tryz.prog.info? 73 with
    | none => rw [hq] at h; cases h
    | some i => rw [hq] at h; simp at h; exact ⟨i, rfl, h.2⟩
  simp [Instr.index, asIntOf, run_underlying Tryz.underlying74, part, isAgg, run_underlying Tryz.underlying73, sizeOf, typeInfo, hi, hs]
  intro h; omega
set_option maxHeartbeats 8000000 in
set_option maxRecDepth 100000 in
theorem refI (lo : Nat) (l : List FuncD) (pm : Option Addr) (cm : Nat) (k : Int) (aF aN aE aC aW aU : Addr) (w : World) (hsl : SmMod l) (kM : FuncsAt w lo pm l) (hE : Errs w aF aN aE aC aW aU) :
    Calls Tryz.prog 18 #[.agg #[.slice pm l.length cm], .int .i64 k] w fun e w' => (∃ v, e = .returned v ∧ RefR l k aF aN aE aC aW aU v) ∧ Below w.heap.size w w' := by
  have hB0 : Below w.heap.size w (w.alloc (.cells #[.slice pm l.length cm] 29)) := (Below.refl _ _).alloc (Nat.le_refl _) _
  have DM := modShI lo l pm cm _ hsl (kM.keep (agree_of_below hB0 lo))
  have HSL : Hid (SmMod l) := hsl
  have HKM : Hid (FuncsAt w lo pm l) := kM
  have HE : Hid (Errs w aF aN aE aC aW aU) := hE
  have hll := hsl.1
  clear hsl kM hE
  by_cases hm : modB l = true
  · have hl3 := mod_len hm
    have HM : Hid (modB l = true) := hm
    rw [hm] at DM
    clear hm
    by_cases hk : 0 ≤ k ∧ k < l.length
    · obtain ⟨m, hme, hml⟩ := nat_of hk
      subst hme
      have HFm := mod_form HM.out hml
      have IB := fun (W : World) => belowI_t (m : Int) l.length W (by omega) (by omega)
      rcases HKM.out.2 with hn | ⟨fb, fo, hume, hflo, hfb', hfc⟩
      · simp [hn] at hml
      subst hume
      obtain ⟨⟨g0, gq0, n0, nm0⟩, n1, ⟨g2, gq2, n2, nm2⟩⟩ := hfc m hml
      have hgs := HSL.out.2 _ (getD_mem func0 l m hml)
      have RR : Hid (∀ c v, CodeF l (l.getD m func0) c → ((c = 0 ∧ v = .nilIface) ∨ (c ≠ 0 ∧ ∃ a, (a = aE ∨ a = aC ∨ a = aW ∨ a = aU) ∧ v = refV c a)) → RefR l m aF aN aE aC aW aU v) := fun c v h h2 => .inr (.inr ⟨⟨HM.out, hk⟩, c, by rw [Int.toNat_natCast]; exact h, h2⟩)
      generalize l.getD m func0 = g at n0 nm0 n1 n2 nm2 hgs HFm RR
      have HGS : Hid (SmFunc g) := hgs
      have HFF : Hid (Form l.length g) := HFm
      have HN : Hid (IntsAt w lo g0 g.params ∧ BlocksAt w lo g2 g.blocks) := ⟨nm0, nm2⟩
      have HCa : Hid (_ ∧ _ ∧ _) := ⟨n0, n1, n2⟩
      have hmi : (m : Int) < l.length := by omega
      have HC0 : Hid (passed l g 5 → CodeF l g 0) := fun h => .inr (.inr (.inr (.inr (.inr ⟨h.1 (by omega), h.2.1 (by omega), h.2.2.1 (by omega), h.2.2.2.1 (by omega), h.2.2.2.2 (by omega), rfl⟩))))
      clear hfc n0 n1 n2 nm0 nm2 hgs HFm hk
      go_enter Tryz.func18, Tryz.ntmps18
      go_wp2_with (first | (go_at_call 30; refine DM.mono ?_; rintro e w1 ⟨rfl, hb1⟩; have HX1 : Hid (Below (w.heap.size + 1) (w.alloc (.cells #[.slice (some ⟨fb, fo, none⟩) l.length cm] 29)) w1) := hb1.mono (by simp); have am := (bcell hb1 w.heap.size 0 (by simp)).trans ((cell_of_heap (heap_alloc_last _ _)).trans rfl); have l1 : w.heap.size < w1.heap.size := (by have := hb1.size; simp at this; omega); clear hb1 DM) | (go_at_call 31; refine (IB _).mono ?_; rintro e w9 ⟨rfl, hw9⟩; rw [hw9]; clear hw9))
      have HB1 : Hid (Below w.heap.size w w1) := below_box HX1.out
      clear am
      go_loopw [34] (fun i wr => ∃ j : Nat, j ≤ 5 ∧ i = .int .i64 j ∧ Hid (passed l g j) ∧ Hid (Below (w.heap.size + 1) (w.alloc (.cells #[.slice (some ⟨fb, fo, none⟩) l.length cm] 29)) wr)) (fun i _ => 5 - (intOf i).toNat)
      case atStart => exact ⟨0, by omega, rfl, ⟨fun h => (by omega), fun h => (by omega), fun h => (by omega), fun h => (by omega), fun h => (by omega)⟩, HX1.out.alloc (by omega) _⟩
      case round =>
        obtain ⟨j, hj, rfl, HPS, HX⟩ := hrel
        obtain ⟨wo, hwo⟩ : ∃ wo, wo = wr := ⟨_, rfl⟩
        subst hwo
        clear HX1 HB1
        have HWo : Hid (Below w.heap.size w wo) := below_box HX.out
        have hzo : w.heap.size + 1 ≤ wo.heap.size := by have := HX.out.size; simp at this; omega
        have HAM : Hid (wo.cell? ⟨w.heap.size, 0, none⟩ = some (.slice (some ⟨fb, fo, none⟩) l.length cm)) := (cell_of_heap ((HX.out.block _ (by omega)).trans (heap_alloc_last _ _))).trans rfl
        by_cases hjl : j < 5
        · rcases (by omega : j = 0 ∨ j = 1 ∨ j = 2 ∨ j = 3 ∨ j = 4) with rfl | rfl | rfl | rfl | rfl
          · by_cases hP0 : entB g = true
            · have hP : entB g = true := hP0
              have DW : ∀ W, Below w.heap.size w W → Calls Tryz.prog 34 #[.agg #[.slice g0 g.params.length gq0, .int .i64 g.ret, .slice g2 g.blocks.length gq2]] W fun e w' => e = .returned .nilIface ∧ Below W.heap.size W w' := fun W hW => by
                have := (fun W hW => (entryI lo g g0 gq0 g2 gq2 aE W HGS.out (HN.out.2.keep (agree_of_below hW _)) HFF.out.right (HE.out.keep hW).e)) W hW
                rw [hP] at this
                exact this
              have HNX : Hid (passed l g 1) := ⟨fun _ => hP, fun h => (by omega), fun h => (by omega), fun h => (by omega), fun h => (by omega)⟩
              clear hP0 hP
              have IX : ∀ W, (Instr.index 74 (.agg #[.int .i64 2, .func (.func 34) #[] #[], .int .i64 3, .func (.func 35) #[] #[], .int .i64 4, .func (.func 36) #[] #[], .int .i64 5, .func (.func 32) #[] #[.pointer (some ⟨w.heap.size, 0, none⟩)], .int .i64 6, .func (.func 37) #[] #[]]) (.int .i64 0)).run Tryz.prog W = .ok (.agg #[.int .i64 2, .func (.func 34) #[] #[]]) W := fun W => idxC #[.int .i64 2, .func (.func 34) #[] #[], .int .i64 3, .func (.func 35) #[] #[], .int .i64 4, .func (.func 36) #[] #[], .int .i64 5, .func (.func 32) #[] #[.pointer (some ⟨w.heap.size, 0, none⟩)], .int .i64 6, .func (.func 37) #[] #[]] 0 (by omega) W
              go_wp2_with fail
              clear IX
              have chk : (wo.alloc (.cells #[.int .i64 2, .func (.func 34) #[] #[]] 73)).heap[wo.heap.size]? = some (.cells #[.int .i64 2, .func (.func 34) #[] #[]] 73 (0, 0)) := heap_alloc_last _ _
              have hB6 : Below wo.heap.size wo (wo.alloc (.cells #[.int .i64 2, .func (.func 34) #[] #[]] 73)) := (Below.refl _ _).alloc (Nat.le_refl _) _
              have hy : wo.heap.size < (wo.alloc (.cells #[.int .i64 2, .func (.func 34) #[] #[]] 73)).heap.size := by simp
              generalize wo.alloc (.cells #[.int .i64 2, .func (.func 34) #[] #[]] 73) = w6 at chk hB6 hy ⊢
              have HB6 : Hid (Below wo.heap.size wo w6) := hB6
              have HW6 : Hid (Below w.heap.size w w6) := HWo.out.trans (hB6.mono HWo.out.size)
              have am6 := (bcell hB6 _ _ (by omega)).trans HAM.out
              have L1 : w.heap.size < w6.heap.size := by omega
              have L2 : fb < w6.heap.size := by have := HW6.out.size; omega
              have f60 := (bcell HW6.out _ _ hfb').trans HCa.out.1
              have f61 := (bcell HW6.out _ _ hfb').trans HCa.out.2.1
              have f62 := (bcell HW6.out _ _ hfb').trans HCa.out.2.2
              clear hB6
              refine wp_region_held_drew (S := fun w' => Below w6.heap.size w6 w') (by kernel_rfl) ((Below.refl _ _).drew) (fun hHeld => ?_)
              refine wpAnyH_take (i := 0) (v := ?_) rfl (by kernel_rfl) (by kernel_rfl) (by kernel_rfl) (fun _ _ _ h => h) (Or.inl ⟨by rfl, ?_⟩) hHeld ?_
              rotate_left
              · intro w9 hS9
                go_simp
                try with_reducible rfl
              show wpAnyH _ _ _ _ _ _ _ (Act.put _ (some 37) _) _
              simp only [Act.put, List.setIfInBounds_toArray, List.set_cons_zero, List.set_cons_succ]
              refine wpAnyH_take (i := 1) (v := ?_) rfl (by kernel_rfl) (by kernel_rfl) (by kernel_rfl) (fun _ _ _ h => h) (Or.inl ⟨by rfl, ?_⟩) hHeld ?_
              rotate_left
              · intro w9 hS9
                have q1 := (cell_of_heap (o := 1) ((hS9.block _ hy).trans chk)).trans rfl
                go_simp
                try with_reducible rfl
              show wpAnyH _ _ _ _ _ _ _ (Act.put _ (some 38) _) _
              simp only [Act.put, List.setIfInBounds_toArray, List.set_cons_zero, List.set_cons_succ]
              refine wpAnyH_take (i := 2) (v := ?_) rfl (by kernel_rfl) (by kernel_rfl) (by kernel_rfl) (fun _ _ _ h => h) (Or.inl ⟨by rfl, ?_⟩) hHeld ?_
              rotate_left
              · intro w9 hS9
                go_simp
                try with_reducible rfl
              show wpAnyH _ _ _ _ _ _ _ (Act.put _ (some 39) _) _
              simp only [Act.put, List.setIfInBounds_toArray, List.set_cons_zero, List.set_cons_succ]
              refine wpAnyH_take (i := 3) (v := ?_) rfl (by kernel_rfl) (by kernel_rfl) (by kernel_rfl) (fun _ _ _ h => h) (Or.inl ⟨by rfl, ?_⟩) hHeld ?_
              rotate_left
              · intro w9 hS9
                have q2 := (bcell hS9 _ _ L1).trans am6
                go_simp
                try with_reducible rfl
              show wpAnyH _ _ _ _ _ _ _ (Act.put _ (some 40) _) _
              simp only [Act.put, List.setIfInBounds_toArray, List.set_cons_zero, List.set_cons_succ]
              refine wpAnyH_take (i := 4) (v := ?_) rfl (by kernel_rfl) (by kernel_rfl) (by kernel_rfl) (fun _ _ _ h => h) (Or.inl ⟨by rfl, ?_⟩) hHeld ?_
              rotate_left
              · intro w9 hS9
                go_simp
                try with_reducible rfl
              show wpAnyH _ _ _ _ _ _ _ (Act.put _ (some 41) _) _
              simp only [Act.put, List.setIfInBounds_toArray, List.set_cons_zero, List.set_cons_succ]
              refine wpAnyH_take (i := 5) (v := ?_) rfl (by kernel_rfl) (by kernel_rfl) (by kernel_rfl) (fun _ _ _ h => h) (Or.inl ⟨by rfl, ?_⟩) hHeld ?_
              rotate_left
              · intro w9 hS9
                go_simp
                try with_reducible rfl
              show wpAnyH _ _ _ _ _ _ _ (Act.put _ (some 42) _) _
              simp only [Act.put, List.setIfInBounds_toArray, List.set_cons_zero, List.set_cons_succ]
              refine wpAnyH_take (i := 6) (v := ?_) rfl (by kernel_rfl) (by kernel_rfl) (by kernel_rfl) (fun _ _ _ h => h) (Or.inl ⟨by rfl, ?_⟩) hHeld ?_
              rotate_left
              · intro w9 hS9
                have q3 := (bcell hS9 _ _ L2).trans f60
                have q4 := (bcell hS9 _ _ L2).trans f61
                have q5 := (bcell hS9 _ _ L2).trans f62
                go_simp
                try with_reducible rfl
              show wpAnyH _ _ _ _ _ _ _ (Act.put _ (some 43) _) _
              simp only [Act.put, List.setIfInBounds_toArray, List.set_cons_zero, List.set_cons_succ]
              refine wpAnyH_ready (rs := [7]) (by kernel_rfl) (by simp) ?_
              refine AllReadyH.cons rfl (fun K hK => ?_) AllReadyH.nil
              go_simp
              go_wp2_with (go_at_call 34; refine (DW _ (HW6.out.trans (hHeld.mono HW6.out.size))).mono ?_; rintro e w7 ⟨rfl, hb7⟩; have hb7s := hHeld.trans (hb7.mono hHeld.size))
              refine hK.out _ _ ?_ (fun hHeld2 => ?_)
              · exact hb7s
              clear hK K hHeld
              have hHeld := hHeld2
              clear hHeld2
              try simp only [Act.put, List.setIfInBounds_toArray, List.set_cons_zero, List.set_cons_succ]
              refine wpAnyH_take (i := 8) (v := ?_) rfl (by kernel_rfl) (by kernel_rfl) (by kernel_rfl) (fun _ _ _ h => h) (Or.inl ⟨by rfl, ?_⟩) hHeld ?_
              rotate_left
              · intro w9 hS9
                go_simp
                try with_reducible rfl
              show wpAnyH _ _ _ _ _ _ _ (Act.put _ (some 9) _) _
              simp only [Act.put, List.setIfInBounds_toArray, List.set_cons_zero, List.set_cons_succ]
              refine wpAnyH_done (by kernel_rfl) ?_ _
              go_wp2_with fail
              go_roundw
              case rel => exact ⟨1, by omega, by go_num, HNX.out, HX.out.trans ((HB6.out.trans (hb7s.mono HB6.out.size)).mono (by omega))⟩
              case measure => simp [intOf]
            · have hP : entB g = false := by simpa using hP0
              have DW : ∀ W, Below w.heap.size w W → Calls Tryz.prog 34 #[.agg #[.slice g0 g.params.length gq0, .int .i64 g.ret, .slice g2 g.blocks.length gq2]] W fun e w' => e = .returned (.iface 212 (.pointer (some aE))) ∧ Below W.heap.size W w' := fun W hW => by
                have := (fun W hW => (entryI lo g g0 gq0 g2 gq2 aE W HGS.out (HN.out.2.keep (agree_of_below hW _)) HFF.out.right (HE.out.keep hW).e)) W hW
                rw [hP] at this
                exact this
              have HCD : Hid (CodeF l g 2) := .inl ⟨hP, rfl⟩
              clear hP0 hP
              have IX : ∀ W, (Instr.index 74 (.agg #[.int .i64 2, .func (.func 34) #[] #[], .int .i64 3, .func (.func 35) #[] #[], .int .i64 4, .func (.func 36) #[] #[], .int .i64 5, .func (.func 32) #[] #[.pointer (some ⟨w.heap.size, 0, none⟩)], .int .i64 6, .func (.func 37) #[] #[]]) (.int .i64 0)).run Tryz.prog W = .ok (.agg #[.int .i64 2, .func (.func 34) #[] #[]]) W := fun W => idxC #[.int .i64 2, .func (.func 34) #[] #[], .int .i64 3, .func (.func 35) #[] #[], .int .i64 4, .func (.func 36) #[] #[], .int .i64 5, .func (.func 32) #[] #[.pointer (some ⟨w.heap.size, 0, none⟩)], .int .i64 6, .func (.func 37) #[] #[]] 0 (by omega) W
              go_wp2_with fail
              clear IX
              have chk : (wo.alloc (.cells #[.int .i64 2, .func (.func 34) #[] #[]] 73)).heap[wo.heap.size]? = some (.cells #[.int .i64 2, .func (.func 34) #[] #[]] 73 (0, 0)) := heap_alloc_last _ _
              have hB6 : Below wo.heap.size wo (wo.alloc (.cells #[.int .i64 2, .func (.func 34) #[] #[]] 73)) := (Below.refl _ _).alloc (Nat.le_refl _) _
              have hy : wo.heap.size < (wo.alloc (.cells #[.int .i64 2, .func (.func 34) #[] #[]] 73)).heap.size := by simp
              generalize wo.alloc (.cells #[.int .i64 2, .func (.func 34) #[] #[]] 73) = w6 at chk hB6 hy ⊢
              have HB6 : Hid (Below wo.heap.size wo w6) := hB6
              have HW6 : Hid (Below w.heap.size w w6) := HWo.out.trans (hB6.mono HWo.out.size)
              have am6 := (bcell hB6 _ _ (by omega)).trans HAM.out
              have L1 : w.heap.size < w6.heap.size := by omega
              have L2 : fb < w6.heap.size := by have := HW6.out.size; omega
              have f60 := (bcell HW6.out _ _ hfb').trans HCa.out.1
              have f61 := (bcell HW6.out _ _ hfb').trans HCa.out.2.1
              have f62 := (bcell HW6.out _ _ hfb').trans HCa.out.2.2
              clear hB6
              refine wp_region_held_drew (S := fun w' => Below w6.heap.size w6 w') (by kernel_rfl) ((Below.refl _ _).drew) (fun hHeld => ?_)
              refine wpAnyH_take (i := 0) (v := ?_) rfl (by kernel_rfl) (by kernel_rfl) (by kernel_rfl) (fun _ _ _ h => h) (Or.inl ⟨by rfl, ?_⟩) hHeld ?_
              rotate_left
              · intro w9 hS9
                go_simp
                try with_reducible rfl
              show wpAnyH _ _ _ _ _ _ _ (Act.put _ (some 37) _) _
              simp only [Act.put, List.setIfInBounds_toArray, List.set_cons_zero, List.set_cons_succ]
              refine wpAnyH_take (i := 1) (v := ?_) rfl (by kernel_rfl) (by kernel_rfl) (by kernel_rfl) (fun _ _ _ h => h) (Or.inl ⟨by rfl, ?_⟩) hHeld ?_
              rotate_left
              · intro w9 hS9
                have q1 := (cell_of_heap (o := 1) ((hS9.block _ hy).trans chk)).trans rfl
                go_simp
                try with_reducible rfl
              show wpAnyH _ _ _ _ _ _ _ (Act.put _ (some 38) _) _
              simp only [Act.put, List.setIfInBounds_toArray, List.set_cons_zero, List.set_cons_succ]
              refine wpAnyH_take (i := 2) (v := ?_) rfl (by kernel_rfl) (by kernel_rfl) (by kernel_rfl) (fun _ _ _ h => h) (Or.inl ⟨by rfl, ?_⟩) hHeld ?_
              rotate_left
              · intro w9 hS9
                go_simp
                try with_reducible rfl
              show wpAnyH _ _ _ _ _ _ _ (Act.put _ (some 39) _) _
              simp only [Act.put, List.setIfInBounds_toArray, List.set_cons_zero, List.set_cons_succ]
              refine wpAnyH_take (i := 3) (v := ?_) rfl (by kernel_rfl) (by kernel_rfl) (by kernel_rfl) (fun _ _ _ h => h) (Or.inl ⟨by rfl, ?_⟩) hHeld ?_
              rotate_left
              · intro w9 hS9
                have q2 := (bcell hS9 _ _ L1).trans am6
                go_simp
                try with_reducible rfl
              show wpAnyH _ _ _ _ _ _ _ (Act.put _ (some 40) _) _
              simp only [Act.put, List.setIfInBounds_toArray, List.set_cons_zero, List.set_cons_succ]
              refine wpAnyH_take (i := 4) (v := ?_) rfl (by kernel_rfl) (by kernel_rfl) (by kernel_rfl) (fun _ _ _ h => h) (Or.inl ⟨by rfl, ?_⟩) hHeld ?_
              rotate_left
              · intro w9 hS9
                go_simp
                try with_reducible rfl
              show wpAnyH _ _ _ _ _ _ _ (Act.put _ (some 41) _) _
              simp only [Act.put, List.setIfInBounds_toArray, List.set_cons_zero, List.set_cons_succ]
              refine wpAnyH_take (i := 5) (v := ?_) rfl (by kernel_rfl) (by kernel_rfl) (by kernel_rfl) (fun _ _ _ h => h) (Or.inl ⟨by rfl, ?_⟩) hHeld ?_
              rotate_left
              · intro w9 hS9
                go_simp
                try with_reducible rfl
              show wpAnyH _ _ _ _ _ _ _ (Act.put _ (some 42) _) _
              simp only [Act.put, List.setIfInBounds_toArray, List.set_cons_zero, List.set_cons_succ]
              refine wpAnyH_take (i := 6) (v := ?_) rfl (by kernel_rfl) (by kernel_rfl) (by kernel_rfl) (fun _ _ _ h => h) (Or.inl ⟨by rfl, ?_⟩) hHeld ?_
              rotate_left
              · intro w9 hS9
                have q3 := (bcell hS9 _ _ L2).trans f60
                have q4 := (bcell hS9 _ _ L2).trans f61
                have q5 := (bcell hS9 _ _ L2).trans f62
                go_simp
                try with_reducible rfl
              show wpAnyH _ _ _ _ _ _ _ (Act.put _ (some 43) _) _
              simp only [Act.put, List.setIfInBounds_toArray, List.set_cons_zero, List.set_cons_succ]
              refine wpAnyH_ready (rs := [7]) (by kernel_rfl) (by simp) ?_
              refine AllReadyH.cons rfl (fun K hK => ?_) AllReadyH.nil
              go_simp
              go_wp2_with (go_at_call 34; refine (DW _ (HW6.out.trans (hHeld.mono HW6.out.size))).mono ?_; rintro e w7 ⟨rfl, hb7⟩; have hb7s := hHeld.trans (hb7.mono hHeld.size))
              refine hK.out _ _ ?_ (fun hHeld2 => ?_)
              · exact hb7s
              clear hK K hHeld
              have hHeld := hHeld2
              clear hHeld2
              try simp only [Act.put, List.setIfInBounds_toArray, List.set_cons_zero, List.set_cons_succ]
              refine wpAnyH_take (i := 8) (v := ?_) rfl (by kernel_rfl) (by kernel_rfl) (by kernel_rfl) (fun _ _ _ h => h) (Or.inl ⟨by rfl, ?_⟩) hHeld ?_
              rotate_left
              · intro w9 hS9
                go_simp
                try with_reducible rfl
              show wpAnyH _ _ _ _ _ _ _ (Act.put _ (some 9) _) _
              simp only [Act.put, List.setIfInBounds_toArray, List.set_cons_zero, List.set_cons_succ]
              refine wpAnyH_done (by kernel_rfl) ?_ _
              have ck0 := (cell_of_heap (o := 0) ((hb7s.block _ hy).trans chk)).trans rfl
              go_wp2_with fail
              go_ret
              exact ⟨⟨_, rfl, RR.out 2 _ HCD.out (.inr ⟨by decide, aE, .inl rfl, rfl⟩)⟩, HW6.out.trans (hb7s.mono HW6.out.size)⟩
          · by_cases hP0 : phsB g = true
            · have hP : phsB g = true := hP0
              have DW : ∀ W, Below w.heap.size w W → Calls Tryz.prog 35 #[.agg #[.slice g0 g.params.length gq0, .int .i64 g.ret, .slice g2 g.blocks.length gq2]] W fun e w' => e = .returned .nilIface ∧ Below W.heap.size W w' := fun W hW => by
                have := (fun W hW => (phisI lo g g0 gq0 g2 gq2 aC W HGS.out (HN.out.2.keep (agree_of_below hW _)) HFF.out.right (HE.out.keep hW).c)) W hW
                rw [hP] at this
                exact this
              have HNX : Hid (passed l g 2) := ⟨fun _ => HPS.out.1 (by omega), fun _ => hP, fun h => (by omega), fun h => (by omega), fun h => (by omega)⟩
              clear hP0 hP
              have IX : ∀ W, (Instr.index 74 (.agg #[.int .i64 2, .func (.func 34) #[] #[], .int .i64 3, .func (.func 35) #[] #[], .int .i64 4, .func (.func 36) #[] #[], .int .i64 5, .func (.func 32) #[] #[.pointer (some ⟨w.heap.size, 0, none⟩)], .int .i64 6, .func (.func 37) #[] #[]]) (.int .i64 1)).run Tryz.prog W = .ok (.agg #[.int .i64 3, .func (.func 35) #[] #[]]) W := fun W => idxC #[.int .i64 2, .func (.func 34) #[] #[], .int .i64 3, .func (.func 35) #[] #[], .int .i64 4, .func (.func 36) #[] #[], .int .i64 5, .func (.func 32) #[] #[.pointer (some ⟨w.heap.size, 0, none⟩)], .int .i64 6, .func (.func 37) #[] #[]] 1 (by omega) W
              go_wp2_with fail
              clear IX
              have chk : (wo.alloc (.cells #[.int .i64 3, .func (.func 35) #[] #[]] 73)).heap[wo.heap.size]? = some (.cells #[.int .i64 3, .func (.func 35) #[] #[]] 73 (0, 0)) := heap_alloc_last _ _
              have hB6 : Below wo.heap.size wo (wo.alloc (.cells #[.int .i64 3, .func (.func 35) #[] #[]] 73)) := (Below.refl _ _).alloc (Nat.le_refl _) _
              have hy : wo.heap.size < (wo.alloc (.cells #[.int .i64 3, .func (.func 35) #[] #[]] 73)).heap.size := by simp
              generalize wo.alloc (.cells #[.int .i64 3, .func (.func 35) #[] #[]] 73) = w6 at chk hB6 hy ⊢
              have HB6 : Hid (Below wo.heap.size wo w6) := hB6
              have HW6 : Hid (Below w.heap.size w w6) := HWo.out.trans (hB6.mono HWo.out.size)
              have am6 := (bcell hB6 _ _ (by omega)).trans HAM.out
              have L1 : w.heap.size < w6.heap.size := by omega
              have L2 : fb < w6.heap.size := by have := HW6.out.size; omega
              have f60 := (bcell HW6.out _ _ hfb').trans HCa.out.1
              have f61 := (bcell HW6.out _ _ hfb').trans HCa.out.2.1
              have f62 := (bcell HW6.out _ _ hfb').trans HCa.out.2.2
              clear hB6
              refine wp_region_held_drew (S := fun w' => Below w6.heap.size w6 w') (by kernel_rfl) ((Below.refl _ _).drew) (fun hHeld => ?_)
              refine wpAnyH_take (i := 0) (v := ?_) rfl (by kernel_rfl) (by kernel_rfl) (by kernel_rfl) (fun _ _ _ h => h) (Or.inl ⟨by rfl, ?_⟩) hHeld ?_
              rotate_left
              · intro w9 hS9
                go_simp
                try with_reducible rfl
              show wpAnyH _ _ _ _ _ _ _ (Act.put _ (some 37) _) _
              simp only [Act.put, List.setIfInBounds_toArray, List.set_cons_zero, List.set_cons_succ]
              refine wpAnyH_take (i := 1) (v := ?_) rfl (by kernel_rfl) (by kernel_rfl) (by kernel_rfl) (fun _ _ _ h => h) (Or.inl ⟨by rfl, ?_⟩) hHeld ?_
              rotate_left
              · intro w9 hS9
                have q1 := (cell_of_heap (o := 1) ((hS9.block _ hy).trans chk)).trans rfl
                go_simp
                try with_reducible rfl
              show wpAnyH _ _ _ _ _ _ _ (Act.put _ (some 38) _) _
              simp only [Act.put, List.setIfInBounds_toArray, List.set_cons_zero, List.set_cons_succ]
              refine wpAnyH_take (i := 2) (v := ?_) rfl (by kernel_rfl) (by kernel_rfl) (by kernel_rfl) (fun _ _ _ h => h) (Or.inl ⟨by rfl, ?_⟩) hHeld ?_
              rotate_left
              · intro w9 hS9
                go_simp
                try with_reducible rfl
              show wpAnyH _ _ _ _ _ _ _ (Act.put _ (some 39) _) _
              simp only [Act.put, List.setIfInBounds_toArray, List.set_cons_zero, List.set_cons_succ]
              refine wpAnyH_take (i := 3) (v := ?_) rfl (by kernel_rfl) (by kernel_rfl) (by kernel_rfl) (fun _ _ _ h => h) (Or.inl ⟨by rfl, ?_⟩) hHeld ?_
              rotate_left
              · intro w9 hS9
                have q2 := (bcell hS9 _ _ L1).trans am6
                go_simp
                try with_reducible rfl
              show wpAnyH _ _ _ _ _ _ _ (Act.put _ (some 40) _) _
              simp only [Act.put, List.setIfInBounds_toArray, List.set_cons_zero, List.set_cons_succ]
              refine wpAnyH_take (i := 4) (v := ?_) rfl (by kernel_rfl) (by kernel_rfl) (by kernel_rfl) (fun _ _ _ h => h) (Or.inl ⟨by rfl, ?_⟩) hHeld ?_
              rotate_left
              · intro w9 hS9
                go_simp
                try with_reducible rfl
              show wpAnyH _ _ _ _ _ _ _ (Act.put _ (some 41) _) _
              simp only [Act.put, List.setIfInBounds_toArray, List.set_cons_zero, List.set_cons_succ]
              refine wpAnyH_take (i := 5) (v := ?_) rfl (by kernel_rfl) (by kernel_rfl) (by kernel_rfl) (fun _ _ _ h => h) (Or.inl ⟨by rfl, ?_⟩) hHeld ?_
              rotate_left
              · intro w9 hS9
                go_simp
                try with_reducible rfl
              show wpAnyH _ _ _ _ _ _ _ (Act.put _ (some 42) _) _
              simp only [Act.put, List.setIfInBounds_toArray, List.set_cons_zero, List.set_cons_succ]
              refine wpAnyH_take (i := 6) (v := ?_) rfl (by kernel_rfl) (by kernel_rfl) (by kernel_rfl) (fun _ _ _ h => h) (Or.inl ⟨by rfl, ?_⟩) hHeld ?_
              rotate_left
              · intro w9 hS9
                have q3 := (bcell hS9 _ _ L2).trans f60
                have q4 := (bcell hS9 _ _ L2).trans f61
                have q5 := (bcell hS9 _ _ L2).trans f62
                go_simp
                try with_reducible rfl
              show wpAnyH _ _ _ _ _ _ _ (Act.put _ (some 43) _) _
              simp only [Act.put, List.setIfInBounds_toArray, List.set_cons_zero, List.set_cons_succ]
              refine wpAnyH_ready (rs := [7]) (by kernel_rfl) (by simp) ?_
              refine AllReadyH.cons rfl (fun K hK => ?_) AllReadyH.nil
              go_simp
              go_wp2_with (go_at_call 35; refine (DW _ (HW6.out.trans (hHeld.mono HW6.out.size))).mono ?_; rintro e w7 ⟨rfl, hb7⟩; have hb7s := hHeld.trans (hb7.mono hHeld.size))
              refine hK.out _ _ ?_ (fun hHeld2 => ?_)
              · exact hb7s
              clear hK K hHeld
              have hHeld := hHeld2
              clear hHeld2
              try simp only [Act.put, List.setIfInBounds_toArray, List.set_cons_zero, List.set_cons_succ]
              refine wpAnyH_take (i := 8) (v := ?_) rfl (by kernel_rfl) (by kernel_rfl) (by kernel_rfl) (fun _ _ _ h => h) (Or.inl ⟨by rfl, ?_⟩) hHeld ?_
              rotate_left
              · intro w9 hS9
                go_simp
                try with_reducible rfl
              show wpAnyH _ _ _ _ _ _ _ (Act.put _ (some 9) _) _
              simp only [Act.put, List.setIfInBounds_toArray, List.set_cons_zero, List.set_cons_succ]
              refine wpAnyH_done (by kernel_rfl) ?_ _
              go_wp2_with fail
              go_roundw
              case rel => exact ⟨2, by omega, by go_num, HNX.out, HX.out.trans ((HB6.out.trans (hb7s.mono HB6.out.size)).mono (by omega))⟩
              case measure => simp [intOf]
            · have hP : phsB g = false := by simpa using hP0
              have DW : ∀ W, Below w.heap.size w W → Calls Tryz.prog 35 #[.agg #[.slice g0 g.params.length gq0, .int .i64 g.ret, .slice g2 g.blocks.length gq2]] W fun e w' => e = .returned (.iface 212 (.pointer (some aC))) ∧ Below W.heap.size W w' := fun W hW => by
                have := (fun W hW => (phisI lo g g0 gq0 g2 gq2 aC W HGS.out (HN.out.2.keep (agree_of_below hW _)) HFF.out.right (HE.out.keep hW).c)) W hW
                rw [hP] at this
                exact this
              have HCD : Hid (CodeF l g 3) := .inr (.inl ⟨HPS.out.1 (by omega), hP, rfl⟩)
              clear hP0 hP
              have IX : ∀ W, (Instr.index 74 (.agg #[.int .i64 2, .func (.func 34) #[] #[], .int .i64 3, .func (.func 35) #[] #[], .int .i64 4, .func (.func 36) #[] #[], .int .i64 5, .func (.func 32) #[] #[.pointer (some ⟨w.heap.size, 0, none⟩)], .int .i64 6, .func (.func 37) #[] #[]]) (.int .i64 1)).run Tryz.prog W = .ok (.agg #[.int .i64 3, .func (.func 35) #[] #[]]) W := fun W => idxC #[.int .i64 2, .func (.func 34) #[] #[], .int .i64 3, .func (.func 35) #[] #[], .int .i64 4, .func (.func 36) #[] #[], .int .i64 5, .func (.func 32) #[] #[.pointer (some ⟨w.heap.size, 0, none⟩)], .int .i64 6, .func (.func 37) #[] #[]] 1 (by omega) W
              go_wp2_with fail
              clear IX
              have chk : (wo.alloc (.cells #[.int .i64 3, .func (.func 35) #[] #[]] 73)).heap[wo.heap.size]? = some (.cells #[.int .i64 3, .func (.func 35) #[] #[]] 73 (0, 0)) := heap_alloc_last _ _
              have hB6 : Below wo.heap.size wo (wo.alloc (.cells #[.int .i64 3, .func (.func 35) #[] #[]] 73)) := (Below.refl _ _).alloc (Nat.le_refl _) _
              have hy : wo.heap.size < (wo.alloc (.cells #[.int .i64 3, .func (.func 35) #[] #[]] 73)).heap.size := by simp
              generalize wo.alloc (.cells #[.int .i64 3, .func (.func 35) #[] #[]] 73) = w6 at chk hB6 hy ⊢
              have HB6 : Hid (Below wo.heap.size wo w6) := hB6
              have HW6 : Hid (Below w.heap.size w w6) := HWo.out.trans (hB6.mono HWo.out.size)
              have am6 := (bcell hB6 _ _ (by omega)).trans HAM.out
              have L1 : w.heap.size < w6.heap.size := by omega
              have L2 : fb < w6.heap.size := by have := HW6.out.size; omega
              have f60 := (bcell HW6.out _ _ hfb').trans HCa.out.1
              have f61 := (bcell HW6.out _ _ hfb').trans HCa.out.2.1
              have f62 := (bcell HW6.out _ _ hfb').trans HCa.out.2.2
              clear hB6
              refine wp_region_held_drew (S := fun w' => Below w6.heap.size w6 w') (by kernel_rfl) ((Below.refl _ _).drew) (fun hHeld => ?_)
              refine wpAnyH_take (i := 0) (v := ?_) rfl (by kernel_rfl) (by kernel_rfl) (by kernel_rfl) (fun _ _ _ h => h) (Or.inl ⟨by rfl, ?_⟩) hHeld ?_
              rotate_left
              · intro w9 hS9
                go_simp
                try with_reducible rfl
              show wpAnyH _ _ _ _ _ _ _ (Act.put _ (some 37) _) _
              simp only [Act.put, List.setIfInBounds_toArray, List.set_cons_zero, List.set_cons_succ]
              refine wpAnyH_take (i := 1) (v := ?_) rfl (by kernel_rfl) (by kernel_rfl) (by kernel_rfl) (fun _ _ _ h => h) (Or.inl ⟨by rfl, ?_⟩) hHeld ?_
              rotate_left
              · intro w9 hS9
                have q1 := (cell_of_heap (o := 1) ((hS9.block _ hy).trans chk)).trans rfl
                go_simp
                try with_reducible rfl
              show wpAnyH _ _ _ _ _ _ _ (Act.put _ (some 38) _) _
              simp only [Act.put, List.setIfInBounds_toArray, List.set_cons_zero, List.set_cons_succ]
              refine wpAnyH_take (i := 2) (v := ?_) rfl (by kernel_rfl) (by kernel_rfl) (by kernel_rfl) (fun _ _ _ h => h) (Or.inl ⟨by rfl, ?_⟩) hHeld ?_
              rotate_left
              · intro w9 hS9
                go_simp
                try with_reducible rfl
              show wpAnyH _ _ _ _ _ _ _ (Act.put _ (some 39) _) _
              simp only [Act.put, List.setIfInBounds_toArray, List.set_cons_zero, List.set_cons_succ]
              refine wpAnyH_take (i := 3) (v := ?_) rfl (by kernel_rfl) (by kernel_rfl) (by kernel_rfl) (fun _ _ _ h => h) (Or.inl ⟨by rfl, ?_⟩) hHeld ?_
              rotate_left
              · intro w9 hS9
                have q2 := (bcell hS9 _ _ L1).trans am6
                go_simp
                try with_reducible rfl
              show wpAnyH _ _ _ _ _ _ _ (Act.put _ (some 40) _) _
              simp only [Act.put, List.setIfInBounds_toArray, List.set_cons_zero, List.set_cons_succ]
              refine wpAnyH_take (i := 4) (v := ?_) rfl (by kernel_rfl) (by kernel_rfl) (by kernel_rfl) (fun _ _ _ h => h) (Or.inl ⟨by rfl, ?_⟩) hHeld ?_
              rotate_left
              · intro w9 hS9
                go_simp
                try with_reducible rfl
              show wpAnyH _ _ _ _ _ _ _ (Act.put _ (some 41) _) _
              simp only [Act.put, List.setIfInBounds_toArray, List.set_cons_zero, List.set_cons_succ]
              refine wpAnyH_take (i := 5) (v := ?_) rfl (by kernel_rfl) (by kernel_rfl) (by kernel_rfl) (fun _ _ _ h => h) (Or.inl ⟨by rfl, ?_⟩) hHeld ?_
              rotate_left
              · intro w9 hS9
                go_simp
                try with_reducible rfl
              show wpAnyH _ _ _ _ _ _ _ (Act.put _ (some 42) _) _
              simp only [Act.put, List.setIfInBounds_toArray, List.set_cons_zero, List.set_cons_succ]
              refine wpAnyH_take (i := 6) (v := ?_) rfl (by kernel_rfl) (by kernel_rfl) (by kernel_rfl) (fun _ _ _ h => h) (Or.inl ⟨by rfl, ?_⟩) hHeld ?_
              rotate_left
              · intro w9 hS9
                have q3 := (bcell hS9 _ _ L2).trans f60
                have q4 := (bcell hS9 _ _ L2).trans f61
                have q5 := (bcell hS9 _ _ L2).trans f62
                go_simp
                try with_reducible rfl
              show wpAnyH _ _ _ _ _ _ _ (Act.put _ (some 43) _) _
              simp only [Act.put, List.setIfInBounds_toArray, List.set_cons_zero, List.set_cons_succ]
              refine wpAnyH_ready (rs := [7]) (by kernel_rfl) (by simp) ?_
              refine AllReadyH.cons rfl (fun K hK => ?_) AllReadyH.nil
              go_simp
              go_wp2_with (go_at_call 35; refine (DW _ (HW6.out.trans (hHeld.mono HW6.out.size))).mono ?_; rintro e w7 ⟨rfl, hb7⟩; have hb7s := hHeld.trans (hb7.mono hHeld.size))
              refine hK.out _ _ ?_ (fun hHeld2 => ?_)
              · exact hb7s
              clear hK K hHeld
              have hHeld := hHeld2
              clear hHeld2
              try simp only [Act.put, List.setIfInBounds_toArray, List.set_cons_zero, List.set_cons_succ]
              refine wpAnyH_take (i := 8) (v := ?_) rfl (by kernel_rfl) (by kernel_rfl) (by kernel_rfl) (fun _ _ _ h => h) (Or.inl ⟨by rfl, ?_⟩) hHeld ?_
              rotate_left
              · intro w9 hS9
                go_simp
                try with_reducible rfl
              show wpAnyH _ _ _ _ _ _ _ (Act.put _ (some 9) _) _
              simp only [Act.put, List.setIfInBounds_toArray, List.set_cons_zero, List.set_cons_succ]
              refine wpAnyH_done (by kernel_rfl) ?_ _
              have ck0 := (cell_of_heap (o := 0) ((hb7s.block _ hy).trans chk)).trans rfl
              go_wp2_with fail
              go_ret
              exact ⟨⟨_, rfl, RR.out 3 _ HCD.out (.inr ⟨by decide, aC, .inr (.inl rfl), rfl⟩)⟩, HW6.out.trans (hb7s.mono HW6.out.size)⟩
          · by_cases hP0 : typB g = true
            · have hP : typB g = true := hP0
              have DW : ∀ W, Below w.heap.size w W → Calls Tryz.prog 36 #[.agg #[.slice g0 g.params.length gq0, .int .i64 g.ret, .slice g2 g.blocks.length gq2]] W fun e w' => e = .returned .nilIface ∧ Below W.heap.size W w' := fun W hW => by
                have := (fun W hW => (typI lo g g0 gq0 g2 gq2 aW l.length W HGS.out (HN.out.1.keep (agree_of_below hW _)) (HN.out.2.keep (agree_of_below hW _)) HFF.out (HE.out.keep hW).wd)) W hW
                rw [hP] at this
                exact this
              have HNX : Hid (passed l g 3) := ⟨fun _ => HPS.out.1 (by omega), fun _ => HPS.out.2.1 (by omega), fun _ => hP, fun h => (by omega), fun h => (by omega)⟩
              clear hP0 hP
              have IX : ∀ W, (Instr.index 74 (.agg #[.int .i64 2, .func (.func 34) #[] #[], .int .i64 3, .func (.func 35) #[] #[], .int .i64 4, .func (.func 36) #[] #[], .int .i64 5, .func (.func 32) #[] #[.pointer (some ⟨w.heap.size, 0, none⟩)], .int .i64 6, .func (.func 37) #[] #[]]) (.int .i64 2)).run Tryz.prog W = .ok (.agg #[.int .i64 4, .func (.func 36) #[] #[]]) W := fun W => idxC #[.int .i64 2, .func (.func 34) #[] #[], .int .i64 3, .func (.func 35) #[] #[], .int .i64 4, .func (.func 36) #[] #[], .int .i64 5, .func (.func 32) #[] #[.pointer (some ⟨w.heap.size, 0, none⟩)], .int .i64 6, .func (.func 37) #[] #[]] 2 (by omega) W
              go_wp2_with fail
              clear IX
              have chk : (wo.alloc (.cells #[.int .i64 4, .func (.func 36) #[] #[]] 73)).heap[wo.heap.size]? = some (.cells #[.int .i64 4, .func (.func 36) #[] #[]] 73 (0, 0)) := heap_alloc_last _ _
              have hB6 : Below wo.heap.size wo (wo.alloc (.cells #[.int .i64 4, .func (.func 36) #[] #[]] 73)) := (Below.refl _ _).alloc (Nat.le_refl _) _
              have hy : wo.heap.size < (wo.alloc (.cells #[.int .i64 4, .func (.func 36) #[] #[]] 73)).heap.size := by simp
              generalize wo.alloc (.cells #[.int .i64 4, .func (.func 36) #[] #[]] 73) = w6 at chk hB6 hy ⊢
              have HB6 : Hid (Below wo.heap.size wo w6) := hB6
              have HW6 : Hid (Below w.heap.size w w6) := HWo.out.trans (hB6.mono HWo.out.size)
              have am6 := (bcell hB6 _ _ (by omega)).trans HAM.out
              have L1 : w.heap.size < w6.heap.size := by omega
              have L2 : fb < w6.heap.size := by have := HW6.out.size; omega
              have f60 := (bcell HW6.out _ _ hfb').trans HCa.out.1
              have f61 := (bcell HW6.out _ _ hfb').trans HCa.out.2.1
              have f62 := (bcell HW6.out _ _ hfb').trans HCa.out.2.2
              clear hB6
              refine wp_region_held_drew (S := fun w' => Below w6.heap.size w6 w') (by kernel_rfl) ((Below.refl _ _).drew) (fun hHeld => ?_)
              refine wpAnyH_take (i := 0) (v := ?_) rfl (by kernel_rfl) (by kernel_rfl) (by kernel_rfl) (fun _ _ _ h => h) (Or.inl ⟨by rfl, ?_⟩) hHeld ?_
              rotate_left
              · intro w9 hS9
                go_simp
                try with_reducible rfl
              show wpAnyH _ _ _ _ _ _ _ (Act.put _ (some 37) _) _
              simp only [Act.put, List.setIfInBounds_toArray, List.set_cons_zero, List.set_cons_succ]
              refine wpAnyH_take (i := 1) (v := ?_) rfl (by kernel_rfl) (by kernel_rfl) (by kernel_rfl) (fun _ _ _ h => h) (Or.inl ⟨by rfl, ?_⟩) hHeld ?_
              rotate_left
              · intro w9 hS9
                have q1 := (cell_of_heap (o := 1) ((hS9.block _ hy).trans chk)).trans rfl
                go_simp
                try with_reducible rfl
              show wpAnyH _ _ _ _ _ _ _ (Act.put _ (some 38) _) _
              simp only [Act.put, List.setIfInBounds_toArray, List.set_cons_zero, List.set_cons_succ]
              refine wpAnyH_take (i := 2) (v := ?_) rfl (by kernel_rfl) (by kernel_rfl) (by kernel_rfl) (fun _ _ _ h => h) (Or.inl ⟨by rfl, ?_⟩) hHeld ?_
              rotate_left
              · intro w9 hS9
                go_simp
                try with_reducible rfl
              show wpAnyH _ _ _ _ _ _ _ (Act.put _ (some 39) _) _
              simp only [Act.put, List.setIfInBounds_toArray, List.set_cons_zero, List.set_cons_succ]
              refine wpAnyH_take (i := 3) (v := ?_) rfl (by kernel_rfl) (by kernel_rfl) (by kernel_rfl) (fun _ _ _ h => h) (Or.inl ⟨by rfl, ?_⟩) hHeld ?_
              rotate_left
              · intro w9 hS9
                have q2 := (bcell hS9 _ _ L1).trans am6
                go_simp
                try with_reducible rfl
              show wpAnyH _ _ _ _ _ _ _ (Act.put _ (some 40) _) _
              simp only [Act.put, List.setIfInBounds_toArray, List.set_cons_zero, List.set_cons_succ]
              refine wpAnyH_take (i := 4) (v := ?_) rfl (by kernel_rfl) (by kernel_rfl) (by kernel_rfl) (fun _ _ _ h => h) (Or.inl ⟨by rfl, ?_⟩) hHeld ?_
              rotate_left
              · intro w9 hS9
                go_simp
                try with_reducible rfl
              show wpAnyH _ _ _ _ _ _ _ (Act.put _ (some 41) _) _
              simp only [Act.put, List.setIfInBounds_toArray, List.set_cons_zero, List.set_cons_succ]
              refine wpAnyH_take (i := 5) (v := ?_) rfl (by kernel_rfl) (by kernel_rfl) (by kernel_rfl) (fun _ _ _ h => h) (Or.inl ⟨by rfl, ?_⟩) hHeld ?_
              rotate_left
              · intro w9 hS9
                go_simp
                try with_reducible rfl
              show wpAnyH _ _ _ _ _ _ _ (Act.put _ (some 42) _) _
              simp only [Act.put, List.setIfInBounds_toArray, List.set_cons_zero, List.set_cons_succ]
              refine wpAnyH_take (i := 6) (v := ?_) rfl (by kernel_rfl) (by kernel_rfl) (by kernel_rfl) (fun _ _ _ h => h) (Or.inl ⟨by rfl, ?_⟩) hHeld ?_
              rotate_left
              · intro w9 hS9
                have q3 := (bcell hS9 _ _ L2).trans f60
                have q4 := (bcell hS9 _ _ L2).trans f61
                have q5 := (bcell hS9 _ _ L2).trans f62
                go_simp
                try with_reducible rfl
              show wpAnyH _ _ _ _ _ _ _ (Act.put _ (some 43) _) _
              simp only [Act.put, List.setIfInBounds_toArray, List.set_cons_zero, List.set_cons_succ]
              refine wpAnyH_ready (rs := [7]) (by kernel_rfl) (by simp) ?_
              refine AllReadyH.cons rfl (fun K hK => ?_) AllReadyH.nil
              go_simp
              go_wp2_with (go_at_call 36; refine (DW _ (HW6.out.trans (hHeld.mono HW6.out.size))).mono ?_; rintro e w7 ⟨rfl, hb7⟩; have hb7s := hHeld.trans (hb7.mono hHeld.size))
              refine hK.out _ _ ?_ (fun hHeld2 => ?_)
              · exact hb7s
              clear hK K hHeld
              have hHeld := hHeld2
              clear hHeld2
              try simp only [Act.put, List.setIfInBounds_toArray, List.set_cons_zero, List.set_cons_succ]
              refine wpAnyH_take (i := 8) (v := ?_) rfl (by kernel_rfl) (by kernel_rfl) (by kernel_rfl) (fun _ _ _ h => h) (Or.inl ⟨by rfl, ?_⟩) hHeld ?_
              rotate_left
              · intro w9 hS9
                go_simp
                try with_reducible rfl
              show wpAnyH _ _ _ _ _ _ _ (Act.put _ (some 9) _) _
              simp only [Act.put, List.setIfInBounds_toArray, List.set_cons_zero, List.set_cons_succ]
              refine wpAnyH_done (by kernel_rfl) ?_ _
              go_wp2_with fail
              go_roundw
              case rel => exact ⟨3, by omega, by go_num, HNX.out, HX.out.trans ((HB6.out.trans (hb7s.mono HB6.out.size)).mono (by omega))⟩
              case measure => simp [intOf]
            · have hP : typB g = false := by simpa using hP0
              have DW : ∀ W, Below w.heap.size w W → Calls Tryz.prog 36 #[.agg #[.slice g0 g.params.length gq0, .int .i64 g.ret, .slice g2 g.blocks.length gq2]] W fun e w' => e = .returned (.iface 212 (.pointer (some aW))) ∧ Below W.heap.size W w' := fun W hW => by
                have := (fun W hW => (typI lo g g0 gq0 g2 gq2 aW l.length W HGS.out (HN.out.1.keep (agree_of_below hW _)) (HN.out.2.keep (agree_of_below hW _)) HFF.out (HE.out.keep hW).wd)) W hW
                rw [hP] at this
                exact this
              have HCD : Hid (CodeF l g 4) := .inr (.inr (.inl ⟨HPS.out.1 (by omega), HPS.out.2.1 (by omega), hP, rfl⟩))
              clear hP0 hP
              have IX : ∀ W, (Instr.index 74 (.agg #[.int .i64 2, .func (.func 34) #[] #[], .int .i64 3, .func (.func 35) #[] #[], .int .i64 4, .func (.func 36) #[] #[], .int .i64 5, .func (.func 32) #[] #[.pointer (some ⟨w.heap.size, 0, none⟩)], .int .i64 6, .func (.func 37) #[] #[]]) (.int .i64 2)).run Tryz.prog W = .ok (.agg #[.int .i64 4, .func (.func 36) #[] #[]]) W := fun W => idxC #[.int .i64 2, .func (.func 34) #[] #[], .int .i64 3, .func (.func 35) #[] #[], .int .i64 4, .func (.func 36) #[] #[], .int .i64 5, .func (.func 32) #[] #[.pointer (some ⟨w.heap.size, 0, none⟩)], .int .i64 6, .func (.func 37) #[] #[]] 2 (by omega) W
              go_wp2_with fail
              clear IX
              have chk : (wo.alloc (.cells #[.int .i64 4, .func (.func 36) #[] #[]] 73)).heap[wo.heap.size]? = some (.cells #[.int .i64 4, .func (.func 36) #[] #[]] 73 (0, 0)) := heap_alloc_last _ _
              have hB6 : Below wo.heap.size wo (wo.alloc (.cells #[.int .i64 4, .func (.func 36) #[] #[]] 73)) := (Below.refl _ _).alloc (Nat.le_refl _) _
              have hy : wo.heap.size < (wo.alloc (.cells #[.int .i64 4, .func (.func 36) #[] #[]] 73)).heap.size := by simp
              generalize wo.alloc (.cells #[.int .i64 4, .func (.func 36) #[] #[]] 73) = w6 at chk hB6 hy ⊢
              have HB6 : Hid (Below wo.heap.size wo w6) := hB6
              have HW6 : Hid (Below w.heap.size w w6) := HWo.out.trans (hB6.mono HWo.out.size)
              have am6 := (bcell hB6 _ _ (by omega)).trans HAM.out
              have L1 : w.heap.size < w6.heap.size := by omega
              have L2 : fb < w6.heap.size := by have := HW6.out.size; omega
              have f60 := (bcell HW6.out _ _ hfb').trans HCa.out.1
              have f61 := (bcell HW6.out _ _ hfb').trans HCa.out.2.1
              have f62 := (bcell HW6.out _ _ hfb').trans HCa.out.2.2
              clear hB6
              refine wp_region_held_drew (S := fun w' => Below w6.heap.size w6 w') (by kernel_rfl) ((Below.refl _ _).drew) (fun hHeld => ?_)
              refine wpAnyH_take (i := 0) (v := ?_) rfl (by kernel_rfl) (by kernel_rfl) (by kernel_rfl) (fun _ _ _ h => h) (Or.inl ⟨by rfl, ?_⟩) hHeld ?_
              rotate_left
              · intro w9 hS9
                go_simp
                try with_reducible rfl
              show wpAnyH _ _ _ _ _ _ _ (Act.put _ (some 37) _) _
              simp only [Act.put, List.setIfInBounds_toArray, List.set_cons_zero, List.set_cons_succ]
              refine wpAnyH_take (i := 1) (v := ?_) rfl (by kernel_rfl) (by kernel_rfl) (by kernel_rfl) (fun _ _ _ h => h) (Or.inl ⟨by rfl, ?_⟩) hHeld ?_
              rotate_left
              · intro w9 hS9
                have q1 := (cell_of_heap (o := 1) ((hS9.block _ hy).trans chk)).trans rfl
                go_simp
                try with_reducible rfl
              show wpAnyH _ _ _ _ _ _ _ (Act.put _ (some 38) _) _
              simp only [Act.put, List.setIfInBounds_toArray, List.set_cons_zero, List.set_cons_succ]
              refine wpAnyH_take (i := 2) (v := ?_) rfl (by kernel_rfl) (by kernel_rfl) (by kernel_rfl) (fun _ _ _ h => h) (Or.inl ⟨by rfl, ?_⟩) hHeld ?_
              rotate_left
              · intro w9 hS9
                go_simp
                try with_reducible rfl
              show wpAnyH _ _ _ _ _ _ _ (Act.put _ (some 39) _) _
              simp only [Act.put, List.setIfInBounds_toArray, List.set_cons_zero, List.set_cons_succ]
              refine wpAnyH_take (i := 3) (v := ?_) rfl (by kernel_rfl) (by kernel_rfl) (by kernel_rfl) (fun _ _ _ h => h) (Or.inl ⟨by rfl, ?_⟩) hHeld ?_
              rotate_left
              · intro w9 hS9
                have q2 := (bcell hS9 _ _ L1).trans am6
                go_simp
                try with_reducible rfl
              show wpAnyH _ _ _ _ _ _ _ (Act.put _ (some 40) _) _
              simp only [Act.put, List.setIfInBounds_toArray, List.set_cons_zero, List.set_cons_succ]
              refine wpAnyH_take (i := 4) (v := ?_) rfl (by kernel_rfl) (by kernel_rfl) (by kernel_rfl) (fun _ _ _ h => h) (Or.inl ⟨by rfl, ?_⟩) hHeld ?_
              rotate_left
              · intro w9 hS9
                go_simp
                try with_reducible rfl
              show wpAnyH _ _ _ _ _ _ _ (Act.put _ (some 41) _) _
              simp only [Act.put, List.setIfInBounds_toArray, List.set_cons_zero, List.set_cons_succ]
              refine wpAnyH_take (i := 5) (v := ?_) rfl (by kernel_rfl) (by kernel_rfl) (by kernel_rfl) (fun _ _ _ h => h) (Or.inl ⟨by rfl, ?_⟩) hHeld ?_
              rotate_left
              · intro w9 hS9
                go_simp
                try with_reducible rfl
              show wpAnyH _ _ _ _ _ _ _ (Act.put _ (some 42) _) _
              simp only [Act.put, List.setIfInBounds_toArray, List.set_cons_zero, List.set_cons_succ]
              refine wpAnyH_take (i := 6) (v := ?_) rfl (by kernel_rfl) (by kernel_rfl) (by kernel_rfl) (fun _ _ _ h => h) (Or.inl ⟨by rfl, ?_⟩) hHeld ?_
              rotate_left
              · intro w9 hS9
                have q3 := (bcell hS9 _ _ L2).trans f60
                have q4 := (bcell hS9 _ _ L2).trans f61
                have q5 := (bcell hS9 _ _ L2).trans f62
                go_simp
                try with_reducible rfl
              show wpAnyH _ _ _ _ _ _ _ (Act.put _ (some 43) _) _
              simp only [Act.put, List.setIfInBounds_toArray, List.set_cons_zero, List.set_cons_succ]
              refine wpAnyH_ready (rs := [7]) (by kernel_rfl) (by simp) ?_
              refine AllReadyH.cons rfl (fun K hK => ?_) AllReadyH.nil
              go_simp
              go_wp2_with (go_at_call 36; refine (DW _ (HW6.out.trans (hHeld.mono HW6.out.size))).mono ?_; rintro e w7 ⟨rfl, hb7⟩; have hb7s := hHeld.trans (hb7.mono hHeld.size))
              refine hK.out _ _ ?_ (fun hHeld2 => ?_)
              · exact hb7s
              clear hK K hHeld
              have hHeld := hHeld2
              clear hHeld2
              try simp only [Act.put, List.setIfInBounds_toArray, List.set_cons_zero, List.set_cons_succ]
              refine wpAnyH_take (i := 8) (v := ?_) rfl (by kernel_rfl) (by kernel_rfl) (by kernel_rfl) (fun _ _ _ h => h) (Or.inl ⟨by rfl, ?_⟩) hHeld ?_
              rotate_left
              · intro w9 hS9
                go_simp
                try with_reducible rfl
              show wpAnyH _ _ _ _ _ _ _ (Act.put _ (some 9) _) _
              simp only [Act.put, List.setIfInBounds_toArray, List.set_cons_zero, List.set_cons_succ]
              refine wpAnyH_done (by kernel_rfl) ?_ _
              have ck0 := (cell_of_heap (o := 0) ((hb7s.block _ hy).trans chk)).trans rfl
              go_wp2_with fail
              go_ret
              exact ⟨⟨_, rfl, RR.out 4 _ HCD.out (.inr ⟨by decide, aW, .inr (.inr (.inl rfl)), rfl⟩)⟩, HW6.out.trans (hb7s.mono HW6.out.size)⟩
          · by_cases hP0 : clsB l g = true
            · have hP : clsB l g = true := hP0
              have DW : ∀ W, Below w.heap.size w W → W.cell? ⟨w.heap.size, 0, none⟩ = some (.slice (some ⟨fb, fo, none⟩) l.length cm) → w.heap.size < W.heap.size → Calls Tryz.prog 32 #[.agg #[.slice g0 g.params.length gq0, .int .i64 g.ret, .slice g2 g.blocks.length gq2], .pointer (some ⟨w.heap.size, 0, none⟩)] W fun e w' => e = .returned .nilIface ∧ Below W.heap.size W w' := fun W hW h1 h2 => by
                refine ((fun W hW hMc hMl => (closI lo l g w.heap.size (some ⟨fb, fo, none⟩) cm g0 gq0 g2 gq2 aW aC W HSL.out HGS.out (HKM.out.keep (agree_of_below hW _)) (HN.out.1.keep (agree_of_below hW _)) (HN.out.2.keep (agree_of_below hW _)) HFF.out (HE.out.keep hW).wd (HE.out.keep hW).c hMc hMl)) W hW h1 h2).mono ?_
                rintro e w' ⟨⟨v, rfl, ho⟩, hb⟩
                exact ⟨by rw [ho.yes hP], hb⟩
              have HNX : Hid (passed l g 4) := ⟨fun _ => HPS.out.1 (by omega), fun _ => HPS.out.2.1 (by omega), fun _ => HPS.out.2.2.1 (by omega), fun _ => hP, fun h => (by omega)⟩
              clear hP0 hP
              have IX : ∀ W, (Instr.index 74 (.agg #[.int .i64 2, .func (.func 34) #[] #[], .int .i64 3, .func (.func 35) #[] #[], .int .i64 4, .func (.func 36) #[] #[], .int .i64 5, .func (.func 32) #[] #[.pointer (some ⟨w.heap.size, 0, none⟩)], .int .i64 6, .func (.func 37) #[] #[]]) (.int .i64 3)).run Tryz.prog W = .ok (.agg #[.int .i64 5, .func (.func 32) #[] #[.pointer (some ⟨w.heap.size, 0, none⟩)]]) W := fun W => idxC #[.int .i64 2, .func (.func 34) #[] #[], .int .i64 3, .func (.func 35) #[] #[], .int .i64 4, .func (.func 36) #[] #[], .int .i64 5, .func (.func 32) #[] #[.pointer (some ⟨w.heap.size, 0, none⟩)], .int .i64 6, .func (.func 37) #[] #[]] 3 (by omega) W
              go_wp2_with fail
              clear IX
              have chk : (wo.alloc (.cells #[.int .i64 5, .func (.func 32) #[] #[.pointer (some ⟨w.heap.size, 0, none⟩)]] 73)).heap[wo.heap.size]? = some (.cells #[.int .i64 5, .func (.func 32) #[] #[.pointer (some ⟨w.heap.size, 0, none⟩)]] 73 (0, 0)) := heap_alloc_last _ _
              have hB6 : Below wo.heap.size wo (wo.alloc (.cells #[.int .i64 5, .func (.func 32) #[] #[.pointer (some ⟨w.heap.size, 0, none⟩)]] 73)) := (Below.refl _ _).alloc (Nat.le_refl _) _
              have hy : wo.heap.size < (wo.alloc (.cells #[.int .i64 5, .func (.func 32) #[] #[.pointer (some ⟨w.heap.size, 0, none⟩)]] 73)).heap.size := by simp
              generalize wo.alloc (.cells #[.int .i64 5, .func (.func 32) #[] #[.pointer (some ⟨w.heap.size, 0, none⟩)]] 73) = w6 at chk hB6 hy ⊢
              have HB6 : Hid (Below wo.heap.size wo w6) := hB6
              have HW6 : Hid (Below w.heap.size w w6) := HWo.out.trans (hB6.mono HWo.out.size)
              have am6 := (bcell hB6 _ _ (by omega)).trans HAM.out
              have L1 : w.heap.size < w6.heap.size := by omega
              have L2 : fb < w6.heap.size := by have := HW6.out.size; omega
              have f60 := (bcell HW6.out _ _ hfb').trans HCa.out.1
              have f61 := (bcell HW6.out _ _ hfb').trans HCa.out.2.1
              have f62 := (bcell HW6.out _ _ hfb').trans HCa.out.2.2
              clear hB6
              refine wp_region_held_drew (S := fun w' => Below w6.heap.size w6 w') (by kernel_rfl) ((Below.refl _ _).drew) (fun hHeld => ?_)
              refine wpAnyH_take (i := 0) (v := ?_) rfl (by kernel_rfl) (by kernel_rfl) (by kernel_rfl) (fun _ _ _ h => h) (Or.inl ⟨by rfl, ?_⟩) hHeld ?_
              rotate_left
              · intro w9 hS9
                go_simp
                try with_reducible rfl
              show wpAnyH _ _ _ _ _ _ _ (Act.put _ (some 37) _) _
              simp only [Act.put, List.setIfInBounds_toArray, List.set_cons_zero, List.set_cons_succ]
              refine wpAnyH_take (i := 1) (v := ?_) rfl (by kernel_rfl) (by kernel_rfl) (by kernel_rfl) (fun _ _ _ h => h) (Or.inl ⟨by rfl, ?_⟩) hHeld ?_
              rotate_left
              · intro w9 hS9
                have q1 := (cell_of_heap (o := 1) ((hS9.block _ hy).trans chk)).trans rfl
                go_simp
                try with_reducible rfl
              show wpAnyH _ _ _ _ _ _ _ (Act.put _ (some 38) _) _
              simp only [Act.put, List.setIfInBounds_toArray, List.set_cons_zero, List.set_cons_succ]
              refine wpAnyH_take (i := 2) (v := ?_) rfl (by kernel_rfl) (by kernel_rfl) (by kernel_rfl) (fun _ _ _ h => h) (Or.inl ⟨by rfl, ?_⟩) hHeld ?_
              rotate_left
              · intro w9 hS9
                go_simp
                try with_reducible rfl
              show wpAnyH _ _ _ _ _ _ _ (Act.put _ (some 39) _) _
              simp only [Act.put, List.setIfInBounds_toArray, List.set_cons_zero, List.set_cons_succ]
              refine wpAnyH_take (i := 3) (v := ?_) rfl (by kernel_rfl) (by kernel_rfl) (by kernel_rfl) (fun _ _ _ h => h) (Or.inl ⟨by rfl, ?_⟩) hHeld ?_
              rotate_left
              · intro w9 hS9
                have q2 := (bcell hS9 _ _ L1).trans am6
                go_simp
                try with_reducible rfl
              show wpAnyH _ _ _ _ _ _ _ (Act.put _ (some 40) _) _
              simp only [Act.put, List.setIfInBounds_toArray, List.set_cons_zero, List.set_cons_succ]
              refine wpAnyH_take (i := 4) (v := ?_) rfl (by kernel_rfl) (by kernel_rfl) (by kernel_rfl) (fun _ _ _ h => h) (Or.inl ⟨by rfl, ?_⟩) hHeld ?_
              rotate_left
              · intro w9 hS9
                go_simp
                try with_reducible rfl
              show wpAnyH _ _ _ _ _ _ _ (Act.put _ (some 41) _) _
              simp only [Act.put, List.setIfInBounds_toArray, List.set_cons_zero, List.set_cons_succ]
              refine wpAnyH_take (i := 5) (v := ?_) rfl (by kernel_rfl) (by kernel_rfl) (by kernel_rfl) (fun _ _ _ h => h) (Or.inl ⟨by rfl, ?_⟩) hHeld ?_
              rotate_left
              · intro w9 hS9
                go_simp
                try with_reducible rfl
              show wpAnyH _ _ _ _ _ _ _ (Act.put _ (some 42) _) _
              simp only [Act.put, List.setIfInBounds_toArray, List.set_cons_zero, List.set_cons_succ]
              refine wpAnyH_take (i := 6) (v := ?_) rfl (by kernel_rfl) (by kernel_rfl) (by kernel_rfl) (fun _ _ _ h => h) (Or.inl ⟨by rfl, ?_⟩) hHeld ?_
              rotate_left
              · intro w9 hS9
                have q3 := (bcell hS9 _ _ L2).trans f60
                have q4 := (bcell hS9 _ _ L2).trans f61
                have q5 := (bcell hS9 _ _ L2).trans f62
                go_simp
                try with_reducible rfl
              show wpAnyH _ _ _ _ _ _ _ (Act.put _ (some 43) _) _
              simp only [Act.put, List.setIfInBounds_toArray, List.set_cons_zero, List.set_cons_succ]
              refine wpAnyH_ready (rs := [7]) (by kernel_rfl) (by simp) ?_
              refine AllReadyH.cons rfl (fun K hK => ?_) AllReadyH.nil
              go_simp
              go_wp2_with (go_at_call 32; refine (DW _ (HW6.out.trans (hHeld.mono HW6.out.size)) ((bcell hHeld _ _ L1).trans am6) (Nat.lt_of_lt_of_le L1 hHeld.size)).mono ?_; rintro e w7 ⟨rfl, hb7⟩; have hb7s := hHeld.trans (hb7.mono hHeld.size))
              refine hK.out _ _ ?_ (fun hHeld2 => ?_)
              · exact hb7s
              clear hK K hHeld
              have hHeld := hHeld2
              clear hHeld2
              try simp only [Act.put, List.setIfInBounds_toArray, List.set_cons_zero, List.set_cons_succ]
              refine wpAnyH_take (i := 8) (v := ?_) rfl (by kernel_rfl) (by kernel_rfl) (by kernel_rfl) (fun _ _ _ h => h) (Or.inl ⟨by rfl, ?_⟩) hHeld ?_
              rotate_left
              · intro w9 hS9
                go_simp
                try with_reducible rfl
              show wpAnyH _ _ _ _ _ _ _ (Act.put _ (some 9) _) _
              simp only [Act.put, List.setIfInBounds_toArray, List.set_cons_zero, List.set_cons_succ]
              refine wpAnyH_done (by kernel_rfl) ?_ _
              go_wp2_with fail
              go_roundw
              case rel => exact ⟨4, by omega, by go_num, HNX.out, HX.out.trans ((HB6.out.trans (hb7s.mono HB6.out.size)).mono (by omega))⟩
              case measure => simp [intOf]
            · have hP : clsB l g = false := by simpa using hP0
              have DW : ∀ W, Below w.heap.size w W → W.cell? ⟨w.heap.size, 0, none⟩ = some (.slice (some ⟨fb, fo, none⟩) l.length cm) → w.heap.size < W.heap.size → Calls Tryz.prog 32 #[.agg #[.slice g0 g.params.length gq0, .int .i64 g.ret, .slice g2 g.blocks.length gq2], .pointer (some ⟨w.heap.size, 0, none⟩)] W fun e w' => (∃ x, e = .returned (.iface 212 (.pointer (some x))) ∧ (x = aW ∨ x = aC)) ∧ Below W.heap.size W w' := fun W hW h1 h2 => by
                refine ((fun W hW hMc hMl => (closI lo l g w.heap.size (some ⟨fb, fo, none⟩) cm g0 gq0 g2 gq2 aW aC W HSL.out HGS.out (HKM.out.keep (agree_of_below hW _)) (HN.out.1.keep (agree_of_below hW _)) (HN.out.2.keep (agree_of_below hW _)) HFF.out (HE.out.keep hW).wd (HE.out.keep hW).c hMc hMl)) W hW h1 h2).mono ?_
                rintro e w' ⟨⟨v, rfl, ho⟩, hb⟩
                obtain ⟨x, hx, hx2⟩ := ho.no hP
                exact ⟨⟨x, by rw [hx], hx2⟩, hb⟩
              have HCD : Hid (CodeF l g 5) := .inr (.inr (.inr (.inl ⟨HPS.out.1 (by omega), HPS.out.2.1 (by omega), HPS.out.2.2.1 (by omega), hP, rfl⟩)))
              clear hP0 hP
              have IX : ∀ W, (Instr.index 74 (.agg #[.int .i64 2, .func (.func 34) #[] #[], .int .i64 3, .func (.func 35) #[] #[], .int .i64 4, .func (.func 36) #[] #[], .int .i64 5, .func (.func 32) #[] #[.pointer (some ⟨w.heap.size, 0, none⟩)], .int .i64 6, .func (.func 37) #[] #[]]) (.int .i64 3)).run Tryz.prog W = .ok (.agg #[.int .i64 5, .func (.func 32) #[] #[.pointer (some ⟨w.heap.size, 0, none⟩)]]) W := fun W => idxC #[.int .i64 2, .func (.func 34) #[] #[], .int .i64 3, .func (.func 35) #[] #[], .int .i64 4, .func (.func 36) #[] #[], .int .i64 5, .func (.func 32) #[] #[.pointer (some ⟨w.heap.size, 0, none⟩)], .int .i64 6, .func (.func 37) #[] #[]] 3 (by omega) W
              go_wp2_with fail
              clear IX
              have chk : (wo.alloc (.cells #[.int .i64 5, .func (.func 32) #[] #[.pointer (some ⟨w.heap.size, 0, none⟩)]] 73)).heap[wo.heap.size]? = some (.cells #[.int .i64 5, .func (.func 32) #[] #[.pointer (some ⟨w.heap.size, 0, none⟩)]] 73 (0, 0)) := heap_alloc_last _ _
              have hB6 : Below wo.heap.size wo (wo.alloc (.cells #[.int .i64 5, .func (.func 32) #[] #[.pointer (some ⟨w.heap.size, 0, none⟩)]] 73)) := (Below.refl _ _).alloc (Nat.le_refl _) _
              have hy : wo.heap.size < (wo.alloc (.cells #[.int .i64 5, .func (.func 32) #[] #[.pointer (some ⟨w.heap.size, 0, none⟩)]] 73)).heap.size := by simp
              generalize wo.alloc (.cells #[.int .i64 5, .func (.func 32) #[] #[.pointer (some ⟨w.heap.size, 0, none⟩)]] 73) = w6 at chk hB6 hy ⊢
              have HB6 : Hid (Below wo.heap.size wo w6) := hB6
              have HW6 : Hid (Below w.heap.size w w6) := HWo.out.trans (hB6.mono HWo.out.size)
              have am6 := (bcell hB6 _ _ (by omega)).trans HAM.out
              have L1 : w.heap.size < w6.heap.size := by omega
              have L2 : fb < w6.heap.size := by have := HW6.out.size; omega
              have f60 := (bcell HW6.out _ _ hfb').trans HCa.out.1
              have f61 := (bcell HW6.out _ _ hfb').trans HCa.out.2.1
              have f62 := (bcell HW6.out _ _ hfb').trans HCa.out.2.2
              clear hB6
              refine wp_region_held_drew (S := fun w' => Below w6.heap.size w6 w') (by kernel_rfl) ((Below.refl _ _).drew) (fun hHeld => ?_)
              refine wpAnyH_take (i := 0) (v := ?_) rfl (by kernel_rfl) (by kernel_rfl) (by kernel_rfl) (fun _ _ _ h => h) (Or.inl ⟨by rfl, ?_⟩) hHeld ?_
              rotate_left
              · intro w9 hS9
                go_simp
                try with_reducible rfl
              show wpAnyH _ _ _ _ _ _ _ (Act.put _ (some 37) _) _
              simp only [Act.put, List.setIfInBounds_toArray, List.set_cons_zero, List.set_cons_succ]
              refine wpAnyH_take (i := 1) (v := ?_) rfl (by kernel_rfl) (by kernel_rfl) (by kernel_rfl) (fun _ _ _ h => h) (Or.inl ⟨by rfl, ?_⟩) hHeld ?_
              rotate_left
              · intro w9 hS9
                have q1 := (cell_of_heap (o := 1) ((hS9.block _ hy).trans chk)).trans rfl
                go_simp
                try with_reducible rfl
              show wpAnyH _ _ _ _ _ _ _ (Act.put _ (some 38) _) _
              simp only [Act.put, List.setIfInBounds_toArray, List.set_cons_zero, List.set_cons_succ]
              refine wpAnyH_take (i := 2) (v := ?_) rfl (by kernel_rfl) (by kernel_rfl) (by kernel_rfl) (fun _ _ _ h => h) (Or.inl ⟨by rfl, ?_⟩) hHeld ?_
              rotate_left
              · intro w9 hS9
                go_simp
                try with_reducible rfl
              show wpAnyH _ _ _ _ _ _ _ (Act.put _ (some 39) _) _
              simp only [Act.put, List.setIfInBounds_toArray, List.set_cons_zero, List.set_cons_succ]
              refine wpAnyH_take (i := 3) (v := ?_) rfl (by kernel_rfl) (by kernel_rfl) (by kernel_rfl) (fun _ _ _ h => h) (Or.inl ⟨by rfl, ?_⟩) hHeld ?_
              rotate_left
              · intro w9 hS9
                have q2 := (bcell hS9 _ _ L1).trans am6
                go_simp
                try with_reducible rfl
              show wpAnyH _ _ _ _ _ _ _ (Act.put _ (some 40) _) _
              simp only [Act.put, List.setIfInBounds_toArray, List.set_cons_zero, List.set_cons_succ]
              refine wpAnyH_take (i := 4) (v := ?_) rfl (by kernel_rfl) (by kernel_rfl) (by kernel_rfl) (fun _ _ _ h => h) (Or.inl ⟨by rfl, ?_⟩) hHeld ?_
              rotate_left
              · intro w9 hS9
                go_simp
                try with_reducible rfl
              show wpAnyH _ _ _ _ _ _ _ (Act.put _ (some 41) _) _
              simp only [Act.put, List.setIfInBounds_toArray, List.set_cons_zero, List.set_cons_succ]
              refine wpAnyH_take (i := 5) (v := ?_) rfl (by kernel_rfl) (by kernel_rfl) (by kernel_rfl) (fun _ _ _ h => h) (Or.inl ⟨by rfl, ?_⟩) hHeld ?_
              rotate_left
              · intro w9 hS9
                go_simp
                try with_reducible rfl
              show wpAnyH _ _ _ _ _ _ _ (Act.put _ (some 42) _) _
              simp only [Act.put, List.setIfInBounds_toArray, List.set_cons_zero, List.set_cons_succ]
              refine wpAnyH_take (i := 6) (v := ?_) rfl (by kernel_rfl) (by kernel_rfl) (by kernel_rfl) (fun _ _ _ h => h) (Or.inl ⟨by rfl, ?_⟩) hHeld ?_
              rotate_left
              · intro w9 hS9
                have q3 := (bcell hS9 _ _ L2).trans f60
                have q4 := (bcell hS9 _ _ L2).trans f61
                have q5 := (bcell hS9 _ _ L2).trans f62
                go_simp
                try with_reducible rfl
              show wpAnyH _ _ _ _ _ _ _ (Act.put _ (some 43) _) _
              simp only [Act.put, List.setIfInBounds_toArray, List.set_cons_zero, List.set_cons_succ]
              refine wpAnyH_ready (rs := [7]) (by kernel_rfl) (by simp) ?_
              refine AllReadyH.cons rfl (fun K hK => ?_) AllReadyH.nil
              go_simp
              go_wp2_with (go_at_call 32; refine (DW _ (HW6.out.trans (hHeld.mono HW6.out.size)) ((bcell hHeld _ _ L1).trans am6) (Nat.lt_of_lt_of_le L1 hHeld.size)).mono ?_; rintro e w7 ⟨⟨xx, rfl, hxx⟩, hb7⟩; have hb7s := hHeld.trans (hb7.mono hHeld.size))
              refine hK.out _ _ ?_ (fun hHeld2 => ?_)
              · exact hb7s
              clear hK K hHeld
              have hHeld := hHeld2
              clear hHeld2
              try simp only [Act.put, List.setIfInBounds_toArray, List.set_cons_zero, List.set_cons_succ]
              refine wpAnyH_take (i := 8) (v := ?_) rfl (by kernel_rfl) (by kernel_rfl) (by kernel_rfl) (fun _ _ _ h => h) (Or.inl ⟨by rfl, ?_⟩) hHeld ?_
              rotate_left
              · intro w9 hS9
                go_simp
                try with_reducible rfl
              show wpAnyH _ _ _ _ _ _ _ (Act.put _ (some 9) _) _
              simp only [Act.put, List.setIfInBounds_toArray, List.set_cons_zero, List.set_cons_succ]
              refine wpAnyH_done (by kernel_rfl) ?_ _
              have ck0 := (cell_of_heap (o := 0) ((hb7s.block _ hy).trans chk)).trans rfl
              go_wp2_with fail
              go_ret
              exact ⟨⟨_, rfl, RR.out 5 _ HCD.out (.inr ⟨by decide, xx, by rcases hxx with rfl | rfl <;> simp, rfl⟩)⟩, HW6.out.trans (hb7s.mono HW6.out.size)⟩
          · by_cases hP0 : DomsP g
            · have hP : DomsP g := hP0
              have DW : ∀ W, Below w.heap.size w W → Calls Tryz.prog 37 #[.agg #[.slice g0 g.params.length gq0, .int .i64 g.ret, .slice g2 g.blocks.length gq2]] W fun e w' => e = .returned .nilIface ∧ Below W.heap.size W w' := fun W hW => by
                refine ((fun W hW => (sightI lo g g0 gq0 g2 gq2 l.length aU W HGS.out (HN.out.2.keep (agree_of_below hW _)) HFF.out (HPS.out.2.1 (by omega)) (HE.out.keep hW).u)) W hW).mono ?_
                rintro e w' ⟨⟨v, rfl, ho⟩, hb⟩
                exact ⟨by rcases ho with ho | ho; exact congrArg _ ho.2; exact absurd hP ho.1, hb⟩
              have HNX : Hid (passed l g 5) := ⟨fun _ => HPS.out.1 (by omega), fun _ => HPS.out.2.1 (by omega), fun _ => HPS.out.2.2.1 (by omega), fun _ => HPS.out.2.2.2.1 (by omega), fun _ => hP⟩
              clear hP0 hP
              have IX : ∀ W, (Instr.index 74 (.agg #[.int .i64 2, .func (.func 34) #[] #[], .int .i64 3, .func (.func 35) #[] #[], .int .i64 4, .func (.func 36) #[] #[], .int .i64 5, .func (.func 32) #[] #[.pointer (some ⟨w.heap.size, 0, none⟩)], .int .i64 6, .func (.func 37) #[] #[]]) (.int .i64 4)).run Tryz.prog W = .ok (.agg #[.int .i64 6, .func (.func 37) #[] #[]]) W := fun W => idxC #[.int .i64 2, .func (.func 34) #[] #[], .int .i64 3, .func (.func 35) #[] #[], .int .i64 4, .func (.func 36) #[] #[], .int .i64 5, .func (.func 32) #[] #[.pointer (some ⟨w.heap.size, 0, none⟩)], .int .i64 6, .func (.func 37) #[] #[]] 4 (by omega) W
              go_wp2_with fail
              clear IX
              have chk : (wo.alloc (.cells #[.int .i64 6, .func (.func 37) #[] #[]] 73)).heap[wo.heap.size]? = some (.cells #[.int .i64 6, .func (.func 37) #[] #[]] 73 (0, 0)) := heap_alloc_last _ _
              have hB6 : Below wo.heap.size wo (wo.alloc (.cells #[.int .i64 6, .func (.func 37) #[] #[]] 73)) := (Below.refl _ _).alloc (Nat.le_refl _) _
              have hy : wo.heap.size < (wo.alloc (.cells #[.int .i64 6, .func (.func 37) #[] #[]] 73)).heap.size := by simp
              generalize wo.alloc (.cells #[.int .i64 6, .func (.func 37) #[] #[]] 73) = w6 at chk hB6 hy ⊢
              have HB6 : Hid (Below wo.heap.size wo w6) := hB6
              have HW6 : Hid (Below w.heap.size w w6) := HWo.out.trans (hB6.mono HWo.out.size)
              have am6 := (bcell hB6 _ _ (by omega)).trans HAM.out
              have L1 : w.heap.size < w6.heap.size := by omega
              have L2 : fb < w6.heap.size := by have := HW6.out.size; omega
              have f60 := (bcell HW6.out _ _ hfb').trans HCa.out.1
              have f61 := (bcell HW6.out _ _ hfb').trans HCa.out.2.1
              have f62 := (bcell HW6.out _ _ hfb').trans HCa.out.2.2
              clear hB6
              refine wp_region_held_drew (S := fun w' => Below w6.heap.size w6 w') (by kernel_rfl) ((Below.refl _ _).drew) (fun hHeld => ?_)
              refine wpAnyH_take (i := 0) (v := ?_) rfl (by kernel_rfl) (by kernel_rfl) (by kernel_rfl) (fun _ _ _ h => h) (Or.inl ⟨by rfl, ?_⟩) hHeld ?_
              rotate_left
              · intro w9 hS9
                go_simp
                try with_reducible rfl
              show wpAnyH _ _ _ _ _ _ _ (Act.put _ (some 37) _) _
              simp only [Act.put, List.setIfInBounds_toArray, List.set_cons_zero, List.set_cons_succ]
              refine wpAnyH_take (i := 1) (v := ?_) rfl (by kernel_rfl) (by kernel_rfl) (by kernel_rfl) (fun _ _ _ h => h) (Or.inl ⟨by rfl, ?_⟩) hHeld ?_
              rotate_left
              · intro w9 hS9
                have q1 := (cell_of_heap (o := 1) ((hS9.block _ hy).trans chk)).trans rfl
                go_simp
                try with_reducible rfl
              show wpAnyH _ _ _ _ _ _ _ (Act.put _ (some 38) _) _
              simp only [Act.put, List.setIfInBounds_toArray, List.set_cons_zero, List.set_cons_succ]
              refine wpAnyH_take (i := 2) (v := ?_) rfl (by kernel_rfl) (by kernel_rfl) (by kernel_rfl) (fun _ _ _ h => h) (Or.inl ⟨by rfl, ?_⟩) hHeld ?_
              rotate_left
              · intro w9 hS9
                go_simp
                try with_reducible rfl
              show wpAnyH _ _ _ _ _ _ _ (Act.put _ (some 39) _) _
              simp only [Act.put, List.setIfInBounds_toArray, List.set_cons_zero, List.set_cons_succ]
              refine wpAnyH_take (i := 3) (v := ?_) rfl (by kernel_rfl) (by kernel_rfl) (by kernel_rfl) (fun _ _ _ h => h) (Or.inl ⟨by rfl, ?_⟩) hHeld ?_
              rotate_left
              · intro w9 hS9
                have q2 := (bcell hS9 _ _ L1).trans am6
                go_simp
                try with_reducible rfl
              show wpAnyH _ _ _ _ _ _ _ (Act.put _ (some 40) _) _
              simp only [Act.put, List.setIfInBounds_toArray, List.set_cons_zero, List.set_cons_succ]
              refine wpAnyH_take (i := 4) (v := ?_) rfl (by kernel_rfl) (by kernel_rfl) (by kernel_rfl) (fun _ _ _ h => h) (Or.inl ⟨by rfl, ?_⟩) hHeld ?_
              rotate_left
              · intro w9 hS9
                go_simp
                try with_reducible rfl
              show wpAnyH _ _ _ _ _ _ _ (Act.put _ (some 41) _) _
              simp only [Act.put, List.setIfInBounds_toArray, List.set_cons_zero, List.set_cons_succ]
              refine wpAnyH_take (i := 5) (v := ?_) rfl (by kernel_rfl) (by kernel_rfl) (by kernel_rfl) (fun _ _ _ h => h) (Or.inl ⟨by rfl, ?_⟩) hHeld ?_
              rotate_left
              · intro w9 hS9
                go_simp
                try with_reducible rfl
              show wpAnyH _ _ _ _ _ _ _ (Act.put _ (some 42) _) _
              simp only [Act.put, List.setIfInBounds_toArray, List.set_cons_zero, List.set_cons_succ]
              refine wpAnyH_take (i := 6) (v := ?_) rfl (by kernel_rfl) (by kernel_rfl) (by kernel_rfl) (fun _ _ _ h => h) (Or.inl ⟨by rfl, ?_⟩) hHeld ?_
              rotate_left
              · intro w9 hS9
                have q3 := (bcell hS9 _ _ L2).trans f60
                have q4 := (bcell hS9 _ _ L2).trans f61
                have q5 := (bcell hS9 _ _ L2).trans f62
                go_simp
                try with_reducible rfl
              show wpAnyH _ _ _ _ _ _ _ (Act.put _ (some 43) _) _
              simp only [Act.put, List.setIfInBounds_toArray, List.set_cons_zero, List.set_cons_succ]
              refine wpAnyH_ready (rs := [7]) (by kernel_rfl) (by simp) ?_
              refine AllReadyH.cons rfl (fun K hK => ?_) AllReadyH.nil
              go_simp
              go_wp2_with (go_at_call 37; refine (DW _ (HW6.out.trans (hHeld.mono HW6.out.size))).mono ?_; rintro e w7 ⟨rfl, hb7⟩; have hb7s := hHeld.trans (hb7.mono hHeld.size))
              refine hK.out _ _ ?_ (fun hHeld2 => ?_)
              · exact hb7s
              clear hK K hHeld
              have hHeld := hHeld2
              clear hHeld2
              try simp only [Act.put, List.setIfInBounds_toArray, List.set_cons_zero, List.set_cons_succ]
              refine wpAnyH_take (i := 8) (v := ?_) rfl (by kernel_rfl) (by kernel_rfl) (by kernel_rfl) (fun _ _ _ h => h) (Or.inl ⟨by rfl, ?_⟩) hHeld ?_
              rotate_left
              · intro w9 hS9
                go_simp
                try with_reducible rfl
              show wpAnyH _ _ _ _ _ _ _ (Act.put _ (some 9) _) _
              simp only [Act.put, List.setIfInBounds_toArray, List.set_cons_zero, List.set_cons_succ]
              refine wpAnyH_done (by kernel_rfl) ?_ _
              go_wp2_with fail
              go_roundw
              case rel => exact ⟨5, by omega, by go_num, HNX.out, HX.out.trans ((HB6.out.trans (hb7s.mono HB6.out.size)).mono (by omega))⟩
              case measure => simp [intOf]
            · have hP : ¬ DomsP g := hP0
              have DW : ∀ W, Below w.heap.size w W → Calls Tryz.prog 37 #[.agg #[.slice g0 g.params.length gq0, .int .i64 g.ret, .slice g2 g.blocks.length gq2]] W fun e w' => e = .returned (.iface 212 (.pointer (some aU))) ∧ Below W.heap.size W w' := fun W hW => by
                refine ((fun W hW => (sightI lo g g0 gq0 g2 gq2 l.length aU W HGS.out (HN.out.2.keep (agree_of_below hW _)) HFF.out (HPS.out.2.1 (by omega)) (HE.out.keep hW).u)) W hW).mono ?_
                rintro e w' ⟨⟨v, rfl, ho⟩, hb⟩
                exact ⟨by rcases ho with ho | ho; exact absurd ho.1 hP; exact congrArg _ ho.2, hb⟩
              have HCD : Hid (CodeF l g 6) := .inr (.inr (.inr (.inr (.inl ⟨HPS.out.1 (by omega), HPS.out.2.1 (by omega), HPS.out.2.2.1 (by omega), HPS.out.2.2.2.1 (by omega), hP, rfl⟩))))
              clear hP0 hP
              have IX : ∀ W, (Instr.index 74 (.agg #[.int .i64 2, .func (.func 34) #[] #[], .int .i64 3, .func (.func 35) #[] #[], .int .i64 4, .func (.func 36) #[] #[], .int .i64 5, .func (.func 32) #[] #[.pointer (some ⟨w.heap.size, 0, none⟩)], .int .i64 6, .func (.func 37) #[] #[]]) (.int .i64 4)).run Tryz.prog W = .ok (.agg #[.int .i64 6, .func (.func 37) #[] #[]]) W := fun W => idxC #[.int .i64 2, .func (.func 34) #[] #[], .int .i64 3, .func (.func 35) #[] #[], .int .i64 4, .func (.func 36) #[] #[], .int .i64 5, .func (.func 32) #[] #[.pointer (some ⟨w.heap.size, 0, none⟩)], .int .i64 6, .func (.func 37) #[] #[]] 4 (by omega) W
              go_wp2_with fail
              clear IX
              have chk : (wo.alloc (.cells #[.int .i64 6, .func (.func 37) #[] #[]] 73)).heap[wo.heap.size]? = some (.cells #[.int .i64 6, .func (.func 37) #[] #[]] 73 (0, 0)) := heap_alloc_last _ _
              have hB6 : Below wo.heap.size wo (wo.alloc (.cells #[.int .i64 6, .func (.func 37) #[] #[]] 73)) := (Below.refl _ _).alloc (Nat.le_refl _) _
              have hy : wo.heap.size < (wo.alloc (.cells #[.int .i64 6, .func (.func 37) #[] #[]] 73)).heap.size := by simp
              generalize wo.alloc (.cells #[.int .i64 6, .func (.func 37) #[] #[]] 73) = w6 at chk hB6 hy ⊢
              have HB6 : Hid (Below wo.heap.size wo w6) := hB6
              have HW6 : Hid (Below w.heap.size w w6) := HWo.out.trans (hB6.mono HWo.out.size)
              have am6 := (bcell hB6 _ _ (by omega)).trans HAM.out
              have L1 : w.heap.size < w6.heap.size := by omega
              have L2 : fb < w6.heap.size := by have := HW6.out.size; omega
              have f60 := (bcell HW6.out _ _ hfb').trans HCa.out.1
              have f61 := (bcell HW6.out _ _ hfb').trans HCa.out.2.1
              have f62 := (bcell HW6.out _ _ hfb').trans HCa.out.2.2
              clear hB6
              refine wp_region_held_drew (S := fun w' => Below w6.heap.size w6 w') (by kernel_rfl) ((Below.refl _ _).drew) (fun hHeld => ?_)
              refine wpAnyH_take (i := 0) (v := ?_) rfl (by kernel_rfl) (by kernel_rfl) (by kernel_rfl) (fun _ _ _ h => h) (Or.inl ⟨by rfl, ?_⟩) hHeld ?_
              rotate_left
              · intro w9 hS9
                go_simp
                try with_reducible rfl
              show wpAnyH _ _ _ _ _ _ _ (Act.put _ (some 37) _) _
              simp only [Act.put, List.setIfInBounds_toArray, List.set_cons_zero, List.set_cons_succ]
              refine wpAnyH_take (i := 1) (v := ?_) rfl (by kernel_rfl) (by kernel_rfl) (by kernel_rfl) (fun _ _ _ h => h) (Or.inl ⟨by rfl, ?_⟩) hHeld ?_
              rotate_left
              · intro w9 hS9
                have q1 := (cell_of_heap (o := 1) ((hS9.block _ hy).trans chk)).trans rfl
                go_simp
                try with_reducible rfl
              show wpAnyH _ _ _ _ _ _ _ (Act.put _ (some 38) _) _
              simp only [Act.put, List.setIfInBounds_toArray, List.set_cons_zero, List.set_cons_succ]
              refine wpAnyH_take (i := 2) (v := ?_) rfl (by kernel_rfl) (by kernel_rfl) (by kernel_rfl) (fun _ _ _ h => h) (Or.inl ⟨by rfl, ?_⟩) hHeld ?_
              rotate_left
              · intro w9 hS9
                go_simp
                try with_reducible rfl
              show wpAnyH _ _ _ _ _ _ _ (Act.put _ (some 39) _) _
              simp only [Act.put, List.setIfInBounds_toArray, List.set_cons_zero, List.set_cons_succ]
              refine wpAnyH_take (i := 3) (v := ?_) rfl (by kernel_rfl) (by kernel_rfl) (by kernel_rfl) (fun _ _ _ h => h) (Or.inl ⟨by rfl, ?_⟩) hHeld ?_
              rotate_left
              · intro w9 hS9
                have q2 := (bcell hS9 _ _ L1).trans am6
                go_simp
                try with_reducible rfl
              show wpAnyH _ _ _ _ _ _ _ (Act.put _ (some 40) _) _
              simp only [Act.put, List.setIfInBounds_toArray, List.set_cons_zero, List.set_cons_succ]
              refine wpAnyH_take (i := 4) (v := ?_) rfl (by kernel_rfl) (by kernel_rfl) (by kernel_rfl) (fun _ _ _ h => h) (Or.inl ⟨by rfl, ?_⟩) hHeld ?_
              rotate_left
              · intro w9 hS9
                go_simp
                try with_reducible rfl
              show wpAnyH _ _ _ _ _ _ _ (Act.put _ (some 41) _) _
              simp only [Act.put, List.setIfInBounds_toArray, List.set_cons_zero, List.set_cons_succ]
              refine wpAnyH_take (i := 5) (v := ?_) rfl (by kernel_rfl) (by kernel_rfl) (by kernel_rfl) (fun _ _ _ h => h) (Or.inl ⟨by rfl, ?_⟩) hHeld ?_
              rotate_left
              · intro w9 hS9
                go_simp
                try with_reducible rfl
              show wpAnyH _ _ _ _ _ _ _ (Act.put _ (some 42) _) _
              simp only [Act.put, List.setIfInBounds_toArray, List.set_cons_zero, List.set_cons_succ]
              refine wpAnyH_take (i := 6) (v := ?_) rfl (by kernel_rfl) (by kernel_rfl) (by kernel_rfl) (fun _ _ _ h => h) (Or.inl ⟨by rfl, ?_⟩) hHeld ?_
              rotate_left
              · intro w9 hS9
                have q3 := (bcell hS9 _ _ L2).trans f60
                have q4 := (bcell hS9 _ _ L2).trans f61
                have q5 := (bcell hS9 _ _ L2).trans f62
                go_simp
                try with_reducible rfl
              show wpAnyH _ _ _ _ _ _ _ (Act.put _ (some 43) _) _
              simp only [Act.put, List.setIfInBounds_toArray, List.set_cons_zero, List.set_cons_succ]
              refine wpAnyH_ready (rs := [7]) (by kernel_rfl) (by simp) ?_
              refine AllReadyH.cons rfl (fun K hK => ?_) AllReadyH.nil
              go_simp
              go_wp2_with (go_at_call 37; refine (DW _ (HW6.out.trans (hHeld.mono HW6.out.size))).mono ?_; rintro e w7 ⟨rfl, hb7⟩; have hb7s := hHeld.trans (hb7.mono hHeld.size))
              refine hK.out _ _ ?_ (fun hHeld2 => ?_)
              · exact hb7s
              clear hK K hHeld
              have hHeld := hHeld2
              clear hHeld2
              try simp only [Act.put, List.setIfInBounds_toArray, List.set_cons_zero, List.set_cons_succ]
              refine wpAnyH_take (i := 8) (v := ?_) rfl (by kernel_rfl) (by kernel_rfl) (by kernel_rfl) (fun _ _ _ h => h) (Or.inl ⟨by rfl, ?_⟩) hHeld ?_
              rotate_left
              · intro w9 hS9
                go_simp
                try with_reducible rfl
              show wpAnyH _ _ _ _ _ _ _ (Act.put _ (some 9) _) _
              simp only [Act.put, List.setIfInBounds_toArray, List.set_cons_zero, List.set_cons_succ]
              refine wpAnyH_done (by kernel_rfl) ?_ _
              have ck0 := (cell_of_heap (o := 0) ((hb7s.block _ hy).trans chk)).trans rfl
              go_wp2_with fail
              go_ret
              exact ⟨⟨_, rfl, RR.out 6 _ HCD.out (.inr ⟨by decide, aU, .inr (.inr (.inr rfl)), rfl⟩)⟩, HW6.out.trans (hb7s.mono HW6.out.size)⟩
        · have hj5 : j = 5 := by omega
          have E : Hid (RefR l m aF aN aE aC aW aU .nilIface) := RR.out 0 _ (HC0.out (by rw [← hj5]; exact HPS.out)) (.inl ⟨rfl, rfl⟩)
          go_wp2_with fail
          go_ret
          exact ⟨⟨_, rfl, E.out⟩, HWo.out⟩
    · have E : Hid (RefR l k aF aN aE aC aW aU (refV 1 aN)) := .inr (.inl ⟨HM.out, hk, rfl⟩)
      have IB := fun (W : World) => belowI_f k l.length W hk
      clear hk
      go_enter Tryz.func18, Tryz.ntmps18
      go_wp2_with (first | (go_at_call 30; refine DM.mono ?_; rintro e w1 ⟨rfl, hb1⟩; have HB1 : Hid (Below w.heap.size w w1) := hB0.trans (hb1.mono (by simp)); have am := (bcell hb1 w.heap.size 0 (by simp)).trans ((cell_of_heap (heap_alloc_last _ _)).trans rfl); have e0 := (HE.out.keep HB1.out).n.cell; unfold errV at e0; clear hb1) | (go_at_call 31; refine (IB _).mono ?_; rintro e w9 ⟨rfl, hw9⟩; rw [hw9]; clear hw9))
      go_ret
      exact ⟨⟨_, rfl, E.out⟩, HB1.out⟩
  · have hm' : modB l = false := by simpa using hm
    have E : Hid (RefR l k aF aN aE aC aW aU (refV 1 aF)) := .inl ⟨hm', rfl⟩
    rw [hm'] at DM
    clear hm hm'
    go_enter Tryz.func18, Tryz.ntmps18
    go_wp2_with (first | (go_at_call 30; refine DM.mono ?_; rintro e w1 ⟨rfl, hb1⟩; have HB1 : Hid (Below w.heap.size w w1) := hB0.trans (hb1.mono (by simp)); have e0 := (HE.out.keep HB1.out).f.cell; unfold errV at e0; clear hb1))
    go_ret
    exact ⟨⟨_, rfl, E.out⟩, HB1.out⟩
end Go.Proofs.YthcaagkkajopiaaGreatDoor
