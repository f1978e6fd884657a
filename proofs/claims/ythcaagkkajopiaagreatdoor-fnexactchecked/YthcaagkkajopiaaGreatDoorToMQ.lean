/- The contracts of the copying functions of modules. -/
import Derived.Test.YthcaagkkajopiaaGreatDoorMemQ
import Derived.Test.YthcaagkkajopiaaGreatDoorChDQ
import Derived.Test.YthcaagkkajopiaaGreatDoorFmIQ
import Derived.Test.YthcaagkkajopiaaGreatDoorFmJQ
import Derived.Test.YthcaagkkajopiaaGreatDoorChWQ
namespace Go.Proofs.YthcaagkkajopiaaGreatDoor
open Go.RowKit

theorem infoFunc : (Tryz.prog.info? 42).map (fun i => (i.zero, i.size, i.bytes)) = some (some (.agg #[.slice none 0 0, .int .i64 0, .slice none 0 0]), 3, 56) := by kernel_rfl
set_option maxHeartbeats 2000000 in
theorem toFuncS_any (lo : Nat) (a : Option Addr) (cap : Nat) (l : List FuncD) (w : World) (hl : l.length ≤ 1048576) (hs : ∀ d ∈ l, SmFunc d) (hv : FuncsAt w lo a l) :
    Calls Tryz.prog 16 #[.slice a l.length cap] w fun e w' => ∃ u c, e = .returned (.slice u l.length c) ∧ FuncsAt w' w.heap.size u l ∧ Below w.heap.size w w' := by
  obtain ⟨i0, hi, hz0, hz1, hz2⟩ := info_parts infoFunc
  have hmk := mk_any (t := 27) l.length Tryz.underlying27 hi hz0 hz1 hz2 (by omega) hl
  clear hi hz0 hz1 hz2
  have hm := hv.1
  go_enter Tryz.func16, Tryz.ntmps16
  go_wp2_with fail
  go_loopw [4] (fun i wr => ∃ (k : Nat) (cur : Array Value), k ≤ l.length ∧ i = .int .i64 k ∧ cur.size = l.length * 3 ∧ wr.heap[w.heap.size]? = some (.cells cur 42 (0, 0)) ∧ (∀ j, j < k → (∃ u c, cur[j * 3]? = some (.slice u (l.getD j func0).params.length c) ∧ IntsAt wr (w.heap.size + 1) u (l.getD j func0).params) ∧ cur[j * 3 + 1]? = some (.int .i64 (l.getD j func0).ret) ∧ (∃ u c, cur[j * 3 + 2]? = some (.slice u (l.getD j func0).blocks.length c) ∧ BlocksAt wr (w.heap.size + 1) u (l.getD j func0).blocks)) ∧ Below w.heap.size w wr) (fun i _ => l.length - (intOf i).toNat)
  case atStart => exact ⟨0, _, by omega, rfl, by simp [size_madeCells], heap_alloc_at _ _, fun j hj => by omega, (Below.refl _ _).alloc (Nat.le_refl _) _⟩
  case round =>
    obtain ⟨k, cur, hk, rfl, hcs, hblk, hdone, hB⟩ := hrel
    by_cases hlt : k < l.length
    · rcases hv.2 with rfl | ⟨b, off, rfl, hlo, hb, hcell⟩
      · simp at hlt
      obtain ⟨⟨u0, c0, h0, k0⟩, h1, ⟨u2, c2, h2, k2⟩⟩ := hcell k hlt
      have hsd := hs _ (getD_mem func0 l k hlt)
      generalize hd : l.getD k func0 = d at h0 h1 h2 k0 k2 hsd
      have e0 : wr.cell? ⟨b, off + k * 3, none⟩ = some (.slice u0 d.params.length c0) := (cell_block (hB.block b hb)).trans h0
      have m0 := k0.keep (agree_of_below hB _)
      have e1 : wr.cell? ⟨b, off + k * 3 + 1, none⟩ = some (.int .i64 d.ret) := (cell_block (hB.block b hb)).trans h1
      have e2 : wr.cell? ⟨b, off + k * 3 + 2, none⟩ = some (.slice u2 d.blocks.length c2) := (cell_block (hB.block b hb)).trans h2
      have m2 := k2.keep (agree_of_below hB _)
      have HD : Hid (l.getD k func0 = d) := hd
      have HDN : Hid (∀ j, j < k → (∃ u c, cur[j * 3]? = some (.slice u (l.getD j func0).params.length c) ∧ IntsAt wr (w.heap.size + 1) u (l.getD j func0).params) ∧ cur[j * 3 + 1]? = some (.int .i64 (l.getD j func0).ret) ∧ (∃ u c, cur[j * 3 + 2]? = some (.slice u (l.getD j func0).blocks.length c) ∧ BlocksAt wr (w.heap.size + 1) u (l.getD j func0).blocks)) := hdone
      have HBK : Hid (wr.heap[w.heap.size]? = some (.cells cur 42 (0, 0))) := hblk
      have HB : Hid (Below w.heap.size w wr) := hB
      have hgl : w.heap.size < wr.heap.size := (Array.getElem?_eq_some_iff.1 hblk).1
      clear hcell hmk hdone hblk hB hd h0 h1 h2
      go_wp2_with (go_at_call 28; refine (toFunc_any lo d _ _ _ _ _ hsd m0 m2).mono ?_; rintro e w1 ⟨v0, q0, v2, q2, rfl, n0, n2, hb1⟩; have hblk1 := (hb1.block w.heap.size hgl).trans HBK.out; have g0 : w1.cell? ⟨w.heap.size, k * 3, none⟩ = some (cur[k * 3]'(by omega)) := (by rw [cell_of_heap hblk1]; simp [show k * 3 < cur.size by omega]); have f0 : w1.frozen? ⟨w.heap.size, k * 3, none⟩ = false := froz_of_heap hblk1; have g1 : w1.cell? ⟨w.heap.size, k * 3 + 1, none⟩ = some (cur[k * 3 + 1]'(by omega)) := (by rw [cell_of_heap hblk1]; simp [show k * 3 + 1 < cur.size by omega]); have f1 : w1.frozen? ⟨w.heap.size, k * 3 + 1, none⟩ = false := froz_of_heap hblk1; have g2 : w1.cell? ⟨w.heap.size, k * 3 + 2, none⟩ = some (cur[k * 3 + 2]'(by omega)) := (by rw [cell_of_heap hblk1]; simp [show k * 3 + 2 < cur.size by omega]); have f2 : w1.frozen? ⟨w.heap.size, k * 3 + 2, none⟩ = false := froz_of_heap hblk1; have HBK1 : Hid (w1.heap[w.heap.size]? = some (.cells cur 42 (0, 0))) := hblk1; clear hblk1)
      go_roundw
      case rel =>
        have hblk1 := HBK1.out
        have hB := HB.out
        have hd := HD.out
        have hag : Agree (w.heap.size + 1) wr (((w1.setCell ⟨w.heap.size, k * 3, none⟩ (.slice v0 d.params.length q0)).setCell ⟨w.heap.size, k * 3 + 1, none⟩ (.int .i64 d.ret)).setCell ⟨w.heap.size, k * 3 + 2, none⟩ (.slice v2 d.blocks.length q2)) := (agree_of_below hb1 _).trans (by repeat (first | refine Agree.trans ?_ (agree_setCell _ _ _ _ _ (by omega)) | exact Agree.refl _ _))
        have hag1 : Agree (w.heap.size + 1) w1 (((w1.setCell ⟨w.heap.size, k * 3, none⟩ (.slice v0 d.params.length q0)).setCell ⟨w.heap.size, k * 3 + 1, none⟩ (.int .i64 d.ret)).setCell ⟨w.heap.size, k * 3 + 2, none⟩ (.slice v2 d.blocks.length q2)) := (by repeat (first | refine Agree.trans ?_ (agree_setCell _ _ _ _ _ (by omega)) | exact Agree.refl _ _))
        refine ⟨k + 1, (((cur.setIfInBounds (k * 3) (.slice v0 d.params.length q0)).setIfInBounds (k * 3 + 1) (.int .i64 d.ret)).setIfInBounds (k * 3 + 2) (.slice v2 d.blocks.length q2)), by omega, by go_num, by simpa using hcs, (heap_set (heap_set (heap_set hblk1))), fun j hj => ?_, ?_⟩
        · by_cases hjk : j = k
          · subst hjk
            rw [hd]
            refine ⟨⟨v0, q0, ?_, (n0.low (by omega)).keep hag1⟩, ?_, ⟨v2, q2, ?_, (n2.low (by omega)).keep hag1⟩⟩
            all_goals (repeat rw [Array.getElem?_setIfInBounds_ne (by omega)])
            all_goals (rw [Array.getElem?_setIfInBounds_self]; simp; omega)
          · obtain ⟨⟨z0, y0, p0, x0⟩, p1, ⟨z2, y2, p2, x2⟩⟩ := HDN.out j (by omega)
            refine ⟨⟨z0, y0, ?_, x0.keep hag⟩, ?_, ⟨z2, y2, ?_, x2.keep hag⟩⟩
            all_goals (repeat rw [Array.getElem?_setIfInBounds_ne (by omega)])
            all_goals assumption
        · have hB1 := hB.trans (hb1.mono hB.size)
          repeat (first | refine Below.setCell ?_ (by first | (dsimp only; omega) | exact Nat.le_refl _) _ | exact hB1)
      case measure => simp [intOf]; omega
    · have hke : k = l.length := by omega
      have HH : Hid (wr.heap[w.heap.size]? = some (.cells cur 42 (0, 0))) := hblk
      have HDN : Hid (∀ j, j < k → (∃ u c, cur[j * 3]? = some (.slice u (l.getD j func0).params.length c) ∧ IntsAt wr (w.heap.size + 1) u (l.getD j func0).params) ∧ cur[j * 3 + 1]? = some (.int .i64 (l.getD j func0).ret) ∧ (∃ u c, cur[j * 3 + 2]? = some (.slice u (l.getD j func0).blocks.length c) ∧ BlocksAt wr (w.heap.size + 1) u (l.getD j func0).blocks)) := hdone
      clear hmk hblk hdone
      go_wp2_with fail
      go_ret
      refine ⟨_, _, rfl, ⟨hm, .inr ⟨w.heap.size, 0, rfl, Nat.le_refl _, ?_, fun i hi => ?_⟩⟩, hB⟩
      · exact (Array.getElem?_eq_some_iff.1 HH.out).1
      · obtain ⟨⟨z0, y0, p0, x0⟩, p1, ⟨z2, y2, p2, x2⟩⟩ := HDN.out i (by omega)
        simp only [Nat.zero_add, cell_of_heap HH.out]
        exact ⟨⟨z0, y0, p0, x0.low (by omega)⟩, p1, ⟨z2, y2, p2, x2.low (by omega)⟩⟩
set_option maxHeartbeats 2000000 in
theorem toModule_any (lo : Nat) (l : List FuncD) (u0 : Option Addr) (c0 : Nat) (w : World) (hs : SmMod l) (k0 : FuncsAt w lo u0 l) :
    Calls Tryz.prog 7 #[.agg #[.slice u0 l.length c0]] w fun e w' => ∃ u c, e = .returned (.agg #[.slice u l.length c]) ∧ FuncsAt w' w.heap.size u l ∧ Below w.heap.size w w' := by
  go_enter Tryz.func7, Tryz.ntmps7
  go_wp2_with (go_at_call 16; refine (toFuncS_any lo _ _ _ _ hs.1 hs.2 (k0.keep (((agree_alloc _ _ _).trans (agree_alloc _ _ _)).trans (agree_alloc _ _ _)))).mono ?_; rintro e w1 ⟨u, c, rfl, hu, hb1⟩; have hcc := bcell hb1; have hff := bfroz hb1)
  have hB : Below w.heap.size w w1 := ((((Below.refl w.heap.size w).alloc (Nat.le_refl _) _).alloc (by first | (simp; done) | (simp; omega)) _).alloc (by first | (simp; done) | (simp; omega)) _).trans (hb1.mono (by first | (simp; done) | (simp; omega)))
  have hu3 := hu.low (lo' := w.heap.size + 3) (by first | (simp; done) | (simp; omega))
  have hr := (heap_set (o := 0) (v := .slice u l.length c) (heap_other (g := w.heap.size + 1) (p := ⟨w.heap.size + 1 + 1, 0, none⟩) (v := .slice u l.length c) (by simp) ((hb1.block (w.heap.size + 1) (by simp)).trans (heap_mid _ _ _ _))))
  refine bodyPost_ret (v := .agg #[.slice u l.length c]) ((results_cell_row Tryz.results7 _ _ (w.heap.size + 1) 29 _ (0, 0) _ rfl hr Tryz.underlying29 rfl (by kernel_rfl)).trans (by rfl)) rfl ⟨u, c, rfl, ?_, ?_⟩
  · exact (hu3.keep (by repeat (first | refine Agree.trans ?_ (agree_setCell _ _ _ _ _ (by omega)) | exact Agree.refl _ _))).low (by omega)
  · repeat (first | refine Below.setCell ?_ (by dsimp only; omega) _ | exact hB)
end Go.Proofs.YthcaagkkajopiaaGreatDoor
namespace Go.Proofs.YthcaagkkajopiaaGreatDoor
open Go.RowKit

set_option maxHeartbeats 2000000 in
theorem eqFuncS_any (lo lo' : Nat) (a b : Option Addr) (ca cb : Nat) (l : List FuncD) (w : World) (ha : FuncsAt w lo a l) (hb : FuncsAt w lo' b l) :
    Calls Tryz.prog 19 #[.slice a l.length ca, .slice b l.length cb] w fun e w' => e = .returned (.bool true) ∧ Below w.heap.size w w' := by
  have hm := ha.1
  go_enter Tryz.func19, Tryz.ntmps19
  go_wp2_with fail
  go_loopw [5] (fun i wr => ∃ (k : Nat), k ≤ l.length ∧ i = .int .i64 k ∧ Below w.heap.size w wr) (fun i _ => l.length - (intOf i).toNat)
  case atStart => exact ⟨0, by omega, rfl, Below.refl _ _⟩
  case round =>
    obtain ⟨k, hk, rfl, hB⟩ := hrel
    by_cases hlt : k < l.length
    · rcases ha.2 with rfl | ⟨ba, offa, rfl, hla, hba, hca⟩
      · simp at hlt
      rcases hb.2 with rfl | ⟨bb, offb, rfl, hlb, hbb, hcb⟩
      · simp at hlt
      obtain ⟨⟨u0, c0, h0, k0⟩, h1, ⟨u2, c2, h2, k2⟩⟩ := hca k hlt
      obtain ⟨⟨v0, q0, g0, n0⟩, g1, ⟨v2, q2, g2, n2⟩⟩ := hcb k hlt
      generalize l.getD k func0 = d at h0 g0 h1 g1 h2 g2 k0 n0 k2 n2
      have e0 : wr.cell? ⟨ba, offa + k * 3, none⟩ = some (.slice u0 d.params.length c0) := (cell_block (hB.block ba hba)).trans h0
      have f0 : wr.cell? ⟨bb, offb + k * 3, none⟩ = some (.slice v0 d.params.length q0) := (cell_block (hB.block bb hbb)).trans g0
      have m0 := k0.keep (agree_of_below hB _)
      have o0 := n0.keep (agree_of_below hB _)
      have e1 : wr.cell? ⟨ba, offa + k * 3 + 1, none⟩ = some (.int .i64 d.ret) := (cell_block (hB.block ba hba)).trans h1
      have f1 : wr.cell? ⟨bb, offb + k * 3 + 1, none⟩ = some (.int .i64 d.ret) := (cell_block (hB.block bb hbb)).trans g1
      have e2 : wr.cell? ⟨ba, offa + k * 3 + 2, none⟩ = some (.slice u2 d.blocks.length c2) := (cell_block (hB.block ba hba)).trans h2
      have f2 : wr.cell? ⟨bb, offb + k * 3 + 2, none⟩ = some (.slice v2 d.blocks.length q2) := (cell_block (hB.block bb hbb)).trans g2
      have m2 := k2.keep (agree_of_below hB _)
      have o2 := n2.keep (agree_of_below hB _)
      have HB : Hid (Below w.heap.size w wr) := hB
      clear hca hcb hB ha hb h0 g0 h1 g1 h2 g2 k0 n0 k2 n2
      go_wp2_with fail
      go_region_with (go_at_call 38; refine (eqFunc_any lo lo' d _ _ _ _ _ _ _ _ _ (by exact m0) (by exact m2) (by exact o0) (by exact o2)).mono ?_; rintro e w1 ⟨rfl, hb1⟩)
      all_goals
        go_wp2_with fail
        go_roundw
        case rel =>
          have hx := HB.out
          have hy := hb1.mono (B' := w.heap.size) hx.size
          exact ⟨k + 1, by omega, by go_num, ⟨hy.os.trans hx.os, hy.tape.trans hx.tape, hy.output.trans hx.output, Nat.le_trans hx.size hy.size, fun i hi => (hy.block i hi).trans (hx.block i hi)⟩⟩
        case measure => simp [intOf]; omega
    · go_wp2_with fail
      go_ret
      exact ⟨rfl, hB⟩
set_option maxHeartbeats 2000000 in
theorem eqModule_any (lo lo' : Nat) (l : List FuncD) (u0 : Option Addr) (c0 : Nat) (v0 : Option Addr) (q0 : Nat) (w : World) (k0 : FuncsAt w lo u0 l) (n0 : FuncsAt w lo' v0 l) :
    Calls Tryz.prog 9 #[.agg #[.slice u0 l.length c0], .agg #[.slice v0 l.length q0]] w fun e w' => e = .returned (.bool true) ∧ Below w.heap.size w w' := by
  go_enter Tryz.func9, Tryz.ntmps9
  go_wp2_with (go_at_call 19; refine (eqFuncS_any lo lo' _ _ _ _ _ _ (k0.keep ((agree_alloc _ _ _).trans (agree_alloc _ _ _))) (n0.keep ((agree_alloc _ _ _).trans (agree_alloc _ _ _)))).mono ?_; rintro e w1 ⟨rfl, hb1⟩)
  go_ret
  exact ⟨rfl, (((Below.refl w.heap.size w).alloc (Nat.le_refl _) _).alloc (by first | (simp; done) | (simp; omega)) _).trans (hb1.mono (by first | (simp; done) | (simp; omega)))⟩
end Go.Proofs.YthcaagkkajopiaaGreatDoor
namespace Go.Proofs.YthcaagkkajopiaaGreatDoor
open Go.RowKit
set_option linter.unusedVariables false

/-- A boxed module. -/
def Box1 (w : World) (B : Nat) (n : Nat) (u : Option Addr) (c : Nat) : Prop := B < w.heap.size ∧ w.cell? ⟨B, 0, none⟩ = some (.slice u n c)
theorem Box1.new (w : World) (n : Nat) (u : Option Addr) (c : Nat) (T : TypeId) : Box1 (w.alloc (.cells #[.slice u n c] T)) w.heap.size n u c :=
  ⟨by simp, (cell_of_heap (heap_alloc_last _ _)).trans rfl⟩
theorem Box1.below {w w' : World} {B n : Nat} {u : Option Addr} {c : Nat} (h : Box1 w B n u c) (k : Below w.heap.size w w') : Box1 w' B n u c := ⟨Nat.lt_of_lt_of_le h.1 k.size, (cell_block (k.block _ h.1)).trans h.2⟩
theorem Box1.alloc {w : World} {B n : Nat} {u : Option Addr} {c : Nat} (h : Box1 w B n u c) (o : Obj) : Box1 (w.alloc o) B n u c := h.below ((Below.refl _ _).alloc (Nat.le_refl _) o)
theorem bel_drew {w w' : World} (h : Below w.drew.heap.size w.drew w') : Below w.heap.size w w' := ⟨h.os, h.tape, h.output, h.size, h.block⟩
end Go.Proofs.YthcaagkkajopiaaGreatDoor
namespace Go.Proofs.YthcaagkkajopiaaGreatDoor
open Go.RowKit
set_option linter.unusedVariables false

theorem mcode_some (l : List FuncD) : ∃ c, MCode l c := by
  by_cases h : modB l = true
  · by_cases h2 : ∀ k, k < l.length → CodeF l (l.getD k func0) 0
    · exact ⟨0, .inr ⟨h, .inl ⟨rfl, h2⟩⟩⟩
    · have : ∀ n : Nat, (∀ j, j < n → j < l.length → CodeF l (l.getD j func0) 0) ∨ ∃ k, k < l.length ∧ ¬ CodeF l (l.getD k func0) 0 ∧ ∀ j, j < k → CodeF l (l.getD j func0) 0 := by
        intro n
        induction n with
        | zero => exact .inl fun j hj => by omega
        | succ n ih =>
          rcases ih with ih | ih
          · by_cases hn : n < l.length
            · by_cases hc : CodeF l (l.getD n func0) 0
              · refine .inl fun j hj hl => ?_
                by_cases e : j = n
                · subst e; exact hc
                · exact ih j (by omega) hl
              · exact .inr ⟨n, hn, hc, fun j hj => ih j hj (by omega)⟩
            · exact .inl fun j hj hl => ih j (by omega) hl
          · exact .inr ih
      rcases this l.length with h3 | ⟨k, hk, hn, hb⟩
      · exact absurd (fun k hk => h3 k hk hk) h2
      · obtain ⟨c, hc⟩ := code_some l (l.getD k func0)
        refine ⟨c, .inr ⟨h, .inr ⟨k, hk, ?_, hc, hb⟩⟩⟩
        rintro rfl
        exact hn hc
  · exact ⟨1, .inl ⟨by simpa using h, rfl⟩⟩
set_option maxHeartbeats 4000000 in
theorem fnExactFuncChecked_core (lo : Nat) (l : List FuncD) (u : Option Addr) (c : Nat) (kk : Int) (aF aN aE aC aW aU : Addr) (w : World) (k : FuncsAt w lo u l) (hE : Errs w aF aN aE aC aW aU) (hg : ErrT w) :
    Calls Tryz.prog 3 #[.agg #[.slice u l.length c], .int .i64 kk] w fun e w' => e = .returned (.bool true) ∧ Below w.heap.size w w' := by
  have X1 := Box1.new w l.length u c 24
  have B1 : Below w.heap.size w (w.alloc (.cells #[.slice u l.length c] 24)) := (Below.refl _ w).alloc (Nat.le_refl _) _
  obtain ⟨r, hr⟩ := fcode_some l kk
  go_enter Tryz.func3, Tryz.ntmps3
  go_wp2_with fail
  refine (szModule_any lo l u c _ _ (by omega) (by omega) (k.keep (agree_alloc _ _ _))).mono ?_
  rintro e w1 ⟨rfl, hb1⟩
  have Y1 := X1.below hb1
  have C1 := B1.trans (hb1.mono (by simp))
  clear X1 B1 hb1
  have y0 := Y1.2
  rcases szS_falls szFunc_falls l 1048576 with hz | ⟨hz, _⟩
  · have hz2 : szS szFunc l 1048576 < 0 := by omega
    clear hz
    go_wp2_with fail
    go_ret
    exact ⟨rfl, C1⟩
  · have hs := szMod_small (by omega) hz
    have hz3 : ¬ szS szFunc l 1048576 < 0 := by omega
    go_wp2_with fail
    refine (toModule_any lo l u c _ hs (k.keep (agree_of_below C1 lo))).mono ?_
    rintro e w2 ⟨v2, q2, rfl, n2, hb2⟩
    have C2 := C1.trans (hb2.mono C1.size)
    have Y2 := Y1.below hb2
    clear y0
    go_wp2_with fail
    refine (fcheckS _ l v2 q2 kk r _ hs n2 hr).mono ?_
    rintro e w3 ⟨rfl, hb3⟩
    have C3 := C2.trans (hb3.mono C2.size)
    have Y3 := Y2.below hb3
    clear Y1 Y2 C1 C2 hb2 hb3 n2
    have y0 := Y3.2
    go_wp2_with fail
    refine (toModule_any lo l u c _ hs (k.keep (agree_of_below C3 lo))).mono ?_
    rintro e w4 ⟨v4, q4, rfl, n4, hb4⟩
    have C4 := C3.trans (hb4.mono C3.size)
    have Y4 := Y3.below hb4
    have C4' := C4.alloc C4.size (.cells #[.slice v4 l.length q4] 29)
    have Y4' := Y4.alloc (.cells #[.slice v4 l.length q4] 29)
    have X4' := Box1.new w4 l.length v4 q4 29
    have n4' := n4.keep (agree_alloc _ (.cells #[.slice v4 l.length q4] 29) _)
    clear y0 Y3 Y4 hb4 C3 C4 n4
    go_wp2_with fail
    refine (fcheckI _ l v4 q4 kk r aF aN aE aC aW aU _ hs n4' (hE.keep C4') (hg.keep C4') hr).mono ?_
    rintro e w5 ⟨rfl, hb5⟩
    have C5 := C4'.trans (hb5.mono C4'.size)
    have Y5 := Y4'.below hb5
    have X5 := X4'.below hb5
    have n45 := n4'.keep (agree_of_below hb5 _)
    have K5 := k.keep (agree_of_below C5 lo)
    have y0 := (Y5.below (Below.refl _ _).drew).2
    have x0 := (X5.below (Below.refl _ _).drew).2
    clear Y4' X4' n4' hb5 C4'
    go_wp2_with fail
    go_region_held2 (fun w' => w'.cell? ⟨w.heap.size, 0, none⟩ = some (.slice u l.length c) ∧ w'.cell? ⟨w4.heap.size, 0, none⟩ = some (.slice v4 l.length q4)) (first | with_reducible exact ⟨y0, x0⟩ | with_reducible exact ⟨p0, r0⟩ | with_reducible exact ⟨g0, h0⟩) (first | (go_at_call 7; refine (toModule_any lo l u c _ hs (by exact K5)).mono ?_; rintro e w7 ⟨v7, q7, rfl, n7, hb7⟩; have hb7 := bel_drew hb7; have p0 := (Y5.below hb7).2; have r0 := (X5.below hb7).2) | (go_at_call 9; refine (eqModule_any _ _ l v4 q4 v7 q7 _ (n45.keep (agree_of_below hb7 _)) n7).mono ?_; rintro e w8 ⟨rfl, hb8⟩; have g0 := ((Y5.below hb7).below hb8).2; have h0 := ((X5.below hb7).below hb8).2))
    all_goals
      have hb58 : Below w5.heap.size w5 w8 := hb7.trans (hb8.mono hb7.size)
      have C8 := C5.trans (hb58.mono C5.size)
      go_wp2_with fail
      go_ret
      exact ⟨rfl, C8⟩
set_option maxHeartbeats 4000000 in
theorem fnExactChecked_core (lo : Nat) (l : List FuncD) (u : Option Addr) (c : Nat) (aF aN aE aC aW aU : Addr) (w : World) (k : FuncsAt w lo u l) (hE : Errs w aF aN aE aC aW aU) (hO : Others w aF aN aE aC aW aU) (hg : ErrT w) :
    Calls Tryz.prog 4 #[.agg #[.slice u l.length c]] w fun e w' => e = .returned (.bool true) ∧ Below w.heap.size w w' := by
  have X1 := Box1.new w l.length u c 24
  have B1 : Below w.heap.size w (w.alloc (.cells #[.slice u l.length c] 24)) := (Below.refl _ w).alloc (Nat.le_refl _) _
  obtain ⟨r, hr⟩ := mcode_some l
  go_enter Tryz.func4, Tryz.ntmps4
  go_wp2_with fail
  refine (szModule_any lo l u c _ _ (by omega) (by omega) (k.keep (agree_alloc _ _ _))).mono ?_
  rintro e w1 ⟨rfl, hb1⟩
  have Y1 := X1.below hb1
  have C1 := B1.trans (hb1.mono (by simp))
  clear X1 B1 hb1
  have y0 := Y1.2
  rcases szS_falls szFunc_falls l 1048576 with hz | ⟨hz, _⟩
  · have hz2 : szS szFunc l 1048576 < 0 := by omega
    clear hz
    go_wp2_with fail
    go_ret
    exact ⟨rfl, C1⟩
  · have hs := szMod_small (by omega) hz
    have hz3 : ¬ szS szFunc l 1048576 < 0 := by omega
    go_wp2_with fail
    refine (toModule_any lo l u c _ hs (k.keep (agree_of_below C1 lo))).mono ?_
    rintro e w2 ⟨v2, q2, rfl, n2, hb2⟩
    have C2 := C1.trans (hb2.mono C1.size)
    have Y2 := Y1.below hb2
    clear y0
    go_wp2_with fail
    refine (mcheckS _ l v2 q2 r _ hs n2 hr).mono ?_
    rintro e w3 ⟨rfl, hb3⟩
    have C3 := C2.trans (hb3.mono C2.size)
    have Y3 := Y2.below hb3
    clear Y1 Y2 C1 C2 hb2 hb3 n2
    have y0 := Y3.2
    go_wp2_with fail
    refine (toModule_any lo l u c _ hs (k.keep (agree_of_below C3 lo))).mono ?_
    rintro e w4 ⟨v4, q4, rfl, n4, hb4⟩
    have C4 := C3.trans (hb4.mono C3.size)
    have Y4 := Y3.below hb4
    have C4' := C4.alloc C4.size (.cells #[.slice v4 l.length q4] 29)
    have Y4' := Y4.alloc (.cells #[.slice v4 l.length q4] 29)
    have X4' := Box1.new w4 l.length v4 q4 29
    have n4' := n4.keep (agree_alloc _ (.cells #[.slice v4 l.length q4] 29) _)
    clear y0 Y3 Y4 hb4 C3 C4 n4
    go_wp2_with fail
    refine (mcheckI _ l v4 q4 r aF aN aE aC aW aU _ hs n4' (hE.keep C4') (hO.keep C4') (hg.keep C4') hr).mono ?_
    rintro e w5 ⟨rfl, hb5⟩
    have C5 := C4'.trans (hb5.mono C4'.size)
    have Y5 := Y4'.below hb5
    have X5 := X4'.below hb5
    have n45 := n4'.keep (agree_of_below hb5 _)
    have K5 := k.keep (agree_of_below C5 lo)
    have y0 := (Y5.below (Below.refl _ _).drew).2
    have x0 := (X5.below (Below.refl _ _).drew).2
    clear Y4' X4' n4' hb5 C4'
    go_wp2_with fail
    go_region_held2 (fun w' => w'.cell? ⟨w.heap.size, 0, none⟩ = some (.slice u l.length c) ∧ w'.cell? ⟨w4.heap.size, 0, none⟩ = some (.slice v4 l.length q4)) (first | with_reducible exact ⟨y0, x0⟩ | with_reducible exact ⟨p0, r0⟩ | with_reducible exact ⟨g0, h0⟩) (first | (go_at_call 7; refine (toModule_any lo l u c _ hs (by exact K5)).mono ?_; rintro e w7 ⟨v7, q7, rfl, n7, hb7⟩; have hb7 := bel_drew hb7; have p0 := (Y5.below hb7).2; have r0 := (X5.below hb7).2) | (go_at_call 9; refine (eqModule_any _ _ l v4 q4 v7 q7 _ (n45.keep (agree_of_below hb7 _)) n7).mono ?_; rintro e w8 ⟨rfl, hb8⟩; have g0 := ((Y5.below hb7).below hb8).2; have h0 := ((X5.below hb7).below hb8).2))
    all_goals
      have hb58 : Below w5.heap.size w5 w8 := hb7.trans (hb8.mono hb7.size)
      have C8 := C5.trans (hb58.mono C5.size)
      go_wp2_with fail
      go_ret
      exact ⟨rfl, C8⟩
end Go.Proofs.YthcaagkkajopiaaGreatDoor
