import Derived.Test.YtojhakjkfkmklaaGreatDoorRbSV
import Derived.Test.YtojhakjkfkmklaaGreatDoorRbJV
import Derived.Deep.AppendLies
import Derived.Deep.LoopGhost
import Derived.Deep.CutBlock
import Derived.Deep.DeepCutAuto
namespace Go.Proofs.YtojhakjkfkmklaaGreatDoor
open Go.RowKit
set_option linter.unusedVariables false
set_option linter.unusedSimpArgs false
def FnToldS (s : ByteArray) (k : Nat) (bad : Bool) (G : Nat) (w : World) (e : Ending) (w' : World) : Prop :=
 ∃ (f : FnE) (k' : Nat) (bad' : Bool), e = .returned (.agg #[.slice f.pu f.pars.length f.pc, .int .i64 f.ret, .slice f.bu f.bs.length f.bc]) ∧ OwnFn w' w.heap.size w'.heap.size f ∧ k' ≤ s.size ∧ FdIs s k bad f.d k' bad' ∧ RdM w' G s k' bad' ∧ OnlyR G w w'
theorem infoBk2 : (Tryz.prog.info? 86).map (fun i => (i.zero, i.size, i.bytes)) = some (some (.agg #[.slice none 0 0, .slice none 0 0, .int .i64 0, .int .i64 0, .int .i64 0, .int .i64 0]), 6, 80) := by kernel_rfl
theorem list_runP {P : Program} {ops : Array Oper} {rest : List Oper} {o : Oper} {a : Act} {w w1 : World} {Q : Exit → Act → World → Prop} {v' : Value} (hgd : o.guard = none) (s x : Operand) (t : TypeId)
  (ho : o.op = .call { callee := .builtin .append, args := #[s, x], argTypes := #[t, t] }) {v1 v2 : Value} (h1 : a.eval s = v1) (h2 : a.eval x = v2) (hrun : (Builtin.append_ #[t, t] o.type #[v1, v2]).run P w = .ok v' w1) (h : wpList P ops Q rest (a.put o.dst v') w1) : wpList P ops Q (o :: rest) a w :=
 wpList_plain hgd fun K hK => by
  unfold Oper.wp execOp
  simp only [ho, resolve, invoke, builtin, Sem.run_bind, Sem.run_pure, Result.andThen_ok, List.map_toArray, List.map_cons, List.map_nil, h1, h2, hrun]
  exact hK _ _ h
theorem KSt.setT {w wr : World} {G : Nat} {s : ByteArray} {k : Nat} {bad : Bool} {v1 v2 : Value} {t : TermD} (h : KSt w wr G s k bad v1 v2 t) (t' : TermD) : KSt w ((((wr.setCell ⟨w.heap.size, 2, none⟩ (.int .i64 t'.kind)).setCell ⟨w.heap.size, 3, none⟩ (.int .i64 t'.a)).setCell ⟨w.heap.size, 4, none⟩ (.int .i64 t'.x)).setCell ⟨w.heap.size, 5, none⟩ (.int .i64 t'.y)) G s k bad v1 v2 t' :=
 ⟨heap_set (o := 5) (heap_set (o := 4) (heap_set (o := 3) (heap_set (o := 2) h.box))), At.setOther (At.setOther (At.setOther (At.setOther h.rd (by have := h.lt; omega)) (by have := h.lt; omega)) (by have := h.lt; omega)) (by have := h.lt; omega), (((h.only.fresh (by omega)).fresh (by omega)).fresh (by omega)).fresh (by omega), h.lt⟩
theorem KSt.stillT {w wr : World} {G : Nat} {s : ByteArray} {k : Nat} {bad : Bool} {v1 v2 : Value} {t : TermD} (h : KSt w wr G s k bad v1 v2 t) (t' : TermD) : Still 3 wr ((((wr.setCell ⟨w.heap.size, 2, none⟩ (.int .i64 t'.kind)).setCell ⟨w.heap.size, 3, none⟩ (.int .i64 t'.a)).setCell ⟨w.heap.size, 4, none⟩ (.int .i64 t'.x)).setCell ⟨w.heap.size, 5, none⟩ (.int .i64 t'.y)) :=
 ((Still.set (k := 3) (o := 2) h.box (by decide)).trans (Still.set (k := 3) (o := 3) (heap_set (o := 2) h.box) (by decide))).trans ((Still.set (k := 3) (o := 4) (heap_set (o := 3) (heap_set (o := 2) h.box)) (by decide)).trans (Still.set (k := 3) (o := 5) (heap_set (o := 4) (heap_set (o := 3) (heap_set (o := 2) h.box))) (by decide)))
set_option maxHeartbeats 8000000 in
set_option maxRecDepth 100000 in
theorem fnS6 (G : Nat) (s : ByteArray) (k : Nat) (bad : Bool) (w : World) (h : RdM w G s k bad) (hs : s.size ≤ 20000) (hk : k ≤ s.size) :
  Calls Tryz.prog 36 #[.pointer (some ⟨G, 0, none⟩)] w fun e w' => FnToldS s k bad G w e w' := by
 have hlt := At.lt h
 obtain ⟨iP, hiP, zP, sP, bP⟩ := info_three infoPh
 obtain ⟨iI, hiI, zI, sI, bI⟩ := info_three infoIn
 obtain ⟨iB, hiB, zB, sB', bB⟩ := info_three infoBk2
 have b1 : Below w.heap.size w (w.alloc (.cells #[.slice none 0 0, .int .i64 0, .slice none 0 0] 49)) := (Below.refl _ _).alloc (Nat.le_refl _) _
 have HA0 : Hid (At (w.alloc (.cells #[.slice none 0 0, .int .i64 0, .slice none 0 0] 49)) w.heap.size #[.slice none 0 0, .int .i64 0, .slice none 0 0] 49) := At.new _ _ _
 have HO0 : Hid (OnlyR G w (w.alloc (.cells #[.slice none 0 0, .int .i64 0, .slice none 0 0] 49))) := OnlyR.below b1
 have N1 := numS G s k bad (w.alloc (.cells #[.slice none 0 0, .int .i64 0, .slice none 0 0] 49)) (At.below h b1) hs hk
 clear h b1
 go_enter Tryz.func36, Tryz.ntmps36
 go_wp2_with fail
 refine N1.mono ?_
 rintro e w1 ⟨ret, k1, b1, rfl, hx1, hr1, ko1⟩
 have HX1 : Hid (NumIs s k bad ret k1 b1) := hx1
 have HA1 : Hid (At w1 w.heap.size #[.slice none 0 0, .int .i64 0, .slice none 0 0] 49) := (ko1.block _ HA0.out.lt (by omega)).trans HA0.out
 have HO1 : Hid (OnlyR G w w1) := HO0.out.trans ko1
 have hk1 := hx1.2.2.1
 have L1 := listS 4 G s k1 b1 w1 hr1 hs hk1 (by omega)
 clear N1 hx1 hr1 ko1 HA0 HO0
 go_wp2_with fail
 refine L1.mono ?_
 rintro e w2 ⟨v, l, k2, b2, rfl, hrow, hlen, hk2, hon, hr2, ko2⟩
 obtain ⟨u, c, rfl⟩ := hrow.slice
 have HX2 : Hid (FhIs s k bad ret l k2 b2) := fh_start HX1.out hon
 have HA2 : Hid (At w2 w.heap.size #[.slice none 0 0, .int .i64 0, .slice none 0 0] 49) := (ko2.block _ HA1.out.lt (by omega)).trans HA1.out
 have HO2 : Hid (OnlyR G w w2) := HO1.out.trans ko2
 have hz1 : w.heap.size < w1.heap.size := HA1.out.lt
 have hz2 : w.heap.size < w2.heap.size := HA2.out.lt
 have HU2 : Hid (OwnI w2 (w.heap.size + 1) w2.heap.size u l) := (OwnI.row (by omega) hrow).wide (by omega) (Nat.le_refl _)
 have b3 : Below w2.heap.size w2 (w2.alloc (.cells #[.slice u l.length c, .int .i64 ret, .slice none 0 0] 49)) := (Below.refl _ _).alloc (Nat.le_refl _) _
 have HS3 : Hid (FSt w (w2.alloc (.cells #[.slice u l.length c, .int .i64 ret, .slice none 0 0] 49)) w2.heap.size G s k2 b2 #[.slice u l.length c, .int .i64 ret, .slice none 0 0]) :=
  ⟨At.new _ _ _, HA2.out.below b3, At.below hr2 b3, HO2.out.trans (OnlyR.below b3), hlt, hz2⟩
 have HU3 : Hid (OwnI (w2.alloc (.cells #[.slice u l.length c, .int .i64 ret, .slice none 0 0] 49)) (w.heap.size + 1) w2.heap.size u l) := HU2.out.still (Still.below (k := 9) b3) (by decide)
 have M1 := manyS 10 G s k2 b2 _ HS3.out.rd hs hk2 (by omega)
 clear L1 hrow hon hr2 ko2 HX1 HA1 HO1 HA2 HO2 HU2 b3
 go_wp2_with fail
 refine M1.mono ?_
 rintro e w3 ⟨n, k3, b3, rfl, hn, hk3, hon, hr3, ko3⟩
 have HX3 : Hid (FnIs s k bad ret l [] n k3 b3) := fn_start HX2.out hon
 have HS4 : Hid (FSt w w3 w2.heap.size G s k3 b3 #[.slice u l.length c, .int .i64 ret, .slice none 0 0]) := HS3.out.step ko3 hr3
 have HU4 : Hid (OwnI w3 (w.heap.size + 1) w2.heap.size u l) := HU3.out.still (Still.onlyM ko3 HS3.out.rd) (by decide)
 have hF : w2.heap.size + 1 ≤ w3.heap.size := HS4.out.box.lt
 clear M1 hon hr3 ko3 HS3 HU3 HX2
 generalize hFF : w2.heap.size = F at *
 clear hFF
 go_upto_block 0 with fail
 go_wp2_with fail
 go_loopg [4] 11 (fun gk i wr => ∃ (q : Nat) (v : Value) (es : List BkE) (k4 : Nat) (b4 : Bool), i = .int .i64 (q : Int) ∧ q < gk ∧ es.length + q ≤ 10 ∧ k4 ≤ s.size ∧ Hid (FSt w wr F G s k4 b4 #[.slice u l.length c, .int .i64 ret, v]) ∧ Hid (OwnI wr (w.heap.size + 1) F u l) ∧ Hid (RowS 86 6 bkC wr (F + 1) v es) ∧ Hid (Sub OwnBk wr (F + 1) wr.heap.size es) ∧ Hid (FnIs s k bad ret l (es.map BkE.d) q k4 b4))
 case atStart => exact ⟨n, _, [], k3, b3, rfl, by omega, (by simp; omega), hk3, HS4.out, HU4.out, RowS.nil _ _ _ _ _, hF, HX3.out⟩
 case round =>
  clear HS4 HU4 HX3
  obtain ⟨q, v, es, k4, b4, rfl, hqg, hes, hk4, HS, HI, HR, HU, HX⟩ := hrel
  obtain ⟨w4, hwo⟩ : ∃ w1, w1 = wr := ⟨_, rfl⟩
  subst hwo
  have c9 : w4.cell? ⟨G, 2, none⟩ = some (.bool b4) := HS.out.rd.cell 2
  by_cases hq : 0 < q
  ·have hqI : (0 : Int) < (q : Int) := by omega
   cases b4
   ·clear c9
    have b5 : Below w4.heap.size w4 (w4.alloc (.cells #[.slice none 0 0, .slice none 0 0, .int .i64 0, .int .i64 0, .int .i64 0, .int .i64 0] 86)) := (Below.refl _ _).alloc (Nat.le_refl _) _
    have HK5 : Hid (KSt w4 (w4.alloc (.cells #[.slice none 0 0, .slice none 0 0, .int .i64 0, .int .i64 0, .int .i64 0, .int .i64 0] 86)) G s k4 false (.slice none 0 0) (.slice none 0 0) term0) := ⟨At.new _ _ _, At.below HS.out.rd b5, OnlyR.below b5, by have := HS.out.lt; have := HS.out.ltF; have := HS.out.box.lt; omega⟩
    have M2 := manyS 60 G s k4 false _ HK5.out.rd hs hk4 (by omega)
    have c9 : w4.cell? ⟨G, 2, none⟩ = some (.bool false) := HS.out.rd.cell 2
    clear b5
    go_wp2_with fail
    clear c9
    refine M2.mono ?_
    rintro e w5 ⟨n5, k5, b5, rfl, hn5, hk5, hon5, hr5, ko5⟩
    have HK6 : Hid (KSt w4 w5 G s k5 b5 (.slice none 0 0) (.slice none 0 0) term0) := HK5.out.step ko5 hr5
    have HP6 : Hid (PhIs s k4 false [] n5 k5 b5) := ph_start hon5
    clear M2 hon5 hr5 ko5 HK5
    have hf4 : w4.heap.size + 1 ≤ w5.heap.size := HK6.out.box.lt
    go_upto_block 2 with fail
    go_cut [6] (fun i wc => ∃ (q5 : Nat) (v5 : Value) (ps : List PhE) (k5 : Nat) (b5 : Bool), i = .int .i64 (q5 : Int) ∧ (q5 = 0 ∨ b5 = true) ∧ ps.length ≤ 60 ∧ k5 ≤ s.size ∧ Hid (KSt w4 wc G s k5 b5 v5 (.slice none 0 0) term0) ∧ Hid (RowS 88 2 phC wc (w4.heap.size + 1) v5 ps) ∧ Hid (Sub OwnPhE wc (w4.heap.size + 1) wc.heap.size ps) ∧ Hid (PhIs s k4 false (ps.map (·.1)) q5 k5 b5))
    case first =>
     go_wp2_with fail
     go_loopg [6] 61 (fun gk i wr => ∃ (q5 : Nat) (v5 : Value) (ps : List PhE) (k5 : Nat) (b5 : Bool), i = .int .i64 (q5 : Int) ∧ q5 < gk ∧ ps.length + q5 ≤ 60 ∧ k5 ≤ s.size ∧ Hid (KSt w4 wr G s k5 b5 v5 (.slice none 0 0) term0) ∧ Hid (RowS 88 2 phC wr (w4.heap.size + 1) v5 ps) ∧ Hid (Sub OwnPhE wr (w4.heap.size + 1) wr.heap.size ps) ∧ Hid (PhIs s k4 false (ps.map (·.1)) q5 k5 b5))
     case atStart => exact ⟨n5, _, [], k5, b5, rfl, by omega, (by simp; omega), hk5, HK6.out, RowS.nil _ _ _ _ _, hf4, HP6.out⟩
     case round =>
      clear HK6 HP6
      obtain ⟨q5, v5, ps, k6, b6, rfl, hqg5, hps, hk6, HK, HRp, HUp, HP⟩ := hrel
      obtain ⟨w6, hwo⟩ : ∃ w1, w1 = wr := ⟨_, rfl⟩
      subst hwo
      have c9 : w6.cell? ⟨G, 2, none⟩ = some (.bool b6) := HK.out.rd.cell 2
      by_cases hq5 : 0 < q5
      ·have hqI5 : (0 : Int) < (q5 : Int) := by omega
       cases b6
       ·have N6 := numS G s k6 false w6 HK.out.rd hs hk6
        go_wp2_with fail
        refine N6.mono ?_
        rintro e w7 ⟨wi, k7, b7, rfl, hx7, hr7, ko7⟩
        have HX7 : Hid (NumIs s k6 false wi k7 b7) := hx7
        have hk7 := hx7.2.2.1
        have HK7 : Hid (KSt w4 w7 G s k7 b7 v5 (.slice none 0 0) term0) := HK.out.step ko7 hr7
        have ST7 := Still.onlyM ko7 HK.out.rd
        have HRp7 : Hid (RowS 88 2 phC w7 (w4.heap.size + 1) v5 ps) := HRp.out.still ST7 (by decide)
        have HUp7 : Hid (Sub OwnPhE w7 (w4.heap.size + 1) w7.heap.size ps) := (HUp.out.wide (Nat.le_refl _) ko7.size).still fun _ _ _ h => OwnI.still h ST7 (by decide)
        have c0 : w7.cell? ⟨w4.heap.size, 0, none⟩ = some v5 := HK7.out.box.cell 0
        have L7 := listS 10 G s k7 b7 w7.drew HK7.out.rd hs hk7 (by omega)
        clear N6 hx7 hr7 ko7 HK HRp HUp ST7 c9
        obtain ⟨vu, vc, rfl⟩ := HRp7.out.slice
        go_wp2_with fail
        refine startX (fun w' => w'.cell? ⟨w4.heap.size, 0, none⟩ = some (.slice vu ps.length vc)) (fun i => decide (i = 9)) (by kernel_rfl) ?_
        refine takeX 0 (v := ?_) rfl rfl (by kernel_rfl) (fun _ _ _ h => h) (yesH (by rfl) ?_) c0 ?_
        rotate_left
        ·intro w9 hS9
         go_simp
         try with_reducible rfl
        try simp only [Act.put, sA, sB, sC]
        refine takeX 1 (v := ?_) rfl rfl (by kernel_rfl) (fun _ _ _ h => h) (yesH (by rfl) ?_) c0 ?_
        rotate_left
        ·intro w9 hS9
         have g0 := hS9
         go_simp
         try with_reducible rfl
        try simp only [Act.put, sA, sB, sC]
        refine takeX 2 (v := ?_) rfl rfl (by kernel_rfl) (fun _ _ _ h => h) (yesH (by rfl) ?_) c0 ?_
        rotate_left
        ·intro w9 hS9
         go_simp
         try with_reducible rfl
        try simp only [Act.put, sA, sB, sC]
        refine takeX 3 (v := ?_) rfl rfl (by kernel_rfl) (fun _ _ _ h => h) (yesH (by rfl) ?_) c0 ?_
        rotate_left
        ·intro w9 hS9
         go_simp
         try with_reducible rfl
        try simp only [Act.put, sA, sB, sC]
        refine readyX 4 rfl (by kernel_rfl) (fun K hK => ?_)
        go_simp
        go_wp2_with fail
        refine L7.mono ?_
        rintro e w8 ⟨v8, l8, k8, b8, rfl, hrow8, hlen8, hk8, hon8, hr8, ko8'⟩
        have ko8 : OnlyR G w7 w8 := ⟨ko8'.os, ko8'.tape, ko8'.output, ko8'.size, ko8'.block⟩
        obtain ⟨u8, c8, rfl⟩ := hrow8.slice
        have HU8 : OwnI w8 w7.heap.size w8.heap.size u8 l8 := OwnI.row (by omega) hrow8
        have HP8 : Hid (PhIs s k4 false ((ps ++ [((⟨wi, l8⟩ : PhiD), u8, c8)]).map (·.1)) (q5 - 1) k8 b8) := by
         show PhIs _ _ _ _ _ _ _
         rw [List.map_append]
         exact ph_next HP.out hq5 HX7.out hon8
        have HK8 : Hid (KSt w4 w8 G s k8 b8 (.slice vu ps.length vc) (.slice none 0 0) term0) := HK7.out.step ko8 hr8
        have ST8 := Still.onlyM ko8 HK7.out.rd
        have HRp8 : Hid (RowS 88 2 phC w8 (w4.heap.size + 1) (.slice vu ps.length vc) ps) := HRp7.out.still ST8 (by decide)
        have HUp8 : Hid (Sub OwnPhE w8 (w4.heap.size + 1) w8.heap.size (ps ++ [(⟨wi, l8⟩, u8, c8)])) := Sub.snoc (HUp7.out.still fun _ _ _ h => OwnI.still h ST8 (by decide)) (Nat.le_refl _) ko8.size HU8
        have c4 : w8.cell? ⟨w4.heap.size, 0, none⟩ = some (.slice vu ps.length vc) := HK8.out.box.cell 0
        clear L7 hrow8 hon8 hr8 ko8 ko8' HK7 HRp7 HUp7 HX7 HP HU8 ST8 c0
        refine hK.out _ _ (.inr c4) ?_
        clear hK K
        try simp only [sA, sB, sC]
        refine takeX 5 (v := ?_) rfl rfl (by kernel_rfl) (fun _ _ _ h => h) (yesH (by rfl) ?_) c4 ?_
        rotate_left
        ·intro w9 hS9
         go_simp
         try with_reducible rfl
        try simp only [Act.put, sA, sB, sC]
        refine readyX 6 rfl (by kernel_rfl) (fun K hK => ?_)
        go_simp
        have b9 : Below w8.heap.size w8 (w8.alloc (.cells #[.int .i64 wi, .slice u8 l8.length c8] 88)) := (Below.refl _ _).alloc (Nat.le_refl _) _
        have HK9 : Hid (KSt w4 (w8.alloc (.cells #[.int .i64 wi, .slice u8 l8.length c8] 88)) G s k8 b8 (.slice vu ps.length vc) (.slice none 0 0) term0) := HK8.out.keep b9
        have ST9 : Still 9 w8 (w8.alloc (.cells #[.int .i64 wi, .slice u8 l8.length c8] 88)) := Still.below b9
        have HRp9 : Hid (RowS 88 2 phC (w8.alloc (.cells #[.int .i64 wi, .slice u8 l8.length c8] 88)) (w4.heap.size + 1) (.slice vu ps.length vc) ps) := HRp8.out.still ST9 (by decide)
        have HUp9 : Hid (Sub OwnPhE (w8.alloc (.cells #[.int .i64 wi, .slice u8 l8.length c8] 88)) (w4.heap.size + 1) (w8.alloc (.cells #[.int .i64 wi, .slice u8 l8.length c8] 88)).heap.size (ps ++ [(⟨wi, l8⟩, u8, c8)])) := (HUp8.out.wide (Nat.le_refl _) b9.size).still fun _ _ _ h => OwnI.still h ST9 (by decide)
        have c5 : (w8.alloc (.cells #[.int .i64 wi, .slice u8 l8.length c8] 88)).cell? ⟨w4.heap.size, 0, none⟩ = some (.slice vu ps.length vc) := HK9.out.box.cell 0
        obtain ⟨g6, cap6, wa, hrun, hown6, hgr6, _, _⟩ := run_append_lies (P := Tryz.prog) (w8.alloc (.cells #[.int .i64 wi, .slice u8 l8.length c8] 88)) 81 81 (w4.heap.size + 1) 88 iP (.agg #[.int .i64 0, .slice none 0 0]) 2 32 Tryz.underlying81 hiP zP sP bP rfl (by decide) (.slice vu ps.length vc) ps.length (ps.flatMap phC) HRp9.out ⟨w8.heap.size, 0, none⟩ 1 1 [.int .i64 wi, .slice u8 l8.length c8] rfl (World.news_of_block (At.new w8 #[.int .i64 wi, .slice u8 l8.length c8] 88)) (by simp [Value.oneCell']) (by decide) (by unfold maxLen; omega) (by omega) (HK9.out.box.lt) _ rfl
        have HKa : Hid (KSt w4 wa G s k8 b8 (.slice vu ps.length vc) (.slice none 0 0) term0) := HK9.out.grown hgr6 (fun g e => (HRp9.out.ge e).1)
        have STa : Still 1 (w8.alloc (.cells #[.int .i64 wi, .slice u8 l8.length c8] 88)) wa := Still.grown hgr6 (fun g e => by obtain ⟨_, cur, hc⟩ := HRp9.out.ge e; exact ⟨cur, _, hc, by decide⟩)
        have HRpa : Hid (RowS 88 2 phC wa (w4.heap.size + 1) (.slice (some ⟨g6, 0, none⟩) (ps.length + 1) cap6) (ps ++ [(⟨wi, l8⟩, u8, c8)])) := RowS.push hown6
        have HUpa : Hid (Sub OwnPhE wa (w4.heap.size + 1) wa.heap.size (ps ++ [(⟨wi, l8⟩, u8, c8)])) := (HUp9.out.wide (Nat.le_refl _) hgr6.size).still fun _ _ _ h => OwnI.still h STa (by decide)
        have HKb : Hid (KSt w4 (wa.setCell ⟨w4.heap.size, 0, none⟩ (.slice (some ⟨g6, 0, none⟩) (ps.length + 1) cap6)) G s k8 b8 (.slice (some ⟨g6, 0, none⟩) (ps.length + 1) cap6) (.slice none 0 0) term0) := HKa.out.set0 _
        have STb : Still 3 wa (wa.setCell ⟨w4.heap.size, 0, none⟩ (.slice (some ⟨g6, 0, none⟩) (ps.length + 1) cap6)) := Still.set HKa.out.box (by decide)
        have HRpb : Hid (RowS 88 2 phC (wa.setCell ⟨w4.heap.size, 0, none⟩ (.slice (some ⟨g6, 0, none⟩) (ps.length + 1) cap6)) (w4.heap.size + 1) (.slice (some ⟨g6, 0, none⟩) (ps.length + 1) cap6) (ps ++ [(⟨wi, l8⟩, u8, c8)])) := HRpa.out.still STb (by decide)
        have HUpb : Hid (Sub OwnPhE (wa.setCell ⟨w4.heap.size, 0, none⟩ (.slice (some ⟨g6, 0, none⟩) (ps.length + 1) cap6)) (w4.heap.size + 1) (wa.setCell ⟨w4.heap.size, 0, none⟩ (.slice (some ⟨g6, 0, none⟩) (ps.length + 1) cap6)).heap.size (ps ++ [(⟨wi, l8⟩, u8, c8)])) := (HUpa.out.wide (Nat.le_refl _) (by simp only [World.size_setCell]; exact Nat.le_refl _)).still fun _ _ _ h => OwnI.still h STb (by decide)
        have c6 : wa.cell? ⟨w4.heap.size, 0, none⟩ = some (.slice vu ps.length vc) := HKa.out.box.cell 0
        have f6 : wa.frozen? ⟨w4.heap.size, 0, none⟩ = false := froz_of_heap HKa.out.box
        clear b9 HK9 ST9 HRp9 HUp9 STa HRpa HUpa STb HK8 HRp8 HUp8 hown6 hgr6 HKa
        refine hK.out _ _ (.inr c5) ?_
        clear hK K
        try simp only [sA, sB, sC]
        refine readyX 7 rfl (by kernel_rfl) (fun K hK => ?_)
        refine step_runP rfl _ _ _ rfl rfl rfl hrun ?_
        refine hK.out _ _ (.inr c6) ?_
        clear hK K hrun
        try simp only [sA, sB, sC]
        refine takeX 8 (v := ?_) rfl rfl (by kernel_rfl) (fun _ _ _ h => h) (yesH (by rfl) ?_) c6 ?_
        rotate_left
        ·intro w9 hS9
         go_simp
         try with_reducible rfl
        try simp only [Act.put, sA, sB, sC]
        refine readyX 9 rfl (by kernel_rfl) (fun K hK => ?_)
        go_simp
        refine hK.out _ _ (.inl rfl) ?_
        clear hK K
        refine doneX (by kernel_rfl) ?_ _
        go_wp2_with fail
        go_roundg (gk - 1)
        case measure => omega
        case rel => exact ⟨q5 - 1, _, _, k8, b8, by go_num, by omega, (by rw [List.length_append]; simp; omega), hk8, HKb.out, HRpb.out, HUpb.out, HP8.out⟩
       ·go_wp2_with fail
        go_meet
        case rel => exact ⟨q5, v5, ps, k6, true, rfl, .inr rfl, by omega, hk6, HK.out, HRp.out, HUp.out, HP.out⟩
      ·have hqI5 : ¬ (0 : Int) < (q5 : Int) := by omega
       go_wp2_with fail
       go_meet
       case rel => exact ⟨q5, v5, ps, k6, b6, rfl, .inl (by omega), by omega, hk6, HK.out, HRp.out, HUp.out, HP.out⟩
    case rest =>
     clear HK6 HP6 hf4
     obtain ⟨q6, v6, ps, k6, b6, rfl, hqb, hps, hk6, HK, HRp, HUp, HP⟩ := hcut
     obtain ⟨pu, pc, rfl⟩ := HRp.out.slice
     have HW : Hid (OwnPhs wc (w4.heap.size + 1) wc.heap.size pu ps) := RowS.own (fun _ => rfl) (by omega) HRp.out HUp.out (Nat.le_refl _) (Nat.le_refl _)
     have M3 := manyS 60 G s k6 b6 wc HK.out.rd hs hk6 (by omega)
     have hm4 : w4.heap.size + 1 ≤ wc.heap.size := HUp.out.le
     clear HRp HUp
     go_wp2_with fail
     refine M3.mono ?_
     rintro e w7 ⟨n7, k7, b7, rfl, hn7, hk7, hon7, hr7, ko7⟩
     have HK7 : Hid (KSt w4 w7 G s k7 b7 (.slice pu ps.length pc) (.slice none 0 0) term0) := HK.out.step ko7 hr7
     have HP7 : Hid (InIs s k4 false (ps.map (·.1)) [] n7 k7 b7) := in_start HP.out hqb hon7
     have HW7 : Hid (OwnPhs w7 (w4.heap.size + 1) wc.heap.size pu ps) := OwnPhs.still HW.out (Still.onlyM ko7 HK.out.rd) (by decide)
     have hm7 : wc.heap.size ≤ w7.heap.size := ko7.size
     clear M3 hon7 hr7 ko7 HK HW HP hqb
     generalize hmm : wc.heap.size = m at *
     clear hmm wc
     go_upto_block 4 with fail
     go_cut [8] (fun i wc => ∃ (qi : Nat) (vi : Value) (is : List InE) (k9 : Nat) (b9 : Bool), i = .int .i64 (qi : Int) ∧ (qi = 0 ∨ b9 = true) ∧ is.length ≤ 60 ∧ k9 ≤ s.size ∧ Hid (KSt w4 wc G s k9 b9 (.slice pu ps.length pc) vi term0) ∧ Hid (OwnPhs wc (w4.heap.size + 1) m pu ps) ∧ Hid (RowS 91 7 inC wc m vi is) ∧ Hid (Sub OwnInE wc m wc.heap.size is) ∧ Hid (InIs s k4 false (ps.map (·.1)) (is.map (·.1)) qi k9 b9))
     case first =>
      go_wp2_with fail
      go_loopg [8] 61 (fun gk i wr => ∃ (qi : Nat) (vi : Value) (is : List InE) (k9 : Nat) (b9 : Bool), i = .int .i64 (qi : Int) ∧ qi < gk ∧ is.length + qi ≤ 60 ∧ k9 ≤ s.size ∧ Hid (KSt w4 wr G s k9 b9 (.slice pu ps.length pc) vi term0) ∧ Hid (OwnPhs wr (w4.heap.size + 1) m pu ps) ∧ Hid (RowS 91 7 inC wr m vi is) ∧ Hid (Sub OwnInE wr m wr.heap.size is) ∧ Hid (InIs s k4 false (ps.map (·.1)) (is.map (·.1)) qi k9 b9))
      case atStart => exact ⟨n7, _, [], k7, b7, rfl, by omega, (by simp; omega), hk7, HK7.out, HW7.out, RowS.nil _ _ _ _ _, hm7, HP7.out⟩
      case round =>
       clear HK7 HP7 HW7
       obtain ⟨qi, vi, is, k8, b8, rfl, hqg8, his, hk8, HK, HW, HRi, HUi, HP⟩ := hrel
       obtain ⟨w8, hwo⟩ : ∃ w1, w1 = wr := ⟨_, rfl⟩
       subst hwo
       have c9 : w8.cell? ⟨G, 2, none⟩ = some (.bool b8) := HK.out.rd.cell 2
       by_cases hq8 : 0 < qi
       ·have hqI8 : (0 : Int) < (qi : Int) := by omega
        cases b8
        ·have N8 := instS6 G s k8 false w8.drew HK.out.rd hs hk8
         have c0 : w8.cell? ⟨w4.heap.size, 1, none⟩ = some vi := HK.out.box.cell 1
         obtain ⟨iu, ic, rfl⟩ := HRi.out.slice
         go_wp2_with fail
         clear c9
         refine startX (fun w' => w'.cell? ⟨w4.heap.size, 1, none⟩ = some (.slice iu is.length ic)) (fun i => decide (i = 7)) (by kernel_rfl) ?_
         refine takeX 0 (v := ?_) rfl rfl (by kernel_rfl) (fun _ _ _ h => h) (yesH (by rfl) ?_) c0 ?_
         rotate_left
         ·intro w9 hS9
          go_simp
          try with_reducible rfl
         try simp only [Act.put, sA, sB, sC]
         refine takeX 1 (v := ?_) rfl rfl (by kernel_rfl) (fun _ _ _ h => h) (yesH (by rfl) ?_) c0 ?_
         rotate_left
         ·intro w9 hS9
          have g0 := hS9
          go_simp
          try with_reducible rfl
         try simp only [Act.put, sA, sB, sC]
         refine takeX 2 (v := ?_) rfl rfl (by kernel_rfl) (fun _ _ _ h => h) (yesH (by rfl) ?_) c0 ?_
         rotate_left
         ·intro w9 hS9
          go_simp
          try with_reducible rfl
         try simp only [Act.put, sA, sB, sC]
         refine readyX 3 rfl (by kernel_rfl) (fun K hK => ?_)
         go_simp
         go_wp2_with fail
         refine N8.mono ?_
         rintro e w9 ⟨d, ka, ba, ⟨u, c, rfl, hu⟩, hxa, hra, koa'⟩
         have koa : OnlyR G w8 w9 := ⟨koa'.os, koa'.tape, koa'.output, koa'.size, koa'.block⟩
         have hka := hxa.1
         have HPa : Hid (InIs s k4 false (ps.map (·.1)) ((is ++ [(d, u, c)]).map (·.1)) (qi - 1) ka ba) := by
          show InIs _ _ _ _ _ _ _ _
          rw [List.map_append]
          exact in_next HP.out hq8 hxa
         have HKa : Hid (KSt w4 w9 G s ka ba (.slice pu ps.length pc) (.slice iu is.length ic) term0) := HK.out.step koa hra
         have STa := Still.onlyM koa HK.out.rd
         have HWa : Hid (OwnPhs w9 (w4.heap.size + 1) m pu ps) := OwnPhs.still HW.out STa (by decide)
         have HRia : Hid (RowS 91 7 inC w9 m (.slice iu is.length ic) is) := HRi.out.still STa (by decide)
         have HUia : Hid (Sub OwnInE w9 m w9.heap.size (is ++ [(d, u, c)])) := Sub.snoc (HUi.out.still fun _ _ _ h => OwnI.still h STa (by decide)) (Nat.le_refl _) koa.size hu
         have c4 : w9.cell? ⟨w4.heap.size, 1, none⟩ = some (.slice iu is.length ic) := HKa.out.box.cell 1
         have hmz : m ≤ w9.heap.size := HUia.out.le
         clear N8 hxa hra koa koa' HK HW HRi HUi HP STa hu c0
         refine hK.out _ _ (.inr c4) ?_
         clear hK K
         try simp only [sA, sB, sC]
         have bb : Below w9.heap.size w9 (w9.alloc (.cells #[.int .i64 d.op, .int .i64 d.w, .int .i64 d.a, .int .i64 d.b, .int .i64 d.c, .int .i64 d.imm, .slice u d.args.length c] 91)) := (Below.refl _ _).alloc (Nat.le_refl _) _
         have HKb : Hid (KSt w4 (w9.alloc (.cells #[.int .i64 d.op, .int .i64 d.w, .int .i64 d.a, .int .i64 d.b, .int .i64 d.c, .int .i64 d.imm, .slice u d.args.length c] 91)) G s ka ba (.slice pu ps.length pc) (.slice iu is.length ic) term0) := HKa.out.keep bb
         have STb : Still 9 w9 (w9.alloc (.cells #[.int .i64 d.op, .int .i64 d.w, .int .i64 d.a, .int .i64 d.b, .int .i64 d.c, .int .i64 d.imm, .slice u d.args.length c] 91)) := Still.below bb
         have HWb : Hid (OwnPhs (w9.alloc (.cells #[.int .i64 d.op, .int .i64 d.w, .int .i64 d.a, .int .i64 d.b, .int .i64 d.c, .int .i64 d.imm, .slice u d.args.length c] 91)) (w4.heap.size + 1) m pu ps) := OwnPhs.still HWa.out STb (by decide)
         have HRib : Hid (RowS 91 7 inC (w9.alloc (.cells #[.int .i64 d.op, .int .i64 d.w, .int .i64 d.a, .int .i64 d.b, .int .i64 d.c, .int .i64 d.imm, .slice u d.args.length c] 91)) m (.slice iu is.length ic) is) := HRia.out.still STb (by decide)
         have HUib : Hid (Sub OwnInE (w9.alloc (.cells #[.int .i64 d.op, .int .i64 d.w, .int .i64 d.a, .int .i64 d.b, .int .i64 d.c, .int .i64 d.imm, .slice u d.args.length c] 91)) m (w9.alloc (.cells #[.int .i64 d.op, .int .i64 d.w, .int .i64 d.a, .int .i64 d.b, .int .i64 d.c, .int .i64 d.imm, .slice u d.args.length c] 91)).heap.size (is ++ [(d, u, c)])) := (HUia.out.wide (Nat.le_refl _) bb.size).still fun _ _ _ h => OwnI.still h STb (by decide)
         have c5 : (w9.alloc (.cells #[.int .i64 d.op, .int .i64 d.w, .int .i64 d.a, .int .i64 d.b, .int .i64 d.c, .int .i64 d.imm, .slice u d.args.length c] 91)).cell? ⟨w4.heap.size, 1, none⟩ = some (.slice iu is.length ic) := HKb.out.box.cell 1
         obtain ⟨g6, cap6, wa, hrun, hown6, hgr6, _, _⟩ := run_append_lies (P := Tryz.prog) (w9.alloc (.cells #[.int .i64 d.op, .int .i64 d.w, .int .i64 d.a, .int .i64 d.b, .int .i64 d.c, .int .i64 d.imm, .slice u d.args.length c] 91)) 82 82 m 91 iI (.agg #[.int .i64 0, .int .i64 0, .int .i64 0, .int .i64 0, .int .i64 0, .int .i64 0, .slice none 0 0]) 7 72 Tryz.underlying82 hiI zI sI bI rfl (by decide) (.slice iu is.length ic) is.length (is.flatMap inC) HRib.out ⟨w9.heap.size, 0, none⟩ 1 1 [.int .i64 d.op, .int .i64 d.w, .int .i64 d.a, .int .i64 d.b, .int .i64 d.c, .int .i64 d.imm, .slice u d.args.length c] rfl (World.news_of_block (At.new w9 #[.int .i64 d.op, .int .i64 d.w, .int .i64 d.a, .int .i64 d.b, .int .i64 d.c, .int .i64 d.imm, .slice u d.args.length c] 91)) (by simp [Value.oneCell']) (by decide) (by unfold maxLen; omega) (by omega) (Nat.le_trans hmz bb.size) _ rfl
         have HKc : Hid (KSt w4 wa G s ka ba (.slice pu ps.length pc) (.slice iu is.length ic) term0) := HKb.out.grown hgr6 (fun g e => by have := (HRib.out.ge e).1; omega)
         have STc : Still 2 (w9.alloc (.cells #[.int .i64 d.op, .int .i64 d.w, .int .i64 d.a, .int .i64 d.b, .int .i64 d.c, .int .i64 d.imm, .slice u d.args.length c] 91)) wa := Still.grown hgr6 (fun g e => by obtain ⟨_, cur, hc⟩ := HRib.out.ge e; exact ⟨cur, _, hc, by decide⟩)
         have HWc : Hid (OwnPhs wa (w4.heap.size + 1) m pu ps) := OwnPhs.still HWb.out STc (by decide)
         have HRic : Hid (RowS 91 7 inC wa m (.slice (some ⟨g6, 0, none⟩) (is.length + 1) cap6) (is ++ [(d, u, c)])) := RowS.push hown6
         have HUic : Hid (Sub OwnInE wa m wa.heap.size (is ++ [(d, u, c)])) := (HUib.out.wide (Nat.le_refl _) hgr6.size).still fun _ _ _ h => OwnI.still h STc (by decide)
         have HKd : Hid (KSt w4 (wa.setCell ⟨w4.heap.size, 1, none⟩ (.slice (some ⟨g6, 0, none⟩) (is.length + 1) cap6)) G s ka ba (.slice pu ps.length pc) (.slice (some ⟨g6, 0, none⟩) (is.length + 1) cap6) term0) := HKc.out.set1 _
         have STd : Still 3 wa (wa.setCell ⟨w4.heap.size, 1, none⟩ (.slice (some ⟨g6, 0, none⟩) (is.length + 1) cap6)) := Still.set HKc.out.box (by decide)
         have HWd : Hid (OwnPhs (wa.setCell ⟨w4.heap.size, 1, none⟩ (.slice (some ⟨g6, 0, none⟩) (is.length + 1) cap6)) (w4.heap.size + 1) m pu ps) := OwnPhs.still HWc.out STd (by decide)
         have HRid : Hid (RowS 91 7 inC (wa.setCell ⟨w4.heap.size, 1, none⟩ (.slice (some ⟨g6, 0, none⟩) (is.length + 1) cap6)) m (.slice (some ⟨g6, 0, none⟩) (is.length + 1) cap6) (is ++ [(d, u, c)])) := HRic.out.still STd (by decide)
         have HUid : Hid (Sub OwnInE (wa.setCell ⟨w4.heap.size, 1, none⟩ (.slice (some ⟨g6, 0, none⟩) (is.length + 1) cap6)) m (wa.setCell ⟨w4.heap.size, 1, none⟩ (.slice (some ⟨g6, 0, none⟩) (is.length + 1) cap6)).heap.size (is ++ [(d, u, c)])) := (HUic.out.wide (Nat.le_refl _) (by simp only [World.size_setCell]; exact Nat.le_refl _)).still fun _ _ _ h => OwnI.still h STd (by decide)
         have c6 : wa.cell? ⟨w4.heap.size, 1, none⟩ = some (.slice iu is.length ic) := HKc.out.box.cell 1
         have f6 : wa.frozen? ⟨w4.heap.size, 1, none⟩ = false := froz_of_heap HKc.out.box
         clear bb HKb STb HWb HRib HUib STc HWc HRic HUic STd HKa HWa HRia HUia hown6 hgr6 HKc hmz
         refine readyX 4 rfl (by kernel_rfl) (fun K hK => ?_)
         go_simp
         refine hK.out _ _ (.inr c5) ?_
         clear hK K
         try simp only [Act.put, sA, sB, sC]
         refine readyX 5 rfl (by kernel_rfl) (fun K hK => ?_)
         refine step_runP rfl _ _ _ rfl rfl rfl hrun ?_
         refine hK.out _ _ (.inr c6) ?_
         clear hK K hrun
         try simp only [Act.put, sA, sB, sC]
         refine takeX 6 (v := ?_) rfl rfl (by kernel_rfl) (fun _ _ _ h => h) (yesH (by rfl) ?_) c6 ?_
         rotate_left
         ·intro w9 hS9
          go_simp
          try with_reducible rfl
         try simp only [Act.put, sA, sB, sC]
         refine readyX 7 rfl (by kernel_rfl) (fun K hK => ?_)
         go_simp
         refine hK.out _ _ (.inl rfl) ?_
         clear hK K
         refine doneX (by kernel_rfl) ?_ _
         go_wp2_with fail
         go_roundg (gk - 1)
         case measure => omega
         case rel => exact ⟨qi - 1, _, _, ka, ba, by go_num, by omega, (by rw [List.length_append]; simp; omega), hka, HKd.out, HWd.out, HRid.out, HUid.out, HPa.out⟩
        ·go_wp2_with fail
         go_meet
         case rel => exact ⟨qi, vi, is, k8, true, rfl, .inr rfl, by omega, hk8, HK.out, HW.out, HRi.out, HUi.out, HP.out⟩
       ·have hqI8 : ¬ (0 : Int) < (qi : Int) := by omega
        go_wp2_with fail
        go_meet
        case rel => exact ⟨qi, vi, is, k8, b8, rfl, .inl (by omega), by omega, hk8, HK.out, HW.out, HRi.out, HUi.out, HP.out⟩
     case rest =>
      clear HK7 HP7 HW7 hm7
      obtain ⟨qi, vi, is, k9, b9, rfl, hqi, his, hk9, HK, HW, HRi, HUi, HP⟩ := hcut
      obtain ⟨iu, ic, rfl⟩ := HRi.out.slice
      have HV : Hid (OwnIns wc m wc.heap.size iu is) := RowS.own (fun _ => rfl) (by omega) HRi.out HUi.out (Nat.le_refl _) (Nat.le_refl _)
      have T9 := termS6 G s k9 b9 wc HK.out.rd hs hk9
      have hm9 : m ≤ wc.heap.size := HUi.out.le
      clear HRi HUi
      go_wp2_with fail
      refine T9.mono ?_
      rintro e w9 ⟨t, ka, ba, rfl, hxa, hra, koa⟩
      have hka := hxa.1
      have HXa : Hid (BkIs s k4 false ⟨ps.map (·.1), is.map (·.1), t⟩ ka ba) := bk_done HP.out hqi hxa
      have HKa : Hid (KSt w4 w9 G s ka ba (.slice pu ps.length pc) (.slice iu is.length ic) term0) := HK.out.step koa hra
      have STa := Still.onlyM koa HK.out.rd
      have HWa : Hid (OwnPhs w9 (w4.heap.size + 1) m pu ps) := OwnPhs.still HW.out STa (by decide)
      have HVa : Hid (OwnIns w9 m wc.heap.size iu is) := OwnIns.still HV.out STa (by decide)
      have hza : wc.heap.size ≤ w9.heap.size := koa.size
      clear T9 hxa hra koa HK HW HV STa HP hqi
      have c2 : w9.cell? ⟨w4.heap.size, 2, none⟩ = some (.int .i64 0) := HKa.out.box.cell 2
      have c3 : w9.cell? ⟨w4.heap.size, 3, none⟩ = some (.int .i64 0) := HKa.out.box.cell 3
      have c4 : w9.cell? ⟨w4.heap.size, 4, none⟩ = some (.int .i64 0) := HKa.out.box.cell 4
      have c5 : w9.cell? ⟨w4.heap.size, 5, none⟩ = some (.int .i64 0) := HKa.out.box.cell 5
      have cf : ∀ o, w9.frozen? ⟨w4.heap.size, o, none⟩ = false := fun o => froz_of_heap HKa.out.box
      have HKb : Hid (KSt w4 ((((w9.setCell ⟨w4.heap.size, 2, none⟩ (.int .i64 t.kind)).setCell ⟨w4.heap.size, 3, none⟩ (.int .i64 t.a)).setCell ⟨w4.heap.size, 4, none⟩ (.int .i64 t.x)).setCell ⟨w4.heap.size, 5, none⟩ (.int .i64 t.y)) G s ka ba (.slice pu ps.length pc) (.slice iu is.length ic) t) := KSt.setT HKa.out t
      have STb : Still 3 w9 ((((w9.setCell ⟨w4.heap.size, 2, none⟩ (.int .i64 t.kind)).setCell ⟨w4.heap.size, 3, none⟩ (.int .i64 t.a)).setCell ⟨w4.heap.size, 4, none⟩ (.int .i64 t.x)).setCell ⟨w4.heap.size, 5, none⟩ (.int .i64 t.y)) := KSt.stillT HKa.out t
      have HWb : Hid (OwnPhs ((((w9.setCell ⟨w4.heap.size, 2, none⟩ (.int .i64 t.kind)).setCell ⟨w4.heap.size, 3, none⟩ (.int .i64 t.a)).setCell ⟨w4.heap.size, 4, none⟩ (.int .i64 t.x)).setCell ⟨w4.heap.size, 5, none⟩ (.int .i64 t.y)) (w4.heap.size + 1) m pu ps) := OwnPhs.still HWa.out STb (by decide)
      have HVb : Hid (OwnIns ((((w9.setCell ⟨w4.heap.size, 2, none⟩ (.int .i64 t.kind)).setCell ⟨w4.heap.size, 3, none⟩ (.int .i64 t.a)).setCell ⟨w4.heap.size, 4, none⟩ (.int .i64 t.x)).setCell ⟨w4.heap.size, 5, none⟩ (.int .i64 t.y)) m wc.heap.size iu is) := OwnIns.still HVa.out STb (by decide)
      have hzb : w9.heap.size ≤ ((((w9.setCell ⟨w4.heap.size, 2, none⟩ (.int .i64 t.kind)).setCell ⟨w4.heap.size, 3, none⟩ (.int .i64 t.a)).setCell ⟨w4.heap.size, 4, none⟩ (.int .i64 t.x)).setCell ⟨w4.heap.size, 5, none⟩ (.int .i64 t.y)).heap.size := by simp only [World.size_setCell]; exact Nat.le_refl _
      clear HKa STb HWa HVa
      go_upto_region 16 with fail
      clear c2 c3 c4 c5 cf
      generalize ((((w9.setCell ⟨w4.heap.size, 2, none⟩ (.int .i64 t.kind)).setCell ⟨w4.heap.size, 3, none⟩ (.int .i64 t.a)).setCell ⟨w4.heap.size, 4, none⟩ (.int .i64 t.x)).setCell ⟨w4.heap.size, 5, none⟩ (.int .i64 t.y)) = wb at *
      have HBK : Hid (OwnBk wb w4.heap.size wb.heap.size ⟨ps, pu, pc, is, iu, ic, t⟩) := ⟨m, by omega, by omega, OwnL.wide HWb.out (by omega) (Nat.le_refl _), OwnL.wide HVb.out (Nat.le_refl _) (by omega)⟩
      have hzo : w4.heap.size ≤ wb.heap.size := HKb.out.only.size
      have STo := Still.onlyM HKb.out.only HS.out.rd
      have HSb : Hid (FSt w wb F G s ka ba #[.slice u l.length c, .int .i64 ret, v]) := HS.out.step HKb.out.only HKb.out.rd
      have HIb : Hid (OwnI wb (w.heap.size + 1) F u l) := HI.out.still STo (by decide)
      have HRb : Hid (RowS 86 6 bkC wb (F + 1) v es) := HR.out.still STo (by decide)
      have HUb : Hid (Sub OwnBk wb (F + 1) wb.heap.size (es ++ [⟨ps, pu, pc, is, iu, ic, t⟩])) := Sub.snoc (HU.out.still fun _ _ _ h => OwnBk.still h STo (by decide)) (Nat.le_refl _) hzo HBK.out
      have HXb : Hid (FnIs s k bad ret l ((es ++ [(⟨ps, pu, pc, is, iu, ic, t⟩ : BkE)]).map BkE.d) (q - 1) ka ba) := by
       show FnIs _ _ _ _ _ _ _ _ _
       rw [List.map_append]
       exact fn_next HX.out hq HXa.out
      have d0 : wb.cell? ⟨w4.heap.size, 0, none⟩ = some (.slice pu ps.length pc) := HKb.out.box.cell 0
      have d1 : wb.cell? ⟨w4.heap.size, 1, none⟩ = some (.slice iu is.length ic) := HKb.out.box.cell 1
      have d2 : wb.cell? ⟨w4.heap.size, 2, none⟩ = some (.int .i64 t.kind) := HKb.out.box.cell 2
      have d3 : wb.cell? ⟨w4.heap.size, 3, none⟩ = some (.int .i64 t.a) := HKb.out.box.cell 3
      have d4 : wb.cell? ⟨w4.heap.size, 4, none⟩ = some (.int .i64 t.x) := HKb.out.box.cell 4
      have d5 : wb.cell? ⟨w4.heap.size, 5, none⟩ = some (.int .i64 t.y) := HKb.out.box.cell 5
      obtain ⟨vu, vc, rfl⟩ := HRb.out.slice
      have e2 : wb.cell? ⟨F, 2, none⟩ = some (.slice vu es.length vc) := HSb.out.box.cell 2
      have hFb : F + 1 ≤ wb.heap.size := HSb.out.box.lt
      clear HKb HWb HVb HBK HS HI HR HU HX HXa STo
      have bc : Below wb.heap.size wb (wb.alloc (.cells #[.slice pu ps.length pc, .slice iu is.length ic, .int .i64 t.kind, .int .i64 t.a, .int .i64 t.x, .int .i64 t.y] 86)) := (Below.refl _ _).alloc (Nat.le_refl _) _
      have HSc : Hid (FSt w (wb.alloc (.cells #[.slice pu ps.length pc, .slice iu is.length ic, .int .i64 t.kind, .int .i64 t.a, .int .i64 t.x, .int .i64 t.y] 86)) F G s ka ba #[.slice u l.length c, .int .i64 ret, .slice vu es.length vc]) := HSb.out.keep bc
      have STc : Still 9 wb (wb.alloc (.cells #[.slice pu ps.length pc, .slice iu is.length ic, .int .i64 t.kind, .int .i64 t.a, .int .i64 t.x, .int .i64 t.y] 86)) := Still.below bc
      have HIc : Hid (OwnI (wb.alloc (.cells #[.slice pu ps.length pc, .slice iu is.length ic, .int .i64 t.kind, .int .i64 t.a, .int .i64 t.x, .int .i64 t.y] 86)) (w.heap.size + 1) F u l) := HIb.out.still STc (by decide)
      have HRc : Hid (RowS 86 6 bkC (wb.alloc (.cells #[.slice pu ps.length pc, .slice iu is.length ic, .int .i64 t.kind, .int .i64 t.a, .int .i64 t.x, .int .i64 t.y] 86)) (F + 1) (.slice vu es.length vc) es) := HRb.out.still STc (by decide)
      have HUc : Hid (Sub OwnBk (wb.alloc (.cells #[.slice pu ps.length pc, .slice iu is.length ic, .int .i64 t.kind, .int .i64 t.a, .int .i64 t.x, .int .i64 t.y] 86)) (F + 1) (wb.alloc (.cells #[.slice pu ps.length pc, .slice iu is.length ic, .int .i64 t.kind, .int .i64 t.a, .int .i64 t.x, .int .i64 t.y] 86)).heap.size (es ++ [⟨ps, pu, pc, is, iu, ic, t⟩])) := (HUb.out.wide (Nat.le_refl _) bc.size).still fun _ _ _ h => OwnBk.still h STc (by decide)
      obtain ⟨g6, cap6, wd, hrun, hown6, hgr6, _, _⟩ := run_append_lies (P := Tryz.prog) (wb.alloc (.cells #[.slice pu ps.length pc, .slice iu is.length ic, .int .i64 t.kind, .int .i64 t.a, .int .i64 t.x, .int .i64 t.y] 86)) 47 47 (F + 1) 86 iB (.agg #[.slice none 0 0, .slice none 0 0, .int .i64 0, .int .i64 0, .int .i64 0, .int .i64 0]) 6 80 Tryz.underlying47 hiB zB sB' bB rfl (by decide) (.slice vu es.length vc) es.length (es.flatMap bkC) HRc.out ⟨wb.heap.size, 0, none⟩ 1 1 [.slice pu ps.length pc, .slice iu is.length ic, .int .i64 t.kind, .int .i64 t.a, .int .i64 t.x, .int .i64 t.y] rfl (World.news_of_block (At.new wb #[.slice pu ps.length pc, .slice iu is.length ic, .int .i64 t.kind, .int .i64 t.a, .int .i64 t.x, .int .i64 t.y] 86)) (by simp [Value.oneCell']) (by decide) (by unfold maxLen; omega) (by omega) (Nat.le_trans hFb bc.size) _ rfl
      have HSd : Hid (FSt w wd F G s ka ba #[.slice u l.length c, .int .i64 ret, .slice vu es.length vc]) := HSc.out.grown hgr6 (fun g e => (HRc.out.ge e).1)
      have STd : Still 3 (wb.alloc (.cells #[.slice pu ps.length pc, .slice iu is.length ic, .int .i64 t.kind, .int .i64 t.a, .int .i64 t.x, .int .i64 t.y] 86)) wd := Still.grown hgr6 (fun g e => by obtain ⟨_, cur, hc⟩ := HRc.out.ge e; exact ⟨cur, _, hc, by decide⟩)
      have HId : Hid (OwnI wd (w.heap.size + 1) F u l) := HIc.out.still STd (by decide)
      have HRd : Hid (RowS 86 6 bkC wd (F + 1) (.slice (some ⟨g6, 0, none⟩) (es.length + 1) cap6) (es ++ [⟨ps, pu, pc, is, iu, ic, t⟩])) := RowS.push hown6
      have HUd : Hid (Sub OwnBk wd (F + 1) wd.heap.size (es ++ [⟨ps, pu, pc, is, iu, ic, t⟩])) := (HUc.out.wide (Nat.le_refl _) hgr6.size).still fun _ _ _ h => OwnBk.still h STd (by decide)
      have HSe : Hid (FSt w (wd.setCell ⟨F, 2, none⟩ (.slice (some ⟨g6, 0, none⟩) (es.length + 1) cap6)) F G s ka ba #[.slice u l.length c, .int .i64 ret, (.slice (some ⟨g6, 0, none⟩) (es.length + 1) cap6)]) := HSd.out.set 2 _
      have STe : Still 4 wd (wd.setCell ⟨F, 2, none⟩ (.slice (some ⟨g6, 0, none⟩) (es.length + 1) cap6)) := Still.set HSd.out.box (by decide)
      have HIe : Hid (OwnI (wd.setCell ⟨F, 2, none⟩ (.slice (some ⟨g6, 0, none⟩) (es.length + 1) cap6)) (w.heap.size + 1) F u l) := HId.out.still STe (by decide)
      have HRe : Hid (RowS 86 6 bkC (wd.setCell ⟨F, 2, none⟩ (.slice (some ⟨g6, 0, none⟩) (es.length + 1) cap6)) (F + 1) (.slice (some ⟨g6, 0, none⟩) (es.length + 1) cap6) (es ++ [⟨ps, pu, pc, is, iu, ic, t⟩])) := HRd.out.still STe (by decide)
      have HUe : Hid (Sub OwnBk (wd.setCell ⟨F, 2, none⟩ (.slice (some ⟨g6, 0, none⟩) (es.length + 1) cap6)) (F + 1) (wd.setCell ⟨F, 2, none⟩ (.slice (some ⟨g6, 0, none⟩) (es.length + 1) cap6)).heap.size (es ++ [⟨ps, pu, pc, is, iu, ic, t⟩])) := (HUd.out.wide (Nat.le_refl _) (by simp only [World.size_setCell]; exact Nat.le_refl _)).still fun _ _ _ h => OwnBk.still h STe (by decide)
      have e6 : wd.cell? ⟨F, 2, none⟩ = some (.slice vu es.length vc) := HSd.out.box.cell 2
      have f6 : wd.frozen? ⟨F, 2, none⟩ = false := froz_of_heap HSd.out.box
      clear bc HSc STc HIc HRc HUc STd HId HRd HUd STe HSb HIb HRb HUb hown6 hgr6 HSd
      go_wp2_with (at_builtin; refine list_runP rfl _ _ _ rfl rfl rfl hrun ?_)
      go_roundg (gk - 1)
      case measure => omega
      case rel => exact ⟨q - 1, _, _, ka, ba, by go_num, by omega, (by rw [List.length_append]; simp; omega), hka, HSe.out, HIe.out, HRe.out, HUe.out, HXb.out⟩
   ·have HD : Hid (FdIs s k bad ⟨l, ret, es.map BkE.d⟩ k4 true) := fn_done HX.out (by first | exact .inl hq0 | exact .inr rfl)
    obtain ⟨vu, vc, rfl⟩ := HR.out.slice
    have hel2 : es.length ≤ 10 := by omega
    have HO : Hid (OwnBks w4 (F + 1) w4.heap.size vu es) := RowS.own (fun _ => rfl) (by omega) HR.out HU.out (Nat.le_refl _) (Nat.le_refl _)
    have hz4 : F + 1 ≤ w4.heap.size := HU.out.le
    have hwF : w.heap.size < F := HS.out.ltF
    clear HR HU HX
    have c0 : w4.cell? ⟨F, 0, none⟩ = some (.slice u l.length c) := HS.out.box.cell 0
    have c1 : w4.cell? ⟨F, 1, none⟩ = some (.int .i64 ret) := HS.out.box.cell 1
    have c2 : w4.cell? ⟨F, 2, none⟩ = some (.slice vu es.length vc) := HS.out.box.cell 2
    have r0 : w4.cell? ⟨w.heap.size, 0, none⟩ = some (.slice none 0 0) := HS.out.res.cell 0
    have r1 : w4.cell? ⟨w.heap.size, 1, none⟩ = some (.int .i64 0) := HS.out.res.cell 1
    have r2 : w4.cell? ⟨w.heap.size, 2, none⟩ = some (.slice none 0 0) := HS.out.res.cell 2
    have rf : ∀ o, w4.frozen? ⟨w.heap.size, o, none⟩ = false := fun o => froz_of_heap HS.out.res
    go_wp2_with fail
    have hr := (heap_set (o := 2) (v := .slice vu es.length vc) (heap_set (o := 1) (v := .int .i64 ret) (heap_set (o := 0) (v := .slice u l.length c) HS.out.res)))
    have OO : OnlyR G w (((w4.setCell ⟨w.heap.size, 0, none⟩ (.slice u l.length c)).setCell ⟨w.heap.size, 1, none⟩ (.int .i64 ret)).setCell ⟨w.heap.size, 2, none⟩ (.slice vu es.length vc)) := (OnlyR.fresh (g := w.heap.size) (o := 2) (v := .slice vu es.length vc) (OnlyR.fresh (g := w.heap.size) (o := 1) (v := .int .i64 ret) (OnlyR.fresh (g := w.heap.size) (o := 0) (v := .slice u l.length c) HS.out.only (by omega)) (by omega)) (by omega))
    have hG := HS.out.lt
    have RR : RdM (((w4.setCell ⟨w.heap.size, 0, none⟩ (.slice u l.length c)).setCell ⟨w.heap.size, 1, none⟩ (.int .i64 ret)).setCell ⟨w.heap.size, 2, none⟩ (.slice vu es.length vc)) G s k4 true := At.setOther (At.setOther (At.setOther HS.out.rd (by omega)) (by omega)) (by omega)
    have SS : Still 4 w4 (((w4.setCell ⟨w.heap.size, 0, none⟩ (.slice u l.length c)).setCell ⟨w.heap.size, 1, none⟩ (.int .i64 ret)).setCell ⟨w.heap.size, 2, none⟩ (.slice vu es.length vc)) := (Still.trans (Still.trans (Still.set (k := 4) (o := 0) (v := .slice u l.length c) HS.out.res (by decide)) (Still.set (k := 4) (o := 1) (v := .int .i64 ret) (heap_set (o := 0) (v := .slice u l.length c) HS.out.res) (by decide))) (Still.set (k := 4) (o := 2) (v := .slice vu es.length vc) (heap_set (o := 1) (v := .int .i64 ret) (heap_set (o := 0) (v := .slice u l.length c) HS.out.res)) (by decide)))
    have hz9 : w4.heap.size ≤ ((((w4.setCell ⟨w.heap.size, 0, none⟩ (.slice u l.length c)).setCell ⟨w.heap.size, 1, none⟩ (.int .i64 ret)).setCell ⟨w.heap.size, 2, none⟩ (.slice vu es.length vc))).heap.size := by simp only [World.size_setCell]; exact Nat.le_refl _
    generalize (((w4.setCell ⟨w.heap.size, 0, none⟩ (.slice u l.length c)).setCell ⟨w.heap.size, 1, none⟩ (.int .i64 ret)).setCell ⟨w.heap.size, 2, none⟩ (.slice vu es.length vc)) = W9 at *
    have UU : OwnFn W9 w.heap.size W9.heap.size ⟨l, u, c, ret, es, vu, vc⟩ := ⟨F, by omega, by omega, (HI.out.still SS (by decide)).wide (by omega) (Nat.le_refl _), (OwnBks.still HO.out SS (by decide)).wide (by omega) (by omega)⟩
    exact bodyPost_ret (v := .agg #[.slice u l.length c, .int .i64 ret, .slice vu es.length vc]) ((results_cell_row Tryz.results36 _ _ w.heap.size 49 _ (0, 0) _ rfl hr Tryz.underlying49 rfl (by kernel_rfl)).trans (by rfl)) rfl ⟨⟨l, u, c, ret, es, vu, vc⟩, k4, true, rfl, UU, hk4, HD.out, RR, OO⟩
  ·have hqI : ¬ (0 : Int) < (q : Int) := by omega
   have hq0 : q = 0 := by omega
   have HD : Hid (FdIs s k bad ⟨l, ret, es.map BkE.d⟩ k4 b4) := fn_done HX.out (by first | exact .inl hq0 | exact .inr rfl)
   obtain ⟨vu, vc, rfl⟩ := HR.out.slice
   have hel2 : es.length ≤ 10 := by omega
   have HO : Hid (OwnBks w4 (F + 1) w4.heap.size vu es) := RowS.own (fun _ => rfl) (by omega) HR.out HU.out (Nat.le_refl _) (Nat.le_refl _)
   have hz4 : F + 1 ≤ w4.heap.size := HU.out.le
   have hwF : w.heap.size < F := HS.out.ltF
   clear HR HU HX
   have c0 : w4.cell? ⟨F, 0, none⟩ = some (.slice u l.length c) := HS.out.box.cell 0
   have c1 : w4.cell? ⟨F, 1, none⟩ = some (.int .i64 ret) := HS.out.box.cell 1
   have c2 : w4.cell? ⟨F, 2, none⟩ = some (.slice vu es.length vc) := HS.out.box.cell 2
   have r0 : w4.cell? ⟨w.heap.size, 0, none⟩ = some (.slice none 0 0) := HS.out.res.cell 0
   have r1 : w4.cell? ⟨w.heap.size, 1, none⟩ = some (.int .i64 0) := HS.out.res.cell 1
   have r2 : w4.cell? ⟨w.heap.size, 2, none⟩ = some (.slice none 0 0) := HS.out.res.cell 2
   have rf : ∀ o, w4.frozen? ⟨w.heap.size, o, none⟩ = false := fun o => froz_of_heap HS.out.res
   go_wp2_with fail
   have hr := (heap_set (o := 2) (v := .slice vu es.length vc) (heap_set (o := 1) (v := .int .i64 ret) (heap_set (o := 0) (v := .slice u l.length c) HS.out.res)))
   have OO : OnlyR G w (((w4.setCell ⟨w.heap.size, 0, none⟩ (.slice u l.length c)).setCell ⟨w.heap.size, 1, none⟩ (.int .i64 ret)).setCell ⟨w.heap.size, 2, none⟩ (.slice vu es.length vc)) := (OnlyR.fresh (g := w.heap.size) (o := 2) (v := .slice vu es.length vc) (OnlyR.fresh (g := w.heap.size) (o := 1) (v := .int .i64 ret) (OnlyR.fresh (g := w.heap.size) (o := 0) (v := .slice u l.length c) HS.out.only (by omega)) (by omega)) (by omega))
   have hG := HS.out.lt
   have RR : RdM (((w4.setCell ⟨w.heap.size, 0, none⟩ (.slice u l.length c)).setCell ⟨w.heap.size, 1, none⟩ (.int .i64 ret)).setCell ⟨w.heap.size, 2, none⟩ (.slice vu es.length vc)) G s k4 b4 := At.setOther (At.setOther (At.setOther HS.out.rd (by omega)) (by omega)) (by omega)
   have SS : Still 4 w4 (((w4.setCell ⟨w.heap.size, 0, none⟩ (.slice u l.length c)).setCell ⟨w.heap.size, 1, none⟩ (.int .i64 ret)).setCell ⟨w.heap.size, 2, none⟩ (.slice vu es.length vc)) := (Still.trans (Still.trans (Still.set (k := 4) (o := 0) (v := .slice u l.length c) HS.out.res (by decide)) (Still.set (k := 4) (o := 1) (v := .int .i64 ret) (heap_set (o := 0) (v := .slice u l.length c) HS.out.res) (by decide))) (Still.set (k := 4) (o := 2) (v := .slice vu es.length vc) (heap_set (o := 1) (v := .int .i64 ret) (heap_set (o := 0) (v := .slice u l.length c) HS.out.res)) (by decide)))
   have hz9 : w4.heap.size ≤ ((((w4.setCell ⟨w.heap.size, 0, none⟩ (.slice u l.length c)).setCell ⟨w.heap.size, 1, none⟩ (.int .i64 ret)).setCell ⟨w.heap.size, 2, none⟩ (.slice vu es.length vc))).heap.size := by simp only [World.size_setCell]; exact Nat.le_refl _
   generalize (((w4.setCell ⟨w.heap.size, 0, none⟩ (.slice u l.length c)).setCell ⟨w.heap.size, 1, none⟩ (.int .i64 ret)).setCell ⟨w.heap.size, 2, none⟩ (.slice vu es.length vc)) = W9 at *
   have UU : OwnFn W9 w.heap.size W9.heap.size ⟨l, u, c, ret, es, vu, vc⟩ := ⟨F, by omega, by omega, (HI.out.still SS (by decide)).wide (by omega) (Nat.le_refl _), (OwnBks.still HO.out SS (by decide)).wide (by omega) (by omega)⟩
   exact bodyPost_ret (v := .agg #[.slice u l.length c, .int .i64 ret, .slice vu es.length vc]) ((results_cell_row Tryz.results36 _ _ w.heap.size 49 _ (0, 0) _ rfl hr Tryz.underlying49 rfl (by kernel_rfl)).trans (by rfl)) rfl ⟨⟨l, u, c, ret, es, vu, vc⟩, k4, b4, rfl, UU, hk4, HD.out, RR, OO⟩
end Go.Proofs.YtojhakjkfkmklaaGreatDoor
