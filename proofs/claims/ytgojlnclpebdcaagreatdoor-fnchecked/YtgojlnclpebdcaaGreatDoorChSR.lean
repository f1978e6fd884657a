import Derived.Test.YtgojlnclpebdcaaGreatDoorFmKR
import Derived.Test.YtgojlnclpebdcaaGreatDoorChTR
import Derived.Test.YtgojlnclpebdcaaGreatDoorRows
import Derived.RowKitTokens
import Derived.LaidLaws
import Derived.LaidHandle
import Derived.LaidMore
import Derived.Stop.LaidErr
import Derived.Stop.ErrReads
import Derived.WalkKit
import Derived.WalkSpells
import Derived.Deep.QuietTactic
import Derived.BigQuiet
namespace Go.Proofs.YtgojlnclpebdcaaGreatDoor
open Go.RowKit
set_option linter.unusedVariables false
set_option linter.unusedSimpArgs false
theorem codeAbv (lo : Nat) (l : List FuncD) (d : FuncD) (pm : Option Addr) (cm : Nat) (p0 : Option Addr) (c0 : Nat) (p2 : Option Addr) (c2 : Nat) (c : Int) (w : World) (x : Abv (fun v => Below w.heap.size w v)) (hsl : SmMod l) (hs : SmFunc d) (kM : FuncsAt w lo pm l) (k0 : IntsAt w lo p0 d.params) (k2 : BlocksAt w lo p2 d.blocks) (hF : Form l.length d) (hc : CodeF l d c) :
  Calls Tryz.prog 31 #[.agg #[.slice pm l.length cm], .agg #[.slice p0 d.params.length c0, .int .i64 d.ret, .slice p2 d.blocks.length c2]] x.v fun e w'' => e = .returned (.int .i64 c) ∧ ∃ y : Abv (fun v => Below w.heap.size w v), w'' = y.v :=
 abv_call x (codeS lo l d pm cm p0 c0 p2 c2 c x.v hsl hs (kM.keep (agree_of_below x.ok _)) (k0.keep (agree_of_below x.ok _)) (k2.keep (agree_of_below x.ok _)) hF hc)
set_option maxHeartbeats 4000000 in
set_option maxRecDepth 100000 in
theorem fcheckS (lo : Nat) (l : List FuncD) (pm : Option Addr) (cm : Nat) (k c : Int) (w : World) (hsl : SmMod l) (kM : FuncsAt w lo pm l) (hc : FCode l k c) :
  Calls Tryz.prog 11 #[.agg #[.slice pm l.length cm], .int .i64 k] w fun e w' => e = .returned (.int .i64 c) ∧ Below w.heap.size w w' := by
 have hB0 : Below w.heap.size w (w.alloc (.cells #[.slice pm l.length cm] 26)) := (Below.refl _ _).alloc (Nat.le_refl _) _
 have DM := modShS lo l pm cm _ hsl (kM.keep (agree_of_below hB0 lo))
 have HSL : Hid (SmMod l) := hsl
 have HKM : Hid (FuncsAt w lo pm l) := kM
 have hll := hsl.1
 clear hsl kM
 by_cases hm : modB l = true
 ·have hl3 := mod_len hm
  rw [hm] at DM
  have IN := fun (W : World) => inB k l.length W
  by_cases hk : 0 ≤ k ∧ k < l.length
  ·have hc' : CodeF l (l.getD k.toNat func0) c := by
    rcases hc with h | h
    ·exact absurd ⟨hm, hk⟩ h.1
    ·exact h.2
   obtain ⟨m, hme, hml⟩ := nat_of hk
   subst hme
   rw [show belowB (m : Int) l.length = true by simp [belowB, hml]] at IN
   rw [Int.toNat_natCast] at hc'
   have HFm := mod_form hm hml
   rcases HKM.out.2 with hn | ⟨fb, fo, hume, hflo, hfb', hfc⟩
   ·simp [hn] at hml
   subst hume
   obtain ⟨⟨g0, gq0, n0, nm0⟩, n1, ⟨g2, gq2, n2, nm2⟩⟩ := hfc m hml
   have hgs := HSL.out.2 _ (getD_mem func0 l m hml)
   generalize l.getD m func0 = g at n0 nm0 n1 n2 nm2 hgs HFm hc'
   have HGS : Hid (SmFunc g) := hgs
   have HCC : Hid (CodeF l g c) := hc'
   have HFF : Hid (Form l.length g) := HFm
   have HN : Hid (IntsAt w lo g0 g.params ∧ BlocksAt w lo g2 g.blocks) := ⟨nm0, nm2⟩
   have HCa : Hid (_ ∧ _ ∧ _) := ⟨n0, n1, n2⟩
   have hmi : (m : Int) < l.length := by omega
   clear hfc n0 n1 n2 nm0 nm2 hgs hc' HFm hc hm hk
   go_enter Tryz.func11, Tryz.ntmps11
   go_wp2_with (first | (go_at_call 13; refine DM.mono ?_; rintro e w1 ⟨rfl, hb1⟩; have HB1 : Hid (Below w.heap.size w w1) := hB0.trans (hb1.mono (by simp)); have am := (bcell hb1 w.heap.size 0 (by simp)).trans ((cell_of_heap (heap_alloc_last _ _)).trans rfl); have l1 : w.heap.size < w1.heap.size := (by have := hb1.size; simp at this; omega); clear hb1) | (go_at_call 32; refine (IN _).mono ?_; rintro e w9 ⟨rfl, hw9⟩; rw [hw9]; clear hw9))
   have F0 := (bcell HB1.out _ _ hfb').trans HCa.out.1
   have F1 := (bcell HB1.out _ _ hfb').trans HCa.out.2.1
   have F2 := (bcell HB1.out _ _ hfb').trans HCa.out.2.2
   have l2 : fb < w1.heap.size := by have := HB1.out.size; omega
   have TC := fun xx => codeAbv lo l g (some ⟨fb, fo, none⟩) cm g0 gq0 g2 gq2 c w1 xx HSL.out HGS.out (HKM.out.keep (agree_of_below HB1.out _)) (HN.out.1.keep (agree_of_below HB1.out _)) (HN.out.2.keep (agree_of_below HB1.out _)) HFF.out HCC.out
   have hne : Nonempty (Abv (fun v => Below w1.heap.size w1 v)) := abv_ne (Below.refl _ _)
   have k0 := fun xx : Abv (fun v => Below w1.heap.size w1 v) => (bcell xx.ok _ _ l1).trans am
   have k1 := fun xx : Abv (fun v => Below w1.heap.size w1 v) => (bcell xx.ok _ _ l2).trans F0
   have k2 := fun xx : Abv (fun v => Below w1.heap.size w1 v) => (bcell xx.ok _ _ l2).trans F1
   have k3 := fun xx : Abv (fun v => Below w1.heap.size w1 v) => (bcell xx.ok _ _ l2).trans F2
   clear am F0 F1 F2
   refine wp_region_abv (fun v => Below w1.heap.size w1 v) (by kernel_rfl) (by kernel_rfl) (drew_below (Below.refl _ _)) ?_
   repeat (go_big_quiet_step (first | (go_at_call 31; with_reducible exact TC _)))
   refine wpQuiet_nil ?_
   rintro w9 ⟨⟨w9, h9⟩, rfl⟩
   have H9 : Hid (Below w1.heap.size w1 w9) := h9
   clear h9 hne k0 k1 k2 k3
   go_wp2_with fail
   go_ret
   exact ⟨rfl, HB1.out.trans (H9.out.mono HB1.out.size)⟩
  ·have hc' : c = 1 := by
    rcases hc with h | h
    ·exact h.2
    ·exact absurd h.1.2 hk
   subst hc'
   rw [show belowB k l.length = false by simp only [belowB]; rw [← Bool.decide_and, decide_eq_false hk]] at IN
   clear hm hk hc
   go_enter Tryz.func11, Tryz.ntmps11
   go_wp2_with (first | (go_at_call 13; refine DM.mono ?_; rintro e w1 ⟨rfl, hb1⟩; have HB1 : Hid (Below w.heap.size w w1) := hB0.trans (hb1.mono (by simp)); have am := (bcell hb1 w.heap.size 0 (by simp)).trans ((cell_of_heap (heap_alloc_last _ _)).trans rfl); clear hb1) | (go_at_call 32; refine (IN _).mono ?_; rintro e w9 ⟨rfl, hw9⟩; rw [hw9]; clear hw9))
   go_ret
   exact ⟨rfl, HB1.out⟩
 ·have hm' : modB l = false := by simpa using hm
  have hc' : c = 1 := by
   rcases hc with h | h
   ·exact h.2
   ·exact absurd h.1.1 hm
  subst hc'
  rw [hm'] at DM
  clear hm hm' hc
  go_enter Tryz.func11, Tryz.ntmps11
  go_wp2_with (first | (go_at_call 13; refine DM.mono ?_; rintro e w1 ⟨rfl, hb1⟩; have HB1 : Hid (Below w.heap.size w w1) := hB0.trans (hb1.mono (by simp)); clear hb1))
  go_ret
  exact ⟨rfl, HB1.out⟩
set_option maxHeartbeats 4000000 in
set_option maxRecDepth 100000 in
theorem mcheckS (lo : Nat) (l : List FuncD) (pm : Option Addr) (cm : Nat) (c : Int) (w : World) (hsl : SmMod l) (kM : FuncsAt w lo pm l) (hc : MCode l c) :
  Calls Tryz.prog 9 #[.agg #[.slice pm l.length cm]] w fun e w' => e = .returned (.int .i64 c) ∧ Below w.heap.size w w' := by
 have hB0 : Below w.heap.size w (w.alloc (.cells #[.slice pm l.length cm] 26)) := (Below.refl _ _).alloc (Nat.le_refl _) _
 have DM := modShS lo l pm cm _ hsl (kM.keep (agree_of_below hB0 lo))
 have HSL : Hid (SmMod l) := hsl
 have HKM : Hid (FuncsAt w lo pm l) := kM
 have HC : Hid (MCode l c) := hc
 clear hsl kM hc
 by_cases hm : modB l = true
 ·have hl3 := mod_len hm
  have HM : Hid (modB l = true) := hm
  rw [hm] at DM
  clear hm
  go_enter Tryz.func9, Tryz.ntmps9
  go_wp2_with (first | (go_at_call 13; refine DM.mono ?_; rintro e w1 ⟨rfl, hb1⟩; have HX1 : Hid (Below (w.heap.size + 1) (w.alloc (.cells #[.slice pm l.length cm] 26)) w1) := hb1.mono (by simp); clear hb1 DM))
  go_loopw [3] (fun i wr => ∃ k : Nat, k ≤ l.length ∧ i = .int .i64 k ∧ Hid (∀ j, j < k → CodeF l (l.getD j func0) 0) ∧ Hid (Below (w.heap.size + 1) (w.alloc (.cells #[.slice pm l.length cm] 26)) wr)) (fun i _ => l.length - (intOf i).toNat)
  case atStart => exact ⟨0, by omega, rfl, fun j hj => by omega, HX1.out⟩
  case round =>
   obtain ⟨m, hk, rfl, HD, HX⟩ := hrel
   obtain ⟨w1, hwo⟩ : ∃ w1, w1 = wr := ⟨_, rfl⟩
   subst hwo
   clear HX1
   have HB1 : Hid (Below w.heap.size w w1) := below_box HX.out
   have hz1 : w.heap.size + 1 ≤ w1.heap.size := by have := HX.out.size; simp at this; omega
   have am : w1.cell? ⟨w.heap.size, 0, none⟩ = some (.slice pm l.length cm) := (cell_of_heap ((HX.out.block _ (by omega)).trans (heap_alloc_last _ _))).trans rfl
   by_cases hml : m < l.length
   ·obtain ⟨c1, hc1⟩ := code_some l (l.getD m func0)
    have HFm := mod_form HM.out hml
    have NO : Hid (CodeF l (l.getD m func0) c1 → c1 ≠ 0 → c1 = c) := fun h h2 => MCode.one (.inr ⟨HM.out, .inr ⟨m, hml, h2, h, HD.out⟩⟩) HC.out
    have YS : Hid (CodeF l (l.getD m func0) 0 → ∀ j, j < m + 1 → CodeF l (l.getD j func0) 0) := fun h j hj => by
     by_cases e : j = m
     ·subst e; exact h
     ·exact HD.out j (by omega)
    rcases HKM.out.2 with hn | ⟨fb, fo, hume, hflo, hfb', hfc⟩
    ·simp [hn] at hml
    subst hume
    obtain ⟨⟨g0, gq0, n0, nm0⟩, n1, ⟨g2, gq2, n2, nm2⟩⟩ := hfc m hml
    have hgs := HSL.out.2 _ (getD_mem func0 l m hml)
    generalize l.getD m func0 = g at n0 nm0 n1 n2 nm2 hgs HFm hc1 NO YS
    have HGS : Hid (SmFunc g) := hgs
    have HCC : Hid (CodeF l g c1) := hc1
    have HFF : Hid (Form l.length g) := HFm
    have HN : Hid (IntsAt w lo g0 g.params ∧ BlocksAt w lo g2 g.blocks) := ⟨nm0, nm2⟩
    have F0 := (bcell HB1.out _ _ hfb').trans n0
    have F1 := (bcell HB1.out _ _ hfb').trans n1
    have F2 := (bcell HB1.out _ _ hfb').trans n2
    have l1 : w.heap.size < w1.heap.size := by omega
    have l2 : fb < w1.heap.size := by have := HB1.out.size; omega
    clear hfc n0 n1 n2 nm0 nm2 hgs hc1 HFm HD
    by_cases hz : c1 = 0
    ·subst hz
     have TC := fun xx => codeAbv lo l g (some ⟨fb, fo, none⟩) cm g0 gq0 g2 gq2 0 w1 xx HSL.out HGS.out (HKM.out.keep (agree_of_below HB1.out _)) (HN.out.1.keep (agree_of_below HB1.out _)) (HN.out.2.keep (agree_of_below HB1.out _)) HFF.out HCC.out
     go_wp2_with fail
     have hne : Nonempty (Abv (fun v => Below w1.heap.size w1 v)) := abv_ne (Below.refl _ _)
     have k0 := fun xx : Abv (fun v => Below w1.heap.size w1 v) => (bcell xx.ok _ _ l1).trans am
     have k1 := fun xx : Abv (fun v => Below w1.heap.size w1 v) => (bcell xx.ok _ _ l2).trans F0
     have k2 := fun xx : Abv (fun v => Below w1.heap.size w1 v) => (bcell xx.ok _ _ l2).trans F1
     have k3 := fun xx : Abv (fun v => Below w1.heap.size w1 v) => (bcell xx.ok _ _ l2).trans F2
     clear am F0 F1 F2
     refine wp_region_abv (fun v => Below w1.heap.size w1 v) (by kernel_rfl) (by kernel_rfl) (drew_below (Below.refl _ _)) ?_
     repeat (go_big_quiet_step (first | (go_at_call 31; with_reducible exact TC _)))
     refine wpQuiet_nil ?_
     rintro w9 ⟨⟨w9, h9⟩, rfl⟩
     have H9 : Hid (Below w1.heap.size w1 w9) := h9
     clear h9 hne k0 k1 k2 k3
     go_wp2_with fail
     go_roundw
     case rel => exact ⟨m + 1, by omega, by go_num, YS.out HCC.out, HX.out.trans (H9.out.mono hz1)⟩
     case measure => simp [intOf]; omega
    ·have E : Hid (c1 = c) := NO.out HCC.out hz
     have TC := fun xx => codeAbv lo l g (some ⟨fb, fo, none⟩) cm g0 gq0 g2 gq2 c1 w1 xx HSL.out HGS.out (HKM.out.keep (agree_of_below HB1.out _)) (HN.out.1.keep (agree_of_below HB1.out _)) (HN.out.2.keep (agree_of_below HB1.out _)) HFF.out HCC.out
     go_wp2_with fail
     have hne : Nonempty (Abv (fun v => Below w1.heap.size w1 v)) := abv_ne (Below.refl _ _)
     have k0 := fun xx : Abv (fun v => Below w1.heap.size w1 v) => (bcell xx.ok _ _ l1).trans am
     have k1 := fun xx : Abv (fun v => Below w1.heap.size w1 v) => (bcell xx.ok _ _ l2).trans F0
     have k2 := fun xx : Abv (fun v => Below w1.heap.size w1 v) => (bcell xx.ok _ _ l2).trans F1
     have k3 := fun xx : Abv (fun v => Below w1.heap.size w1 v) => (bcell xx.ok _ _ l2).trans F2
     clear am F0 F1 F2
     refine wp_region_abv (fun v => Below w1.heap.size w1 v) (by kernel_rfl) (by kernel_rfl) (drew_below (Below.refl _ _)) ?_
     repeat (go_big_quiet_step (first | (go_at_call 31; with_reducible exact TC _)))
     refine wpQuiet_nil ?_
     rintro w9 ⟨⟨w9, h9⟩, rfl⟩
     have H9 : Hid (Below w1.heap.size w1 w9) := h9
     clear h9 hne k0 k1 k2 k3
     go_wp2_with fail
     go_ret
     exact ⟨ret_i E.out, HB1.out.trans (H9.out.mono HB1.out.size)⟩
   ·have E : Hid (0 = c) := MCode.one (.inr ⟨HM.out, .inl ⟨rfl, fun j hj => HD.out j (by omega)⟩⟩) HC.out
    clear HD
    go_wp2_with fail
    go_ret
    exact ⟨ret_i E.out, HB1.out⟩
 ·have hm' : modB l = false := by simpa using hm
  have E : Hid (1 = c) := MCode.one (.inl ⟨hm', rfl⟩) HC.out
  rw [hm'] at DM
  clear hm hm'
  go_enter Tryz.func9, Tryz.ntmps9
  go_wp2_with (first | (go_at_call 13; refine DM.mono ?_; rintro e w1 ⟨rfl, hb1⟩; have HB1 : Hid (Below w.heap.size w w1) := hB0.trans (hb1.mono (by simp)); clear hb1))
  go_ret
  exact ⟨ret_i E.out, HB1.out⟩
end Go.Proofs.YtgojlnclpebdcaaGreatDoor
namespace Go.Proofs.YtgojlnclpebdcaaGreatDoor
open Go.RowKit
set_option linter.unusedVariables false
set_option linter.unusedSimpArgs false
def RowE (w : World) (a : Addr) : Prop := ∃ ca ta, w.heap[a.block]? = some (.cells ca ta (0, 0))
theorem RowE.keep {w w' : World} {a : Addr} (h : RowE w a) (k : Below w.heap.size w w') : RowE w' a := by
 obtain ⟨ca, ta, h⟩ := h
 have hl : a.block < w.heap.size := by
  rcases Nat.lt_or_ge a.block w.heap.size with h2 | h2
  ·exact h2
  ·rw [Array.getElem?_eq_none h2] at h; cases h
 exact ⟨ca, ta, (k.block _ hl).trans h⟩
def ErrT (w : World) : Prop := Gv w 6 (.iface 151 (.agg #[.pointer (some ⟨7, 61, none⟩)]))
theorem ErrT.keep {w w' : World} (h : ErrT w) (k : Below w.heap.size w w') : ErrT w' := Gv.keep h k
structure Other (w : World) (aN a : Addr) : Prop where
 ne : a ≠ aN
 row : RowE w a
 rowN : RowE w aN
theorem Other.keep {w w' : World} {aN a : Addr} (h : Other w aN a) (k : Below w.heap.size w w') : Other w' aN a := ⟨h.ne, h.row.keep k, h.rowN.keep k⟩
structure Others (w : World) (aF aN aE aC aW aU : Addr) : Prop where
 f : Other w aN aF
 e : Other w aN aE
 c : Other w aN aC
 wd : Other w aN aW
 u : Other w aN aU
theorem Others.keep {w w' : World} {aF aN aE aC aW aU : Addr} (h : Others w aF aN aE aC aW aU) (k : Below w.heap.size w w') : Others w' aF aN aE aC aW aU := ⟨h.f.keep k, h.e.keep k, h.c.keep k, h.wd.keep k, h.u.keep k⟩
theorem isSame (c : Int) (aN : Addr) (w : World) : Calls Tryz.prog 28 #[refV c aN, errV aN] w fun e w' => e = .returned (.bool true) ∧ Below w.heap.size w w' := isI c aN aN w true (isInS c aN w)
theorem isOther (c : Int) (a aN : Addr) (w : World) (h : Other w aN a) : Calls Tryz.prog 28 #[refV c a, errV aN] w fun e w' => e = .returned (.bool false) ∧ Below w.heap.size w w' := by
 obtain ⟨ca, ta, h1⟩ := h.row
 obtain ⟨cb, tb, h2⟩ := h.rowN
 exact isI c a aN w false (isInO c a aN ca cb ta tb w h.ne h1 h2)
theorem codeR {l : List FuncD} {k c : Int} {aF aN aE aC aW aU : Addr} {v : Value} (hv : RefR l k aF aN aE aC aW aU v) (hc : FCode l k c) (w : World) (hg : ErrT w) :
  Calls Tryz.prog 29 #[v] w fun e w' => e = .returned (.int .i64 c) ∧ Below w.heap.size w w' := by
 rcases hv with ⟨h, rfl⟩ | ⟨h, h2, rfl⟩ | ⟨h, c1, h1, h2⟩
 ·have : c = 1 := hc.one (.inl ⟨fun x => (by rw [h] at x; cases x.1), rfl⟩)
  subst this
  exact codeI 1 aF w hg
 ·have : c = 1 := hc.one (.inl ⟨fun x => h2 x.2, rfl⟩)
  subst this
  exact codeI 1 aN w hg
 ·have : c = c1 := hc.one (.inr ⟨h, h1⟩)
  subst this
  rcases h2 with ⟨rfl, rfl⟩ | ⟨hn, a, _, rfl⟩
  ·exact codeNil w
  ·exact codeI c a w hg
set_option maxHeartbeats 4000000 in
theorem fcheckI (lo : Nat) (l : List FuncD) (pm : Option Addr) (cm : Nat) (k c : Int) (aF aN aE aC aW aU : Addr) (w : World) (hsl : SmMod l) (kM : FuncsAt w lo pm l) (hE : Errs w aF aN aE aC aW aU) (hg : ErrT w) (hc : FCode l k c) :
  Calls Tryz.prog 10 #[.agg #[.slice pm l.length cm], .int .i64 k] w fun e w' => e = .returned (.int .i64 c) ∧ Below w.heap.size w w' := by
 have hB0 : Below w.heap.size w (w.alloc (.cells #[.slice pm l.length cm] 26)) := (Below.refl _ _).alloc (Nat.le_refl _) _
 have RF := refI lo l pm cm k aF aN aE aC aW aU _ hsl (kM.keep (agree_of_below hB0 lo)) (hE.keep hB0)
 have HB0 : Hid (Below w.heap.size w (w.alloc (.cells #[.slice pm l.length cm] 26))) := hB0
 have HG : Hid (ErrT w) := hg
 have HC : Hid (FCode l k c) := hc
 clear hsl kM hE hg hc hB0
 go_enter Tryz.func10, Tryz.ntmps10
 go_wp2_with (first | (go_at_call 27; refine RF.mono ?_; rintro e w1 ⟨⟨v, rfl, hv⟩, hb1⟩; have HB1 : Hid (Below w.heap.size w w1) := HB0.out.trans (hb1.mono HB0.out.size); have CO := codeR hv HC.out w1 (HG.out.keep HB1.out); clear hv hb1 RF) | (go_at_call 29; refine CO.mono ?_; rintro e w2 ⟨rfl, hb2⟩; have HB2 : Hid (Below w.heap.size w w2) := HB1.out.trans (hb2.mono HB1.out.size); clear hb2 CO))
 go_ret
 exact ⟨rfl, HB2.out⟩
set_option maxHeartbeats 8000000 in
set_option maxRecDepth 100000 in
theorem mcheckI (lo : Nat) (l : List FuncD) (pm : Option Addr) (cm : Nat) (c : Int) (aF aN aE aC aW aU : Addr) (w : World) (hsl : SmMod l) (kM : FuncsAt w lo pm l) (hE : Errs w aF aN aE aC aW aU) (hO : Others w aF aN aE aC aW aU) (hg : ErrT w) (hc : MCode l c) :
  Calls Tryz.prog 7 #[.agg #[.slice pm l.length cm]] w fun e w' => e = .returned (.int .i64 c) ∧ Below w.heap.size w w' := by
 have HX1 : Hid (Below (w.heap.size + 1) (w.alloc (.cells #[.slice pm l.length cm] 26)) (w.alloc (.cells #[.slice pm l.length cm] 26))) := Below.refl _ _
 have RF := fun (k : Int) (W : World) (hW : Below w.heap.size w W) => refI lo l pm cm k aF aN aE aC aW aU W hsl (kM.keep (agree_of_below hW lo)) (hE.keep hW)
 have HRF : Hid (∀ (k : Int) (W : World) (hW : Below w.heap.size w W), _) := RF
 have HE : Hid (Errs w aF aN aE aC aW aU) := hE
 have HO : Hid (Others w aF aN aE aC aW aU) := hO
 have HG : Hid (ErrT w) := hg
 have HC : Hid (MCode l c) := hc
 have hlen : modB l = true → l.length ≤ 3 := fun h => (mod_len h).2
 have HL : Hid (modB l = true → l.length ≤ 3) := hlen
 clear hsl kM hE hg hc hO RF hlen
 go_enter Tryz.func7, Tryz.ntmps7
 go_wp2_with fail
 go_loopw [3] (fun i wr => ∃ j : Nat, j ≤ l.length ∧ i = .int .i64 j ∧ Hid (modB l = true ∨ j = 0) ∧ Hid (∀ j', j' < j → CodeF l (l.getD j' func0) 0) ∧ Hid (Below (w.heap.size + 1) (w.alloc (.cells #[.slice pm l.length cm] 26)) wr)) (fun i _ => l.length - (intOf i).toNat)
 case atStart => exact ⟨0, by omega, rfl, .inr rfl, fun j hj => by omega, HX1.out⟩
 case round =>
  obtain ⟨m, hk, rfl, HM, HD, HX⟩ := hrel
  obtain ⟨w1, hwo⟩ : ∃ w1, w1 = wr := ⟨_, rfl⟩
  subst hwo
  clear HX1
  have HB1 : Hid (Below w.heap.size w w1) := below_box HX.out
  have hz1 : w.heap.size + 1 ≤ w1.heap.size := by have := HX.out.size; simp at this; omega
  have am : w1.cell? ⟨w.heap.size, 0, none⟩ = some (.slice pm l.length cm) := (cell_of_heap ((HX.out.block _ (by omega)).trans (heap_alloc_last _ _))).trans rfl
  have gn := (HE.out.keep HB1.out).n.cell
  have RF := HRF.out m w1 HB1.out
  clear HRF
  go_wp2_with (first | (go_at_call 27; refine RF.mono ?_; rintro e w2 ⟨⟨v, rfl, hv⟩, hb2⟩; have HV : Hid (RefR l m aF aN aE aC aW aU v) := hv; have HB2 : Hid (Below w.heap.size w w2) := HB1.out.trans (hb2.mono HB1.out.size); have HX2 : Hid (Below (w.heap.size + 1) (w.alloc (.cells #[.slice pm l.length cm] 26)) w2) := HX.out.trans (hb2.mono hz1); have gn2 := (HE.out.keep HB2.out).n.cell; clear hv hb2 RF gn am))
  rcases HV.out with ⟨h, hv⟩ | ⟨h, h2, hv⟩ | ⟨h, c1, h1, ⟨hz, hv⟩ | ⟨hz, a, ha, hv⟩⟩
  ·subst hv
   have E : Hid (1 = c) := MCode.one (.inl ⟨h, rfl⟩) HC.out
   clear h HV HD HM
   refine (isOther 1 aF aN w2 (HO.out.keep HB2.out).f).mono ?_
   rintro e w3 ⟨rfl, hb3⟩
   have HB3 : Hid (Below w.heap.size w w3) := HB2.out.trans (hb3.mono HB2.out.size)
   have CO := codeI 1 aF w3 (HG.out.keep HB3.out)
   clear hb3 gn2
   unfold refV at CO ⊢
   go_wp2_with (go_at_call 29; refine CO.mono ?_; rintro e w4 ⟨rfl, hb4⟩; have HB4 : Hid (Below w.heap.size w w4) := HB3.out.trans (hb4.mono HB3.out.size); clear hb4 CO)
   go_ret
   exact ⟨ret_i E.out, HB4.out⟩
  ·subst hv
   have E : Hid (0 = c) := MCode.one (.inr ⟨h, .inl ⟨rfl, fun j hj => HD.out j (by omega)⟩⟩) HC.out
   clear h h2 HV HD HM
   refine (isSame 1 aN w2).mono ?_
   rintro e w3 ⟨rfl, hb3⟩
   have HB3 : Hid (Below w.heap.size w w3) := HB2.out.trans (hb3.mono HB2.out.size)
   clear hb3 gn2
   unfold refV
   go_wp2_with fail
   go_ret
   exact ⟨ret_i E.out, HB3.out⟩
  ·subst hv
   subst hz
   rw [Int.toNat_natCast] at h1
   have hml : m < l.length := by omega
   have hl3 := HL.out h.1
   have HM2 : Hid (modB l = true) := h.1
   have HD2 : Hid (∀ j', j' < m + 1 → CodeF l (l.getD j' func0) 0) := fun j hj => by
    by_cases e : j = m
    ·subst e; exact h1
    ·exact HD.out j (by omega)
   clear h h1 HV HD HM
   refine (isNilI aN w2).mono ?_
   rintro e w3 ⟨rfl, hw3⟩
   rw [hw3]
   clear hw3 gn2
   go_wp2_with fail
   go_roundw
   case rel => exact ⟨m + 1, by omega, by go_num, .inl HM2.out, HD2.out, HX2.out⟩
   case measure => simp [intOf]; omega
  ·subst hv
   rw [Int.toNat_natCast] at h1
   have hml : m < l.length := by omega
   have E : Hid (c1 = c) := MCode.one (.inr ⟨h.1, .inr ⟨m, hml, hz, h1, HD.out⟩⟩) HC.out
   have hO2 := HO.out.keep HB2.out
   have hOa : Other w2 aN a := by
    rcases ha with h9 | h9 | h9 | h9
    ·rw [h9]; exact hO2.e
    ·rw [h9]; exact hO2.c
    ·rw [h9]; exact hO2.wd
    ·rw [h9]; exact hO2.u
   clear h h1 HV HD HM ha hz hO2
   refine (isOther c1 a aN w2 hOa).mono ?_
   rintro e w3 ⟨rfl, hb3⟩
   have HB3 : Hid (Below w.heap.size w w3) := HB2.out.trans (hb3.mono HB2.out.size)
   have CO := codeI c1 a w3 (HG.out.keep HB3.out)
   clear hb3 gn2 hOa
   unfold refV at CO ⊢
   go_wp2_with (go_at_call 29; refine CO.mono ?_; rintro e w4 ⟨rfl, hb4⟩; have HB4 : Hid (Below w.heap.size w w4) := HB3.out.trans (hb4.mono HB3.out.size); clear hb4 CO)
   go_ret
   exact ⟨ret_i E.out, HB4.out⟩
end Go.Proofs.YtgojlnclpebdcaaGreatDoor
namespace Go.Proofs.YtgojlnclpebdcaaGreatDoor
open Go.ChangeShapes Go.WideShapes Go.RowKit
set_option linter.unusedVariables false
theorem gT : Tryz.prog.globalNamed "errors.errorType" = some 6 := by kernel_rfl
theorem gF : Tryz.prog.globalNamed "loop.example/g00457/impl.errForm" = some 1 := by kernel_rfl
theorem gN : Tryz.prog.globalNamed "loop.example/g00457/impl.errNoFunc" = some 0 := by kernel_rfl
theorem gE : Tryz.prog.globalNamed "loop.example/g00457/impl.errEntry" = some 2 := by kernel_rfl
theorem gC : Tryz.prog.globalNamed "loop.example/g00457/impl.errCount" = some 3 := by kernel_rfl
theorem gW : Tryz.prog.globalNamed "loop.example/g00457/impl.errWidth" = some 4 := by kernel_rfl
theorem gU : Tryz.prog.globalNamed "loop.example/g00457/impl.errUnseen" = some 5 := by kernel_rfl
theorem tF : (Tryz.prog.globals[1]?).map (·.type) = some 61 := by kernel_rfl
theorem tN : (Tryz.prog.globals[0]?).map (·.type) = some 61 := by kernel_rfl
theorem tE : (Tryz.prog.globals[2]?).map (·.type) = some 61 := by kernel_rfl
theorem tC : (Tryz.prog.globals[3]?).map (·.type) = some 61 := by kernel_rfl
theorem tW : (Tryz.prog.globals[4]?).map (·.type) = some 61 := by kernel_rfl
theorem tU : (Tryz.prog.globals[5]?).map (·.type) = some 61 := by kernel_rfl
theorem lcES : Tryz.prog.cellsOf 232 = 1 := by kernel_rfl
theorem lcS : Tryz.prog.cellsOf 9 = 1 := by kernel_rfl
theorem lstar : "*" ++ "errors.errorString" = "*errors.errorString" := by decide
theorem lrow (u : TypeId) (h : Tryz.prog.typeName? 3 u = some "*errors.errorString") : u = 212 :=
 typeName_ptr_named (nm := "errors.errorString") (by rw [lstar]; kernel_rfl) (by kernel_rfl) (by decide) u (by rw [lstar]; exact h)
theorem lrt : (Tryz.prog.cutTypes.find? (·.1 == "internal/reflectlite.rtype")).map (·.2) = some 151 := by kernel_rfl
theorem lone : ((List.range Tryz.prog.types.size).filter fun t => Tryz.prog.rowNamed t [101, 114, 114, 111, 114]) = [61] := by kernel_rfl
theorem lhd : typeHandle Tryz.prog 61 = .pointer (some ⟨7, 61, none⟩) := by kernel_rfl
theorem gv_of {W : World} {n : String} {g : Nat} {v : Value} (hg : Tryz.prog.globalNamed n = some g) (hv : W.var? Tryz.prog n = some #[v]) : Gv W g v := by
 have hc : W.cell? ⟨g, 0, none⟩ = some v := by simpa using World.var?_cell hg hv 0
 refine ⟨hc, ?_⟩
 rcases Nat.lt_or_ge g W.heap.size with h | h
 ·exact h
 ·simp [World.cell?, Array.getElem?_eq_none h] at hc
theorem var_below {W W' : World} {n : String} {g : Nat} {cs : Array Value} (hg : Tryz.prog.globalNamed n = some g) (h : W.var? Tryz.prog n = some cs) (k : Below W.heap.size W W') : W'.var? Tryz.prog n = some cs := by
 unfold World.var? at h ⊢
 simp only [hg, Option.bind_some] at h ⊢
 have hlt : g < W.heap.size := by
  rcases Nat.lt_or_ge g W.heap.size with h' | h'
  ·exact h'
  ·simp [Array.getElem?_eq_none h'] at h
 rw [k.block g hlt]
 exact h
theorem vars_cons {H : Type} (enc : TypeId × Value → H) {W : World} {n : String} {g : Nat} {x : Value} {ns : List String} {ds : List (DataW H)} {qs : List MemPlace} {sp : Nat → Bool}
  (hg : Tryz.prog.globalNamed n = some g) (ht : (Tryz.prog.globals[g]?).map (·.type) = some 61) (h : W.var? Tryz.prog n = some #[x]) (ix : IsIface x) (r : DataW.TrodVars enc Tryz.prog W sp ns ds qs) :
  DataW.TrodVars enc Tryz.prog W sp (n :: ns) (tok enc x :: ds) (.cell g 0 :: qs) :=
 ⟨g, 61, #[x], 1, [], qs, hg, ht, h, trod_held Tryz.underlying61 ix 0, r, rfl⟩
structure Laid6 (W : World) (aF aN aE aC aW aU : Addr) : Prop where
 f : W.var? Tryz.prog "loop.example/g00457/impl.errForm" = some #[errV aF]
 n : W.var? Tryz.prog "loop.example/g00457/impl.errNoFunc" = some #[errV aN]
 e : W.var? Tryz.prog "loop.example/g00457/impl.errEntry" = some #[errV aE]
 c : W.var? Tryz.prog "loop.example/g00457/impl.errCount" = some #[errV aC]
 wd : W.var? Tryz.prog "loop.example/g00457/impl.errWidth" = some #[errV aW]
 u : W.var? Tryz.prog "loop.example/g00457/impl.errUnseen" = some #[errV aU]
theorem Laid6.errs {W : World} {aF aN aE aC aW aU : Addr} (h : Laid6 W aF aN aE aC aW aU) : Errs W aF aN aE aC aW aU :=
 ⟨gv_of gF h.f, gv_of gN h.n, gv_of gE h.e, gv_of gC h.c, gv_of gW h.wd, gv_of gU h.u⟩
theorem Laid6.keep {W W' : World} {aF aN aE aC aW aU : Addr} (h : Laid6 W aF aN aE aC aW aU) (k : Below W.heap.size W W') : Laid6 W' aF aN aE aC aW aU :=
 ⟨var_below gF h.f k, var_below gN h.n k, var_below gE h.e k, var_below gC h.c k, var_below gW h.wd k, var_below gU h.u k⟩
theorem Laid6.readM {H : Type} (enc : TypeId × Value → H) {W : World} {aF aN aE aC aW aU : Addr} (h : Laid6 W aF aN aE aC aW aU) (sp : Nat → Bool) :
  DataW.TrodVars enc Tryz.prog W sp ["loop.example/g00457/impl.errNoFunc", "loop.example/g00457/impl.errForm", "loop.example/g00457/impl.errWidth", "loop.example/g00457/impl.errCount", "loop.example/g00457/impl.errEntry", "loop.example/g00457/impl.errUnseen"]
   [tok enc (errV aN), tok enc (errV aF), tok enc (errV aW), tok enc (errV aC), tok enc (errV aE), tok enc (errV aU)] [.cell 0 0, .cell 1 0, .cell 4 0, .cell 3 0, .cell 2 0, .cell 5 0] :=
 vars_cons enc gN tN h.n trivial (vars_cons enc gF tF h.f trivial (vars_cons enc gW tW h.wd trivial (vars_cons enc gC tC h.c trivial (vars_cons enc gE tE h.e trivial (vars_cons enc gU tU h.u trivial rfl)))))
theorem errT_of_laid {W : World} (h : laidMetH Tryz.prog Rows.fnCheckedRow.laid W) : ErrT W := by
 have h' : laidMet Tryz.prog [("loop.example/g00457/impl.errForm", Rows.laid_loop_example_g00457_impl_errForm), ("loop.example/g00457/impl.errNoFunc", Rows.laid_loop_example_g00457_impl_errNoFunc), ("loop.example/g00457/impl.errEntry", Rows.laid_loop_example_g00457_impl_errEntry), ("loop.example/g00457/impl.errCount", Rows.laid_loop_example_g00457_impl_errCount), ("loop.example/g00457/impl.errWidth", Rows.laid_loop_example_g00457_impl_errWidth), ("loop.example/g00457/impl.errUnseen", Rows.laid_loop_example_g00457_impl_errUnseen)] W ∧ handlesMet Tryz.prog [("errors.errorType", Rows.laid_errors_errorType)] W := h
 obtain ⟨name, u, ty, e1, e2, e3, e4, e5⟩ := h'.2 _ (List.mem_singleton.2 rfl)
 have en : name = [101, 114, 114, 111, 114] := (Option.some.inj e1).symm
 subst en
 obtain rfl := Option.some.inj (lrt.symm.trans e2)
 have hm : ty ∈ (List.range Tryz.prog.types.size).filter fun t => Tryz.prog.rowNamed t [101, 114, 114, 111, 114] := List.mem_filter.2 ⟨List.mem_range.2 e3, e4⟩
 rw [lone] at hm
 obtain rfl := List.mem_singleton.1 hm
 rw [lhd] at e5
 exact gv_of gT e5
set_option maxHeartbeats 4000000 in
set_option maxRecDepth 100000 in
theorem six_of_laid {W : World} (h : laidMetH Tryz.prog Rows.fnCheckedRow.laid W) : ∃ aF aN aE aC aW aU, Laid6 W aF aN aE aC aW aU ∧ Others W aF aN aE aC aW aU := by
 have h' : laidMet Tryz.prog [("loop.example/g00457/impl.errForm", Rows.laid_loop_example_g00457_impl_errForm), ("loop.example/g00457/impl.errNoFunc", Rows.laid_loop_example_g00457_impl_errNoFunc), ("loop.example/g00457/impl.errEntry", Rows.laid_loop_example_g00457_impl_errEntry), ("loop.example/g00457/impl.errCount", Rows.laid_loop_example_g00457_impl_errCount), ("loop.example/g00457/impl.errWidth", Rows.laid_loop_example_g00457_impl_errWidth), ("loop.example/g00457/impl.errUnseen", Rows.laid_loop_example_g00457_impl_errUnseen)] W ∧ handlesMet Tryz.prog [("errors.errorType", Rows.laid_errors_errorType)] W := h
 obtain ⟨ps, ⟨g0, t0, cs0, f0, p0, q0, hg0, ht0, hv0, hd0, ⟨g1, t1, cs1, f1, p1, q1, hg1, ht1, hv1, hd1, ⟨g2, t2, cs2, f2, p2, q2, hg2, ht2, hv2, hd2, ⟨g3, t3, cs3, f3, p3, q3, hg3, ht3, hv3, hd3, ⟨g4, t4, cs4, f4, p4, q4, hg4, ht4, hv4, hd4, ⟨g5, t5, cs5, f5, p5, q5, hg5, ht5, hv5, hd5, hq5, e5⟩, e4⟩, e3⟩, e2⟩, e1⟩, e0⟩, hnd, hrows⟩ := h'.1
 obtain rfl := Option.some.inj (gF.symm.trans hg0)
 obtain rfl := Option.some.inj (gN.symm.trans hg1)
 obtain rfl := Option.some.inj (gE.symm.trans hg2)
 obtain rfl := Option.some.inj (gC.symm.trans hg3)
 obtain rfl := Option.some.inj (gW.symm.trans hg4)
 obtain rfl := Option.some.inj (gU.symm.trans hg5)
 obtain rfl := Option.some.inj (tF.symm.trans ht0)
 obtain rfl := Option.some.inj (tN.symm.trans ht1)
 obtain rfl := Option.some.inj (tE.symm.trans ht2)
 obtain rfl := Option.some.inj (tC.symm.trans ht3)
 obtain rfl := Option.some.inj (tW.symm.trans ht4)
 obtain rfl := Option.some.inj (tU.symm.trans ht5)
 have hq5' : q5 = [] := hq5
 subst hq5'
 subst e5
 subst e4
 subst e3
 subst e2
 subst e1
 subst e0
 obtain ⟨l0⟩ := cs0
 obtain ⟨l1⟩ := cs1
 obtain ⟨l2⟩ := cs2
 obtain ⟨l3⟩ := cs3
 obtain ⟨l4⟩ := cs4
 obtain ⟨l5⟩ := cs5
 have ok0 : ∀ u v, l0 = [.iface u v] → Value.okWide Tryz.prog W .any 0 u v := fun u v e => by
  subst e
  exact (hrows 1 0 (by simp [MemPlace.row])).2 u v (by simpa using World.var?_cell hg0 hv0 0)
 have ok1 : ∀ u v, l1 = [.iface u v] → Value.okWide Tryz.prog W .any 0 u v := fun u v e => by
  subst e
  exact (hrows 0 0 (by simp [MemPlace.row])).2 u v (by simpa using World.var?_cell hg1 hv1 0)
 have ok2 : ∀ u v, l2 = [.iface u v] → Value.okWide Tryz.prog W .any 0 u v := fun u v e => by
  subst e
  exact (hrows 2 0 (by simp [MemPlace.row])).2 u v (by simpa using World.var?_cell hg2 hv2 0)
 have ok3 : ∀ u v, l3 = [.iface u v] → Value.okWide Tryz.prog W .any 0 u v := fun u v e => by
  subst e
  exact (hrows 3 0 (by simp [MemPlace.row])).2 u v (by simpa using World.var?_cell hg3 hv3 0)
 have ok4 : ∀ u v, l4 = [.iface u v] → Value.okWide Tryz.prog W .any 0 u v := fun u v e => by
  subst e
  exact (hrows 4 0 (by simp [MemPlace.row])).2 u v (by simpa using World.var?_cell hg4 hv4 0)
 have ok5 : ∀ u v, l5 = [.iface u v] → Value.okWide Tryz.prog W .any 0 u v := fun u v e => by
  subst e
  exact (hrows 5 0 (by simp [MemPlace.row])).2 u v (by simpa using World.var?_cell hg5 hv5 0)
 obtain ⟨a0, s0, rfl, hc0, hs0, hz0, rfl⟩ := errorString_of_trod Tryz.underlying61 lrow Tryz.underlying212 Tryz.underlying232 rfl rfl Tryz.underlying9 lcES lcS hd0 ok0
 obtain ⟨a1, s1, rfl, hc1, hs1, hz1, rfl⟩ := errorString_of_trod Tryz.underlying61 lrow Tryz.underlying212 Tryz.underlying232 rfl rfl Tryz.underlying9 lcES lcS hd1 ok1
 obtain ⟨a2, s2, rfl, hc2, hs2, hz2, rfl⟩ := errorString_of_trod Tryz.underlying61 lrow Tryz.underlying212 Tryz.underlying232 rfl rfl Tryz.underlying9 lcES lcS hd2 ok2
 obtain ⟨a3, s3, rfl, hc3, hs3, hz3, rfl⟩ := errorString_of_trod Tryz.underlying61 lrow Tryz.underlying212 Tryz.underlying232 rfl rfl Tryz.underlying9 lcES lcS hd3 ok3
 obtain ⟨a4, s4, rfl, hc4, hs4, hz4, rfl⟩ := errorString_of_trod Tryz.underlying61 lrow Tryz.underlying212 Tryz.underlying232 rfl rfl Tryz.underlying9 lcES lcS hd4 ok4
 obtain ⟨a5, s5, rfl, hc5, hs5, hz5, rfl⟩ := errorString_of_trod Tryz.underlying61 lrow Tryz.underlying212 Tryz.underlying232 rfl rfl Tryz.underlying9 lcES lcS hd5 ok5
 have b0 : RowE W a0 := (hrows a0.block a0.off (by simp [MemPlace.row])).1
 have b1 : RowE W a1 := (hrows a1.block a1.off (by simp [MemPlace.row])).1
 have b2 : RowE W a2 := (hrows a2.block a2.off (by simp [MemPlace.row])).1
 have b3 : RowE W a3 := (hrows a3.block a3.off (by simp [MemPlace.row])).1
 have b4 : RowE W a4 := (hrows a4.block a4.off (by simp [MemPlace.row])).1
 have b5 : RowE W a5 := (hrows a5.block a5.off (by simp [MemPlace.row])).1
 refine ⟨a0, a1, a2, a3, a4, a5, ⟨hv0, hv1, hv2, hv3, hv4, hv5⟩, ⟨⟨?_, b0, b1⟩, ⟨?_, b2, b1⟩, ⟨?_, b3, b1⟩, ⟨?_, b4, b1⟩, ⟨?_, b5, b1⟩⟩⟩
 ·rintro rfl
  simp [MemPlace.row] at hnd
 ·rintro rfl
  simp [MemPlace.row] at hnd
 ·rintro rfl
  simp [MemPlace.row] at hnd
 ·rintro rfl
  simp [MemPlace.row] at hnd
 ·rintro rfl
  simp [MemPlace.row] at hnd
theorem door_met (os : Os) (args : Array Value) : laidMetH Tryz.prog Rows.fnCheckedRow.laid ((World.doorLaid Tryz.prog 130 os).forCall (fun _ _ => 0) ⟨#[], args, []⟩).memory :=
 laidMetH_of_parts3 (fuel := 8) (laidMet_of_run' 8 (by kernel_rfl) (by kernel_rfl)) (by kernel_rfl) (by kernel_rfl)
end Go.Proofs.YtgojlnclpebdcaaGreatDoor
namespace Go.Proofs.YtgojlnclpebdcaaGreatDoor
open Go.RowKit
def Code (a0 : Option Addr) (len g : Nat) (w : World) : Prop :=
 len = 0 ∨ ∃ b off, a0 = some ⟨b, off, none⟩ ∧ b < g ∧ ∀ i, i < len → ∃ n : Int, 0 ≤ n ∧ n ≤ 255 ∧ w.cell? ⟨b, off + i, none⟩ = some (.int .u8 n)
def Rd (g : Nat) (a0 : Option Addr) (len cap : Nat) (w : World) : Prop :=
 g < w.heap.size ∧ len ≤ 1048576 ∧ Code a0 len g w ∧ ∃ p : Nat, p ≤ len ∧ w.heap[g]? = some (.cells #[.slice a0 len cap, .int .i64 p] 88 (0, 0))
theorem grown_trans {a b c : World} {r : Option Nat} (h : a.grownBy b r) (k : b.grownBy c r) : a.grownBy c r :=
 ⟨k.os.trans h.os, k.tape.trans h.tape, k.output.trans h.output, Nat.le_trans h.size k.size, fun i hi hn => (k.block i (Nat.lt_of_lt_of_le hi h.size) hn).trans (h.block i hi hn)⟩
theorem cell_blk {w w' : World} {b o : Nat} (h : w'.heap[b]? = w.heap[b]?) : w'.cell? ⟨b, o, none⟩ = w.cell? ⟨b, o, none⟩ := by
 unfold World.cell?; rw [h]
theorem Code.keep {a0 : Option Addr} {len g : Nat} {w w' : World} (h : Code a0 len g w) (hg : g < w.heap.size) (k : w.grownBy w' (some g)) : Code a0 len g w' := by
 rcases h with h | ⟨b, off, ha, hb, hc⟩
 ·exact .inl h
 ·refine .inr ⟨b, off, ha, hb, fun i hi => ?_⟩
  obtain ⟨n, h0, h1, h2⟩ := hc i hi
  exact ⟨n, h0, h1, by rw [cell_blk (k.block b (by omega) (by simp; omega))]; exact h2⟩
theorem set_block (w : World) (g : Nat) (x y v : Value) (t : TypeId) (h : w.heap[g]? = some (.cells #[x, y] t (0, 0))) : (w.setCell ⟨g, 1, none⟩ v).heap[g]? = some (.cells #[x, v] t (0, 0)) := by
 show (w.heap.modify g _)[g]? = _
 rw [Array.getElem?_modify, if_pos rfl, h]
 rfl
theorem set_grown (w : World) (g o : Nat) (v : Value) : w.grownBy (w.setCell ⟨g, o, none⟩ v) (some g) :=
 ⟨rfl, rfl, rfl, by simp [World.setCell], fun k _ hn => by
  simp only [World.setCell, Array.getElem?_modify]
  rw [if_neg (by intro e; exact hn (by rw [e]))]⟩
theorem rd_step {g : Nat} {a0 : Option Addr} {len cap p : Nat} {w : World} (hg : g < w.heap.size) (hl : len ≤ 1048576) (hc : Code a0 len g w) (hp : p < len)
  (hb : w.heap[g]? = some (.cells #[.slice a0 len cap, .int .i64 p] 88 (0, 0))) :
  Rd g a0 len cap (w.setCell ⟨g, 1, none⟩ (.int .i64 ((p : Int) + 1))) ∧ w.grownBy (w.setCell ⟨g, 1, none⟩ (.int .i64 ((p : Int) + 1))) (some g) := by
 have k := set_grown w g 1 (.int .i64 ((p : Int) + 1))
 have hs : g < (w.setCell ⟨g, 1, none⟩ (.int .i64 ((p : Int) + 1))).heap.size := Nat.lt_of_lt_of_le hg k.size
 exact ⟨⟨hs, hl, hc.keep hg k, p + 1, hp, set_block w g _ _ _ _ hb⟩, k⟩
set_option maxHeartbeats 400000 in
theorem next_any (g : Nat) (a0 : Option Addr) (len cap : Nat) (w : World) (h : Rd g a0 len cap w) :
  Calls Tryz.prog 75 #[.pointer (some ⟨g, 0, none⟩)] w fun e w' => ∃ n : Int, e = .returned (.int .i64 n) ∧ 0 ≤ n ∧ n ≤ 255 ∧ Rd g a0 len cap w' ∧ w.grownBy w' (some g) := by
 obtain ⟨hg, hl, hcode, p, hp, hblk⟩ := h
 have c0 : w.cell? ⟨g, 0, none⟩ = some (.slice a0 len cap) := by unfold World.cell?; rw [hblk]; rfl
 have c1 : w.cell? ⟨g, 1, none⟩ = some (.int .i64 p) := by unfold World.cell?; rw [hblk]; rfl
 have f1 : w.frozen? ⟨g, 1, none⟩ = false := by unfold World.frozen?; rw [hblk]; rfl
 have HB : Hid (w.heap[g]? = some (.cells #[.slice a0 len cap, .int .i64 p] 88 (0, 0))) := hblk
 have HC : Hid (Code a0 len g w) := hcode
 clear hblk
 by_cases hlt : p < len
 ·rcases hcode with hz | ⟨b, off, rfl, hb, hc⟩
  ·omega
  obtain ⟨n, h0, h1, hn⟩ := hc p hlt
  clear hc
  have d1 : decide (len ≤ p) = false := by simpa using hlt
  go_enter Tryz.func75, Tryz.ntmps75
  go_wp2
  go_quiet (fail)
  go_wp2
  go_quiet (fail)
  go_wp2
  go_ret
  have k := rd_step hg hl HC.out hlt HB.out
  exact ⟨n, rfl, h0, h1, k.1, ⟨k.2.os, k.2.tape, k.2.output, k.2.size, k.2.block⟩⟩
 ·clear hcode
  go_enter Tryz.func75, Tryz.ntmps75
  go_wp2
  go_quiet (fail)
  go_wp2
  go_ret
  exact ⟨0, rfl, by omega, by omega, ⟨hg, hl, HC.out, p, hp, HB.out⟩, ⟨rfl, rfl, rfl, Nat.le_refl _, fun _ _ _ => rfl⟩⟩
set_option maxHeartbeats 400000 in
theorem below_any (g : Nat) (a0 : Option Addr) (len cap : Nat) (m : Int) (w : World) (h : Rd g a0 len cap w) :
  Calls Tryz.prog 43 #[.pointer (some ⟨g, 0, none⟩), .int .i64 m] w fun e w' => ∃ n : Int, e = .returned (.int .i64 n) ∧ 0 ≤ n ∧ (n < m ∨ n = 0) ∧ Rd g a0 len cap w' ∧ w.grownBy w' (some g) := by
 by_cases h1 : m ≤ 1
 ·go_enter Tryz.func43, Tryz.ntmps43
  go_wp2_with fail
  go_ret
  exact ⟨0, rfl, by omega, .inr rfl, h, World.grownBy.refl _ _⟩
 ·by_cases h2 : m ≤ 256
  ·go_enter Tryz.func43, Tryz.ntmps43
   go_wp2_with (go_at_call 75; refine (next_any g a0 len cap _ (by assumption)).mono ?_; rintro e w1 ⟨n1, rfl, hn0, hn1, hr1, hg1⟩)
   go_ret
   exact ⟨_, rfl, Int.emod_nonneg _ (by omega), .inl (Int.emod_lt_of_pos _ (by omega)), by assumption, by assumption⟩
  ·go_enter Tryz.func43, Tryz.ntmps43
   go_wp2_with (go_at_call 75; refine (next_any g a0 len cap _ (by assumption)).mono ?_; rintro e w1 ⟨n1, rfl, hn0, hn1, hr1, hg1⟩)
   go_ret
   exact ⟨_, rfl, Int.emod_nonneg _ (by omega), .inl (Int.emod_lt_of_pos _ (by omega)), by assumption, grown_trans (by assumption) (by assumption)⟩
set_option maxHeartbeats 400000 in
theorem once_any (g : Nat) (a0 : Option Addr) (len cap : Nat) (m : Int) (w : World) (h : Rd g a0 len cap w) (hm : 1 ≤ m ∧ m ≤ 1000) :
  Calls Tryz.prog 24 #[.pointer (some ⟨g, 0, none⟩), .int .i64 m] w fun e w' => ∃ b : Bool, e = .returned (.bool b) ∧ Rd g a0 len cap w' ∧ w.grownBy w' (some g) := by
 go_enter Tryz.func24, Tryz.ntmps24
 go_wp2_with (go_at_call 43; refine (below_any g a0 len cap _ _ (by assumption)).mono ?_; rintro e w1 ⟨n1, rfl, hn0, hn1, hr1, hg1⟩)
 go_ret
 exact ⟨_, rfl, by assumption, by assumption⟩
theorem or_u64 (x y : Int) : 0 ≤ bits .or .u64 x y ∧ bits .or .u64 x y < 18446744073709551616 := by
 unfold bits; simp only [IntKind.wrap_u64]; omega
set_option maxHeartbeats 400000 in
theorem word_any (g : Nat) (a0 : Option Addr) (len cap : Nat) (w : World) (h : Rd g a0 len cap w) :
  Calls Tryz.prog 92 #[.pointer (some ⟨g, 0, none⟩)] w fun e w' => ∃ n : Int, e = .returned (.int .u64 n) ∧ 0 ≤ n ∧ n < 18446744073709551616 ∧ Rd g a0 len cap w' ∧ w.grownBy w' (some g) := by
 have HR : Hid (w.grownBy w (some g)) := World.grownBy.refl _ _
 go_enter Tryz.func92, Tryz.ntmps92
 go_wp2_with fail
 go_loopw [3, 4] (fun x i wr => ∃ (k : Nat) (n : Int), k ≤ 8 ∧ i = .int .i64 k ∧ x = .int .u64 n ∧ 0 ≤ n ∧ n < 18446744073709551616 ∧ Rd g a0 len cap wr ∧ w.grownBy wr (some g)) (fun _ i _ => 8 - (intOf i).toNat)
 case atStart => exact ⟨0, 0, by omega, rfl, rfl, by omega, by omega, h, HR.out⟩
 case round =>
  obtain ⟨k, n, hk, rfl, rfl, hn0, hn1, hr, hgr⟩ := hrel
  by_cases hlt : k < 8
  ·have HG : Hid (w.grownBy wr (some g)) := hgr
   clear hgr
   go_wp2_with (go_at_call 75; refine (next_any g a0 len cap _ (by assumption)).mono ?_; rintro e w1 ⟨n1, rfl, hm0, hm1, hr1, hg1⟩)
   go_roundw
   case rel => exact ⟨k + 1, _, by omega, by go_num, rfl, (or_u64 _ _).1, (or_u64 _ _).2, by assumption, grown_trans HG.out (by assumption)⟩
   case measure => simp [intOf]; omega
  ·go_wp2_with fail
   go_ret
   exact ⟨_, rfl, hn0, hn1, hr, hgr⟩
end Go.Proofs.YtgojlnclpebdcaaGreatDoor
