import Derived.Test.YtkpmiikafconmaaGreatDoorShelfJp
import Derived.Test.YtkpmiikafconmaaGreatDoorAbvJp
import Derived.Deep.RegionWith
import Derived.WalkSmall
import Derived.Shelf.Strings.SplitCore
import Derived.Lib.SplitLaws
import Derived.Lib.Join
import Derived.Lib.AppendIntMem
import Derived.Lib.Builder
import Derived.Shelf.Strings.Builder1
import Derived.Laws.World
import Derived.Laws.OwnMore
import Derived.Deep.DeepCutAuto
namespace Go.Proofs.YtkpmiikafconmaaGreatDoor
open Go.RowKit
set_option maxHeartbeats 4000000
set_option maxRecDepth 100000
set_option linter.unusedVariables false
set_option linter.unusedSimpArgs false
theorem sameInstL(lo lo':Nat)(d:InstD)(u:Option Addr)(c:Nat)(v:Option Addr)(q:Nat)(w:World)(hl:d.args.length≤1048576)(h:IntsAt w lo u d.args)(h':IntsAt w lo' v d.args) :
  Calls Tryz.prog 91 #[.agg #[.int .i64 d.op,.int .i64 d.w,.int .i64 d.a,.int .i64 d.b,.int .i64 d.c,.int .i64 d.imm,.slice u d.args.length c],.agg #[.int .i64 d.op,.int .i64 d.w,.int .i64 d.a,.int .i64 d.b,.int .i64 d.c,.int .i64 d.imm,.slice v d.args.length q]] w fun e w'=>e=.returned (.bool true)∧Below w.heap.size w w':=by
 have B1:Below w.heap.size w ((w.alloc (.cells #[.int .i64 d.op,.int .i64 d.w,.int .i64 d.a,.int .i64 d.b,.int .i64 d.c,.int .i64 d.imm,.slice u d.args.length c] 95)).alloc (.cells #[.int .i64 d.op,.int .i64 d.w,.int .i64 d.a,.int .i64 d.b,.int .i64 d.c,.int .i64 d.imm,.slice v d.args.length q] 95)):=((Below.refl _ _).alloc (Nat.le_refl _) _).alloc (by simp) _
 have P:=sameL lo lo' u v c q d.args _ hl (h.keep (zaB B1 _)) (h'.keep (zaB B1 _))
 have HB:Hid (Below w.heap.size w _):=B1
 clear B1 h h'
 go_enter Tryz.func91,Tryz.ntmps91
 go_wp2_with fail
 refine P.mono ?_
 rintro e w1 ⟨rfl,n,rfl⟩
 go_wp2_with fail
 go_ret
 exact⟨rfl,below_drewN HB.out n⟩
theorem sameLB(lo lo':Nat)(a b:Option Addr)(c c':Nat)(l:List Int)(w:World)(hl:l.length≤1048576)(h:IntsAt w lo a l)(h':IntsAt w lo' b l) :
  Calls Tryz.prog 55 #[.slice a l.length c,.slice b l.length c'] w fun e w'=>e=.returned (.bool true)∧Below w.heap.size w w' :=
 (sameL lo lo' a b c c' l w hl h h').mono fun e w' h=>by
  obtain⟨h1,n,rfl⟩:=h
  exact⟨h1,below_drewN (Below.refl _ _) n⟩
theorem sameBlockL(lo lo':Nat)(d:BlockD)(u0:Option Addr)(c0:Nat)(u1:Option Addr)(c1:Nat)(v0:Option Addr)(q0:Nat)(v1:Option Addr)(q1:Nat)(w:World)(hp:∀ p∈d.phis,p.ins.length≤1048576)(hy:∀ i∈d.insts,i.args.length≤1048576)(k0:PhisAt w lo u0 d.phis)(k1:InstsAt w lo u1 d.insts)(n0:PhisAt w lo' v0 d.phis)(n1:InstsAt w lo' v1 d.insts) :
  Calls Tryz.prog 56 #[.agg #[.slice u0 d.phis.length c0,.slice u1 d.insts.length c1,.int .i64 d.term.kind,.int .i64 d.term.a,.int .i64 d.term.x,.int .i64 d.term.y],.agg #[.slice v0 d.phis.length q0,.slice v1 d.insts.length q1,.int .i64 d.term.kind,.int .i64 d.term.a,.int .i64 d.term.x,.int .i64 d.term.y]] w fun e w'=>e=.returned (.bool true)∧Below w.heap.size w w':=by
 have B1:Below w.heap.size w ((w.alloc (.cells #[.slice u0 d.phis.length c0,.slice u1 d.insts.length c1,.int .i64 d.term.kind,.int .i64 d.term.a,.int .i64 d.term.x,.int .i64 d.term.y] 74)).alloc (.cells #[.slice v0 d.phis.length q0,.slice v1 d.insts.length q1,.int .i64 d.term.kind,.int .i64 d.term.a,.int .i64 d.term.x,.int .i64 d.term.y] 74)):=((Below.refl _ _).alloc (Nat.le_refl _) _).alloc (by simp) _
 have HA:Hid (At ((w.alloc (.cells #[.slice u0 d.phis.length c0,.slice u1 d.insts.length c1,.int .i64 d.term.kind,.int .i64 d.term.a,.int .i64 d.term.x,.int .i64 d.term.y] 74)).alloc (.cells #[.slice v0 d.phis.length q0,.slice v1 d.insts.length q1,.int .i64 d.term.kind,.int .i64 d.term.a,.int .i64 d.term.x,.int .i64 d.term.y] 74)) w.heap.size #[.slice u0 d.phis.length c0,.slice u1 d.insts.length c1,.int .i64 d.term.kind,.int .i64 d.term.a,.int .i64 d.term.x,.int .i64 d.term.y] 74):=(At.new w _ _).below ((Below.refl _ _).alloc (Nat.le_refl _) _)
 have HB:Hid (At ((w.alloc (.cells #[.slice u0 d.phis.length c0,.slice u1 d.insts.length c1,.int .i64 d.term.kind,.int .i64 d.term.a,.int .i64 d.term.x,.int .i64 d.term.y] 74)).alloc (.cells #[.slice v0 d.phis.length q0,.slice v1 d.insts.length q1,.int .i64 d.term.kind,.int .i64 d.term.a,.int .i64 d.term.x,.int .i64 d.term.y] 74)) (w.heap.size+1) #[.slice v0 d.phis.length q0,.slice v1 d.insts.length q1,.int .i64 d.term.kind,.int .i64 d.term.a,.int .i64 d.term.x,.int .i64 d.term.y] 74):=by
  have h:=At.new (w.alloc (.cells #[.slice u0 d.phis.length c0,.slice u1 d.insts.length c1,.int .i64 d.term.kind,.int .i64 d.term.a,.int .i64 d.term.x,.int .i64 d.term.y] 74)) #[.slice v0 d.phis.length q0,.slice v1 d.insts.length q1,.int .i64 d.term.kind,.int .i64 d.term.a,.int .i64 d.term.x,.int .i64 d.term.y] 74
  have e:(w.alloc (.cells #[.slice u0 d.phis.length c0,.slice u1 d.insts.length c1,.int .i64 d.term.kind,.int .i64 d.term.a,.int .i64 d.term.x,.int .i64 d.term.y] 74)).heap.size=w.heap.size+1:=by simp
  rw[e] at h
  exact h
 have hz:((w.alloc (.cells #[.slice u0 d.phis.length c0,.slice u1 d.insts.length c1,.int .i64 d.term.kind,.int .i64 d.term.a,.int .i64 d.term.x,.int .i64 d.term.y] 74)).alloc (.cells #[.slice v0 d.phis.length q0,.slice v1 d.insts.length q1,.int .i64 d.term.kind,.int .i64 d.term.a,.int .i64 d.term.x,.int .i64 d.term.y] 74)).heap.size=w.heap.size+2:=by simp
 have K0:Hid (PhisAt ((w.alloc (.cells #[.slice u0 d.phis.length c0,.slice u1 d.insts.length c1,.int .i64 d.term.kind,.int .i64 d.term.a,.int .i64 d.term.x,.int .i64 d.term.y] 74)).alloc (.cells #[.slice v0 d.phis.length q0,.slice v1 d.insts.length q1,.int .i64 d.term.kind,.int .i64 d.term.a,.int .i64 d.term.x,.int .i64 d.term.y] 74)) lo u0 d.phis):=k0.keep (zaB B1 _)
 have K1:Hid (InstsAt ((w.alloc (.cells #[.slice u0 d.phis.length c0,.slice u1 d.insts.length c1,.int .i64 d.term.kind,.int .i64 d.term.a,.int .i64 d.term.x,.int .i64 d.term.y] 74)).alloc (.cells #[.slice v0 d.phis.length q0,.slice v1 d.insts.length q1,.int .i64 d.term.kind,.int .i64 d.term.a,.int .i64 d.term.x,.int .i64 d.term.y] 74)) lo u1 d.insts):=k1.keep (zaB B1 _)
 have N0:Hid (PhisAt ((w.alloc (.cells #[.slice u0 d.phis.length c0,.slice u1 d.insts.length c1,.int .i64 d.term.kind,.int .i64 d.term.a,.int .i64 d.term.x,.int .i64 d.term.y] 74)).alloc (.cells #[.slice v0 d.phis.length q0,.slice v1 d.insts.length q1,.int .i64 d.term.kind,.int .i64 d.term.a,.int .i64 d.term.x,.int .i64 d.term.y] 74)) lo' v0 d.phis):=n0.keep (zaB B1 _)
 have N1:Hid (InstsAt ((w.alloc (.cells #[.slice u0 d.phis.length c0,.slice u1 d.insts.length c1,.int .i64 d.term.kind,.int .i64 d.term.a,.int .i64 d.term.x,.int .i64 d.term.y] 74)).alloc (.cells #[.slice v0 d.phis.length q0,.slice v1 d.insts.length q1,.int .i64 d.term.kind,.int .i64 d.term.a,.int .i64 d.term.x,.int .i64 d.term.y] 74)) lo' v1 d.insts):=n1.keep (zaB B1 _)
 have HW:Hid (Below w.heap.size w ((w.alloc (.cells #[.slice u0 d.phis.length c0,.slice u1 d.insts.length c1,.int .i64 d.term.kind,.int .i64 d.term.a,.int .i64 d.term.x,.int .i64 d.term.y] 74)).alloc (.cells #[.slice v0 d.phis.length q0,.slice v1 d.insts.length q1,.int .i64 d.term.kind,.int .i64 d.term.a,.int .i64 d.term.x,.int .i64 d.term.y] 74))):=B1
 clear B1 k0 k1 n0 n1
 go_enter Tryz.func56,Tryz.ntmps56
 go_wp2_with fail
 obtain⟨W2,hW2⟩:∃ W,((w.alloc (.cells #[.slice u0 d.phis.length c0,.slice u1 d.insts.length c1,.int .i64 d.term.kind,.int .i64 d.term.a,.int .i64 d.term.x,.int .i64 d.term.y] 74)).alloc (.cells #[.slice v0 d.phis.length q0,.slice v1 d.insts.length q1,.int .i64 d.term.kind,.int .i64 d.term.a,.int .i64 d.term.x,.int .i64 d.term.y] 74))=W:=⟨_,rfl⟩
 rw[hW2] at HA HB hz HW K0 K1 N0 N1 ⊢
 clear hW2
 go_loopw [5] (fun i wr=>∃ (k:Nat),k≤d.phis.length∧i=.int .i64 k∧Hid (Below W2.heap.size W2 wr)) (fun i _=>d.phis.length-(intOf i).toNat)
 case atStart=>exact⟨0,by omega,rfl,Below.refl _ _⟩
 case round =>
  obtain⟨k,hk,rfl,HR⟩:=hrel
  have xa:wr.cell? ⟨w.heap.size,0,none⟩=some (.slice u0 d.phis.length c0):=(zcB (HR.out.block w.heap.size (by omega))).trans (HA.out.cell 0)
  have xb:wr.cell? ⟨w.heap.size+1,0,none⟩=some (.slice v0 d.phis.length q0):=(zcB (HR.out.block (w.heap.size+1) (by omega))).trans (HB.out.cell 0)
  have hne:Nonempty (Abv (fun v=>Below W2.heap.size W2 v)):=abv_ne (Below.refl _ _)
  have za:∀ z:Abv (fun v=>Below W2.heap.size W2 v),z.v.cell? ⟨w.heap.size,0,none⟩=some (.slice u0 d.phis.length c0):=fun z=>(zcB (z.ok.block w.heap.size (by omega))).trans (HA.out.cell 0)
  have zb:∀ z:Abv (fun v=>Below W2.heap.size W2 v),z.v.cell? ⟨w.heap.size+1,0,none⟩=some (.slice v0 d.phis.length q0):=fun z=>(zcB (z.ok.block (w.heap.size+1) (by omega))).trans (HB.out.cell 0)
  by_cases hlt:k<d.phis.length
  ·have ha:=K0.out
   have hb:=N0.out
   rcases ha.2 with h|⟨ba,offa,rfl,hla,hba,hca⟩
   ·rw[h] at hlt
    simp at hlt
   rcases hb.2 with h|⟨bb,offb,rfl,hlb,hbb,hcb⟩
   ·rw[h] at hlt
    simp at hlt
   have hmem:d.phis.getD k phi0∈d.phis:=by
    rw[List.getD,List.getElem?_eq_getElem hlt]
    exact List.getElem_mem hlt
   obtain⟨hA0,⟨uA1,cA1,hA1,kA1⟩⟩:=hca k hlt
   obtain⟨hB0,⟨uB1,cB1,hB1,kB1⟩⟩:=hcb k hlt
   generalize d.phis.getD k phi0=x at hmem hA0 hA1 kA1 hB0 hB1 kB1
   have eA0:∀ z:Abv (fun v=>Below W2.heap.size W2 v),z.v.cell? ⟨ba,offa+k*2,none⟩=some (.int .i64 x.w):=fun z=>(zcB (z.ok.block ba hba)).trans hA0
   have eA1:∀ z:Abv (fun v=>Below W2.heap.size W2 v),z.v.cell? ⟨ba,offa+k*2+1,none⟩=some (.slice uA1 x.ins.length cA1):=fun z=>(zcB (z.ok.block ba hba)).trans hA1
   have eB0:∀ z:Abv (fun v=>Below W2.heap.size W2 v),z.v.cell? ⟨bb,offb+k*2,none⟩=some (.int .i64 x.w):=fun z=>(zcB (z.ok.block bb hbb)).trans hB0
   have eB1:∀ z:Abv (fun v=>Below W2.heap.size W2 v),z.v.cell? ⟨bb,offb+k*2+1,none⟩=some (.slice uB1 x.ins.length cB1):=fun z=>(zcB (z.ok.block bb hbb)).trans hB1
   have Ts:∀ z:Abv (fun v=>Below W2.heap.size W2 v),Calls Tryz.prog 55 #[.slice uA1 x.ins.length cA1,.slice uB1 x.ins.length cB1] z.v fun e w''=>e=.returned (.bool true)∧∃ y:Abv (fun v=>Below W2.heap.size W2 v),w''=y.v:=fun z=>(sameLB lo lo' _ _ _ _ _ _ (hp x hmem) (kA1.keep (zaB z.ok _)) (kB1.keep (zaB z.ok _))).mono fun e w' h=>⟨h.1,⟨w',z.ok.trans (h.2.mono z.ok.size)⟩,rfl⟩
   have hm:=ha.1
   clear ha hb hca hcb hA0 hA1 hB0 hB1 kA1 kB1
   go_wp2_with fail
   clear hz
   refine wp_region_abv (fun v=>Below W2.heap.size W2 v) (by kernel_rfl) (by kernel_rfl) (drew_below HR.out) ?_
   repeat (go_big_quiet_step (first|(go_at_call 55;with_reducible exact Ts _)))
   refine wpQuiet_nil ?_
   rintro w9 ⟨⟨w9,h9⟩,rfl⟩
   have H9:Hid (Below W2.heap.size W2 w9):=h9
   clear h9 za zb eA0 eA1 eB0 eB1 Ts
   go_wp2_with fail
   go_roundw
   case rel=>exact⟨k+1,by omega,by go_num,H9.out⟩
   case measure=>simp[intOf];omega
  ·go_wp2_with fail
   obtain⟨WS,hWS⟩:∃ W,W=wr:=⟨_,rfl⟩
   subst hWS
   have HS:Hid (Below W2.heap.size W2 WS):=HR.out
   clear HR
   go_loopw [6] (fun i wr=>∃ (k:Nat),k≤d.insts.length∧i=.int .i64 k∧Hid (Below W2.heap.size W2 wr)) (fun i _=>d.insts.length-(intOf i).toNat)
   case atStart=>exact⟨0,by omega,rfl,HS.out⟩
   case round =>
    obtain⟨k,hk,rfl,HR⟩:=hrel
    have xa:wr.cell? ⟨w.heap.size,1,none⟩=some (.slice u1 d.insts.length c1):=(zcB (HR.out.block w.heap.size (by omega))).trans (HA.out.cell 1)
    have xb:wr.cell? ⟨w.heap.size+1,1,none⟩=some (.slice v1 d.insts.length q1):=(zcB (HR.out.block (w.heap.size+1) (by omega))).trans (HB.out.cell 1)
    by_cases hlt:k<d.insts.length
    ·have ha:=K1.out
     have hb:=N1.out
     rcases ha.2 with h|⟨ba,offa,rfl,hla,hba,hca⟩
     ·rw[h] at hlt
      simp at hlt
     rcases hb.2 with h|⟨bb,offb,rfl,hlb,hbb,hcb⟩
     ·rw[h] at hlt
      simp at hlt
     have hmem:d.insts.getD k inst0∈d.insts:=by
      rw[List.getD,List.getElem?_eq_getElem hlt]
      exact List.getElem_mem hlt
     obtain⟨hA0,hA1,hA2,hA3,hA4,hA5,⟨uA6,cA6,hA6,kA6⟩⟩:=hca k hlt
     obtain⟨hB0,hB1,hB2,hB3,hB4,hB5,⟨uB6,cB6,hB6,kB6⟩⟩:=hcb k hlt
     generalize d.insts.getD k inst0=x at hmem hA0 hA1 hA2 hA3 hA4 hA5 hA6 kA6 hB0 hB1 hB2 hB3 hB4 hB5 hB6 kB6
     have eA0:wr.cell? ⟨ba,offa+k*7,none⟩=some (.int .i64 x.op):=(zcB (HR.out.block ba hba)).trans hA0
     have eA1:wr.cell? ⟨ba,offa+k*7+1,none⟩=some (.int .i64 x.w):=(zcB (HR.out.block ba hba)).trans hA1
     have eA2:wr.cell? ⟨ba,offa+k*7+2,none⟩=some (.int .i64 x.a):=(zcB (HR.out.block ba hba)).trans hA2
     have eA3:wr.cell? ⟨ba,offa+k*7+3,none⟩=some (.int .i64 x.b):=(zcB (HR.out.block ba hba)).trans hA3
     have eA4:wr.cell? ⟨ba,offa+k*7+4,none⟩=some (.int .i64 x.c):=(zcB (HR.out.block ba hba)).trans hA4
     have eA5:wr.cell? ⟨ba,offa+k*7+5,none⟩=some (.int .i64 x.imm):=(zcB (HR.out.block ba hba)).trans hA5
     have eA6:wr.cell? ⟨ba,offa+k*7+6,none⟩=some (.slice uA6 x.args.length cA6):=(zcB (HR.out.block ba hba)).trans hA6
     have mA6:=kA6.keep (zaB HR.out _)
     have eB0:wr.cell? ⟨bb,offb+k*7,none⟩=some (.int .i64 x.op):=(zcB (HR.out.block bb hbb)).trans hB0
     have eB1:wr.cell? ⟨bb,offb+k*7+1,none⟩=some (.int .i64 x.w):=(zcB (HR.out.block bb hbb)).trans hB1
     have eB2:wr.cell? ⟨bb,offb+k*7+2,none⟩=some (.int .i64 x.a):=(zcB (HR.out.block bb hbb)).trans hB2
     have eB3:wr.cell? ⟨bb,offb+k*7+3,none⟩=some (.int .i64 x.b):=(zcB (HR.out.block bb hbb)).trans hB3
     have eB4:wr.cell? ⟨bb,offb+k*7+4,none⟩=some (.int .i64 x.c):=(zcB (HR.out.block bb hbb)).trans hB4
     have eB5:wr.cell? ⟨bb,offb+k*7+5,none⟩=some (.int .i64 x.imm):=(zcB (HR.out.block bb hbb)).trans hB5
     have eB6:wr.cell? ⟨bb,offb+k*7+6,none⟩=some (.slice uB6 x.args.length cB6):=(zcB (HR.out.block bb hbb)).trans hB6
     have mB6:=kB6.keep (zaB HR.out _)
     have hl:=hy x hmem
     have hm:=ha.1
     clear ha hb hca hcb hA0 hA1 hA2 hA3 hA4 hA5 hA6 kA6 hB0 hB1 hB2 hB3 hB4 hB5 hB6 kB6
     go_wp2_with fail
     go_region_with (go_at_call 91;refine (sameInstL lo lo' x _ _ _ _ _ hl (by exact mA6) (by exact mB6)).mono ?_;rintro e w1 ⟨rfl,hb1⟩)
     all_goals
      go_wp2_with fail
      go_roundw
      case rel=>exact⟨k+1,by omega,by go_num,HR.out.drew.trans (hb1.mono HR.out.size)⟩
      case measure=>simp[intOf];omega
    ·go_wp2_with fail
     go_ret
     exact⟨rfl,HW.out.trans (HR.out.mono HW.out.size)⟩
theorem sameFuncL(lo lo':Nat)(d:FuncD)(u0:Option Addr)(c0:Nat)(u2:Option Addr)(c2:Nat)(v0:Option Addr)(q0:Nat)(v2:Option Addr)(q2:Nat)(w:World)(hq:d.params.length≤1048576)(hb0:∀ b∈d.blocks,(∀ p∈b.phis,p.ins.length≤1048576)∧∀ i∈b.insts,i.args.length≤1048576)(k0:IntsAt w lo u0 d.params)(k2:zBA w lo u2 d.blocks)(n0:IntsAt w lo' v0 d.params)(n2:zBA w lo' v2 d.blocks) :
  Calls Tryz.prog 27 #[.agg #[.slice u0 d.params.length c0,.int .i64 d.ret,.slice u2 d.blocks.length c2],.agg #[.slice v0 d.params.length q0,.int .i64 d.ret,.slice v2 d.blocks.length q2]] w fun e w'=>e=.returned (.bool true)∧Below w.heap.size w w':=by
 have B1:Below w.heap.size w ((w.alloc (.cells #[.slice u0 d.params.length c0,.int .i64 d.ret,.slice u2 d.blocks.length c2] 55)).alloc (.cells #[.slice v0 d.params.length q0,.int .i64 d.ret,.slice v2 d.blocks.length q2] 55)):=((Below.refl _ _).alloc (Nat.le_refl _) _).alloc (by simp) _
 have HA:Hid (At ((w.alloc (.cells #[.slice u0 d.params.length c0,.int .i64 d.ret,.slice u2 d.blocks.length c2] 55)).alloc (.cells #[.slice v0 d.params.length q0,.int .i64 d.ret,.slice v2 d.blocks.length q2] 55)) w.heap.size #[.slice u0 d.params.length c0,.int .i64 d.ret,.slice u2 d.blocks.length c2] 55):=(At.new w _ _).below ((Below.refl _ _).alloc (Nat.le_refl _) _)
 have HB:Hid (At ((w.alloc (.cells #[.slice u0 d.params.length c0,.int .i64 d.ret,.slice u2 d.blocks.length c2] 55)).alloc (.cells #[.slice v0 d.params.length q0,.int .i64 d.ret,.slice v2 d.blocks.length q2] 55)) (w.heap.size+1) #[.slice v0 d.params.length q0,.int .i64 d.ret,.slice v2 d.blocks.length q2] 55):=by
  have h:=At.new (w.alloc (.cells #[.slice u0 d.params.length c0,.int .i64 d.ret,.slice u2 d.blocks.length c2] 55)) #[.slice v0 d.params.length q0,.int .i64 d.ret,.slice v2 d.blocks.length q2] 55
  have e:(w.alloc (.cells #[.slice u0 d.params.length c0,.int .i64 d.ret,.slice u2 d.blocks.length c2] 55)).heap.size=w.heap.size+1:=by simp
  rw[e] at h
  exact h
 have hz:((w.alloc (.cells #[.slice u0 d.params.length c0,.int .i64 d.ret,.slice u2 d.blocks.length c2] 55)).alloc (.cells #[.slice v0 d.params.length q0,.int .i64 d.ret,.slice v2 d.blocks.length q2] 55)).heap.size=w.heap.size+2:=by simp
 have K0:Hid (IntsAt ((w.alloc (.cells #[.slice u0 d.params.length c0,.int .i64 d.ret,.slice u2 d.blocks.length c2] 55)).alloc (.cells #[.slice v0 d.params.length q0,.int .i64 d.ret,.slice v2 d.blocks.length q2] 55)) lo u0 d.params):=k0.keep (zaB B1 _)
 have K2:Hid (zBA ((w.alloc (.cells #[.slice u0 d.params.length c0,.int .i64 d.ret,.slice u2 d.blocks.length c2] 55)).alloc (.cells #[.slice v0 d.params.length q0,.int .i64 d.ret,.slice v2 d.blocks.length q2] 55)) lo u2 d.blocks):=k2.keep (zaB B1 _)
 have N0:Hid (IntsAt ((w.alloc (.cells #[.slice u0 d.params.length c0,.int .i64 d.ret,.slice u2 d.blocks.length c2] 55)).alloc (.cells #[.slice v0 d.params.length q0,.int .i64 d.ret,.slice v2 d.blocks.length q2] 55)) lo' v0 d.params):=n0.keep (zaB B1 _)
 have N2:Hid (zBA ((w.alloc (.cells #[.slice u0 d.params.length c0,.int .i64 d.ret,.slice u2 d.blocks.length c2] 55)).alloc (.cells #[.slice v0 d.params.length q0,.int .i64 d.ret,.slice v2 d.blocks.length q2] 55)) lo' v2 d.blocks):=n2.keep (zaB B1 _)
 have HW:Hid (Below w.heap.size w ((w.alloc (.cells #[.slice u0 d.params.length c0,.int .i64 d.ret,.slice u2 d.blocks.length c2] 55)).alloc (.cells #[.slice v0 d.params.length q0,.int .i64 d.ret,.slice v2 d.blocks.length q2] 55))):=B1
 clear B1 k0 k2 n0 n2
 go_enter Tryz.func27,Tryz.ntmps27
 have P:=sameLB lo lo' u0 v0 c0 q0 d.params _ hq K0.out N0.out
 go_wp2_with fail
 obtain⟨W2,hW2⟩:∃ W,((w.alloc (.cells #[.slice u0 d.params.length c0,.int .i64 d.ret,.slice u2 d.blocks.length c2] 55)).alloc (.cells #[.slice v0 d.params.length q0,.int .i64 d.ret,.slice v2 d.blocks.length q2] 55))=W:=⟨_,rfl⟩
 rw[hW2] at HA HB hz HW K0 K2 N0 N2 P ⊢
 clear hW2
 refine P.mono ?_
 rintro e WS ⟨rfl,hb1⟩
 have HS:Hid (Below W2.heap.size W2 WS):=hb1
 have xc:WS.cell? ⟨w.heap.size,1,none⟩=some (.int .i64 d.ret):=(zcB (HS.out.block w.heap.size (by omega))).trans (HA.out.cell 1)
 have xd:WS.cell? ⟨w.heap.size+1,1,none⟩=some (.int .i64 d.ret):=(zcB (HS.out.block (w.heap.size+1) (by omega))).trans (HB.out.cell 1)
 have xe:WS.cell? ⟨w.heap.size,2,none⟩=some (.slice u2 d.blocks.length c2):=(zcB (HS.out.block w.heap.size (by omega))).trans (HA.out.cell 2)
 have xf:WS.cell? ⟨w.heap.size+1,2,none⟩=some (.slice v2 d.blocks.length q2):=(zcB (HS.out.block (w.heap.size+1) (by omega))).trans (HB.out.cell 2)
 clear P hb1
 go_wp2_with fail
 clear xc xd xe xf
 go_loopw [5] (fun i wr=>∃ (k:Nat),k≤d.blocks.length∧i=.int .i64 k∧Hid (Below W2.heap.size W2 wr)) (fun i _=>d.blocks.length-(intOf i).toNat)
 case atStart=>exact⟨0,by omega,rfl,HS.out⟩
 case round =>
  obtain⟨k,hk,rfl,HR⟩:=hrel
  have xa:wr.cell? ⟨w.heap.size,2,none⟩=some (.slice u2 d.blocks.length c2):=(zcB (HR.out.block w.heap.size (by omega))).trans (HA.out.cell 2)
  have xb:wr.cell? ⟨w.heap.size+1,2,none⟩=some (.slice v2 d.blocks.length q2):=(zcB (HR.out.block (w.heap.size+1) (by omega))).trans (HB.out.cell 2)
  by_cases hlt:k<d.blocks.length
  ·have ha:=K2.out
   have hb:=N2.out
   rcases ha.2 with h|⟨ba,offa,rfl,hla,hba,hca⟩
   ·rw[h] at hlt
    simp at hlt
   rcases hb.2 with h|⟨bb,offb,rfl,hlb,hbb,hcb⟩
   ·rw[h] at hlt
    simp at hlt
   have hmem:d.blocks.getD k block0∈d.blocks:=by
    rw[List.getD,List.getElem?_eq_getElem hlt]
    exact List.getElem_mem hlt
   obtain⟨⟨uA0,cA0,hA0,kA0⟩,⟨uA1,cA1,hA1,kA1⟩,hA2,hA3,hA4,hA5⟩:=hca k hlt
   obtain⟨⟨uB0,cB0,hB0,kB0⟩,⟨uB1,cB1,hB1,kB1⟩,hB2,hB3,hB4,hB5⟩:=hcb k hlt
   generalize d.blocks.getD k block0=x at hmem hA0 kA0 hA1 kA1 hA2 hA3 hA4 hA5 hB0 kB0 hB1 kB1 hB2 hB3 hB4 hB5
   have eA0:wr.cell? ⟨ba,offa+k*6,none⟩=some (.slice uA0 x.phis.length cA0):=(zcB (HR.out.block ba hba)).trans hA0
   have mA0:=kA0.keep (zaB HR.out _)
   have eA1:wr.cell? ⟨ba,offa+k*6+1,none⟩=some (.slice uA1 x.insts.length cA1):=(zcB (HR.out.block ba hba)).trans hA1
   have mA1:=kA1.keep (zaB HR.out _)
   have eA2:wr.cell? ⟨ba,offa+k*6+2,none⟩=some (.int .i64 x.term.kind):=(zcB (HR.out.block ba hba)).trans hA2
   have eA3:wr.cell? ⟨ba,offa+k*6+3,none⟩=some (.int .i64 x.term.a):=(zcB (HR.out.block ba hba)).trans hA3
   have eA4:wr.cell? ⟨ba,offa+k*6+4,none⟩=some (.int .i64 x.term.x):=(zcB (HR.out.block ba hba)).trans hA4
   have eA5:wr.cell? ⟨ba,offa+k*6+5,none⟩=some (.int .i64 x.term.y):=(zcB (HR.out.block ba hba)).trans hA5
   have eB0:wr.cell? ⟨bb,offb+k*6,none⟩=some (.slice uB0 x.phis.length cB0):=(zcB (HR.out.block bb hbb)).trans hB0
   have mB0:=kB0.keep (zaB HR.out _)
   have eB1:wr.cell? ⟨bb,offb+k*6+1,none⟩=some (.slice uB1 x.insts.length cB1):=(zcB (HR.out.block bb hbb)).trans hB1
   have mB1:=kB1.keep (zaB HR.out _)
   have eB2:wr.cell? ⟨bb,offb+k*6+2,none⟩=some (.int .i64 x.term.kind):=(zcB (HR.out.block bb hbb)).trans hB2
   have eB3:wr.cell? ⟨bb,offb+k*6+3,none⟩=some (.int .i64 x.term.a):=(zcB (HR.out.block bb hbb)).trans hB3
   have eB4:wr.cell? ⟨bb,offb+k*6+4,none⟩=some (.int .i64 x.term.x):=(zcB (HR.out.block bb hbb)).trans hB4
   have eB5:wr.cell? ⟨bb,offb+k*6+5,none⟩=some (.int .i64 x.term.y):=(zcB (HR.out.block bb hbb)).trans hB5
   have hl:=hb0 x hmem
   have hm:=ha.1
   clear ha hb hca hcb hA0 kA0 hA1 kA1 hA2 hA3 hA4 hA5 hB0 kB0 hB1 kB1 hB2 hB3 hB4 hB5
   go_wp2_with fail
   go_region_with (go_at_call 56;refine (sameBlockL lo lo' x _ _ _ _ _ _ _ _ _ hl.1 hl.2 (by exact mA0) (by exact mA1) (by exact mB0) (by exact mB1)).mono ?_;rintro e w1 ⟨rfl,hb1⟩)
   all_goals
    go_wp2_with fail
    go_roundw
    case rel=>exact⟨k+1,by omega,by go_num,HR.out.drew.trans (hb1.mono HR.out.size)⟩
    case measure=>simp[intOf];omega
  ·go_wp2_with fail
   go_ret
   exact⟨rfl,HW.out.trans (HR.out.mono HW.out.size)⟩
theorem sameModuleL(lo lo':Nat)(l:List FuncD)(u0:Option Addr)(c0:Nat)(v0:Option Addr)(q0:Nat)(w:World)(hf:∀ d∈l,d.params.length≤1048576∧∀ b∈d.blocks,(∀ p∈b.phis,p.ins.length≤1048576)∧∀ i∈b.insts,i.args.length≤1048576)(k0:zFA w lo u0 l)(n0:zFA w lo' v0 l) :
  Calls Tryz.prog 10 #[.agg #[.slice u0 l.length c0],.agg #[.slice v0 l.length q0]] w fun e w'=>e=.returned (.bool true)∧Below w.heap.size w w':=by
 have B1:Below w.heap.size w ((w.alloc (.cells #[.slice u0 l.length c0] 26)).alloc (.cells #[.slice v0 l.length q0] 26)):=((Below.refl _ _).alloc (Nat.le_refl _) _).alloc (by simp) _
 have HA:Hid (At ((w.alloc (.cells #[.slice u0 l.length c0] 26)).alloc (.cells #[.slice v0 l.length q0] 26)) w.heap.size #[.slice u0 l.length c0] 26):=(At.new w _ _).below ((Below.refl _ _).alloc (Nat.le_refl _) _)
 have HB:Hid (At ((w.alloc (.cells #[.slice u0 l.length c0] 26)).alloc (.cells #[.slice v0 l.length q0] 26)) (w.heap.size+1) #[.slice v0 l.length q0] 26):=by
  have h:=At.new (w.alloc (.cells #[.slice u0 l.length c0] 26)) #[.slice v0 l.length q0] 26
  have e:(w.alloc (.cells #[.slice u0 l.length c0] 26)).heap.size=w.heap.size+1:=by simp
  rw[e] at h
  exact h
 have hz:((w.alloc (.cells #[.slice u0 l.length c0] 26)).alloc (.cells #[.slice v0 l.length q0] 26)).heap.size=w.heap.size+2:=by simp
 have K0:Hid (zFA ((w.alloc (.cells #[.slice u0 l.length c0] 26)).alloc (.cells #[.slice v0 l.length q0] 26)) lo u0 l):=k0.keep (zaB B1 _)
 have N0:Hid (zFA ((w.alloc (.cells #[.slice u0 l.length c0] 26)).alloc (.cells #[.slice v0 l.length q0] 26)) lo' v0 l):=n0.keep (zaB B1 _)
 have HW:Hid (Below w.heap.size w ((w.alloc (.cells #[.slice u0 l.length c0] 26)).alloc (.cells #[.slice v0 l.length q0] 26))):=B1
 clear B1 k0 n0
 go_enter Tryz.func10,Tryz.ntmps10
 go_wp2_with fail
 obtain⟨W2,hW2⟩:∃ W,((w.alloc (.cells #[.slice u0 l.length c0] 26)).alloc (.cells #[.slice v0 l.length q0] 26))=W:=⟨_,rfl⟩
 rw[hW2] at HA HB hz HW K0 N0 ⊢
 clear hW2
 go_loopw [5] (fun i wr=>∃ (k:Nat),k≤l.length∧i=.int .i64 k∧Hid (Below W2.heap.size W2 wr)) (fun i _=>l.length-(intOf i).toNat)
 case atStart=>exact⟨0,by omega,rfl,Below.refl _ _⟩
 case round =>
  obtain⟨k,hk,rfl,HR⟩:=hrel
  have xa:wr.cell? ⟨w.heap.size,0,none⟩=some (.slice u0 l.length c0):=(zcB (HR.out.block w.heap.size (by omega))).trans (HA.out.cell 0)
  have xb:wr.cell? ⟨w.heap.size+1,0,none⟩=some (.slice v0 l.length q0):=(zcB (HR.out.block (w.heap.size+1) (by omega))).trans (HB.out.cell 0)
  by_cases hlt:k<l.length
  ·have ha:=K0.out
   have hb:=N0.out
   rcases ha.2 with h|⟨ba,offa,rfl,hla,hba,hca⟩
   ·rw[h] at hlt
    simp at hlt
   rcases hb.2 with h|⟨bb,offb,rfl,hlb,hbb,hcb⟩
   ·rw[h] at hlt
    simp at hlt
   have hmem:l.getD k func0∈l:=by
    rw[List.getD,List.getElem?_eq_getElem hlt]
    exact List.getElem_mem hlt
   obtain⟨⟨uA0,cA0,hA0,kA0⟩,hA1,⟨uA2,cA2,hA2,kA2⟩⟩:=hca k hlt
   obtain⟨⟨uB0,cB0,hB0,kB0⟩,hB1,⟨uB2,cB2,hB2,kB2⟩⟩:=hcb k hlt
   generalize l.getD k func0=x at hmem hA0 kA0 hA1 hA2 kA2 hB0 kB0 hB1 hB2 kB2
   have eA0:wr.cell? ⟨ba,offa+k*3,none⟩=some (.slice uA0 x.params.length cA0):=(zcB (HR.out.block ba hba)).trans hA0
   have mA0:=kA0.keep (zaB HR.out _)
   have eA1:wr.cell? ⟨ba,offa+k*3+1,none⟩=some (.int .i64 x.ret):=(zcB (HR.out.block ba hba)).trans hA1
   have eA2:wr.cell? ⟨ba,offa+k*3+2,none⟩=some (.slice uA2 x.blocks.length cA2):=(zcB (HR.out.block ba hba)).trans hA2
   have mA2:=kA2.keep (zaB HR.out _)
   have eB0:wr.cell? ⟨bb,offb+k*3,none⟩=some (.slice uB0 x.params.length cB0):=(zcB (HR.out.block bb hbb)).trans hB0
   have mB0:=kB0.keep (zaB HR.out _)
   have eB1:wr.cell? ⟨bb,offb+k*3+1,none⟩=some (.int .i64 x.ret):=(zcB (HR.out.block bb hbb)).trans hB1
   have eB2:wr.cell? ⟨bb,offb+k*3+2,none⟩=some (.slice uB2 x.blocks.length cB2):=(zcB (HR.out.block bb hbb)).trans hB2
   have mB2:=kB2.keep (zaB HR.out _)
   have hl:=hf x hmem
   have hm:=ha.1
   clear ha hb hca hcb hA0 kA0 hA1 hA2 kA2 hB0 kB0 hB1 hB2 kB2
   go_wp2_with fail
   go_region_with (go_at_call 27;refine (sameFuncL lo lo' x _ _ _ _ _ _ _ _ _ hl.1 hl.2 (by exact mA0) (by exact mA2) (by exact mB0) (by exact mB2)).mono ?_;rintro e w1 ⟨rfl,hb1⟩)
   all_goals
    go_wp2_with fail
    go_roundw
    case rel=>exact⟨k+1,by omega,by go_num,HR.out.drew.trans (hb1.mono HR.out.size)⟩
    case measure=>simp[intOf];omega
  ·go_wp2_with fail
   go_ret
   exact⟨rfl,HW.out.trans (HR.out.mono HW.out.size)⟩
set_option maxHeartbeats 1000000
theorem str_ne{a b:ByteArray}(h:¬a=b):(a.toList==b.toList)=false:=by
 rw[ByteArray.toList_eq,ByteArray.toList_eq,beq_eq_false_iff_ne]
 exact fun e=>h (ByteArray.ext (Array.toList_inj.1 e))
def blank:ByteArray:=⟨#[32]⟩
def pieces(s:ByteArray):List ByteArray:=Lib.splitB blank 0 (Lib.countB s blank) s
theorem pieces_len(s:ByteArray):(pieces s).length=Lib.countB s blank+1:=Lib.splitB_all blank (by decide) 0 _ s rfl
theorem count_size(s:ByteArray):Lib.countB s blank≤s.size:=Lib.countB_le blank (by decide) s.size s (Nat.le_refl _)
theorem pieces_miss{s:ByteArray}(h:Lib.indexB s blank=-1):pieces s=[s]:=Lib.splitB_miss blank 0 _ s h
theorem pieces_hit{s:ByteArray}{i:Nat}(h:Lib.indexB s blank=i):pieces s=s.extract 0 i :: pieces (s.extract (i+1) s.size):=by
 unfold pieces
 rw[Lib.countB_hit s blank i (by decide) h,Nat.add_comm 1,Lib.splitB_hit blank 0 _ s i h]
 rfl
theorem splitI(s:ByteArray)(w:World)(hs:s.size<4294967281) :
  Calls Tryz.prog 46 #[.string s,.string blank] w fun e w'=>e=.returned (.slice (some ⟨w.heap.size,0,none⟩) (pieces s).length (pieces s).length)∧w'=w.alloc (.cells ((pieces s).map Value.string).toArray 9):=by
 have hle:=count_size s
 have hI:∀ (x:ByteArray) (c:Array Value),x.size≤s.size→Calls Tryz.prog 120 #[.string x,.string blank] (w.alloc (.cells c 9)) fun e w'=>e=.returned (.int .i64 (Lib.indexB x blank))∧w'=w.alloc (.cells c 9):=fun x c _=>by
  refine (Tryz.strings_Index_one x 32 _).mono fun e w' h=>?_
  rw[←Lib.index_one] at h
  exact h
 have hC:Calls Tryz.prog 119 #[.string s,.string blank] w fun e w'=>e=.returned (.int .i64 (Lib.countB s blank))∧w'=w:=by
  refine (Tryz.strings_Count_one s 32 w).mono fun e w' h=>?_
  have e2:Lib.countB s blank=Lib.countByte s.data.toList 32:=Lib.count_one 32 _
  rw[e2]
  exact h
 have G:=Any.strings_genSplit_core Tryz.lays221 (by kernel_rfl) s blank 0 (-1) (Lib.countB s blank+1) w hs (by decide) (by decide) hI hC (by decide) (by decide) (by rw[if_pos (by decide)];omega)
 rw[Nat.add_sub_cancel] at G
 have e2:Lib.cellsOf (Lib.splitB blank 0 (Lib.countB s blank) s) (Lib.countB s blank+1)=((pieces s).map Value.string).toArray:=by rw[←pieces_len s];exact Lib.cellsOf_full _
 rw[e2,show (Lib.splitB blank 0 (Lib.countB s blank) s)=pieces s from rfl,←pieces_len s] at G
 have G2:Calls Tryz.prog 79 #[.string s,.string blank,.int .i64 0,.int .i64 (-1)] w fun e w'=>e=.returned (.slice (some ⟨w.heap.size,0,none⟩) (pieces s).length (pieces s).length)∧w'=w.alloc (.cells ((pieces s).map Value.string).toArray 9):=G
 clear G hI hC e2 hle
 generalize pieces s=P at G2 ⊢
 go_enter Tryz.func46,Tryz.ntmps46
 go_wp2_with (go_at_call 79;refine G2.mono ?_;rintro e w8 ⟨rfl,h9⟩;subst h9)
 go_ret
 exact⟨rfl,rfl⟩
theorem idx_byte(s:ByteArray):Lib.indexB s blank=Lib.indexByte s.data.toList 32:=Lib.index_one _ 32
theorem join_more(x y:List UInt8)(r:List (List UInt8)):Lib.join (x :: y :: r) [32]=x++32 :: Lib.join (y :: r) [32]:=by
 simp[Lib.join,List.intercalate,List.intersperse]
theorem idx_none:∀ l:List UInt8,(32:UInt8) ∉ l→Lib.indexByte l 32=-1
 | [],_=>rfl
 | b :: l,h=>by
  unfold Lib.indexByte
  rw[if_neg (by simp at h ⊢;exact fun e=>h.1 e.symm),idx_none l (fun h'=>h (by simp[h']))]
  rfl
theorem idx_at:∀ x r:List UInt8,(32:UInt8) ∉ x→Lib.indexByte (x++32 :: r) 32=(x.length:Int)
 | [],r,_=>by unfold Lib.indexByte;simp
 | b :: x,r,h=>by
  have e:=idx_at x r (fun h'=>h (by simp[h']))
  show Lib.indexByte (b :: (x++32 :: r)) 32=_
  unfold Lib.indexByte
  rw[if_neg (by simp at h ⊢;exact fun e=>h.1 e.symm),e,if_neg (by simp<;>omega)]
  simp
theorem ext_data(s:ByteArray)(i j:Nat):(s.extract i j).data.toList=(s.data.toList.drop i).take (j-i):=by
 simp[ByteArray.data_extract,List.extract_eq_take_drop]
theorem ba_ext{a b:ByteArray}(h:a.data.toList=b.data.toList):a=b:=ByteArray.ext (Array.toList_inj.1 h)
theorem size_data(s:ByteArray):s.size=s.data.toList.length:=rfl
theorem pieces_join:∀ ws:List ByteArray,ws≠[]→(∀ x∈ws,(32:UInt8) ∉ x.data.toList)→∀ s:ByteArray,s.data.toList=Lib.join (ws.map (·.data.toList)) [32]→pieces s=ws
 | [],h,_,_,_=>absurd rfl h
 | [x],_,hx,s,hs=>by
  have e:s=x:=ba_ext (by rw[hs];exact Lib.join_one _ _)
  subst e
  exact pieces_miss (by rw[idx_byte];exact idx_none _ (hx s (by simp)))
 | x :: y :: r,_,hx,s,hs=>by
  have hs2:s.data.toList=x.data.toList++32 :: Lib.join ((y :: r).map (·.data.toList)) [32]:=by rw[hs];exact join_more _ _ _
  have hi:Lib.indexB s blank=(x.data.toList.length:Int):=by rw[idx_byte,hs2];exact idx_at _ _ (hx x (by simp))
  rw[pieces_hit hi]
  congr 1
  ·exact ba_ext (by rw[ext_data,hs2];simp)
  ·refine pieces_join (y :: r) (by simp) (fun z hz=>hx z (by simp at hz ⊢;exact .inr hz)) _ ?_
   rw[ext_data,size_data s,hs2]
   simp
   rw[←List.drop_drop]
   simp
   exact List.take_of_length_le (by omega)
theorem join_pieces:∀ (n:Nat) (s:ByteArray),s.size≤n→Lib.join ((pieces s).map (·.data.toList)) [32]=s.data.toList:=by
 intro n
 induction n with
 | zero =>
  intro s hs
  have e:s=⟨#[]⟩:=ba_ext (by rw[size_data] at hs;exact List.eq_nil_of_length_eq_zero (by omega))
  subst e
  rw[pieces_miss (by decide)]
  exact Lib.join_one _ _
 | succ n ih =>
  intro s hs
  by_cases h:Lib.indexB s blank=-1
  ·rw[pieces_miss h];exact Lib.join_one _ _
  ·have hge:=Lib.indexByte_ge s.data.toList 32
   rw[←idx_byte] at hge
   obtain⟨i,hi⟩:∃ i:Nat,Lib.indexB s blank=i:=⟨(Lib.indexB s blank).toNat,by omega⟩
   obtain⟨hat,_⟩:=Lib.indexByte_some ((idx_byte s).symm.trans hi)
   have hil:=(List.getElem?_eq_some_iff.1 hat).1
   have hil2:=hil
   rw[←size_data] at hil2
   rw[pieces_hit hi]
   have hr:=ih (s.extract (i+1) s.size) (by rw[ByteArray.size_extract];omega)
   have hne:pieces (s.extract (i+1) s.size)≠[]:=fun e=>by
    have:=pieces_len (s.extract (i+1) s.size)
    rw[e] at this;simp at this
   obtain⟨y,r,hyr⟩:=List.exists_cons_of_ne_nil hne
   rw[hyr] at hr ⊢
   show Lib.join ((s.extract 0 i).data.toList :: y.data.toList :: r.map (·.data.toList)) [32]=_
   rw[join_more]
   have hr2:Lib.join (y.data.toList :: r.map (·.data.toList)) [32]=s.data.toList.drop (i+1):=by
    rw[show (y.data.toList :: r.map (·.data.toList))=(y :: r).map (·.data.toList) from rfl,hr,ext_data,List.take_of_length_le (by rw[List.length_drop,←size_data];omega)]
   rw[hr2,ext_data]
   have h44:s.data.toList[i]'hil=32:=by
    have:=List.getElem?_eq_getElem hil
    rw[hat] at this
    exact (Option.some.inj this).symm
   rw[←h44,List.drop_zero,Nat.sub_zero,←List.drop_eq_getElem_cons hil,List.take_append_drop]
theorem byte_at{s:ByteArray}{k:Nat}(h:k<s.size):s.data.toList[k]?=some (s[k]'h):=by
 rw[Array.getElem?_toList]
 exact Array.getElem?_eq_getElem h
theorem byte_ne{s:ByteArray}{k:Nat}(h:k<s.size)(hn:s.data.toList[k]?≠some 32):¬(((s[k]'h).toNat:Nat):Int)=32:=fun e=>by
 apply hn
 rw[byte_at h]
 congr 1
 apply UInt8.toNat_inj.1
 have:(s[k]'h).toNat=32:=by omega
 rw[this];rfl
theorem byte_eq{s:ByteArray}{k:Nat}(h:k<s.size)(hn:s.data.toList[k]?=some 32):(((s[k]'h).toNat:Nat):Int)=32:=by
 rw[byte_at h] at hn
 rw[Option.some.inj hn]
 rfl
theorem cutS_no(s:ByteArray)(w:World)(hs:s.size≤1048576)(h:Lib.indexB s blank=-1) :
  Calls Tryz.prog 32 #[.string s,.int .u8 32] w fun e w'=>e=.returned (.tuple #[.string s,.string ⟨#[]⟩,.bool false])∧Below w.heap.size w w':=by
 have HN:Hid (∀ k:Nat,s.data.toList[k]?≠some 32):=Lib.indexByte_none ((Lib.index_one _ 32).symm.trans h)
 clear h
 go_enter Tryz.func32,Tryz.ntmps32
 go_wp2_with fail
 go_loopw [7] (fun i wr=>∃ k:Nat,k≤s.size∧i=.int .i64 k∧Below w.heap.size w wr) (fun i _=>s.size-(intOf i).toNat)
 case atStart=>exact⟨0,by omega,rfl,Below.refl _ _⟩
 case round =>
  obtain⟨k,hk,rfl,hB⟩:=hrel
  by_cases hlt:k<s.size
  ·have hne:=byte_ne hlt (HN.out k)
   have hne2:((((s[k]'hlt).toNat:Nat):Int)==32)=false:=by simpa using hne
   go_wp2_with fail
   go_roundw
   case rel=>exact⟨k+1,by omega,by go_num,hB⟩
   case measure=>simp[intOf];omega
  ·go_wp2_with fail
   refine bodyPost_ret (v:=.tuple #[.string s,.string ⟨#[]⟩,.bool false]) (by simp[results,Tryz.results32]) rfl ⟨rfl,hB⟩
theorem cutS_yes(s:ByteArray)(i:Nat)(w:World)(hs:s.size≤1048576)(h:Lib.indexB s blank=i) :
  Calls Tryz.prog 32 #[.string s,.int .u8 32] w fun e w'=>e=.returned (.tuple #[.string (s.extract 0 i),.string (s.extract (i+1) s.size),.bool true])∧Below w.heap.size w w':=by
 obtain⟨hat,hno⟩:=Lib.indexByte_some ((Lib.index_one _ 32).symm.trans h)
 have hil:i<s.size:=by
  have:=(List.getElem?_eq_some_iff.1 hat).1
  simpa using this
 have HN:Hid (∀ k:Nat,k<i→s.data.toList[k]?≠some 32):=hno
 have HA:Hid (s.data.toList[i]?=some 32):=hat
 clear h hat hno
 go_enter Tryz.func32,Tryz.ntmps32
 go_wp2_with fail
 go_loopw [7] (fun z wr=>∃ k:Nat,k≤i∧z=.int .i64 k∧Below w.heap.size w wr) (fun z _=>s.size-(intOf z).toNat)
 case atStart=>exact⟨0,by omega,rfl,Below.refl _ _⟩
 case round =>
  obtain⟨k,hk,rfl,hB⟩:=hrel
  have hlt:k<s.size:=by omega
  by_cases hki:k<i
  ·have hne:=byte_ne hlt (HN.out k hki)
   have hne2:((((s[k]'hlt).toNat:Nat):Int)==32)=false:=by simpa using hne
   go_wp2_with fail
   go_roundw
   case rel=>exact⟨k+1,by omega,by go_num,hB⟩
   case measure=>simp[intOf];omega
  ·have hke:k=i:=by omega
   subst hke
   have heq:=byte_eq hlt HA.out
   go_wp2_with fail
   go_region
   all_goals
    go_wp2_with fail
    exact bodyPost_ret (v:=.tuple #[.string (s.extract 0 k),.string (s.extract (k+1) s.size),.bool true]) (by simp[results,Tryz.results32]) rfl ⟨rfl,hB.drew⟩
set_option maxHeartbeats 4000000
def HurtEnd(g:Nat)(a0:Option Addr)(len cap:Nat)(s:ByteArray)(w:World)(e:Ending)(w':World):Prop:=∃ t:ByteArray,e=.returned (.string t)∧t.size≤s.size+6∧Rd g a0 len cap w'∧w.grownBy w' (some g)
theorem pick_str{w w1:World}{g:Nat}{l:List ByteArray}{n:Int}{t:TypeId}(hg:g<w.heap.size)(k:(w.alloc (.cells (l.map Value.string).toArray t)).grownBy w1 (some g))(h0:0≤n)(h1:n<l.length)(hz:∀ x∈l,x.size≤6) :
  ∃ z:ByteArray,w1.cell? ⟨w.heap.size,n.toNat,none⟩=some (.string z)∧z.size≤6:=by
 have hb:w1.heap[w.heap.size]?=some (.cells (l.map Value.string).toArray t (0,0)):=by
  rw[k.block w.heap.size (by simp) (by simp;omega)]
  show (w.heap.push _)[w.heap.size]?=_
  simp
 have hn:n.toNat<l.length:=by omega
 refine⟨l[n.toNat],?_,hz _ (List.getElem_mem hn)⟩
 rw[zcH hb]
 simp[hn]
theorem grown_drew{w w1:World}{r:Option Nat}(k:w.grownBy w1 r):w.grownBy w1.drew r:=⟨k.os,k.tape,k.output,k.size,k.block⟩
theorem rd_drew{g:Nat}{a0:Option Addr}{len cap:Nat}{w:World}(h:Rd g a0 len cap w):Rd g a0 len cap w.drew:=h
def hurt6:List ByteArray:=[⟨#[48]⟩,⟨#[49]⟩,⟨#[32]⟩,⟨#[56]⟩,⟨#[10]⟩,⟨#[97]⟩]
def hurt3:List ByteArray:=[⟨#[32]⟩,⟨#[116,114,97,112,10]⟩,⟨#[98,108,111,99,107,10]⟩]
theorem hurt6_small:∀ x∈hurt6,x.size≤6:=by intro x hx;simp[hurt6] at hx;rcases hx with rfl|rfl|rfl|rfl|rfl|rfl<;>decide
theorem hurt_any(g:Nat)(a0:Option Addr)(len cap:Nat)(s:ByteArray)(w:World)(h:Rd g a0 len cap w)(hs:s.size≤1048000) :
  Calls Tryz.prog 31 #[.pointer (some ⟨g,0,none⟩),.string s] w fun e w'=>HurtEnd g a0 len cap s w e w':=by
 go_enter Tryz.func31,Tryz.ntmps31
 go_wp2_with fail
 refine (below_any g a0 len cap 6 w h).mono ?_
 rintro e w1 ⟨n1,rfl,hn0,hn1,hr1,hg1⟩
 have hn6:n1<6:=by omega
 have hgl:=hr1.lt
 have HG:Hid (w.grownBy w1 (some g)):=hg1
 have HR:Hid (Rd g a0 len cap w1):=hr1
 clear hg1 hr1 h
 rcases (by omega:n1=0∨n1=1∨n1=2∨n1=3∨n1=4∨n1=5) with rfl|rfl|rfl|rfl|rfl|rfl
 all_goals clear hn0 hn1 hn6
 ·go_wp2_with fail
  go_ret
  exact⟨s,rfl,by omega,HR.out,HG.out⟩
 ·go_wp2_with fail
  refine (below_any g a0 len cap _ w1 HR.out).mono ?_
  rintro e w2 ⟨n2,rfl,hm0,hm1,hr2,hg2⟩
  have hm2:n2≤s.size:=by omega
  have HR2:Hid (Rd g a0 len cap w2):=hr2
  have HG2:Hid (w.grownBy w2 (some g)):=zgT HG.out hg2
  clear hr2 hg2 hm1 HG HR
  go_wp2_with fail
  go_ret
  exact⟨_,rfl,by rw[ByteArray.size_extract];omega,HR2.out,HG2.out⟩
 ·by_cases hp:0<s.size
  ·have hpI:(0:Int)<s.size:=by omega
   go_wp2_with fail
   refine (below_any g a0 len cap _ w1 HR.out).mono ?_
   rintro e w2 ⟨n2,rfl,hm0,hm1,hr2,hg2⟩
   have hm2:n2<s.size:=by omega
   have HR2:Hid (Rd g a0 len cap w2):=hr2
   have HG2:Hid (w.grownBy w2 (some g)):=zgT HG.out hg2
   have hgl2:=hr2.lt
   have hle2:n2≤s.size:=by omega
   have hwr:IntKind.i64.wrap (n2+1)=n2+1:=by rw[IntKind.wrap_i64];omega
   have h1p:0≤n2+1:=by omega
   obtain⟨A,hA⟩:∃ A,s.extract 0 n2.toNat=A:=⟨_,rfl⟩
   obtain⟨B,hB⟩:∃ B,s.extract (n2+1).toNat s.size=B:=⟨_,rfl⟩
   have hAB:A.size+B.size+1=s.size:=by rw[←hA,←hB,ByteArray.size_extract,ByteArray.size_extract];omega
   have h1l:n2+1≤s.size:=by omega
   clear hr2 hg2 hm1 HG HR
   go_wp2_with fail
   refine wp_region_held_drew (S:=fun w'=>Rd g a0 len cap w'∧w.grownBy w' (some g)) (by kernel_rfl) (⟨rd_drew HR2.out,grown_drew HG2.out⟩) (fun hHeld=>?_)
   refine wpAnyH_take (i:=0) (v:=?_) rfl (by kernel_rfl) (by kernel_rfl) (by kernel_rfl) (fun _ _ _ h=>h) (Or.inl ⟨by rfl,?_⟩) hHeld ?_
   rotate_left
   ·intro w9 hS9
    go_simp
    try with_reducible rfl
   show wpAnyH _ _ _ _ _ _ _ (Act.put _ (some _) _) _
   simp only[Act.put,List.setIfInBounds_toArray,List.set_cons_zero,List.set_cons_succ]
   refine wpAnyH_take (i:=1) (v:=?_) rfl (by kernel_rfl) (by kernel_rfl) (by kernel_rfl) (fun _ _ _ h=>h) (Or.inl ⟨by rfl,?_⟩) hHeld ?_
   rotate_left
   ·intro w9 hS9
    go_simp
    try with_reducible rfl
   show wpAnyH _ _ _ _ _ _ _ (Act.put _ (some _) _) _
   simp only[Act.put,List.setIfInBounds_toArray,List.set_cons_zero,List.set_cons_succ]
   refine wpAnyH_take (i:=2) (v:=?_) rfl (by kernel_rfl) (by kernel_rfl) (by kernel_rfl) (fun _ _ _ h=>h) (Or.inl ⟨by rfl,?_⟩) hHeld ?_
   rotate_left
   ·intro w9 hS9
    go_simp
    try with_reducible rfl
   show wpAnyH _ _ _ _ _ _ _ (Act.put _ (some _) _) _
   simp only[Act.put,List.setIfInBounds_toArray,List.set_cons_zero,List.set_cons_succ]
   refine wpAnyH_take (i:=4) (v:=?_) rfl (by kernel_rfl) (by kernel_rfl) (by kernel_rfl) (fun _ _ _ h=>h) (Or.inl ⟨by rfl,?_⟩) hHeld ?_
   rotate_left
   ·intro w9 hS9
    go_simp
    try with_reducible rfl
   show wpAnyH _ _ _ _ _ _ _ (Act.put _ (some _) _) _
   simp only[Act.put,List.setIfInBounds_toArray,List.set_cons_zero,List.set_cons_succ]
   refine wpAnyH_take (i:=9) (v:=?_) rfl (by kernel_rfl) (by kernel_rfl) (by kernel_rfl) (fun _ _ _ h=>h) (Or.inl ⟨by rfl,?_⟩) hHeld ?_
   rotate_left
   ·intro w9 hS9
    go_simp
    try with_reducible rfl
   show wpAnyH _ _ _ _ _ _ _ (Act.put _ (some _) _) _
   simp only[Act.put,List.setIfInBounds_toArray,List.set_cons_zero,List.set_cons_succ]
   refine wpAnyH_take (i:=10) (v:=?_) rfl (by kernel_rfl) (by kernel_rfl) (by kernel_rfl) (fun _ _ _ h=>h) (Or.inl ⟨by rfl,?_⟩) hHeld ?_
   rotate_left
   ·intro w9 hS9
    go_simp
    try with_reducible rfl
   show wpAnyH _ _ _ _ _ _ _ (Act.put _ (some _) _) _
   simp only[Act.put,List.setIfInBounds_toArray,List.set_cons_zero,List.set_cons_succ]
   refine wpAnyH_take (i:=11) (v:=?_) rfl (by kernel_rfl) (by kernel_rfl) (by kernel_rfl) (fun _ _ _ h=>h) (Or.inl ⟨by rfl,?_⟩) hHeld ?_
   rotate_left
   ·intro w9 hS9
    go_simp
    try with_reducible rfl
   show wpAnyH _ _ _ _ _ _ _ (Act.put _ (some _) _) _
   simp only[Act.put,List.setIfInBounds_toArray,List.set_cons_zero,List.set_cons_succ]
   refine wpAnyH_take (i:=12) (v:=?_) rfl (by kernel_rfl) (by kernel_rfl) (by kernel_rfl) (fun _ _ _ h=>h) (Or.inl ⟨by rfl,?_⟩) hHeld ?_
   rotate_left
   ·intro w9 hS9
    go_simp
    try with_reducible rfl
   show wpAnyH _ _ _ _ _ _ _ (Act.put _ (some _) _) _
   simp only[Act.put,List.setIfInBounds_toArray,List.set_cons_zero,List.set_cons_succ]
   refine wpAnyH_ready (rs:=[3,5]) (by kernel_rfl) (by simp) ?_
   refine AllReadyH.cons rfl (fun K hK=>?_) (AllReadyH.cons rfl (fun K hK=>?_) AllReadyH.nil)
   ·go_simp
    go_wp2_with fail
    refine hK.out _ _ ?_ (fun hHeld2=>?_)
    ·exact⟨hHeld.1.alloc _,zgT hHeld.2 (World.grownBy_alloc _ _ _)⟩
    clear hK K
    have hPrev:=hHeld
    clear hHeld
    have hHeld:=hHeld2
    clear hHeld2
    try simp only[Act.put,List.setIfInBounds_toArray,List.set_cons_zero,List.set_cons_succ]
    refine wpAnyH_ready (rs:=[5]) (by kernel_rfl) (by simp) ?_
    refine AllReadyH.cons rfl (fun K hK=>?_) AllReadyH.nil
    go_simp
    go_wp2_with (go_at_call 57;refine (below_any g a0 len cap 6 _ (hPrev.1.alloc _)).mono ?_;rintro e w5 ⟨n5,rfl,p0,p1,hr5,hg5⟩)
    obtain⟨z,hz,hzs⟩:=pick_str (l:=hurt6) hPrev.1.lt hg5 p0 (by show n5<6;omega) hurt6_small
    have p2:n5<6:=by omega
    have hz':w5.cell? ⟨w2.heap.size,n5.toNat,none⟩=some (.string z):=hz
    have hg6:w.grownBy w5 (some g):=zgT hHeld.2 hg5
    refine hK.out _ _ ?_ (fun hHeld2=>?_)
    ·exact⟨hr5,hg6⟩
    clear hK K
    have hPrev:=hHeld
    clear hHeld
    have hHeld:=hHeld2
    clear hHeld2
    try simp only[Act.put,List.setIfInBounds_toArray,List.set_cons_zero,List.set_cons_succ]
    refine wpAnyH_ready (rs:=[6]) (by kernel_rfl) (by simp) ?_
    refine AllReadyH.cons rfl (fun K hK=>?_) AllReadyH.nil
    go_simp
    go_wp2_with fail
    refine hK.out _ _ ?_ (fun hHeld2=>?_)
    ·exact hHeld
    clear hK K hHeld
    have hHeld:=hHeld2
    clear hHeld2
    try simp only[Act.put,List.setIfInBounds_toArray,List.set_cons_zero,List.set_cons_succ]
    refine wpAnyH_ready (rs:=[7]) (by kernel_rfl) (by simp) ?_
    refine AllReadyH.cons rfl (fun K hK=>?_) AllReadyH.nil
    go_simp
    go_wp2_with fail
    refine hK.out _ _ ?_ (fun hHeld2=>?_)
    ·exact hHeld
    clear hK K hHeld
    have hHeld:=hHeld2
    clear hHeld2
    try simp only[Act.put,List.setIfInBounds_toArray,List.set_cons_zero,List.set_cons_succ]
    refine wpAnyH_ready (rs:=[8]) (by kernel_rfl) (by simp) ?_
    refine AllReadyH.cons rfl (fun K hK=>?_) AllReadyH.nil
    go_simp
    go_wp2_with fail
    refine hK.out _ _ ?_ (fun hHeld2=>?_)
    ·exact hHeld
    clear hK K hHeld
    have hHeld:=hHeld2
    clear hHeld2
    try simp only[Act.put,List.setIfInBounds_toArray,List.set_cons_zero,List.set_cons_succ]
    refine wpAnyH_ready (rs:=[13]) (by kernel_rfl) (by simp) ?_
    refine AllReadyH.cons rfl (fun K hK=>?_) AllReadyH.nil
    go_simp
    go_wp2_with fail
    refine hK.out _ _ ?_ (fun hHeld2=>?_)
    ·exact hHeld
    clear hK K hHeld
    have hHeld:=hHeld2
    clear hHeld2
    try simp only[Act.put,List.setIfInBounds_toArray,List.set_cons_zero,List.set_cons_succ]
    refine wpAnyH_ready (rs:=[14]) (by kernel_rfl) (by simp) ?_
    refine AllReadyH.cons rfl (fun K hK=>?_) AllReadyH.nil
    go_simp
    go_wp2_with fail
    refine hK.out _ _ ?_ (fun hHeld2=>?_)
    ·exact hHeld
    clear hK K hHeld
    have hHeld:=hHeld2
    clear hHeld2
    try simp only[Act.put,List.setIfInBounds_toArray,List.set_cons_zero,List.set_cons_succ]
    refine wpAnyH_done (by kernel_rfl) ?_ _
    go_wp2_with fail
    go_ret
    exact⟨_,rfl,by simp only[ByteArray.size_append];omega,hHeld.1,hHeld.2⟩
   ·go_simp
    go_wp2_with (go_at_call 57;refine (below_any g a0 len cap 6 _ hHeld.1).mono ?_;rintro e w5 ⟨n5,rfl,p0,p1,hr5,hg5⟩)
    have p2:n5<6:=by omega
    have hg6:w.grownBy w5 (some g):=zgT hHeld.2 hg5
    refine hK.out _ _ ?_ (fun hHeld2=>?_)
    ·exact⟨hr5,hg6⟩
    clear hK K
    have hPrev:=hHeld
    clear hHeld
    have hHeld:=hHeld2
    clear hHeld2
    try simp only[Act.put,List.setIfInBounds_toArray,List.set_cons_zero,List.set_cons_succ]
    refine wpAnyH_ready (rs:=[3]) (by kernel_rfl) (by simp) ?_
    refine AllReadyH.cons rfl (fun K hK=>?_) AllReadyH.nil
    go_simp
    go_wp2_with fail
    obtain⟨z,hz,hzs⟩:=pick_str (t:=9) (l:=hurt6) hr5.lt (World.grownBy.refl _ _) p0 (by show n5<6;omega) hurt6_small
    refine hK.out _ _ ?_ (fun hHeld2=>?_)
    ·exact⟨hr5.alloc _,zgT hg6 (World.grownBy_alloc _ _ _)⟩
    clear hK K hHeld
    have hHeld:=hHeld2
    clear hHeld2
    try simp only[Act.put,List.setIfInBounds_toArray,List.set_cons_zero,List.set_cons_succ]
    have hz':(w5.alloc (.cells #[.string ⟨#[48]⟩,.string ⟨#[49]⟩,.string ⟨#[32]⟩,.string ⟨#[56]⟩,.string ⟨#[10]⟩,.string ⟨#[97]⟩] 9)).cell? ⟨w5.heap.size,n5.toNat,none⟩=some (.string z):=hz
    clear hz
    generalize (w5.alloc (.cells #[.string ⟨#[48]⟩,.string ⟨#[49]⟩,.string ⟨#[32]⟩,.string ⟨#[56]⟩,.string ⟨#[10]⟩,.string ⟨#[97]⟩] 9))=W6 at hz' hHeld ⊢
    refine wpAnyH_ready (rs:=[6]) (by kernel_rfl) (by simp) ?_
    refine AllReadyH.cons rfl (fun K hK=>?_) AllReadyH.nil
    go_simp
    go_wp2_with fail
    refine hK.out _ _ ?_ (fun hHeld2=>?_)
    ·exact hHeld
    clear hK K hHeld
    have hHeld:=hHeld2
    clear hHeld2
    try simp only[Act.put,List.setIfInBounds_toArray,List.set_cons_zero,List.set_cons_succ]
    refine wpAnyH_ready (rs:=[7]) (by kernel_rfl) (by simp) ?_
    refine AllReadyH.cons rfl (fun K hK=>?_) AllReadyH.nil
    go_simp
    go_wp2_with fail
    refine hK.out _ _ ?_ (fun hHeld2=>?_)
    ·exact hHeld
    clear hK K hHeld
    have hHeld:=hHeld2
    clear hHeld2
    try simp only[Act.put,List.setIfInBounds_toArray,List.set_cons_zero,List.set_cons_succ]
    refine wpAnyH_ready (rs:=[8]) (by kernel_rfl) (by simp) ?_
    refine AllReadyH.cons rfl (fun K hK=>?_) AllReadyH.nil
    go_simp
    go_wp2_with fail
    refine hK.out _ _ ?_ (fun hHeld2=>?_)
    ·exact hHeld
    clear hK K hHeld
    have hHeld:=hHeld2
    clear hHeld2
    try simp only[Act.put,List.setIfInBounds_toArray,List.set_cons_zero,List.set_cons_succ]
    refine wpAnyH_ready (rs:=[13]) (by kernel_rfl) (by simp) ?_
    refine AllReadyH.cons rfl (fun K hK=>?_) AllReadyH.nil
    go_simp
    go_wp2_with fail
    refine hK.out _ _ ?_ (fun hHeld2=>?_)
    ·exact hHeld
    clear hK K hHeld
    have hHeld:=hHeld2
    clear hHeld2
    try simp only[Act.put,List.setIfInBounds_toArray,List.set_cons_zero,List.set_cons_succ]
    refine wpAnyH_ready (rs:=[14]) (by kernel_rfl) (by simp) ?_
    refine AllReadyH.cons rfl (fun K hK=>?_) AllReadyH.nil
    go_simp
    go_wp2_with fail
    refine hK.out _ _ ?_ (fun hHeld2=>?_)
    ·exact hHeld
    clear hK K hHeld
    have hHeld:=hHeld2
    clear hHeld2
    try simp only[Act.put,List.setIfInBounds_toArray,List.set_cons_zero,List.set_cons_succ]
    refine wpAnyH_done (by kernel_rfl) ?_ _
    go_wp2_with fail
    go_ret
    exact⟨_,rfl,by simp only[ByteArray.size_append];omega,hHeld.1,hHeld.2⟩
  ·have hpI:¬(0:Int)<s.size:=by omega
   go_wp2_with fail
   go_ret
   exact⟨s,rfl,by omega,HR.out,HG.out⟩
 ·go_wp2_with fail
  refine (below_any g a0 len cap 3 _ (HR.out.alloc _)).mono ?_
  rintro e w2 ⟨n2,rfl,hm0,hm1,hr2,hg2⟩
  obtain⟨z,hz,hzs⟩:=pick_str (l:=hurt3) hgl hg2 hm0 (by show n2<3;omega) (by intro x hx;simp[hurt3] at hx;rcases hx with rfl|rfl|rfl<;>decide)
  have hm2:n2<3:=by omega
  have HR2:Hid (Rd g a0 len cap w2):=hr2
  have HG2:Hid (w.grownBy w2 (some g)):=zgT HG.out (zgT (World.grownBy_alloc _ _ _) hg2)
  clear hr2 hg2 hm1 HG HR
  go_wp2_with fail
  go_ret
  exact⟨_,rfl,by rw[ByteArray.size_append];omega,HR2.out,HG2.out⟩
 ·go_wp2_with fail
  go_ret
  exact⟨s,rfl,by omega,HR.out,HG.out⟩
 ·go_wp2_with fail
  go_ret
  exact⟨s,rfl,by omega,HR.out,HG.out⟩
set_option maxHeartbeats 2000000
def bs(l:List UInt8):ByteArray:=⟨l.toArray⟩
theorem bs_append(a b:List UInt8):bs a++bs b=bs (a++b):=by unfold bs;rw[ByteArray.mk_append_mk]
theorem bs_size(a:List UInt8):(bs a).size=a.length:=by simp[bs,ByteArray.size]
theorem bs_blank:(⟨#[32]⟩:ByteArray)=bs [32]:=rfl
theorem decB_bs(n:Int):decB n=bs (Lib.itoa n):=rfl
def numsL(l:List Int):List UInt8:=l.flatMap fun n=>32 :: Lib.itoa n
theorem nums_snoc{l:List Int}{k:Nat}(hk:k<l.length):numsL (l.take (k+1))=numsL (l.take k)++(32 :: Lib.itoa (l.getD k 0)):=by
 unfold numsL
 rw[List.take_succ_eq_append_getElem hk,List.flatMap_append]
 simp[List.getD,hk]
theorem nums_append(a b:List Int):numsL (a++b)=numsL a++numsL b:=List.flatMap_append
def SmN(l:List Int):Prop:=∀ x∈l,∃ n:Nat,x=n∧n≤4294967295
theorem itoa_len{x:Int}(h:∃ n:Nat,x=n∧n≤4294967295):(Lib.itoa x).length≤10:=by
 obtain⟨n,rfl,hn⟩:=h
 rw[itoa_nat]
 exact dec_len 9 n (by omega)
theorem nums_len:∀ l:List Int,SmN l→(numsL l).length≤11*l.length
 | [],_=>by simp[numsL]
 | x :: r,h=>by
  have h1:=itoa_len (h x (by simp))
  have h2:=nums_len r fun y hy=>h y (by simp[hy])
  unfold numsL at h2 ⊢
  rw[List.flatMap_cons,List.length_append,List.length_cons,List.length_cons]
  omega
theorem SmN.take{l:List Int}(h:SmN l)(k:Nat):SmN (l.take k):=fun x hx=>h x (List.mem_of_mem_take hx)
def opWL:List (List UInt8):=[[],[97,100,100],[115,117,98],[109,117,108],[117,100,105,118],[115,100,105,118],[117,114,101,109],[115,114,101,109],[97,110,100],[111,114],[120,111,114],[115,104,108],[108,115,104,114],[97,115,104,114],[101,113],[110,101],[117,108,116],[115,108,116],[122,101,120,116],[115,101,120,116],[116,114,117,110,99],[99,111,110,115,116],[115,101,108,101,99,116],[108,111,97,100],[115,116,111,114,101],[112,114,105,110,116],[99,97,108,108],[99,111,112,121]]
def opW(k:Nat):ByteArray:=bs (opWL.getD k [])
theorem opWL_len(k:Nat):(opWL.getD k []).length≤6:=by
 rcases Nat.lt_or_ge k 28 with h|h
 ·have:∀ k:Fin 28,(opWL.getD k.1 []).length≤6:=by decide
  exact this ⟨k,h⟩
 ·rw[List.getD,List.getElem?_eq_none (by simpa [opWL] using h)]
  decide
def OpsAt(w:World):Prop:=2<w.heap.size∧∀ j,j<28→w.cell? ⟨2,j,none⟩=some (.string (opW j))
theorem OpsAt.keep{w w':World}(h:OpsAt w)(k:Below w.heap.size w w'):OpsAt w' :=
 ⟨Nat.lt_of_lt_of_le h.1 k.size,fun j hj=>(zcB (k.block _ h.1)).trans (h.2 j hj)⟩
def PowAt(w:World):Prop:=Lib.TabIs Tryz.prog w "internal/strconv.uint64pow10" .u64 Lib.pow10Tab
theorem gPow:Tryz.prog.globalNamed "internal/strconv.uint64pow10" = some 3:=by kernel_rfl
theorem PowAt.keep{w w':World}(h:PowAt w)(k:Below w.heap.size w w'):PowAt w':=by
 unfold PowAt Lib.TabIs World.var? at h ⊢
 simp only[gPow,Option.bind_some] at h ⊢
 have hlt:3<w.heap.size:=by
  rcases Nat.lt_or_ge 3 w.heap.size with h'|h'
  ·exact h'
  ·simp[Array.getElem?_eq_none h'] at h
 rw[k.block _ hlt]
 exact h
theorem fmtI(n:Nat)(w:World)(hn:n≤4294967295)(hP:PowAt w) :
  Calls Tryz.prog 42 #[.int .i64 (n:Int),.int .i64 10] w fun e w'=>e=.returned (.string (decB n))∧Below w.heap.size w w':=by
 refine (Tryz.strconv_FormatInt_10 n (by omega) (by omega) w hP).mono ?_
 rintro e w' ⟨rfl,k,os,rfl⟩
 exact⟨rfl,Lib.below_grow _ _ (Nat.le_refl _) _ _⟩
theorem numsS(lo:Nat)(a:Option Addr)(cap:Nat)(l:List Int)(w:World)(hv:IntsAt w lo a l)(hl:l.length≤20)(hs:SmN l) :
  Calls Tryz.prog 52 #[.slice a l.length cap] w fun e w'=>e=.returned (.string (bs (numsL l)))∧Below w.heap.size w w':=by
 go_enter Tryz.func52,Tryz.ntmps52
 go_wp2_with fail
 go_loopw [3,4] (fun st i wr=>∃ k:Nat,k≤l.length∧i=.int .i64 k∧st=.string (bs (numsL (l.take k)))∧Hid (Below w.heap.size w wr)) (fun _ i _=>l.length-(intOf i).toNat)
 case atStart=>exact⟨0,by omega,rfl,rfl,Below.refl _ _⟩
 case round =>
  obtain⟨k,hk,rfl,rfl,HB⟩:=hrel
  by_cases hlt:k<l.length
  ·rcases hv.2 with rfl|⟨b,off,rfl,hlo,hb,hcell⟩
   ·simp at hlt
   obtain⟨n,hn,hn9⟩:=hs _ (getD_mem 0 l k hlt)
   have e0:wr.cell? ⟨b,off+k,none⟩=some (.int .i64 (n:Int)):=by rw[(zcB (HB.out.block b hb)).trans (hcell k hlt),hn]
   have C:=decS n wr hn9
   have hD:(decB (n:Int)).size≤10:=decB_size hn9
   have hT:(bs (numsL (l.take k))).size≤220:=by rw[bs_size];have:=nums_len _ (hs.take k);simp at this;omega
   have HE:Hid (bs (numsL (l.take (k+1)))=bs (numsL (l.take k))++⟨#[32]⟩++decB n):=by
    show _=_
    rw[nums_snoc hlt,hn,bs_blank,decB_bs,bs_append,bs_append]
    simp
   generalize bs (numsL (l.take k))=T at *
   generalize decB (n:Int)=D at *
   have hT2:(T++⟨#[32]⟩:ByteArray).size≤221:=by rw[ByteArray.size_append];have h1:(⟨#[32]⟩:ByteArray).size=1:=rfl;omega
   have hsz:=HB.out.size
   clear hcell hn
   go_wp2_with (go_at_call 51;refine C.mono ?_;rintro e w5 ⟨rfl,hb5⟩;have HB5:Hid (Below w.heap.size w w5):=HB.out.trans (hb5.mono hsz);clear hb5)
   go_roundw
   case rel=>exact⟨k+1,by omega,by go_num,by rw[HE.out],HB5.out⟩
   case measure=>simp[intOf];omega
  ·have hke:k=l.length:=by omega
   have HE:Hid (bs (numsL (l.take k))=bs (numsL l)):=by show _=_;rw[hke,List.take_length]
   rw[HE.out]
   go_wp2_with fail
   go_ret
   exact⟨rfl,HB.out⟩
theorem textI(lo:Nat)(a:Option Addr)(cap:Nat)(t:ByteArray)(l:List Int)(w:World)(hv:IntsAt w lo a l)(hl:l.length≤20)(hs:SmN l)(ht:t.size≤6)(hP:PowAt w) :
  Calls Tryz.prog 20 #[.agg #[.string t,.slice a l.length cap]] w fun e w'=>e=.returned (.string (t++bs (numsL l)))∧Below w.heap.size w w':=by
 have B0:Below w.heap.size w (w.alloc (.cells #[.string t,.slice a l.length cap] 43)):=(Below.refl _ _).alloc (Nat.le_refl _) _
 go_enter Tryz.func20,Tryz.ntmps20
 go_wp2_with fail
 go_loopw [3,11] (fun st i wr=>∃ k:Nat,k≤l.length∧i=.int .i64 k∧st=.string (t++bs (numsL (l.take k)))∧Hid (Below w.heap.size w wr)) (fun _ i _=>l.length-(intOf i).toNat)
 case atStart =>
  refine⟨0,by omega,rfl,congrArg Value.string ?_,B0⟩
  have:bs (numsL (l.take 0))=ByteArray.empty:=rfl
  rw[this,ByteArray.append_empty]
 case round =>
  obtain⟨k,hk,rfl,rfl,HB⟩:=hrel
  by_cases hlt:k<l.length
  ·rcases hv.2 with rfl|⟨b,off,rfl,hlo,hb,hcell⟩
   ·simp at hlt
   obtain⟨n,hn,hn9⟩:=hs _ (getD_mem 0 l k hlt)
   have e0:wr.cell? ⟨b,off+k,none⟩=some (.int .i64 (n:Int)):=by rw[(zcB (HB.out.block b hb)).trans (hcell k hlt),hn]
   have C:=fmtI n wr hn9 (hP.keep HB.out)
   have hD:(decB (n:Int)).size≤10:=decB_size hn9
   have hT:(t++bs (numsL (l.take k))).size≤226:=by rw[ByteArray.size_append,bs_size];have:=nums_len _ (hs.take k);simp at this;omega
   have HE:Hid (t++bs (numsL (l.take (k+1)))=t++bs (numsL (l.take k))++(⟨#[32]⟩++decB n)):=by
    show _=_
    rw[nums_snoc hlt,hn,bs_blank,decB_bs,bs_append,ByteArray.append_assoc,bs_append]
    rfl
   generalize t++bs (numsL (l.take k))=T at *
   generalize decB (n:Int)=D at *
   have hT2:(⟨#[32]⟩++D:ByteArray).size≤11:=by rw[ByteArray.size_append];have h1:(⟨#[32]⟩:ByteArray).size=1:=rfl;omega
   have hsz:=HB.out.size
   clear hcell hn
   go_wp2_with (go_at_call 42;refine C.mono ?_;rintro e w5 ⟨rfl,hb5⟩;have HB5:Hid (Below w.heap.size w w5):=HB.out.trans (hb5.mono hsz);clear hb5)
   go_roundw
   case rel=>exact⟨k+1,by omega,by go_num,by rw[HE.out],HB5.out⟩
   case measure=>simp[intOf];omega
  ·have hke:k=l.length:=by omega
   have HE:Hid (bs (numsL (l.take k))=bs (numsL l)):=by show _=_;rw[hke,List.take_length]
   rw[HE.out]
   go_wp2_with fail
   go_ret
   exact⟨rfl,HB.out⟩
theorem opWordsS(w:World)(s:Nat)(hs:w.heap.size=s):Calls Tryz.prog 89 #[] w fun e w'=>e=.returned (.slice (some ⟨s,0,none⟩) 28 28)∧(∀ j,j<28→w'.cell? ⟨s,j,none⟩=some (.string (opW j)))∧w'.heap.size=s+1∧Below w.heap.size w w':=by
 subst hs
 go_enter Tryz.func89,Tryz.ntmps89
 go_wp2_with fail
 go_ret
 refine⟨rfl,fun j hj=>?_,by simp,(Below.refl _ _).alloc (Nat.le_refl _) _⟩
 rw[zcH (zhL _ _)]
 have h:j=0∨j=1∨j=2∨j=3∨j=4∨j=5∨j=6∨j=7∨j=8∨j=9∨j=10∨j=11∨j=12∨j=13∨j=14∨j=15∨j=16∨j=17∨j=18∨j=19∨j=20∨j=21∨j=22∨j=23∨j=24∨j=25∨j=26∨j=27:=by omega
 rcases h with rfl|rfl|rfl|rfl|rfl|rfl|rfl|rfl|rfl|rfl|rfl|rfl|rfl|rfl|rfl|rfl|rfl|rfl|rfl|rfl|rfl|rfl|rfl|rfl|rfl|rfl|rfl|rfl<;>rfl
end Go.Proofs.YtkpmiikafconmaaGreatDoor
namespace Go.Proofs.YtkpmiikafconmaaGreatDoor
open Go.RowKit Go.Shelf
set_option maxHeartbeats 2000000
set_option maxRecDepth 100000
attribute [local go_sem] Oper.semAt_some
set_option linter.unusedVariables false
structure BxB(b B:Nat)(w w':World):Prop where
 os:w'.os=w.os
 tape:w'.tape=w.tape
 output:w'.output=w.output
 size:w.heap.size≤w'.heap.size
 block:∀ i,i<B→i≠b→w'.heap[i]?=w.heap[i]?
theorem BxB.refl(b B:Nat)(w:World):BxB b B w w:=⟨rfl,rfl,rfl,Nat.le_refl _,fun _ _ _=>rfl⟩
theorem BxB.trans{b B:Nat}{x y z:World}(h:BxB b B x y)(k:BxB b B y z):BxB b B x z:=⟨k.os.trans h.os,k.tape.trans h.tape,k.output.trans h.output,Nat.le_trans h.size k.size,fun i hi hn=>(k.block i hi hn).trans (h.block i hi hn)⟩
theorem BxB.set{b B:Nat}{w w':World}(h:BxB b B w w')(o:Nat)(v:Value):BxB b B w (w'.setCell ⟨b,o,none⟩ v) :=
 h.trans ⟨rfl,rfl,rfl,by simp[World.setCell],fun i _ hn=>Below.heap_setCell _ _ _ _ hn⟩
theorem BxB.grown{b B:Nat}{w w' w2:World}{row:Option Nat}(h:BxB b B w w')(hg:w'.grownBy w2 row)(hB:B≤w.heap.size)(hr:∀ k,row=some k→B≤k):BxB b B w w2 :=
 h.trans ⟨hg.os,hg.tape,hg.output,hg.size,fun i hi _=>hg.block i (by have:=h.size;omega) (fun e=>by have:=hr i e.symm;omega)⟩
theorem BxB.below{b B:Nat}{w w' w2:World}(h:BxB b B w w')(k:Below w'.heap.size w' w2)(hB:B≤w'.heap.size):BxB b B w w2 :=
 h.trans ⟨k.os,k.tape,k.output,k.size,fun i hi _=>k.block i (by omega)⟩
structure Bl2(w:World)(B b:Nat)(p v:Value)(bs:List Value):Prop where
 block:w.heap[b]?=some (.cells #[p,v] 38 (0,0))
 row:w.ownsRow B 5 1 v bs.length bs
 ne:v.ownBlock≠some b
theorem Bl2.lt{w:World}{B b:Nat}{p v:Value}{bs:List Value}(h:Bl2 w B b p v bs):b<w.heap.size:=by
 rcases Nat.lt_or_ge b w.heap.size with h'|h'
 ·exact h'
 ·have:=h.block;rw[Array.getElem?_eq_none h'] at this;cases this
theorem Bl2.keep{w w':World}{B b:Nat}{p v:Value}{bs:List Value}(h:Bl2 w B b p v bs)(k:Below w.heap.size w w'):Bl2 w' B b p v bs :=
 ⟨(k.block b h.lt).trans h.block,h.row.kept (row:=none) ⟨k.os,k.tape,k.output,k.size,fun i hi _=>k.block i hi⟩ (by cases e:v.ownBlock<;>simp),h.ne⟩
theorem infoBld:(Tryz.prog.info? 38).map (fun i=>i.size)=some 2:=by kernel_rfl
theorem checkUsed(w:World)(b:Nat)(h0:w.cell? ⟨b,0,none⟩=some (.pointer (some ⟨b,0,none⟩))) :
  Calls Tryz.prog 41 #[.pointer (some ⟨b,0,none⟩)] w fun e w'=>e=.returned (.tuple #[])∧w'=w:=by
 obtain⟨j,hj,_⟩:=Option.map_eq_some_iff.1 infoBld
 go_enter Tryz.func41,Tryz.ntmps41
 go_wp2_with fail
 rw[Lib.run_neq_ptr_same w _ Tryz.underlying36 hj]
 go_wp2_with fail
 go_end0
 exact⟨rfl,rfl⟩
theorem checkFresh(w:World)(b:Nat)(h0:w.cell? ⟨b,0,none⟩=some (.pointer none))(hsh:w.shape? b=some (38,2))(hfz:w.frozen? ⟨b,0,none⟩=false) :
  Calls Tryz.prog 41 #[.pointer (some ⟨b,0,none⟩)] w fun e w'=>e=.returned (.tuple #[])∧w'=w.setCell ⟨b,0,none⟩ (.pointer (some ⟨b,0,none⟩)):=by
 obtain⟨j,hj,hjs⟩:=Option.map_eq_some_iff.1 infoBld
 go_enter Tryz.func41,Tryz.ntmps41
 go_wp2_with fail
 rw[Lib.run_to_unsafe w ⟨b,0,none⟩ Tryz.underlying36 Tryz.underlying122 hj (by rw[hjs];decide) hsh (Nat.zero_lt_succ 1)]
 simp only[Result.andThen]
 rw[Oper.upon_value]
 go_wp2_with fail
 rw[run_callFunc_extern Tryz.func76 (by kernel_rfl) (by kernel_rfl) (by kernel_rfl) (e:=Extern.AbiNoEscape.same) (by kernel_rfl)]
 rw[Lib.run_noEscape]
 simp only[Result.andThen]
 rw[Oper.upon_value]
 go_wp2_with fail
 rw[Lib.run_from_unsafe w ⟨b,0,none⟩ Tryz.underlying122 Tryz.underlying36 hj hsh (by kernel_rfl)]
 simp only[Result.andThen]
 rw[Oper.upon_value]
 go_wp2_with fail
 go_end0
 exact⟨rfl,rfl⟩
theorem infoU8:(Tryz.prog.info? 5).map (fun i=>(i.zero,i.size,i.bytes))=some (some (.int .u8 0),1,1):=by kernel_rfl
theorem writeU(w:World)(B b:Nat)(v:Value)(bs:List Value)(s:ByteArray)(h:Bl2 w B b (.pointer (some ⟨b,0,none⟩)) v bs)(hlen:bs.length+s.size≤140737488355328)(hBw:B≤w.heap.size) :
  Calls Tryz.prog 19 #[.pointer (some ⟨b,0,none⟩),.string s] w fun e w'=>e=.returned (.tuple #[.int .i64 s.size,.nilIface])∧∃ v' w1,Bl2 w' B b (.pointer (some ⟨b,0,none⟩)) v' (bs++Lib.strCells s)∧w.grownBy w1 v.ownBlock∧w'=w1.setCell ⟨b,1,none⟩ v':=by
 obtain⟨i0,hi,hz0,hz1,hz2⟩:=info_parts infoU8
 have hlt:=h.lt
 obtain⟨hbk,hown,hne⟩:=h
 have c0:w.cell? ⟨b,0,none⟩=some (.pointer (some ⟨b,0,none⟩)):=(zcH hbk).trans rfl
 have c1:w.cell? ⟨b,1,none⟩=some v:=(zcH hbk).trans rfl
 have CU:=checkUsed w b c0
 go_enter Tryz.func19,Tryz.ntmps19
 go_wp2_with (first|(go_at_call 41;refine CU.mono ?_;rintro e w8 ⟨rfl,h9⟩;have h8:=h9.symm;clear h9;subst h8)|(at_builtin;refine Lib.wpList_append_own_string _ rfl _ _ 22 9 rfl B 5 i0 Tryz.underlying22 Tryz.underlying9 hi hz0 hz1 hz2 _ _ _ rfl hown s rfl ?c3 ?c4 ?c5 ?_))
 case c3=>unfold maxLen;omega
 case c4=>omega
 case c5=>omega
 intro v' w2 hown' hgrow _
 have hb2:w2.heap[b]?=some (.cells #[.pointer (some ⟨b,0,none⟩),v] 38 (0,0)):=by
  rw[hgrow.block b hlt (fun e=>hne e.symm)]
  exact hbk
 have d0:w2.cell? ⟨b,0,none⟩=some (.pointer (some ⟨b,0,none⟩)):=(zcH hb2).trans rfl
 have d1:w2.cell? ⟨b,1,none⟩=some v:=(zcH hb2).trans rfl
 have f1:w2.frozen? ⟨b,1,none⟩=false:=zfH hb2
 obtain⟨ao,n',cap,rfl⟩:∃ ao n' cap,v'=.slice ao n' cap:=by
  rcases hown'.2 with⟨hv,_⟩|⟨g,cap,cur,hv,_⟩
  ·exact⟨_,_,_,hv⟩
  ·exact⟨_,_,_,hv⟩
 go_wp2_with fail
 go_ret2
 have hown2:w2.ownsRow B 5 1 (.slice ao n' cap) (bs++Lib.strCells s).length (bs++Lib.strCells s):=by simpa [Lib.strCells_length] using hown'
 have hne2:=Lib.ownBlock_ne hown2 hb2 (by decide)
 refine⟨rfl,_,w2,⟨zhS (o:=1) hb2,?_,hne2⟩,hgrow,rfl⟩
 exact hown2.kept (row:=some b) ⟨rfl,rfl,rfl,by simp[World.setCell],fun k _ hk=>Below.heap_setCell _ _ _ _ (fun e=>hk (by simp[e]))⟩ (Or.inr hne2)
theorem writeN(w:World)(B b:Nat)(s:ByteArray)(h:Bl2 w B b (.pointer none) (.slice none 0 0) [])(hlen:s.size≤140737488355328)(hBw:B≤w.heap.size) :
  Calls Tryz.prog 19 #[.pointer (some ⟨b,0,none⟩),.string s] w fun e w'=>e=.returned (.tuple #[.int .i64 s.size,.nilIface])∧∃ v',Bl2 w' B b (.pointer (some ⟨b,0,none⟩)) v' (Lib.strCells s)∧BxB b B w w':=by
 obtain⟨i0,hi,hz0,hz1,hz2⟩:=info_parts infoU8
 have hlt:=h.lt
 obtain⟨hbk,hown,hne⟩:=h
 have c0:w.cell? ⟨b,0,none⟩=some (.pointer none):=(zcH hbk).trans rfl
 have hbs:(w.setCell ⟨b,0,none⟩ (.pointer (some ⟨b,0,none⟩))).heap[b]?=some (.cells #[.pointer (some ⟨b,0,none⟩),.slice none 0 0] 38 (0,0)):=zhS (o:=0) hbk
 have CU:=checkFresh w b c0 (by simp[World.shape?,hbk]) (zfH hbk)
 have hB1:BxB b B w (w.setCell ⟨b,0,none⟩ (.pointer (some ⟨b,0,none⟩))):=(BxB.refl _ _ _).set _ _
 generalize w.setCell ⟨b,0,none⟩ (.pointer (some ⟨b,0,none⟩))=W at hbs CU hB1
 have hlt1:b<W.heap.size:=Nat.lt_of_lt_of_le hlt hB1.size
 have hown1:W.ownsRow B 5 1 (.slice none 0 0) 0 []:=World.ownsRow_nil _ _ _ _
 have c1:W.cell? ⟨b,1,none⟩=some (.slice none 0 0):=(zcH hbs).trans rfl
 have hz:=hB1.size
 clear c0 hbk hown hlt
 go_enter Tryz.func19,Tryz.ntmps19
 go_wp2_with (first|(go_at_call 41;refine CU.mono ?_;rintro e w8 ⟨rfl,h9⟩;have h8:=h9.symm;clear h9;subst h8)|(at_builtin;refine Lib.wpList_append_own_string _ rfl _ _ 22 9 rfl B 5 i0 Tryz.underlying22 Tryz.underlying9 hi hz0 hz1 hz2 _ _ _ rfl hown1 s rfl ?c3 ?c4 ?c5 ?_))
 case c3=>unfold maxLen;omega
 case c4=>omega
 case c5=>omega
 intro v' w2 hown' hgrow _
 have hb2:w2.heap[b]?=some (.cells #[.pointer (some ⟨b,0,none⟩),.slice none 0 0] 38 (0,0)):=by
  rw[hgrow.block b hlt1 (fun e=>hne e.symm)]
  exact hbs
 have d0:w2.cell? ⟨b,0,none⟩=some (.pointer (some ⟨b,0,none⟩)):=(zcH hb2).trans rfl
 have d1:w2.cell? ⟨b,1,none⟩=some (.slice none 0 0):=(zcH hb2).trans rfl
 have f1:w2.frozen? ⟨b,1,none⟩=false:=zfH hb2
 obtain⟨ao,n',cap,rfl⟩:∃ ao n' cap,v'=.slice ao n' cap:=by
  rcases hown'.2 with⟨hv,_⟩|⟨g,cap,cur,hv,_⟩
  ·exact⟨_,_,_,hv⟩
  ·exact⟨_,_,_,hv⟩
 go_wp2_with fail
 go_ret2
 have hown2:w2.ownsRow B 5 1 (.slice ao n' cap) (Lib.strCells s).length (Lib.strCells s):=by simpa [Lib.strCells_length] using hown'
 have hne2:=Lib.ownBlock_ne hown2 hb2 (by decide)
 refine⟨rfl,_,⟨zhS (o:=1) hb2,?_,hne2⟩,?_⟩
 ·exact hown2.kept (row:=some b) ⟨rfl,rfl,rfl,by simp[World.setCell],fun k _ hk=>Below.heap_setCell _ _ _ _ (fun e=>hk (by simp[e]))⟩ (Or.inr hne2)
 ·exact (hB1.grown hgrow hBw (fun k hk=>by cases hk)).set _ _
theorem stringU(w:World)(B b:Nat)(p v:Value)(l:List UInt8)(h:Bl2 w B b p v (Lib.byteCells l))(h0:l≠[]) :
  Calls Tryz.prog 21 #[.pointer (some ⟨b,0,none⟩)] w fun e w'=>e=.returned (.string ⟨l.toArray⟩)∧∃ g,v.ownBlock=some g∧w'=w.drew.freeze ⟨g,0,none⟩ l.length:=by
 obtain⟨hbk,hown,hne⟩:=h
 have hl0:l.length≠0:=by simpa using h0
 rw[Lib.byteCells_length] at hown
 obtain⟨g,cap,cur,rfl,hbg,hg,hnc,hcm,hcs,htake⟩:∃ g cap cur,v=.slice (some ⟨g,0,none⟩) l.length cap∧B≤g∧w.heap[g]?=some (.cells cur 5 (0,0))∧l.length≤cap∧cap≤maxLen∧cur.size=cap*1∧cur.toList.take (l.length*1)=Lib.byteCells l:=by
  rcases hown.2 with⟨_,hz⟩|⟨g,cap,cur,hv,r⟩
  ·exact absurd hz hl0
  ·exact⟨g,cap,cur,hv,r⟩
 have c1:w.drew.cell? ⟨b,1,none⟩=some (.slice (some ⟨g,0,none⟩) l.length cap):=by
  have:w.drew.heap[b]?=some (.cells #[p,.slice (some ⟨g,0,none⟩) l.length cap] 38 (0,0)):=hbk
  rw[zcH this];rfl
 have hSD:(Builtin.unsafeSliceData_ #[22] 77 #[.slice (some ⟨g,0,none⟩) l.length cap]).run Tryz.prog w.drew=.ok (.pointer (some ⟨g,0,none⟩)) w.drew :=
  Lib.run_unsafeSliceData_row _ _ _ _ _ _ (by omega)
 have hUS:(Builtin.unsafeString_ #[77,3] 9 #[.pointer (some ⟨g,0,none⟩),.int .i64 l.length]).run Tryz.prog w.drew=.ok (.string ⟨l.toArray⟩) (w.drew.freeze ⟨g,0,none⟩ l.length):=by
  refine Lib.run_unsafeString_row w.drew 77 3 9 5 Tryz.underlying77 (by kernel_rfl) g cur.size (by have hg':w.drew.heap[g]?=some (.cells cur 5 (0,0)):=hg;simp[World.shape?,hg']) l h0 (by omega) (by unfold maxLen at hcm;omega) ?_
  intro j x hx
  have:=hown.cells (g:=g) rfl j (.int .u8 x.toNat) (by simp[Lib.byteCells,hx])
  exact this
 clear hown hbk htake hcs
 go_enter Tryz.func21,Tryz.ntmps21
 go_wp2_with fail
 go_region
 all_goals (go_wp2_with fail;go_ret;exact⟨rfl,g,rfl,rfl⟩)
def BlA(w:World)(B b:Nat)(l:List Value):Prop:=(∃ v,Bl2 w B b (.pointer (some ⟨b,0,none⟩)) v l)∨(l=[]∧Bl2 w B b (.pointer none) (.slice none 0 0) [])
theorem BlA.keep{w w':World}{B b:Nat}{l:List Value}(h:BlA w B b l)(k:Below w.heap.size w w'):BlA w' B b l:=by
 rcases h with⟨v,h⟩|⟨e,h⟩
 ·exact .inl ⟨v,h.keep k⟩
 ·exact .inr ⟨e,h.keep k⟩
theorem writeA(w:World)(B b:Nat)(l:List Value)(s:ByteArray)(h:BlA w B b l)(hlen:l.length+s.size≤140737488355328)(hBw:B≤w.heap.size) :
  Calls Tryz.prog 19 #[.pointer (some ⟨b,0,none⟩),.string s] w fun e w'=>e=.returned (.tuple #[.int .i64 s.size,.nilIface])∧(∃ v,Bl2 w' B b (.pointer (some ⟨b,0,none⟩)) v (l++Lib.strCells s))∧BxB b B w w':=by
 rcases h with⟨v,h⟩|⟨rfl,h⟩
 ·refine (writeU w B b v l s h hlen hBw).mono ?_
  rintro e w' ⟨he,v',w1,hb,hg,rfl⟩
  exact⟨he,⟨v',hb⟩,((BxB.refl b B w).grown hg hBw (fun k hk=>(h.row.lt k hk).1)).set _ _⟩
 ·refine (writeN w B b s h (by simpa using hlen) hBw).mono ?_
  rintro e w' ⟨he,v',hb,hx⟩
  exact⟨he,⟨v',by simpa using hb⟩,hx⟩
end Go.Proofs.YtkpmiikafconmaaGreatDoor
namespace Go.Proofs.YtkpmiikafconmaaGreatDoor
open Go.RowKit
set_option linter.unusedVariables false
set_option linter.unusedSimpArgs false
def lvT(T:TypeId):Nat:=if T=2 then 0 else if T=92 then 1 else if T=95 then 2 else if T=74 then 3 else if T=55 then 4 else 9
def Still(k:Nat)(w w':World):Prop:=∀ (b:Nat) (cur:Array Value) (T:TypeId),w.heap[b]?=some (.cells cur T (0,0))→lvT T<k→w'.heap[b]?=some (.cells cur T (0,0))
theorem Still.trans{k:Nat}{x y z:World}(h:Still k x y)(h2:Still k y z):Still k x z:=fun b cur T hb hT=>h2 b cur T (h b cur T hb hT) hT
theorem Still.below{k:Nat}{w w':World}(h:Below w.heap.size w w'):Still k w w':=fun b cur T hb _=>(h.block b (Array.getElem?_eq_some_iff.1 hb).1).trans hb
theorem Still.set{k g o:Nat}{w:World}{cs:Array Value}{T:TypeId}{v:Value}(h:At w g cs T)(hT:k≤lvT T):Still k w (w.setCell ⟨g,o,none⟩ v):=fun b cur T' hb hT'=>by
 have hn:b≠g:=fun e=>by
  rw[e,show w.heap[g]?=_ from h] at hb
  cases hb
  omega
 exact (Below.heap_setCell _ _ _ _ (by show b≠g;exact hn)).trans hb
theorem Still.grown{k:Nat}{w w':World}{r:Option Nat}(h:w.grownBy w' r)(hr:∀ g,r=some g→∃ cur T,w.heap[g]?=some (.cells cur T (0,0))∧k≤lvT T):Still k w w':=fun b cur T hb hT =>
 (h.block b (Array.getElem?_eq_some_iff.1 hb).1 (fun e=>by
  obtain⟨cur2,T2,h1,h2⟩:=hr b e.symm
  rw[hb] at h1
  cases h1
  omega)).trans hb
def OwnI(w:World)(lo hi:Nat)(u:Option Addr)(l:List Int):Prop:=l.length≤1048576∧(l=[]∨∃ g cur,u=some ⟨g,0,none⟩∧lo≤g∧g<hi∧w.heap[g]?=some (.cells cur 2 (0,0))∧∀ i,i<l.length→cur[i]?=some (.int .i64 (l.getD i 0)))
theorem OwnI.still{w w':World}{lo hi:Nat}{u:Option Addr}{l:List Int}{k:Nat}(h:OwnI w lo hi u l)(s:Still k w w')(hk:0<k):OwnI w' lo hi u l:=by
 refine⟨h.1,?_⟩
 rcases h.2 with h|⟨g,cur,e,h1,h2,h3,h4⟩
 ·exact .inl h
 ·exact .inr ⟨g,cur,e,h1,h2,s g cur _ h3 (by rw[show lvT 2=0 by decide];exact hk),h4⟩
theorem OwnI.wide{w:World}{lo hi lo' hi':Nat}{u:Option Addr}{l:List Int}(h:OwnI w lo hi u l)(h1:lo'≤lo)(h2:hi≤hi'):OwnI w lo' hi' u l:=by
 refine⟨h.1,?_⟩
 rcases h.2 with h|⟨g,cur,e,k1,k2,k3⟩
 ·exact .inl h
 ·exact .inr ⟨g,cur,e,by omega,by omega,k3⟩
theorem OwnI.row{w:World}{base:Nat}{u:Option Addr}{c:Nat}{l:List Int}(hm:l.length≤1048576)(h:Row w base (.slice u l.length c) l):OwnI w base w.heap.size u l:=by
 refine⟨hm,?_⟩
 rcases h.2 with⟨_,hn⟩|⟨g,cap,cur,hv,hb,hg,hnc,_,hcs,htk⟩
 ·exact .inl (List.length_eq_zero_iff.1 hn)
 ·cases hv
  refine .inr ⟨g,cur,rfl,hb,(Array.getElem?_eq_some_iff.1 hg).1,hg,fun i hi=>?_⟩
  have h1:(l.map (Value.int .i64))[i]?=some (.int .i64 (l.getD i 0)):=by simp[List.getD,hi]
  rw[←htk,List.getElem?_take,if_pos (by omega)] at h1
  simpa using h1
theorem OwnI.ints{w:World}{lo hi:Nat}{u:Option Addr}{l:List Int}(h:OwnI w lo hi u l):IntsAt w lo u l:=by
 refine⟨by have:=h.1;omega,?_⟩
 rcases h.2 with h|⟨g,cur,e,h1,h2,h3,h4⟩
 ·exact .inl h
 ·exact .inr ⟨g,0,e,h1,(Array.getElem?_eq_some_iff.1 h3).1,fun i hi=>by rw[Nat.zero_add,zcH h3];exact h4 i hi⟩
def Sub{α:Type}(O:World→Nat→Nat→α→Prop)(w:World):Nat→Nat→List α→Prop
 | lo,hi,[]=>lo≤hi
 | lo,hi,e :: es=>∃ a m,lo≤a∧a≤m∧O w a m e∧Sub O w m hi es
theorem Sub.le{α:Type}{O:World→Nat→Nat→α→Prop}{w:World}:∀ {es:List α} {lo hi:Nat},Sub O w lo hi es→lo≤hi
 | [],_,_,h=>h
 | _ :: _,_,_,⟨a,m,h1,h2,_,h3⟩=>Nat.le_trans h1 (Nat.le_trans h2 h3.le)
theorem Sub.wide{α:Type}{O:World→Nat→Nat→α→Prop}{w:World}:∀ {es:List α} {lo hi lo' hi':Nat},Sub O w lo hi es→lo'≤lo→hi≤hi'→Sub O w lo' hi' es
 | [],_,_,_,_,h,h1,h2=>Nat.le_trans h1 (Nat.le_trans h h2)
 | _ :: _,_,_,_,_,⟨a,m,k1,k2,k3,k4⟩,h1,h2=>⟨a,m,Nat.le_trans h1 k1,k2,k3,k4.wide (Nat.le_refl _) h2⟩
theorem Sub.snoc{α:Type}{O:World→Nat→Nat→α→Prop}{w:World}{e:α}:∀ {es:List α} {lo m a hi:Nat},Sub O w lo m es→m≤a→a≤hi→O w a hi e→Sub O w lo hi (es++[e])
 | [],lo,m,a,hi,h,h1,h2,h3=>⟨a,hi,Nat.le_trans h h1,h2,h3,Nat.le_refl _⟩
 | x :: es,lo,m,a,hi,⟨p,q,h1,h2,h3,h4⟩,k1,k2,k3=>⟨p,q,h1,h2,h3,h4.snoc k1 k2 k3⟩
theorem Sub.still{α:Type}{O:World→Nat→Nat→α→Prop}{w w':World}(hO:∀ lo hi e,O w lo hi e→O w' lo hi e):∀ {es:List α} {lo hi:Nat},Sub O w lo hi es→Sub O w' lo hi es
 | [],_,_,h=>h
 | _ :: _,_,_,⟨a,m,h1,h2,h3,h4⟩=>⟨a,m,h1,h2,hO _ _ _ h3,h4.still hO⟩
def RowS{α:Type}(T:TypeId)(s:Nat)(C:α→List Value)(w:World)(base:Nat)(v:Value)(es:List α):Prop:=w.ownsRow base T s v es.length (es.flatMap C)
theorem RowS.nil{α:Type}(T:TypeId)(s:Nat)(C:α→List Value)(w:World)(base:Nat):RowS T s C w base (.slice none 0 0) []:=World.ownsRow_nil _ _ _ _
theorem RowS.slice{α:Type}{T:TypeId}{s:Nat}{C:α→List Value}{w:World}{base:Nat}{v:Value}{es:List α}(h:RowS T s C w base v es):∃ u c,v=.slice u es.length c:=by
 rcases h.2 with⟨rfl,hn⟩|⟨g,cap,cur,rfl,_⟩
 ·exact⟨none,0,by rw[hn]⟩
 ·exact⟨_,cap,rfl⟩
theorem RowS.ge{α:Type}{T:TypeId}{s:Nat}{C:α→List Value}{w:World}{base:Nat}{v:Value}{es:List α}(h:RowS T s C w base v es){g:Nat}(hv:v.ownBlock=some g):base≤g∧∃ cur,w.heap[g]?=some (.cells cur T (0,0)):=by
 rcases h.2 with⟨e,_⟩|⟨g',cap,cur,e,hb,hg,_⟩
 ·rw[e] at hv;cases hv
 ·rw[e] at hv;cases hv;exact⟨hb,cur,hg⟩
theorem RowS.still{α:Type}{T:TypeId}{s:Nat}{C:α→List Value}{w w':World}{base:Nat}{v:Value}{es:List α}{k:Nat}(h:RowS T s C w base v es)(st:Still k w w')(hk:lvT T<k):RowS T s C w' base v es:=by
 refine⟨h.1,?_⟩
 rcases h.2 with h2|⟨g,cap,cur,hv,hb,hg,r⟩
 ·exact .inl h2
 ·exact .inr ⟨g,cap,cur,hv,hb,st g cur T hg hk,r⟩
theorem RowS.push{α:Type}{T:TypeId}{s:Nat}{C:α→List Value}{w:World}{base:Nat}{v:Value}{es:List α}{e:α}(h:w.ownsRow base T s v (es.length+1) (es.flatMap C++C e)):RowS T s C w base v (es++[e]):=by
 unfold RowS
 rw[List.length_append,List.flatMap_append]
 simpa using h
def OwnL{α:Type}(T:TypeId)(s:Nat)(C:α→List Value)(O:World→Nat→Nat→α→Prop)(w:World)(lo hi:Nat)(u:Option Addr)(es:List α):Prop :=
 es.length≤1048576∧(es=[]∨∃ g cur,u=some ⟨g,0,none⟩∧lo≤g∧g<hi∧w.heap[g]?=some (.cells cur T (0,0))∧∀ i e,es[i]?=some e→∀ j,j<s→cur[i*s+j]?=(C e)[j]?)∧Sub O w lo hi es
theorem OwnL.wide{α:Type}{T:TypeId}{s:Nat}{C:α→List Value}{O:World→Nat→Nat→α→Prop}{w:World}{lo hi lo' hi':Nat}{u:Option Addr}{es:List α}(h:OwnL T s C O w lo hi u es)(h1:lo'≤lo)(h2:hi≤hi'):OwnL T s C O w lo' hi' u es:=by
 refine⟨h.1,?_,h.2.2.wide h1 h2⟩
 rcases h.2.1 with h|⟨g,cur,e,k1,k2,k3⟩
 ·exact .inl h
 ·exact .inr ⟨g,cur,e,by omega,by omega,k3⟩
theorem OwnL.still{α:Type}{T:TypeId}{s:Nat}{C:α→List Value}{O:World→Nat→Nat→α→Prop}{w w':World}{lo hi:Nat}{u:Option Addr}{es:List α}{k:Nat}(h:OwnL T s C O w lo hi u es)(st:Still k w w')(hk:lvT T<k)(hO:∀ lo hi e,O w lo hi e→O w' lo hi e):OwnL T s C O w' lo hi u es:=by
 refine⟨h.1,?_,h.2.2.still hO⟩
 rcases h.2.1 with h|⟨g,cur,e,k1,k2,k3,k4⟩
 ·exact .inl h
 ·exact .inr ⟨g,cur,e,k1,k2,st g cur T k3 hk,k4⟩
theorem OwnL.none{α:Type}{T:TypeId}{s:Nat}{C:α→List Value}{O:World→Nat→Nat→α→Prop}{w:World}{lo hi:Nat}{u:Option Addr}(h:lo≤hi):OwnL T s C O w lo hi u []:=⟨by simp,.inl rfl,h⟩
theorem flat_at{α:Type}{C:α→List Value}{s:Nat}(hC:∀ e,(C e).length=s):∀ (l:List α) (i j:Nat) (e:α),l[i]?=some e→j<s→(l.flatMap C)[i*s+j]?=(C e)[j]?
 | [],i,j,e,h,_=>by simp at h
 | x :: l,0,j,e,h,hj=>by
  cases h
  rw[List.flatMap_cons,Nat.zero_mul,Nat.zero_add,List.getElem?_append_left (by rw[hC];exact hj)]
 | x :: l,i+1,j,e,h,hj=>by
  have ih:=flat_at hC l i j e (by simpa using h) hj
  rw[List.flatMap_cons,List.getElem?_append_right (by rw[hC,Nat.succ_mul];omega),hC]
  rw[show (i+1)*s+j-s=i*s+j by rw[Nat.succ_mul];omega]
  exact ih
theorem RowS.own{α:Type}{T:TypeId}{s:Nat}{C:α→List Value}{O:World→Nat→Nat→α→Prop}{w:World}{base lo hi:Nat}{u:Option Addr}{c:Nat}{es:List α}(hC:∀ e,(C e).length=s)(hm:es.length≤1048576)(h:RowS T s C w base (.slice u es.length c) es)(hs:Sub O w lo hi es)(h1:lo≤base)(h2:w.heap.size≤hi):OwnL T s C O w lo hi u es:=by
 refine⟨hm,?_,hs⟩
 rcases h.2 with⟨_,hn⟩|⟨g,cap,cur,hv,hb,hg,hnc,_,hcs,htk⟩
 ·exact .inl (List.length_eq_zero_iff.1 hn)
 ·cases hv
  have hlt:=(Array.getElem?_eq_some_iff.1 hg).1
  refine .inr ⟨g,cur,rfl,by omega,by omega,hg,fun i e he j hj=>?_⟩
  have hil:=(List.getElem?_eq_some_iff.1 he).1
  rw[←flat_at hC es i j e he hj,←htk,List.getElem?_take,if_pos (by
   have:=Nat.mul_le_mul_right s (show i+1≤es.length from hil)
   rw[Nat.succ_mul] at this
   omega)]
  simp
abbrev PhE:=PhiD × Option Addr × Nat
def phC(e:PhE):List Value:=[.int .i64 e.1.w,.slice e.2.1 e.1.ins.length e.2.2]
def OwnPhE(w:World)(lo hi:Nat)(e:PhE):Prop:=OwnI w lo hi e.2.1 e.1.ins
abbrev InE:=InstD × Option Addr × Nat
def inC(e:InE):List Value:=[.int .i64 e.1.op,.int .i64 e.1.w,.int .i64 e.1.a,.int .i64 e.1.b,.int .i64 e.1.c,.int .i64 e.1.imm,.slice e.2.1 e.1.args.length e.2.2]
def OwnInE(w:World)(lo hi:Nat)(e:InE):Prop:=OwnI w lo hi e.2.1 e.1.args
structure BkE where
 ps:List PhE
 pu:Option Addr
 pc:Nat
 is:List InE
 iu:Option Addr
 ic:Nat
 t:TermD
def bkC(b:BkE):List Value:=[.slice b.pu b.ps.length b.pc,.slice b.iu b.is.length b.ic,.int .i64 b.t.kind,.int .i64 b.t.a,.int .i64 b.t.x,.int .i64 b.t.y]
abbrev OwnPhs:=OwnL 92 2 phC OwnPhE
abbrev OwnIns:=OwnL 95 7 inC OwnInE
def OwnBk(w:World)(lo hi:Nat)(b:BkE):Prop:=∃ m,lo≤m∧m≤hi∧OwnPhs w lo m b.pu b.ps∧OwnIns w m hi b.iu b.is
structure FnE where
 pars:List Int
 pu:Option Addr
 pc:Nat
 ret:Int
 bs:List BkE
 bu:Option Addr
 bc:Nat
def fnC(f:FnE):List Value:=[.slice f.pu f.pars.length f.pc,.int .i64 f.ret,.slice f.bu f.bs.length f.bc]
abbrev OwnBks:=OwnL 74 6 bkC OwnBk
def OwnFn(w:World)(lo hi:Nat)(f:FnE):Prop:=∃ m,lo≤m∧m≤hi∧OwnI w lo m f.pu f.pars∧OwnBks w m hi f.bu f.bs
abbrev OwnFns:=OwnL 55 3 fnC OwnFn
theorem OwnPhs.still{w w':World}{lo hi:Nat}{u:Option Addr}{es:List PhE}{k:Nat}(h:OwnPhs w lo hi u es)(st:Still k w w')(hk:1<k):OwnPhs w' lo hi u es:=OwnL.still h st (by rw[show lvT 92=1 by decide];exact hk) fun _ _ _ h=>OwnI.still h st (by omega)
theorem OwnIns.still{w w':World}{lo hi:Nat}{u:Option Addr}{es:List InE}{k:Nat}(h:OwnIns w lo hi u es)(st:Still k w w')(hk:2<k):OwnIns w' lo hi u es:=OwnL.still h st (by rw[show lvT 95=2 by decide];exact hk) fun _ _ _ h=>OwnI.still h st (by omega)
theorem OwnBk.still{w w':World}{lo hi:Nat}{b:BkE}{k:Nat}(h:OwnBk w lo hi b)(st:Still k w w')(hk:2<k):OwnBk w' lo hi b:=by
 obtain⟨m,h1,h2,h3,h4⟩:=h
 exact⟨m,h1,h2,OwnPhs.still h3 st (by omega),OwnIns.still h4 st hk⟩
theorem OwnBks.still{w w':World}{lo hi:Nat}{u:Option Addr}{es:List BkE}{k:Nat}(h:OwnBks w lo hi u es)(st:Still k w w')(hk:3<k):OwnBks w' lo hi u es:=OwnL.still h st (by rw[show lvT 74=3 by decide];exact hk) fun _ _ _ h=>OwnBk.still h st (by omega)
theorem OwnFn.still{w w':World}{lo hi:Nat}{f:FnE}{k:Nat}(h:OwnFn w lo hi f)(st:Still k w w')(hk:3<k):OwnFn w' lo hi f:=by
 obtain⟨m,h1,h2,h3,h4⟩:=h
 exact⟨m,h1,h2,OwnI.still h3 st (by omega),OwnBks.still h4 st hk⟩
theorem OwnFns.still{w w':World}{lo hi:Nat}{u:Option Addr}{es:List FnE}{k:Nat}(h:OwnFns w lo hi u es)(st:Still k w w')(hk:4<k):OwnFns w' lo hi u es:=OwnL.still h st (by rw[show lvT 55=4 by decide];exact hk) fun _ _ _ h=>OwnFn.still h st (by omega)
def BkE.d(b:BkE):BlockD:=⟨b.ps.map (·.1),b.is.map (·.1),b.t⟩
def FnE.d(f:FnE):FuncD:=⟨f.pars,f.ret,f.bs.map BkE.d⟩
set_option maxHeartbeats 1000000
def blankN:ByteArray:=⟨#[10]⟩
theorem blank_sizeN:blankN.size=1:=rfl
def piecesN(s:ByteArray):List ByteArray:=Lib.splitB blankN 0 (Lib.countB s blankN) s
theorem pieces_lenN(s:ByteArray):(piecesN s).length=Lib.countB s blankN+1:=Lib.splitB_all blankN (by decide) 0 _ s rfl
theorem count_sizeN(s:ByteArray):Lib.countB s blankN≤s.size:=Lib.countB_le blankN (by decide) s.size s (Nat.le_refl _)
theorem pieces_missN{s:ByteArray}(h:Lib.indexB s blankN=-1):piecesN s=[s]:=Lib.splitB_miss blankN 0 _ s h
theorem pieces_hitN{s:ByteArray}{i:Nat}(h:Lib.indexB s blankN=i):piecesN s=s.extract 0 i :: piecesN (s.extract (i+1) s.size):=by
 unfold piecesN
 rw[Lib.countB_hit s blankN i (by decide) h,Nat.add_comm 1,Lib.splitB_hit blankN 0 _ s i h]
 rfl
theorem splitIN(s:ByteArray)(w:World)(hs:s.size<4294967281) :
  Calls Tryz.prog 46 #[.string s,.string blankN] w fun e w'=>e=.returned (.slice (some ⟨w.heap.size,0,none⟩) (piecesN s).length (piecesN s).length)∧w'=w.alloc (.cells ((piecesN s).map Value.string).toArray 9):=by
 have hle:=count_sizeN s
 have hI:∀ (x:ByteArray) (c:Array Value),x.size≤s.size→Calls Tryz.prog 120 #[.string x,.string blankN] (w.alloc (.cells c 9)) fun e w'=>e=.returned (.int .i64 (Lib.indexB x blankN))∧w'=w.alloc (.cells c 9):=fun x c _=>by
  refine (Tryz.strings_Index_one x 10 _).mono fun e w' h=>?_
  rw[←Lib.index_one] at h
  exact h
 have hC:Calls Tryz.prog 119 #[.string s,.string blankN] w fun e w'=>e=.returned (.int .i64 (Lib.countB s blankN))∧w'=w:=by
  refine (Tryz.strings_Count_one s 10 w).mono fun e w' h=>?_
  have e2:Lib.countB s blankN=Lib.countByte s.data.toList 10:=Lib.count_one 10 _
  rw[e2]
  exact h
 have G:=Any.strings_genSplit_core Tryz.lays221 (by kernel_rfl) s blankN 0 (-1) (Lib.countB s blankN+1) w hs (by decide) (by decide) hI hC (by decide) (by decide) (by rw[if_pos (by decide)];omega)
 rw[Nat.add_sub_cancel] at G
 have e2:Lib.cellsOf (Lib.splitB blankN 0 (Lib.countB s blankN) s) (Lib.countB s blankN+1)=((piecesN s).map Value.string).toArray:=by rw[←pieces_lenN s];exact Lib.cellsOf_full _
 rw[e2,show (Lib.splitB blankN 0 (Lib.countB s blankN) s)=piecesN s from rfl,←pieces_lenN s] at G
 have G2:Calls Tryz.prog 79 #[.string s,.string blankN,.int .i64 0,.int .i64 (-1)] w fun e w'=>e=.returned (.slice (some ⟨w.heap.size,0,none⟩) (piecesN s).length (piecesN s).length)∧w'=w.alloc (.cells ((piecesN s).map Value.string).toArray 9):=G
 clear G hI hC e2 hle
 generalize piecesN s=P at G2 ⊢
 go_enter Tryz.func46,Tryz.ntmps46
 go_wp2_with (go_at_call 79;refine G2.mono ?_;rintro e w8 ⟨rfl,h9⟩;subst h9)
 go_ret
 exact⟨rfl,rfl⟩
theorem idx_byteN(s:ByteArray):Lib.indexB s blankN=Lib.indexByte s.data.toList 10:=Lib.index_one _ 10
theorem join_moreN(x y:List UInt8)(r:List (List UInt8)):Lib.join (x :: y :: r) [10]=x++10 :: Lib.join (y :: r) [10]:=by
 simp[Lib.join,List.intercalate,List.intersperse]
theorem idx_noneN:∀ l:List UInt8,(10:UInt8) ∉ l→Lib.indexByte l 10=-1
 | [],_=>rfl
 | b :: l,h=>by
  unfold Lib.indexByte
  rw[if_neg (by simp at h ⊢;exact fun e=>h.1 e.symm),idx_noneN l (fun h'=>h (by simp[h']))]
  rfl
theorem idx_atN:∀ x r:List UInt8,(10:UInt8) ∉ x→Lib.indexByte (x++10 :: r) 10=(x.length:Int)
 | [],r,_=>by unfold Lib.indexByte;simp
 | b :: x,r,h=>by
  have e:=idx_atN x r (fun h'=>h (by simp[h']))
  show Lib.indexByte (b :: (x++10 :: r)) 10=_
  unfold Lib.indexByte
  rw[if_neg (by simp at h ⊢;exact fun e=>h.1 e.symm),e,if_neg (by simp<;>omega)]
  simp
theorem pieces_joinN:∀ ws:List ByteArray,ws≠[]→(∀ x∈ws,(10:UInt8) ∉ x.data.toList)→∀ s:ByteArray,s.data.toList=Lib.join (ws.map (·.data.toList)) [10]→piecesN s=ws
 | [],h,_,_,_=>absurd rfl h
 | [x],_,hx,s,hs=>by
  have e:s=x:=ba_ext (by rw[hs];exact Lib.join_one _ _)
  subst e
  exact pieces_missN (by rw[idx_byteN];exact idx_noneN _ (hx s (by simp)))
 | x :: y :: r,_,hx,s,hs=>by
  have hs2:s.data.toList=x.data.toList++10 :: Lib.join ((y :: r).map (·.data.toList)) [10]:=by rw[hs];exact join_moreN _ _ _
  have hi:Lib.indexB s blankN=(x.data.toList.length:Int):=by rw[idx_byteN,hs2];exact idx_atN _ _ (hx x (by simp))
  rw[pieces_hitN hi]
  congr 1
  ·exact ba_ext (by rw[ext_data,hs2];simp)
  ·refine pieces_joinN (y :: r) (by simp) (fun z hz=>hx z (by simp at hz ⊢;exact .inr hz)) _ ?_
   rw[ext_data,size_data s,hs2]
   simp
   rw[←List.drop_drop]
   simp
   exact List.take_of_length_le (by omega)
theorem join_piecesN:∀ (n:Nat) (s:ByteArray),s.size≤n→Lib.join ((piecesN s).map (·.data.toList)) [10]=s.data.toList:=by
 intro n
 induction n with
 | zero =>
  intro s hs
  have e:s=⟨#[]⟩:=ba_ext (by rw[size_data] at hs;exact List.eq_nil_of_length_eq_zero (by omega))
  subst e
  rw[pieces_missN (by decide)]
  exact Lib.join_one _ _
 | succ n ih =>
  intro s hs
  by_cases h:Lib.indexB s blankN=-1
  ·rw[pieces_missN h];exact Lib.join_one _ _
  ·have hge:=Lib.indexByte_ge s.data.toList 10
   rw[←idx_byteN] at hge
   obtain⟨i,hi⟩:∃ i:Nat,Lib.indexB s blankN=i:=⟨(Lib.indexB s blankN).toNat,by omega⟩
   obtain⟨hat,_⟩:=Lib.indexByte_some ((idx_byteN s).symm.trans hi)
   have hil:=(List.getElem?_eq_some_iff.1 hat).1
   have hil2:=hil
   rw[←size_data] at hil2
   rw[pieces_hitN hi]
   have hr:=ih (s.extract (i+1) s.size) (by rw[ByteArray.size_extract];omega)
   have hne:piecesN (s.extract (i+1) s.size)≠[]:=fun e=>by
    have:=pieces_lenN (s.extract (i+1) s.size)
    rw[e] at this;simp at this
   obtain⟨y,r,hyr⟩:=List.exists_cons_of_ne_nil hne
   rw[hyr] at hr ⊢
   show Lib.join ((s.extract 0 i).data.toList :: y.data.toList :: r.map (·.data.toList)) [10]=_
   rw[join_moreN]
   have hr2:Lib.join (y.data.toList :: r.map (·.data.toList)) [10]=s.data.toList.drop (i+1):=by
    rw[show (y.data.toList :: r.map (·.data.toList))=(y :: r).map (·.data.toList) from rfl,hr,ext_data,List.take_of_length_le (by rw[List.length_drop,←size_data];omega)]
   rw[hr2,ext_data]
   have h44:s.data.toList[i]'hil=10:=by
    have:=List.getElem?_eq_getElem hil
    rw[hat] at this
    exact (Option.some.inj this).symm
   rw[←h44,List.drop_zero,Nat.sub_zero,←List.drop_eq_getElem_cons hil,List.take_append_drop]
theorem byte_neN{s:ByteArray}{k:Nat}(h:k<s.size)(hn:s.data.toList[k]?≠some 10):¬(((s[k]'h).toNat:Nat):Int)=10:=fun e=>by
 apply hn
 rw[byte_at h]
 congr 1
 apply UInt8.toNat_inj.1
 have:(s[k]'h).toNat=10:=by omega
 rw[this];rfl
theorem byte_eqN{s:ByteArray}{k:Nat}(h:k<s.size)(hn:s.data.toList[k]?=some 10):(((s[k]'h).toNat:Nat):Int)=10:=by
 rw[byte_at h] at hn
 rw[Option.some.inj hn]
 rfl
theorem cutS_noN(s:ByteArray)(w:World)(hs:s.size≤1048576)(h:Lib.indexB s blankN=-1) :
  Calls Tryz.prog 32 #[.string s,.int .u8 10] w fun e w'=>e=.returned (.tuple #[.string s,.string ⟨#[]⟩,.bool false])∧Below w.heap.size w w':=by
 have HN:Hid (∀ k:Nat,s.data.toList[k]?≠some 10):=Lib.indexByte_none ((Lib.index_one _ 10).symm.trans h)
 clear h
 go_enter Tryz.func32,Tryz.ntmps32
 go_wp2_with fail
 go_loopw [7] (fun i wr=>∃ k:Nat,k≤s.size∧i=.int .i64 k∧Below w.heap.size w wr) (fun i _=>s.size-(intOf i).toNat)
 case atStart=>exact⟨0,by omega,rfl,Below.refl _ _⟩
 case round =>
  obtain⟨k,hk,rfl,hB⟩:=hrel
  by_cases hlt:k<s.size
  ·have hne:=byte_neN hlt (HN.out k)
   have hne2:((((s[k]'hlt).toNat:Nat):Int)==10)=false:=by simpa using hne
   go_wp2_with fail
   go_roundw
   case rel=>exact⟨k+1,by omega,by go_num,hB⟩
   case measure=>simp[intOf];omega
  ·go_wp2_with fail
   refine bodyPost_ret (v:=.tuple #[.string s,.string ⟨#[]⟩,.bool false]) (by simp[results,Tryz.results32]) rfl ⟨rfl,hB⟩
theorem cutS_yesN(s:ByteArray)(i:Nat)(w:World)(hs:s.size≤1048576)(h:Lib.indexB s blankN=i) :
  Calls Tryz.prog 32 #[.string s,.int .u8 10] w fun e w'=>e=.returned (.tuple #[.string (s.extract 0 i),.string (s.extract (i+1) s.size),.bool true])∧Below w.heap.size w w':=by
 obtain⟨hat,hno⟩:=Lib.indexByte_some ((Lib.index_one _ 10).symm.trans h)
 have hil:i<s.size:=by
  have:=(List.getElem?_eq_some_iff.1 hat).1
  simpa using this
 have HN:Hid (∀ k:Nat,k<i→s.data.toList[k]?≠some 10):=hno
 have HA:Hid (s.data.toList[i]?=some 10):=hat
 clear h hat hno
 go_enter Tryz.func32,Tryz.ntmps32
 go_wp2_with fail
 go_loopw [7] (fun z wr=>∃ k:Nat,k≤i∧z=.int .i64 k∧Below w.heap.size w wr) (fun z _=>s.size-(intOf z).toNat)
 case atStart=>exact⟨0,by omega,rfl,Below.refl _ _⟩
 case round =>
  obtain⟨k,hk,rfl,hB⟩:=hrel
  have hlt:k<s.size:=by omega
  by_cases hki:k<i
  ·have hne:=byte_neN hlt (HN.out k hki)
   have hne2:((((s[k]'hlt).toNat:Nat):Int)==10)=false:=by simpa using hne
   go_wp2_with fail
   go_roundw
   case rel=>exact⟨k+1,by omega,by go_num,hB⟩
   case measure=>simp[intOf];omega
  ·have hke:k=i:=by omega
   subst hke
   have heq:=byte_eqN hlt HA.out
   go_wp2_with fail
   go_region
   all_goals
    go_wp2_with fail
    exact bodyPost_ret (v:=.tuple #[.string (s.extract 0 k),.string (s.extract (k+1) s.size),.bool true]) (by simp[results,Tryz.results32]) rfl ⟨rfl,hB.drew⟩
section
variable {P:Program} {md:Region.Mode} {ops:Array Oper} {Q:Exit→Act→World→Prop} {S:World→Prop} {E:Nat→Bool}
def wpAnyX(P:Program)(md:Region.Mode)(ops:Array Oper)(Q:Exit→Act→World→Prop)(S:World→Prop)(E:Nat→Bool):Nat→Array Bool→Act→World→Prop
 | 0,listed,a,w=>Region.ready md ops listed=[]∧Q .normal a w
 | fuel+1,listed,a,w =>
  (Region.ready md ops listed=[]→Q .normal a w) ∧
  ∀ i∈Region.ready md ops listed,wpOp P ops Q i (fun a' w'=>(E i=true∨S w')∧wpAnyX P md ops Q S E fuel (listed.setIfInBounds i true) a' w') a w
theorem wpAny_of_x:∀ (fuel:Nat) (listed:Array Bool) (a:Act) (w:World),wpAnyX P md ops Q S E fuel listed a w→wpAny P md ops Q fuel listed a w
 | 0,_,_,_,h=>h
 | fuel+1,_,_,_,h=>⟨h.1,fun i hi=>wpOp_mono (fun a' w' h'=>wpAny_of_x fuel _ a' w' h'.2) (h.2 i hi)⟩
theorem wpAnyX_first{i:Nat}{oi:Oper}{v:Value}(hi:ops[i]?=some oi)(hsel:∀ (j:Nat) (o:Oper) cs b,ops[j]?=some o→o.op≠.select cs b)
  (hE:∀ j oj,ops[j]?=some oj→E j=true→∃ e∈oj.after,Region.binds md e=true∧e.on=i)
  (hQ:∀ c a w,Q (.panic c) (a.put oi.dst v) w→Q (.panic c) a w) :
  ∀ (fuel:Nat) (listed:Array Bool) (a:Act) (w:World),
   (∀ j oj,ops[j]?=some oj→j≠i→listed.getD j true=false→(∀ e∈oj.after,Region.binds md e=true→e.on≠i)→oi.apart ops oj=true) →
   i∈Region.ready md ops listed→YieldsIf P ops S oi v a→S w →
   wpAnyX P md ops Q S E fuel (listed.setIfInBounds i true) (a.put oi.dst v) w→wpAnyX P md ops Q S E (fuel+1) listed a w:=by
 intro fuel
 induction fuel with
 | zero =>
  intro listed a w _ hr hy hS H
  refine⟨fun h=>(by rw[h] at hr;cases hr),fun j hj=>?_⟩
  by_cases hji:j=i
  ·subst hji;exact hy.wpOp hi hS ⟨.inr hS,H⟩
  ·have:=ready_mono hj hji
   rw[H.1] at this
   cases this
 | succ fuel ih =>
  intro listed a w hfree hr hy hS H
  refine⟨fun h=>(by rw[h] at hr;cases hr),fun j hj=>?_⟩
  by_cases hji:j=i
  ·subst hji;exact hy.wpOp hi hS ⟨.inr hS,H⟩
  ·have h1:=H.2 j (ready_mono hj hji)
   obtain⟨hjun,oj,hoj,hall⟩:=mem_ready.1 hj
   have hnot:∀ e∈oj.after,Region.binds md e=true→e.on≠i:=fun e he hb heq=>by
    have h1:=hall e he hb
    have h0:=(mem_ready.1 hr).1
    rw[heq] at h1
    rcases Nat.lt_or_ge i listed.size with h'|h'
    ·simp[h'] at h0 h1;rw[h0] at h1;cases h1
    ·simp[Array.getElem?_eq_none h'] at h1
   have hEj:¬E j=true:=fun h=>by
    obtain⟨e,he,hb,hon⟩:=hE j oj hoj h
    exact hnot e he hb hon
   have h2:=wpOp_putIf hoj (hfree j oj hoj hji hjun hnot) (fun cs b=>hsel i oi cs b hi) (fun cs b=>hsel j oj cs b hoj) hQ hy h1
   have hfree':∀ k ok,ops[k]?=some ok→k≠i→(listed.setIfInBounds j true).getD k true=false →
     (∀ e∈ok.after,Region.binds md e=true→e.on≠i)→oi.apart ops ok=true:=fun k ok hk hki hun hno=>by
    refine hfree k ok hk hki ?_ hno
    by_cases hjk:j=k
    ·subst hjk;exact hjun
    ·rw[getD_set_ne true hjk] at hun;exact hun
   refine wpOp_mono (fun a' w' h3=>⟨h3.2.1,ih (listed.setIfInBounds j true) a' w' hfree' (ready_mono hr (Ne.symm hji)) h3.1 (h3.2.1.resolve_left hEj) ?_⟩) h2
   rw[Array.setIfInBounds_comm _ _ hji]
   exact h3.2.2
def exB(md:Region.Mode)(ops:Array Oper)(E:Nat→Bool)(i:Nat):Bool:=(List.range ops.size).all fun j=>!E j||(match ops[j]? with|some oj=>oj.after.toList.any fun e=>Region.binds md e&&decide (e.on=i)|none=>true)
theorem exB_spec{i:Nat}(h:exB md ops E i=true):∀ j oj,ops[j]?=some oj→E j=true→∃ e∈oj.after,Region.binds md e=true∧e.on=i:=fun j oj hj hE=>by
 unfold exB at h
 rw[List.all_eq_true] at h
 have h1:=h j (List.mem_range.2 (Array.getElem?_eq_some_iff.1 hj).1)
 rw[hE,hj] at h1
 simp only[Bool.not_true,Bool.false_or,List.any_eq_true,Bool.and_eq_true,decide_eq_true_eq] at h1
 obtain⟨e,he,hb,ho⟩:=h1
 exact⟨e,Array.mem_toList_iff.1 he,hb,ho⟩
theorem takeX(i:Nat){oi:Oper}{v:Value}{fuel:Nat}{listed:Array Bool}{s:Tmp}{a:Act}{w:World}(hi:ops[i]?=some oi)(hd:oi.dst=some s)
  (hc:(exB md ops E i&&(Region.noSelect ops&&(Region.free md ops listed i&&(Region.ready md ops listed).contains i)))=true)
  (hQ:∀ c a w,Q (.panic c) (a.put oi.dst v) w→Q (.panic c) a w) (hy:YieldsIf P ops S oi v a) (hS:S w)
  (h:wpAnyX P md ops Q S E fuel (listed.setIfInBounds i true) { a with tmps:=a.tmps.setIfInBounds s v } w):wpAnyX P md ops Q S E (fuel+1) listed a w:=by
 simp only[Bool.and_eq_true] at hc
 refine wpAnyX_first hi (Region.noSelect_spec hc.2.1) (exB_spec hc.1) hQ fuel listed a w (Region.free_spec hi hc.2.2.1) (by simpa using hc.2.2.2) hy hS ?_
 rw[hd]
 exact h
theorem readyX(i:Nat){o:Oper}{fuel:Nat}{listed:Array Bool}{a:Act}{w:World}(ho:ops[i]?=some o)(hr:Region.ready md ops listed=[i])
  (h:∀ K':Act→World→Prop,Shut (∀ a w,(E i=true∨S w)→wpAnyX P md ops Q S E fuel (listed.setIfInBounds i true) a w→K' a w)→if Region.wanted o (yielded ops a.tmps)=true then Oper.wp P o a w K' Q else K' (a.put o.dst undef) w):wpAnyX P md ops Q S E (fuel+1) listed a w :=
 ⟨fun h0=>(by rw[hr] at h0;cases h0),fun j hj=>(by
  rw[hr] at hj
  obtain rfl:=List.mem_singleton.1 hj
  exact wpOp_step ho (fun K' hK=>h K' (fun a w hS hW=>hK a w ⟨hS,hW⟩)))⟩
theorem doneX{listed:Array Bool}{a:Act}{w:World}(hr:Region.ready md ops listed=[])(h:Q .normal a w):∀ fuel,wpAnyX P md ops Q S E fuel listed a w
 | 0=>⟨hr,h⟩
 | _+1=>⟨fun _=>h,by rw[hr];simp⟩
theorem startX{id:Nat}{a:Act}{w:World}(S:World→Prop)(E:Nat→Bool)(hm:P.follows .mixedOrders=true)(h:wpAnyX P .any ops Q S E ops.size (Array.replicate ops.size false) a w.drew):(Code.region id ops true).wp P Q a w :=
 wp_region_any hm (wpAny_of_x _ _ _ _ h)
end
theorem step_runP{P:Program}{ops:Array Oper}{o:Oper}{a:Act}{w w1:World}{K:Act→World→Prop}{Q:Exit→Act→World→Prop}{E:Prop}{v':Value}(hgd:o.guard=none)(s x:Operand)(t:TypeId)
  (ho:o.op=.call { callee:=.builtin .append,args:=#[s,x],argTypes:=#[t,t] }) {v1 v2:Value} (h1:a.eval s=v1) (h2:a.eval x=v2) (hrun:(Builtin.append_ #[t,t] o.type #[v1,v2]).run P w=.ok v' w1) (h:K (a.put o.dst v') w1) :
  if Region.wanted o (yielded ops a.tmps)=true then Oper.wp P o a w K Q else E:=by
 have hw:Region.wanted o (yielded ops a.tmps)=true:=by simp[Region.wanted,hgd]
 rw[if_pos hw]
 unfold Oper.wp execOp
 simp only[ho,resolve,invoke,builtin,Sem.run_bind,Sem.run_pure,Result.andThen_ok,List.map_toArray,List.map_cons,List.map_nil,h1,h2,hrun]
 exact h
structure Only(g:Nat)(w w':World):Prop where
 os:w'.os=w.os
 tape:w'.tape=w.tape
 output:w'.output=w.output
 size:w'.heap.size=w.heap.size
 other:∀ k:Nat,k≠g→w'.heap[k]?=w.heap[k]?
def marks(k:Int)(n:Nat):List Int:=(List.range n).map fun i:Nat=>k+(i:Int)
end Go.Proofs.YtkpmiikafconmaaGreatDoor
