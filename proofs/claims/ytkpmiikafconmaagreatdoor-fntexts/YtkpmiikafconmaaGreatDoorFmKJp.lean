import Derived.Test.YtkpmiikafconmaaGreatDoorFmJJp
import Derived.Test.YtkpmiikafconmaaGreatDoorFmIJp
namespace Go.Proofs.YtkpmiikafconmaaGreatDoor
open Go.RowKit
set_option maxHeartbeats 2000000
set_option maxRecDepth 100000
set_option linter.unusedVariables false
theorem funcShS_p(lo:Nat)(d:FuncD)(u0:Option Addr)(c0:Nat)(u2:Option Addr)(c2:Nat)(funcs:Int)(w:World)(hs:SmFunc d)(k0:IntsAt w lo u0 d.params)(k2:zBA w lo u2 d.blocks)(hp:¬d.params.length≤4):Calls Tryz.prog 50 #[.agg #[.slice u0 d.params.length c0,.int .i64 d.ret,.slice u2 d.blocks.length c2],.int .i64 funcs] w fun e w'=>e=.returned (.bool (funcB funcs d))∧Below w.heap.size w w':=by
 have HR:Hid (false=funcB funcs d):=by show _=_;simp[funcB,hp]
 have F0:=FBox.start (d:=d) (u0:=u0) (u2:=u2) (c0:=c0) (c2:=c2) (w:=w) (T:=55)
 have hbl:=hs.2.1
 have i1:(4:Int)<d.params.length:=by omega
 go_enter Tryz.func50,Tryz.ntmps50
 go_wp2_with fail
 refine (countS_any lo d u0 c0 u2 c2 _ hs (k2.keep (zaB F0.below lo))).mono ?_
 rintro e w1 ⟨rfl,hb1'⟩
 have F1:=F0.keep hb1'
 have b0:=F1.a0
 have b1:=F1.a1
 have b2:=F1.a2
 clear hb1' F0
 go_wp2_with fail
 go_ret
 exact⟨zrB HR.out,F1.below⟩
theorem funcShS_r(lo:Nat)(d:FuncD)(u0:Option Addr)(c0:Nat)(u2:Option Addr)(c2:Nat)(funcs:Int)(w:World)(hs:SmFunc d)(k0:IntsAt w lo u0 d.params)(k2:zBA w lo u2 d.blocks)(hp:d.params.length≤4)(hr:zWd d.ret=false):Calls Tryz.prog 50 #[.agg #[.slice u0 d.params.length c0,.int .i64 d.ret,.slice u2 d.blocks.length c2],.int .i64 funcs] w fun e w'=>e=.returned (.bool (funcB funcs d))∧Below w.heap.size w w':=by
 have HR:Hid (false=funcB funcs d):=by show _=_;simp[funcB,hr]
 have F0:=FBox.start (d:=d) (u0:=u0) (u2:=u2) (c0:=c0) (c2:=c2) (w:=w) (T:=55)
 have hbl:=hs.2.1
 have i1:¬(4:Int)<d.params.length:=by omega
 go_enter Tryz.func50,Tryz.ntmps50
 go_wp2_with fail
 refine (countS_any lo d u0 c0 u2 c2 _ hs (k2.keep (zaB F0.below lo))).mono ?_
 rintro e w1 ⟨rfl,hb1'⟩
 have F1:=F0.keep hb1'
 have b0:=F1.a0
 have b1:=F1.a1
 have b2:=F1.a2
 clear hb1' F0
 go_wp2_with (first|(go_at_call 86;refine (widthS _ _).mono ?_;rintro e w' ⟨rfl,rfl⟩))
 go_ret
 exact⟨zrB HR.out,F1.below⟩
theorem funcShS_b(lo:Nat)(d:FuncD)(u0:Option Addr)(c0:Nat)(u2:Option Addr)(c2:Nat)(funcs:Int)(w:World)(hs:SmFunc d)(k0:IntsAt w lo u0 d.params)(k2:zBA w lo u2 d.blocks)(hp:d.params.length≤4)(hr:zWd d.ret=true)(hb:¬(1≤d.blocks.length∧d.blocks.length≤10)):Calls Tryz.prog 50 #[.agg #[.slice u0 d.params.length c0,.int .i64 d.ret,.slice u2 d.blocks.length c2],.int .i64 funcs] w fun e w'=>e=.returned (.bool (funcB funcs d))∧Below w.heap.size w w':=by
 have HR:Hid (false=funcB funcs d):=by show _=_;(by_cases q:1≤d.blocks.length<;>by_cases q2:d.blocks.length≤10<;>simp[funcB,q,q2]<;>omega)
 have F0:=FBox.start (d:=d) (u0:=u0) (u2:=u2) (c0:=c0) (c2:=c2) (w:=w) (T:=55)
 have hbl:=hs.2.1
 have i1:¬(4:Int)<d.params.length:=by omega
 have i2:(decide (1≤(d.blocks.length:Int))&&decide ((d.blocks.length:Int)≤10))=false:=by simp;omega
 go_enter Tryz.func50,Tryz.ntmps50
 go_wp2_with fail
 refine (countS_any lo d u0 c0 u2 c2 _ hs (k2.keep (zaB F0.below lo))).mono ?_
 rintro e w1 ⟨rfl,hb1'⟩
 have F1:=F0.keep hb1'
 have b0:=F1.a0
 have b1:=F1.a1
 have b2:=F1.a2
 clear hb1' F0
 go_wp2_with (first|(go_at_call 86;refine (widthS _ _).mono ?_;rintro e w' ⟨rfl,rfl⟩)|(go_at_call 49;refine (inS _ _ _ _).mono ?_;rw[i2];rintro e w' ⟨rfl,rfl⟩))
 go_ret
 exact⟨zrB HR.out,F1.below⟩
theorem funcShS_n(lo:Nat)(d:FuncD)(u0:Option Addr)(c0:Nat)(u2:Option Addr)(c2:Nat)(funcs:Int)(w:World)(hs:SmFunc d)(k0:IntsAt w lo u0 d.params)(k2:zBA w lo u2 d.blocks)(hp:d.params.length≤4)(hr:zWd d.ret=true)(hb:(1≤d.blocks.length∧d.blocks.length≤10))(hn:¬cntF d≤60):Calls Tryz.prog 50 #[.agg #[.slice u0 d.params.length c0,.int .i64 d.ret,.slice u2 d.blocks.length c2],.int .i64 funcs] w fun e w'=>e=.returned (.bool (funcB funcs d))∧Below w.heap.size w w':=by
 have HR:Hid (false=funcB funcs d):=by show _=_;simp[funcB,hn]
 have F0:=FBox.start (d:=d) (u0:=u0) (u2:=u2) (c0:=c0) (c2:=c2) (w:=w) (T:=55)
 have hbl:=hs.2.1
 have i1:¬(4:Int)<d.params.length:=by omega
 have i2:(decide (1≤(d.blocks.length:Int))&&decide ((d.blocks.length:Int)≤10))=true:=by simp;omega
 have i4:(60:Int)<cntF d:=by omega
 go_enter Tryz.func50,Tryz.ntmps50
 go_wp2_with fail
 refine (countS_any lo d u0 c0 u2 c2 _ hs (k2.keep (zaB F0.below lo))).mono ?_
 rintro e w1 ⟨rfl,hb1'⟩
 have F1:=F0.keep hb1'
 have b0:=F1.a0
 have b1:=F1.a1
 have b2:=F1.a2
 clear hb1' F0
 go_wp2_with (first|(go_at_call 86;refine (widthS _ _).mono ?_;rintro e w' ⟨rfl,rfl⟩)|(go_at_call 49;refine (inS _ _ _ _).mono ?_;rw[i2];rintro e w' ⟨rfl,rfl⟩))
 go_ret
 exact⟨zrB HR.out,F1.below⟩
theorem funcShS(lo:Nat)(d:FuncD)(u0:Option Addr)(c0:Nat)(u2:Option Addr)(c2:Nat)(funcs:Int)(w:World)(hs:SmFunc d)(k0:IntsAt w lo u0 d.params)(k2:zBA w lo u2 d.blocks)(g2:0≤funcs)(g3:funcs≤4611686018427387904):Calls Tryz.prog 50 #[.agg #[.slice u0 d.params.length c0,.int .i64 d.ret,.slice u2 d.blocks.length c2],.int .i64 funcs] w fun e w'=>e=.returned (.bool (funcB funcs d))∧Below w.heap.size w w':=by
 by_cases hp:d.params.length≤4
 ·cases hr:zWd d.ret with
  | false=>exact funcShS_r lo d u0 c0 u2 c2 funcs w hs k0 k2 hp hr
  | true =>
   by_cases hb:1≤d.blocks.length∧d.blocks.length≤10
   ·by_cases hn:cntF d≤60
    ·exact funcShS_ok lo d u0 c0 u2 c2 funcs w hs k0 k2 g2 g3 hp hr hb.1 hb.2 hn
    ·exact funcShS_n lo d u0 c0 u2 c2 funcs w hs k0 k2 hp hr hb hn
   ·exact funcShS_b lo d u0 c0 u2 c2 funcs w hs k0 k2 hp hr hb
 ·exact funcShS_p lo d u0 c0 u2 c2 funcs w hs k0 k2 hp
theorem modShS(lo:Nat)(l:List FuncD)(u0:Option Addr)(c0:Nat)(w:World)(hs:SmMod l)(k0:zFA w lo u0 l) :
  Calls Tryz.prog 25 #[.agg #[.slice u0 l.length c0]] w fun e w'=>e=.returned (.bool (modB l))∧Below w.heap.size w w':=by
 have hsl:=hs.1
 have HS:Hid (∀ d∈l,SmFunc d):=hs.2
 by_cases h1:1≤l.length∧l.length≤3
 ·have HE:Hid (modB l=l.all (funcB l.length)):=by show _=_;simp[modB,h1.1,h1.2]
  have i1:(decide (1≤(l.length:Int))&&decide ((l.length:Int)≤3))=true:=by simp;omega
  clear hs
  go_enter Tryz.func25,Tryz.ntmps25
  go_wp2_with (go_at_call 49;refine (inS _ _ _ _).mono ?_;rw[i1];rintro e w' ⟨rfl,rfl⟩)
  go_loopw [3] (fun i wr=>∃ j:Nat,j≤l.length∧i=.int .i64 j∧Hid (∀ k,k<j→funcB l.length (l.getD k func0)=true)∧Below (w.heap.size+1) (w.alloc (.cells #[.slice u0 l.length c0] 26)) wr) (fun i _=>l.length-(intOf i).toNat)
  case atStart=>exact⟨0,by omega,rfl,fun k hk=>by omega,Below.refl _ _⟩
  case round =>
   obtain⟨j,hj,rfl,HD,hB⟩:=hrel
   obtain⟨wp,hwp⟩:∃ wp,wp=wr:=⟨_,rfl⟩
   subst hwp
   have hW:Below w.heap.size w wp:=below_box hB
   have y0:wp.cell? ⟨w.heap.size,0,none⟩=some (.slice u0 l.length c0):=(zcB (hB.block w.heap.size (by omega))).trans ((zcH (zhL _ _)).trans rfl)
   have hzw:w.heap.size+1≤wp.heap.size:=by have:=hB.size;simp at this;omega
   by_cases hjl:j<l.length
   ·rcases k0.2 with hn|⟨bb,off,rfl,hlo,hbb,hcell⟩
    ·simp[hn] at hjl
    obtain⟨⟨p0,q0,h0,m0⟩,h1',⟨p2,q2,h2,m2⟩⟩:=hcell j hjl
    have hsm:=HS.out _ (getD_mem func0 l j hjl)
    generalize hx:l.getD j func0=x at h0 h1' h2 m0 m2 hsm
    have HX:Hid (l.getD j func0=x):=hx
    have f0:wp.cell? ⟨bb,off+j*3,none⟩=some (.slice p0 x.params.length q0):=(zcB (hW.block bb hbb)).trans h0
    have f1:wp.cell? ⟨bb,off+j*3+1,none⟩=some (.int .i64 x.ret):=(zcB (hW.block bb hbb)).trans h1'
    have f2:wp.cell? ⟨bb,off+j*3+2,none⟩=some (.slice p2 x.blocks.length q2):=(zcB (hW.block bb hbb)).trans h2
    have M0:=(m0.keep (zaB hW lo)).keep (zaB (Below.refl wp.heap.size wp).drew lo)
    have M2:=(m2.keep (zaB hW lo)).keep (zaB (Below.refl wp.heap.size wp).drew lo)
    have y0d:wp.drew.cell? ⟨w.heap.size,0,none⟩=some (.slice (some ⟨bb,off,none⟩) l.length c0):=y0
    have f0d:wp.drew.cell? ⟨bb,off+j*3,none⟩=some (.slice p0 x.params.length q0):=f0
    have f1d:wp.drew.cell? ⟨bb,off+j*3+1,none⟩=some (.int .i64 x.ret):=f1
    have f2d:wp.drew.cell? ⟨bb,off+j*3+2,none⟩=some (.slice p2 x.blocks.length q2):=f2
    have hz1:w.heap.size<wp.heap.size:=by omega
    have hz2:bb<wp.heap.size:=Nat.lt_of_lt_of_le hbb hW.size
    have HBA:Hid (Below (w.heap.size+1) (w.alloc (.cells #[.slice (some ⟨bb,off,none⟩) l.length c0] 26)) wp):=hB
    have B:∀ B,funcB l.length x=B→∀ wz:World,wz=wp.drew→Calls Tryz.prog 50 #[.agg #[.slice p0 x.params.length q0,.int .i64 x.ret,.slice p2 x.blocks.length q2],.int .i64 l.length] wz fun e w'=>e=.returned (.bool B)∧Below wz.heap.size wz w':=fun B h wz e=>by
     subst e;rw[←h];exact funcShS lo x p0 q0 p2 q2 l.length _ hsm M0 M2 (by omega) (by omega)
    have NO:Hid (funcB l.length x=false→false=modB l):=fun h=>by
     rw[HE.out];exact (all_no func0 l j hjl (by rw[HX.out,h];decide)).symm
    have YES:Hid (funcB l.length x=true→∀ k,k<j+1→funcB l.length (l.getD k func0)=true):=fun h k hk=>by
     by_cases e:k=j
     ·subst e;rw[HX.out];exact h
     ·exact HD.out k (by omega)
    clear hcell h0 h1' h2 m0 m2 hsm hx hB M0 M2 HD k0 hW
    cases hb:funcB l.length x with
    | false =>
     have HF:Hid (false=modB l):=NO.out hb
     have BB:=B _ hb
     clear B
     go_wp2_with fail
     go_region_held2 (fun w'=>w'.cell? ⟨w.heap.size,0,none⟩=some (.slice (some ⟨bb,off,none⟩) l.length c0)∧w'.cell? ⟨bb,off+j*3,none⟩=some (.slice p0 x.params.length q0)∧w'.cell? ⟨bb,off+j*3+1,none⟩=some (.int .i64 x.ret)∧w'.cell? ⟨bb,off+j*3+2,none⟩=some (.slice p2 x.blocks.length q2)) (first|with_reducible exact⟨y0d,f0d,f1d,f2d⟩|with_reducible exact⟨d0,d1,d2,d3⟩) ((go_at_call 50;refine (BB wp.drew rfl).mono ?_;rintro e w3 ⟨rfl,hb3⟩;have d0:=(zcB (hb3.block w.heap.size (by exact hz1))).trans y0d;have d1:=(zcB (hb3.block bb (by exact hz2))).trans f0d;have d2:=(zcB (hb3.block bb (by exact hz2))).trans f1d;have d3:=(zcB (hb3.block bb (by exact hz2))).trans f2d))
     all_goals
      have hb4:=drop_drew hb3
      clear d0 d1 d2 d3
      go_wp2_with fail
      go_ret
      exact⟨zrB HF.out,below_box (HBA.out.trans (hb4.mono hzw))⟩
    | true =>
     have HF:Hid (funcB l.length x=true):=hb
     have BB:=B _ hb
     clear B
     go_wp2_with fail
     go_region_held2 (fun w'=>w'.cell? ⟨w.heap.size,0,none⟩=some (.slice (some ⟨bb,off,none⟩) l.length c0)∧w'.cell? ⟨bb,off+j*3,none⟩=some (.slice p0 x.params.length q0)∧w'.cell? ⟨bb,off+j*3+1,none⟩=some (.int .i64 x.ret)∧w'.cell? ⟨bb,off+j*3+2,none⟩=some (.slice p2 x.blocks.length q2)) (first|with_reducible exact⟨y0d,f0d,f1d,f2d⟩|with_reducible exact⟨d0,d1,d2,d3⟩) ((go_at_call 50;refine (BB wp.drew rfl).mono ?_;rintro e w3 ⟨rfl,hb3⟩;have d0:=(zcB (hb3.block w.heap.size (by exact hz1))).trans y0d;have d1:=(zcB (hb3.block bb (by exact hz2))).trans f0d;have d2:=(zcB (hb3.block bb (by exact hz2))).trans f1d;have d3:=(zcB (hb3.block bb (by exact hz2))).trans f2d))
     all_goals
      have hb4:=drop_drew hb3
      clear d0 d1 d2 d3
      go_wp2_with fail
      go_roundw
      case rel=>exact⟨j+1,by omega,by go_num,YES.out HF.out,HBA.out.trans (hb4.mono hzw)⟩
      case measure=>simp[intOf];omega
   ·have HF:Hid (true=modB l):=by
     show _=_
     rw[HE.out];exact (all_yes func0 l (fun k hk=>HD.out k (by omega))).symm
    go_wp2_with fail
    go_ret
    exact⟨zrB HF.out,hW⟩
 ·have HR:Hid (false=modB l):=by show _=_;(by_cases q:1≤l.length<;>by_cases q2:l.length≤3<;>simp[modB,q,q2]<;>omega)
  have i1:(decide (1≤(l.length:Int))&&decide ((l.length:Int)≤3))=false:=by simp;omega
  clear hs
  go_enter Tryz.func25,Tryz.ntmps25
  go_wp2_with (go_at_call 49;refine (inS _ _ _ _).mono ?_;rw[i1];rintro e w' ⟨rfl,rfl⟩)
  go_ret
  exact⟨zrB HR.out,(Below.refl _ _).alloc (Nat.le_refl _) _⟩
def Box1(w:World)(B:Nat)(n:Nat)(u:Option Addr)(c:Nat):Prop:=B<w.heap.size∧w.cell? ⟨B,0,none⟩=some (.slice u n c)
theorem Box1.new(w:World)(n:Nat)(u:Option Addr)(c:Nat)(T:TypeId):Box1 (w.alloc (.cells #[.slice u n c] T)) w.heap.size n u c :=
 ⟨by simp,(zcH (zhL _ _)).trans rfl⟩
theorem Box1.below{w w':World}{B n:Nat}{u:Option Addr}{c:Nat}(h:Box1 w B n u c)(k:Below w.heap.size w w'):Box1 w' B n u c:=⟨Nat.lt_of_lt_of_le h.1 k.size,(zcB (k.block _ h.1)).trans h.2⟩
end Go.Proofs.YtkpmiikafconmaaGreatDoor
