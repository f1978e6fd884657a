import Derived.Test.YtkpmiikafconmaaGreatDoorFmFJp
namespace Go.Proofs.YtkpmiikafconmaaGreatDoor
open Go.RowKit
set_option maxHeartbeats 4000000
set_option maxRecDepth 100000
set_option linter.unusedVariables false
theorem cells6b{w:World}{v0 v1:Value}{t0 t1 t2 t3:Int}{T:TypeId} :
  (w.alloc (.cells #[v0,v1,.int .i64 t0,.int .i64 t1,.int .i64 t2,.int .i64 t3] T)).cell? ⟨w.heap.size,0,none⟩=some v0∧(w.alloc (.cells #[v0,v1,.int .i64 t0,.int .i64 t1,.int .i64 t2,.int .i64 t3] T)).cell? ⟨w.heap.size,1,none⟩=some v1∧(w.alloc (.cells #[v0,v1,.int .i64 t0,.int .i64 t1,.int .i64 t2,.int .i64 t3] T)).cell? ⟨w.heap.size,2,none⟩=some (.int .i64 t0)∧(w.alloc (.cells #[v0,v1,.int .i64 t0,.int .i64 t1,.int .i64 t2,.int .i64 t3] T)).cell? ⟨w.heap.size,3,none⟩=some (.int .i64 t1)∧(w.alloc (.cells #[v0,v1,.int .i64 t0,.int .i64 t1,.int .i64 t2,.int .i64 t3] T)).cell? ⟨w.heap.size,4,none⟩=some (.int .i64 t2)∧(w.alloc (.cells #[v0,v1,.int .i64 t0,.int .i64 t1,.int .i64 t2,.int .i64 t3] T)).cell? ⟨w.heap.size,5,none⟩=some (.int .i64 t3):=by
 have hb:=zhL w (.cells #[v0,v1,.int .i64 t0,.int .i64 t1,.int .i64 t2,.int .i64 t3] T)
 exact⟨(zcH hb).trans rfl,(zcH hb).trans rfl,(zcH hb).trans rfl,(zcH hb).trans rfl,(zcH hb).trans rfl,(zcH hb).trans rfl⟩
theorem funcShS_ok(lo:Nat)(d:FuncD)(u0:Option Addr)(c0:Nat)(u2:Option Addr)(c2:Nat)(funcs:Int)(w:World)(hs:SmFunc d)(k0:IntsAt w lo u0 d.params)(k2:zBA w lo u2 d.blocks)(g2:0≤funcs)(g3:funcs≤4611686018427387904)(hp:d.params.length≤4)(hr:zWd d.ret=true)(hb1:1≤d.blocks.length)(hb2:d.blocks.length≤10)(hc:cntF d≤60) :
  Calls Tryz.prog 50 #[.agg #[.slice u0 d.params.length c0,.int .i64 d.ret,.slice u2 d.blocks.length c2],.int .i64 funcs] w fun e w'=>e=.returned (.bool (funcB funcs d))∧Below w.heap.size w w':=by
 have HS:Hid (∀ p∈d.blocks,SmBlock p):=hs.2.2
 have F0:=FBox.start (d:=d) (u0:=u0) (u2:=u2) (c0:=c0) (c2:=c2) (w:=w) (T:=55)
 have i1:¬(4:Int)<d.params.length:=by omega
 have i2:(decide (1≤(d.blocks.length:Int))&&decide ((d.blocks.length:Int)≤10))=true:=by simp;omega
 have i4:¬(60:Int)<cntF d:=by omega
 go_enter Tryz.func50,Tryz.ntmps50
 go_wp2_with fail
 refine (countS_any lo d u0 c0 u2 c2 _ hs (k2.keep (zaB F0.below lo))).mono ?_
 rintro e w1 ⟨rfl,hb1'⟩
 have F1:=F0.keep hb1'
 have b0:=F1.a0
 have b1:=F1.a1
 have b2:=F1.a2
 clear hb1' F0
 go_wp2_with (first|(go_at_call 86;refine (widthS _ _).mono ?_;rintro e w' ⟨rfl,rfl⟩)|(go_at_call 49;refine (inS _ _ _ _).mono ?_;rw[i2];rintro e w' ⟨rfl,rfl⟩))
 have HP0:Hid (d.params.all zWd=false→false=funcB funcs d):=fun h=>by simp[funcB,h]
 have HE:Hid (d.params.all zWd=true→funcB funcs d=d.blocks.all (blockB (cntF d) d.blocks.length funcs)):=fun ha=>by simp[funcB,hp,ha,hr,hb1,hb2,hc]
 have K0:=k0.keep (zaB F1.below lo)
 go_loop [7] (fun i=>∃ k:Nat,k≤d.params.length∧i=.int .i64 k∧Hid (∀ j,j<k→zWd (d.params.getD j 0)=true)) (fun i=>d.params.length-(intOf i).toNat)
 case atStart=>exact⟨0,by omega,rfl,fun j hj=>by omega⟩
 case round =>
  obtain⟨k,hk,rfl,HD⟩:=hrel
  by_cases hlt:k<d.params.length
  ·rcases K0.2 with hn|⟨bb,off,rfl,hlo,hb,hcell⟩
   ·simp[hn] at hlt
   have e0:=hcell k hlt
   generalize hx:d.params.getD k 0=x at e0
   have HX:Hid (d.params.getD k 0=x):=hx
   clear hcell hx K0 k0
   cases hw:zWd x with
   | true =>
    have HP:Hid (zWd x=true):=hw
    go_wp2_with (go_at_call 86;refine (widthS _ _).mono ?_;rintro e w' ⟨rfl,rfl⟩)
    exact⟨⟨k+1,by omega,by go_num,fun j hj=>by
     by_cases e:j=k
     ·subst e;rw[HX.out];exact HP.out
     ·exact HD.out j (by omega)⟩,by simp only[intOf];omega⟩
   | false =>
    have HF:Hid (false=funcB funcs d):=HP0.out (all_no 0 d.params k hlt (by rw[HX.out,hw];decide))
    go_wp2_with (go_at_call 86;refine (widthS _ _).mono ?_;rintro e w' ⟨rfl,rfl⟩)
    go_ret
    exact⟨zrB HF.out,F1.below⟩
  ·have HQ:Hid (funcB funcs d=d.blocks.all (blockB (cntF d) d.blocks.length funcs)):=HE.out (all_yes 0 d.params (fun j hj=>HD.out j (by omega)))
   clear HE HP0 HD K0 k0
   go_wp2_with fail
   clear b0 b1 b2
   go_loopw [8] (fun i wr=>∃ j:Nat,j≤d.blocks.length∧i=.int .i64 j∧Hid (∀ k,k<j→blockB (cntF d) d.blocks.length funcs (d.blocks.getD k block0)=true)∧FBox d u0 c0 u2 c2 w wr) (fun i _=>d.blocks.length-(intOf i).toNat)
   case atStart=>exact⟨0,by omega,rfl,fun k hk=>by omega,F1⟩
   case round =>
    obtain⟨j,hj,rfl,HD,hF⟩:=hrel
    obtain⟨wo,hwo⟩:∃ wo,wo=wr:=⟨_,rfl⟩
    subst hwo
    clear F1
    have b0:=hF.a0
    have b1:=hF.a1
    have b2:=hF.a2
    have hW:=hF.below
    by_cases hjl:j<d.blocks.length
    ·rcases k2.2 with hn|⟨bb,off,rfl,hlo,hbb,hcell⟩
     ·simp[hn] at hjl
     obtain⟨⟨p0,q0,h0,m0⟩,⟨p1,q1,h1,m1⟩,h2,h3,h4,h5⟩:=hcell j hjl
     have hsm:=HS.out _ (getD_mem block0 d.blocks j hjl)
     generalize hx:d.blocks.getD j block0=x at h0 h1 h2 h3 h4 h5 m0 m1 hsm
     have HX:Hid (d.blocks.getD j block0=x):=hx
     have f0:wo.cell? ⟨bb,off+j*6,none⟩=some (.slice p0 x.phis.length q0):=(zcB (hW.block bb hbb)).trans h0
     have f1:wo.cell? ⟨bb,off+j*6+1,none⟩=some (.slice p1 x.insts.length q1):=(zcB (hW.block bb hbb)).trans h1
     have f2:wo.cell? ⟨bb,off+j*6+2,none⟩=some (.int .i64 x.term.kind):=(zcB (hW.block bb hbb)).trans h2
     have f3:wo.cell? ⟨bb,off+j*6+3,none⟩=some (.int .i64 x.term.a):=(zcB (hW.block bb hbb)).trans h3
     have f4:wo.cell? ⟨bb,off+j*6+4,none⟩=some (.int .i64 x.term.x):=(zcB (hW.block bb hbb)).trans h4
     have f5:wo.cell? ⟨bb,off+j*6+5,none⟩=some (.int .i64 x.term.y):=(zcB (hW.block bb hbb)).trans h5
     have M0:=(m0.keep (zaB hW lo)).keep (zaA wo (.cells #[.slice p0 x.phis.length q0,.slice p1 x.insts.length q1,.int .i64 x.term.kind,.int .i64 x.term.a,.int .i64 x.term.x,.int .i64 x.term.y] 74) _)
     have M1:=(m1.keep (zaB hW lo)).keep (zaA wo (.cells #[.slice p0 x.phis.length q0,.slice p1 x.insts.length q1,.int .i64 x.term.kind,.int .i64 x.term.a,.int .i64 x.term.x,.int .i64 x.term.y] 74) _)
     have FX:=hF.alloc (.cells #[.slice p0 x.phis.length q0,.slice p1 x.insts.length q1,.int .i64 x.term.kind,.int .i64 x.term.a,.int .i64 x.term.x,.int .i64 x.term.y] 74)
     have x6:=cells6b (w:=wo) (v0:=.slice p0 x.phis.length q0) (v1:=.slice p1 x.insts.length q1) (t0:=x.term.kind) (t1:=x.term.a) (t2:=x.term.x) (t3:=x.term.y) (T:=74)
     have NO:Hid (blockB (cntF d) d.blocks.length funcs x=false→false=funcB funcs d):=fun h=>by
      rw[HQ.out];exact (all_no block0 d.blocks j hjl (by rw[HX.out,h];decide)).symm
     have YES:Hid (blockB (cntF d) d.blocks.length funcs x=true→∀ k,k<j+1→blockB (cntF d) d.blocks.length funcs (d.blocks.getD k block0)=true):=fun h k hk=>by
      by_cases e:k=j
      ·subst e;rw[HX.out];exact h
      ·exact HD.out k (by omega)
     have NP:Hid (x.phis.all (phiB (cntF d))=false→false=funcB funcs d):=fun h=>NO.out (by simp[blockB,h])
     have NI:Hid (x.insts.all (fun i=>zIn i (cntF d) funcs)=false→false=funcB funcs d):=fun h=>NO.out (by simp[blockB,h])
     have NT:Hid (termB x.term (cntF d) d.blocks.length=false→false=funcB funcs d):=fun h=>NO.out (by simp[blockB,h])
     have YT:Hid (x.phis.all (phiB (cntF d))=true→x.insts.all (fun i=>zIn i (cntF d) funcs)=true→termB x.term (cntF d) d.blocks.length=true→blockB (cntF d) d.blocks.length funcs x=true):=fun h h' h''=>by simp[blockB,h,h',h'']
     have sp0:=hsm.1.1
     have sp1:=hsm.2.1
     have SP:Hid (∀ p∈x.phis,SmPhi p):=hsm.1.2
     have SN:Hid (∀ p∈x.insts,SmInst p):=hsm.2.2
     have HBL:Hid (wo.heap.size<(wo.alloc (.cells #[.slice p0 x.phis.length q0,.slice p1 x.insts.length q1,.int .i64 x.term.kind,.int .i64 x.term.a,.int .i64 x.term.x,.int .i64 x.term.y] 74)).heap.size):=by show _<_;simp
     clear hcell h0 h1 h2 h3 h4 h5 m0 m1 hsm hx hF hW HD k2 NO
     go_wp2_with fail
     clear f0 f1 f2 f3 f4 f5 b0 b1 b2
     generalize wo.alloc (.cells #[.slice p0 x.phis.length q0,.slice p1 x.insts.length q1,.int .i64 x.term.kind,.int .i64 x.term.a,.int .i64 x.term.x,.int .i64 x.term.y] 74)=wx at M0 M1 FX x6 HBL ⊢
     obtain⟨x0,x1,x2,x3,x4,x5⟩:=x6
     go_loop [10] (fun i=>∃ k:Nat,k≤x.phis.length∧i=.int .i64 k∧Hid (∀ m,m<k→phiB (cntF d) (x.phis.getD m phi0)=true)) (fun i=>x.phis.length-(intOf i).toNat)
     case atStart=>exact⟨0,by omega,rfl,fun m hm=>by omega⟩
     case round =>
      obtain⟨k,hk,rfl,HD⟩:=hrel
      by_cases hkl:k<x.phis.length
      ·rcases M0.2 with hn|⟨pb,po,rfl,hplo,hpb,hpc⟩
       ·simp[hn] at hkl
       obtain⟨y0,⟨iu,iq,y1,im⟩⟩:=hpc k hkl
       have hsp:=SP.out _ (getD_mem phi0 x.phis k hkl)
       generalize hp:x.phis.getD k phi0=p at y0 y1 im hsp
       have HPk:Hid (x.phis.getD k phi0=p):=hp
       have hsp':p.ins.length≤1048576:=hsp
       have NP1:Hid (¬phiB (cntF d) p=true→false=funcB funcs d):=fun h=>NP.out (all_no phi0 x.phis k hkl (by rw[HPk.out];exact h))
       have YP1:Hid (phiB (cntF d) p=true→∀ m,m<k+1→phiB (cntF d) (x.phis.getD m phi0)=true):=fun h m hm=>by
        by_cases e:m=k
        ·subst e;rw[HPk.out];exact h
        ·exact HD.out m (by omega)
       clear hpc hp hsp HD M0 M1 NP NI NT YT
       cases hw:zWd p.w with
       | false =>
        have HF:Hid (false=funcB funcs d):=NP1.out (phiB_w hw)
        go_wp2_with (go_at_call 86;refine (widthS _ _).mono ?_;rintro e w' ⟨rfl,rfl⟩)
        go_ret
        exact⟨zrB HF.out,FX.below⟩
       | true =>
        by_cases hl:p.ins.length≤10
        ·have hl2:¬(10:Int)<p.ins.length:=by omega
         go_wp2_with (go_at_call 86;refine (widthS _ _).mono ?_;rintro e w' ⟨rfl,rfl⟩)
         go_loop [11] (fun i=>∃ m:Nat,m≤p.ins.length∧i=.int .i64 m∧Hid (∀ n,n<m→zBw (p.ins.getD n 0) (cntF d)=true)) (fun i=>p.ins.length-(intOf i).toNat)
         case atStart=>exact⟨0,by omega,rfl,fun n hn=>by omega⟩
         case round =>
          obtain⟨m,hm,rfl,HG⟩:=hrel
          by_cases hml:m<p.ins.length
          ·rcases im.2 with hn|⟨nb,no,rfl,hnlo,hnb,hnc⟩
           ·simp[hn] at hml
           have e0:=hnc m hml
           generalize hv:p.ins.getD m 0=v at e0
           have HV:Hid (p.ins.getD m 0=v):=hv
           clear hnc hv im
           cases hbv:zBw v (cntF d) with
           | true =>
            have HB1:Hid (zBw v (cntF d)=true):=hbv
            go_wp2_with (go_at_call 49;refine (inB _ _ _).mono ?_;rintro e w' ⟨rfl,rfl⟩)
            exact⟨⟨m+1,by omega,by go_num,fun n hn=>by
             by_cases e:n=m
             ·subst e;rw[HV.out];exact HB1.out
             ·exact HG.out n (by omega)⟩,by simp only[intOf];omega⟩
           | false =>
            have HF:Hid (false=funcB funcs d):=NP1.out (phiB_a (all_no 0 p.ins m hml (by rw[HV.out,hbv];decide)))
            go_wp2_with (go_at_call 49;refine (inB _ _ _).mono ?_;rintro e w' ⟨rfl,rfl⟩)
            go_ret
            exact⟨zrB HF.out,FX.below⟩
          ·have HF:Hid (∀ m,m<k+1→phiB (cntF d) (x.phis.getD m phi0)=true):=YP1.out (phiB_t hw hl (all_yes 0 p.ins (fun n hn=>HG.out n (by omega))))
           go_wp2_with fail
           exact⟨⟨k+1,by omega,by go_num,HF.out⟩,by simp only[intOf];omega⟩
        ·have HF:Hid (false=funcB funcs d):=NP1.out (phiB_l hl)
         have hl2:(10:Int)<p.ins.length:=by omega
         go_wp2_with (go_at_call 86;refine (widthS _ _).mono ?_;rintro e w' ⟨rfl,rfl⟩)
         go_ret
         exact⟨zrB HF.out,FX.below⟩
      ·have HPA:Hid (x.phis.all (phiB (cntF d))=true):=all_yes phi0 x.phis (fun m hm=>HD.out m (by omega))
       clear HD M0 NP
       go_wp2_with fail
       go_loopw [12] (fun i wr=>∃ k:Nat,k≤x.insts.length∧i=.int .i64 k∧Hid (∀ m,m<k→zIn (x.insts.getD m inst0) (cntF d) funcs=true)∧Below wx.heap.size wx wr) (fun i _=>x.insts.length-(intOf i).toNat)
       case atStart=>exact⟨0,by omega,rfl,fun m hm=>by omega,Below.refl _ _⟩
       case round =>
        obtain⟨k,hk,rfl,HD,hB⟩:=hrel
        obtain⟨wq,hwq⟩:∃ wq,wq=wr:=⟨_,rfl⟩
        subst hwq
        have v0:=(zcB (hB.block wo.heap.size HBL.out)).trans x0
        have v1:=(zcB (hB.block wo.heap.size HBL.out)).trans x1
        have v2:=(zcB (hB.block wo.heap.size HBL.out)).trans x2
        have v3:=(zcB (hB.block wo.heap.size HBL.out)).trans x3
        have v4:=(zcB (hB.block wo.heap.size HBL.out)).trans x4
        have v5:=(zcB (hB.block wo.heap.size HBL.out)).trans x5
        have FQ:=FX.keep hB
        by_cases hkl:k<x.insts.length
        ·rcases M1.2 with hn|⟨pb,po,rfl,hplo,hpb,hpc⟩
         ·simp[hn] at hkl
         obtain⟨i0,i1,i2,i3,i4,i5,⟨iu,iq,i6,im⟩⟩:=hpc k hkl
         have hsp:=SN.out _ (getD_mem inst0 x.insts k hkl)
         generalize hp:x.insts.getD k inst0=p at i0 i1 i2 i3 i4 i5 i6 im hsp
         have HPk:Hid (x.insts.getD k inst0=p):=hp
         have g0:wq.cell? ⟨pb,po+k*7,none⟩=some (.int .i64 p.op):=(zcB (hB.block pb hpb)).trans i0
         have g1:wq.cell? ⟨pb,po+k*7+1,none⟩=some (.int .i64 p.w):=(zcB (hB.block pb hpb)).trans i1
         have g2':wq.cell? ⟨pb,po+k*7+2,none⟩=some (.int .i64 p.a):=(zcB (hB.block pb hpb)).trans i2
         have g3':wq.cell? ⟨pb,po+k*7+3,none⟩=some (.int .i64 p.b):=(zcB (hB.block pb hpb)).trans i3
         have g4:wq.cell? ⟨pb,po+k*7+4,none⟩=some (.int .i64 p.c):=(zcB (hB.block pb hpb)).trans i4
         have g5:wq.cell? ⟨pb,po+k*7+5,none⟩=some (.int .i64 p.imm):=(zcB (hB.block pb hpb)).trans i5
         have g6:wq.cell? ⟨pb,po+k*7+6,none⟩=some (.slice iu p.args.length iq):=(zcB (hB.block pb hpb)).trans i6
         have IM:=im.keep (zaB hB lo)
         have hsp':p.args.length≤1048576:=hsp
         have B:∀ B,zIn p (cntF d) funcs=B→Calls Tryz.prog 87 #[.agg #[.int .i64 p.op,.int .i64 p.w,.int .i64 p.a,.int .i64 p.b,.int .i64 p.c,.int .i64 p.imm,.slice iu p.args.length iq],.int .i64 (cntF d),.int .i64 funcs] wq fun e w'=>e=.returned (.bool B)∧Below wq.heap.size wq w':=fun B h=>by
          rw[←h];exact instShS lo p iu iq (cntF d) funcs wq (by omega) (by omega) g2 g3 hsp' IM
         have NI1:Hid (zIn p (cntF d) funcs=false→false=funcB funcs d):=fun h=>NI.out (all_no inst0 x.insts k hkl (by rw[HPk.out,h];decide))
         have YI1:Hid (zIn p (cntF d) funcs=true→∀ m,m<k+1→zIn (x.insts.getD m inst0) (cntF d) funcs=true):=fun h m hm=>by
          by_cases e:m=k
          ·subst e;rw[HPk.out];exact h
          ·exact HD.out m (by omega)
         have HBQ:Hid (Below wx.heap.size wx wq):=hB
         clear hpc i0 i1 i2 i3 i4 i5 i6 im hsp hp hB HD M1 NI NT YT IM
         cases hb:zIn p (cntF d) funcs with
         | false =>
          have HF:Hid (false=funcB funcs d):=NI1.out hb
          have BB:=B _ hb
          clear B
          go_wp2_with (go_at_call 87;refine BB.mono ?_;rintro e w3 ⟨rfl,hb3⟩)
          go_ret
          exact⟨zrB HF.out,(FQ.keep hb3).below⟩
         | true =>
          have HF:Hid (∀ m,m<k+1→zIn (x.insts.getD m inst0) (cntF d) funcs=true):=YI1.out hb
          have BB:=B _ hb
          clear B
          go_wp2_with (go_at_call 87;refine BB.mono ?_;rintro e w3 ⟨rfl,hb3⟩)
          go_roundw
          case rel=>exact⟨k+1,by omega,by go_num,HF.out,HBQ.out.trans (hb3.mono HBQ.out.size)⟩
          case measure=>simp[intOf];omega
        ·have HIA:Hid (x.insts.all (fun i=>zIn i (cntF d) funcs)=true):=all_yes inst0 x.insts (fun m hm=>HD.out m (by omega))
         have T:∀ B,termB x.term (cntF d) d.blocks.length=B→Calls Tryz.prog 88 #[.agg #[.int .i64 x.term.kind,.int .i64 x.term.a,.int .i64 x.term.x,.int .i64 x.term.y],.int .i64 (cntF d),.int .i64 d.blocks.length] wq fun e w'=>e=.returned (.bool B)∧Below wq.heap.size wq w':=fun B h=>by
          rw[←h];exact termShS x.term (cntF d) d.blocks.length wq (by omega) (by omega) (by omega) (by omega)
         clear HD M1 NI hB
         cases hb:termB x.term (cntF d) d.blocks.length with
         | false =>
          have HF:Hid (false=funcB funcs d):=NT.out hb
          have TT:=T _ hb
          clear T NT YT
          go_wp2_with (go_at_call 88;refine TT.mono ?_;rintro e w3 ⟨rfl,hb3⟩)
          go_ret
          exact⟨zrB HF.out,(FQ.keep hb3).below⟩
         | true =>
          have HF:Hid (∀ k,k<j+1→blockB (cntF d) d.blocks.length funcs (d.blocks.getD k block0)=true):=YES.out (YT.out HPA.out HIA.out hb)
          have TT:=T _ hb
          clear T NT YT
          go_wp2_with (go_at_call 88;refine TT.mono ?_;rintro e w3 ⟨rfl,hb3⟩)
          go_roundw
          case rel=>exact⟨j+1,by omega,by go_num,HF.out,FQ.keep hb3⟩
          case measure=>simp[intOf];omega
    ·have HF:Hid (true=funcB funcs d):=by
      show _=_
      rw[HQ.out];exact (all_yes block0 d.blocks (fun k hk=>HD.out k (by omega))).symm
     go_wp2_with fail
     go_ret
     exact⟨zrB HF.out,hW⟩
end Go.Proofs.YtkpmiikafconmaaGreatDoor
