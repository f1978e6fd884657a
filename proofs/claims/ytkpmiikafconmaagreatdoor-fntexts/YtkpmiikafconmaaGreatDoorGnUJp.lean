import Derived.Test.YtkpmiikafconmaaGreatDoorGnSJp
import Derived.Laws.Rows
namespace Go.Proofs.YtkpmiikafconmaaGreatDoor
open Go.RowKit Go.Deep
set_option maxHeartbeats 4000000
set_option maxRecDepth 100000
set_option linter.unusedVariables false
def grec0(rv sv:Value)(nr:Nat):GRec:=⟨.slice none 0 0,.slice none 0 0,.slice none 0 0,.slice none 0 0,.slice none 0 0,.slice none 0 0,rv,sv,0,0,0,0,0,nr,0,0,0,0,0,0⟩
structure FnIn(base g:Nat)(a0:Option Addr)(len cap:Nat)(M:Tmap)(rv sv:Value)(nr:Nat)(v:World):Prop where
 rd:Rd g a0 len cap v
 gb:g<base
 bv:base≤v.heap.size
 th:TH base M 10 v
 rets:SlN M 2 rv nr
 pars:SlN M 41 sv nr
 nr2:nr≤2
 par:ParW M (grec0 rv sv nr) v
 ty:∀ b T m,M b=some (T,m)→T=2∨T=41
variable {base g G len cap N j:Nat} {a0:Option Addr} {M M':Tmap} {S S':GRec} {v w w2:World}
theorem ParW.at{v':World}(h:ParW M S v)(hn:S'.nr=S.nr)(hs:S'.sv=S.sv)(k:Mv g G M M' v v'):ParW M' S' v':=fun hp=>by
 rw[hn] at hp
 obtain⟨gs,cs,ms,e1,e2,e3⟩:=h hp
 obtain⟨f1,f2⟩:=k.hold gs _ _ e2 (.inr rfl)
 refine⟨gs,cs,ms,by rw[hs,hn];exact e1,f2,fun j hj=>?_⟩
 rw[hn] at hj
 obtain⟨u,n,c,g1,g2,g3⟩:=e3 j hj
 refine⟨u,n,c,(cell_blk f1).trans g1,g2,fun hp=>?_⟩
 obtain⟨gp,mp,r1,r2,r3⟩:=g3 hp
 obtain⟨t1,t2⟩:=k.hold gp _ _ r2 (.inl rfl)
 refine⟨gp,mp,r1,t2,fun i hi=>?_⟩
 obtain⟨x,x1,x2⟩:=r3 i hi
 exact⟨x,(cell_blk t1).trans x1,x2⟩
theorem fork_sb(h:Sb base g G a0 len cap M N S v j M' S' w)(hp:ParW M S v)(hN:N+j+60≤10000) :
  Calls Tryz.prog 96 #[.pointer (some ⟨G,0,none⟩)] w fun e w'=>(∃ r,e=.returned r)∧∃ M2 S2,Sb base g G a0 len cap M N S v (j+60) M2 S2 w':=by
 refine (fork_any base g G a0 len cap M' (N+j) S' w h.1 (hp.mv h.2.1 h.2.2) hN).mono ?_
 rintro e w' ⟨hr,M2,S2,h1,h2,h3⟩
 exact⟨hr,M2,S2,by rw[←Nat.add_assoc];exact h1,h.2.1.trans h2,h.2.2.trans h3⟩
theorem loop_sb(h:Sb base g G a0 len cap M N S v j M' S' w)(hp:ParW M S v)(hN:N+j+80≤10000) :
  Calls Tryz.prog 97 #[.pointer (some ⟨G,0,none⟩)] w fun e w'=>(∃ r,e=.returned r)∧∃ M2 S2,Sb base g G a0 len cap M N S v (j+60) M2 S2 w':=by
 refine (loop_any base g G a0 len cap M' (N+j) S' w h.1 (hp.mv h.2.1 h.2.2) hN).mono ?_
 rintro e w' ⟨hr,M2,S2,h1,h2,h3⟩
 exact⟨hr,M2,S2,by rw[←Nat.add_assoc];exact h1,h.2.1.trans h2,h.2.2.trans h3⟩
theorem ends_sb(h:Sb base g G a0 len cap M N S v j M' S' w)(hN:N+j+3≤10000)(hw:S.ret=1∨S.ret=8∨S.ret=16∨S.ret=32) :
  Calls Tryz.prog 98 #[.pointer (some ⟨G,0,none⟩)] w fun e w'=>(∃ r,e=.returned r)∧∃ M2 S2,Sb base g G a0 len cap M N S v (j+3) M2 S2 w'∧1≤S2.nb:=by
 refine (ends_any base g G a0 len cap M' (N+j) S' w h.1 hN (by rw[h.2.1.2.2.2.2.2];exact hw)).mono ?_
 rintro e w' ⟨hr,M2,S2,h1,h2,h3,h4⟩
 exact⟨hr,M2,S2,⟨by rw[←Nat.add_assoc];exact h1,h.2.1.trans h2,h.2.2.trans h3⟩,h4⟩
theorem Gok.setRet{x:Int}(h:Gok base g G a0 len cap M N S w):Gok base g G a0 len cap M N { S with ret:=x } (w.setCell ⟨G,2,none⟩ (.int .i64 x))∧Mov g G M M w (w.setCell ⟨G,2,none⟩ (.int .i64 x)):=by
 have hbn:=h.bn
 refine h.grew (Nat.le_refl _) (fun b hb hn=>Below.heap_setCell _ _ _ _ hn) (by simp[World.setCell]) rfl rfl rfl (fun _ _=>rfl) (fun b T m hb hm=>by rw[h.th.none hb] at hm;cases hm) ?_ ⟨rfl,rfl,rfl,rfl,rfl,rfl,rfl,rfl,rfl,rfl,rfl⟩ h.ids (by dsimp only;omega)
 exact (zhS h.cells).trans rfl
theorem FnIn.start{rv sv:Value}{nr:Nat}(h:FnIn base g a0 len cap M rv sv nr v)(R:Obj):Gok base g (v.heap.size+1) a0 len cap M 10 (grec0 rv sv nr) ((v.alloc R).alloc (.cells (gcells g (grec0 rv sv nr)) 141)):=by
 have hb:Below v.heap.size v ((v.alloc R).alloc (.cells (gcells g (grec0 rv sv nr)) 141)):=((Below.refl _ _).alloc (Nat.le_refl _) _).alloc (by simp) _
 have hk:∀ b,(∃ p,M b=some p)→((v.alloc R).alloc (.cells (gcells g (grec0 rv sv nr)) 141)).heap[b]?=v.heap[b]?:=fun b hb'=>hb.block b (h.th.lt hb').2
 have hgl:=h.rd.lt
 have hbv:=h.bv
 have hnr:=h.nr2
 refine⟨rd_keep h.rd hb.size fun b hb'=>hb.block b (by omega),h.gb,Nat.le_trans h.bv hb.size,h.th.none (by omega),by omega,heap_alloc2_new _ _ _,h.th.keep (Nat.le_refl _) hk,.inl ⟨rfl,rfl⟩,.inl ⟨rfl,rfl⟩,.inl ⟨rfl,rfl⟩,.inl ⟨rfl,rfl⟩,.inl ⟨rfl,rfl,rfl⟩,h.rets,h.pars,by simp[grec0];omega⟩
theorem par_law{n:Nat}(H:Gok base g G a0 len cap M' (10+2*n) S' w)(hn:S'.np=n)(hn2:n≤2)(x:Int):∀ ty,∃ s' w' M2,(Builtin.append_ #[41,41] ty #[S'.pv,.slice (some ⟨w.heap.size,0,none⟩) 1 1]).run Tryz.prog (w.alloc (.cells #[.int .i64 x] 2))=.ok s' w'∧(∃ g' cap',s'=.slice (some ⟨g',0,none⟩) (S'.np+1) cap'∧M2=put M' g' 2 (S'.np+1)∧Pushed base M' M2 (10+2*n+1) 2 S'.np (w.alloc (.cells #[.int .i64 x] 2)) w' s'∧(∀ b,b≠g'→b<(w.alloc (.cells #[.int .i64 x] 2)).heap.size→w'.heap[b]?=(w.alloc (.cells #[.int .i64 x] 2)).heap[b]?)∧(S'.pv.ownBlock=some g'∨(w.alloc (.cells #[.int .i64 x] 2)).heap.size≤g')∧∃ xs,(w.alloc (.cells #[.int .i64 x] 2)).ownsRow base 2 (szT 2) S'.pv S'.np xs∧w'.ownsRow base 2 (szT 2) s' (S'.np+1) (xs++[.int .i64 x])):=fun ty=>by
 obtain⟨i0,hi,hz0,hz1,hz2⟩:=info_parts info1
 have B1:Below w.heap.size w (w.alloc (.cells #[.int .i64 x] 2)):=(Below.refl _ _).alloc (Nat.le_refl _) _
 obtain⟨H1,_⟩:=H.below B1
 exact run_row3 i0 _ 8 Tryz.underlying41 hi hz0 hz1 hz2 (by decide) (by omega) H1.p H1.th (by omega) (.inl rfl) H1.bv (by omega) ⟨w.heap.size,0,none⟩ 1 [.int .i64 x] rfl (one_of (zhL w _)) (by simp[Value.oneCell']) (fun M2 _=>el_int (z:=x) rfl)
theorem fn_end{R:Nat}{up ub:Option Addr}{np cp nb cb:Nat}{ret:Int}(h:Gok base g G a0 len cap M' N S' w)(hN:N≤400)(hR:M' R=none)(hgR:g<R)(e1:S'.pv=.slice up np cp)(e2:S'.bv=.slice ub nb cb)(hn1:S'.np=np)(hn2:S'.nb=nb)(hp:PW w S') :
  TH base M' 400 (((w.setCell ⟨R,0,none⟩ (.slice up np cp)).setCell ⟨R,1,none⟩ (.int .i64 ret)).setCell ⟨R,2,none⟩ (.slice ub nb cb))∧SlN M' 2 (.slice up np cp) np∧SlN M' 74 (.slice ub nb cb) nb∧nb≤400∧(∀ k,k<np→∃ x:Int,rowAt (((w.setCell ⟨R,0,none⟩ (.slice up np cp)).setCell ⟨R,1,none⟩ (.int .i64 ret)).setCell ⟨R,2,none⟩ (.slice ub nb cb)) (.slice up np cp) k=some (.int .i64 x)∧(x=1∨x=8∨x=16∨x=32))∧Rd g a0 len cap (((w.setCell ⟨R,0,none⟩ (.slice up np cp)).setCell ⟨R,1,none⟩ (.int .i64 ret)).setCell ⟨R,2,none⟩ (.slice ub nb cb)):=by
 subst hn1 hn2
 have hset:∀ b,b≠R→(((w.setCell ⟨R,0,none⟩ (.slice up S'.np cp)).setCell ⟨R,1,none⟩ (.int .i64 ret)).setCell ⟨R,2,none⟩ (.slice ub S'.nb cb)).heap[b]?=w.heap[b]?:=fun b hb=>by rw[Below.heap_setCell _ _ _ _ hb,Below.heap_setCell _ _ _ _ hb,Below.heap_setCell _ _ _ _ hb]
 have hk:∀ b,(∃ p,M' b=some p)→(((w.setCell ⟨R,0,none⟩ (.slice up S'.np cp)).setCell ⟨R,1,none⟩ (.int .i64 ret)).setCell ⟨R,2,none⟩ (.slice ub S'.nb cb)).heap[b]?=w.heap[b]?:=fun b hb=>hset b fun e=>by
  obtain⟨p,hb⟩:=hb
  rw[e,hR] at hb;cases hb
 have hs1:SlN M' 2 (.slice up S'.np cp) S'.np:=by rw[←e1];exact h.p.sl
 have hs2:SlN M' 74 (.slice ub S'.nb cb) S'.nb:=by rw[←e2];exact h.b.sl
 have hbn:=h.bn
 refine⟨h.th.keep hN hk,hs1,hs2,by omega,fun k hk'=>?_,rd_keep h.rd (by simp[World.setCell]) fun b hb=>hset b (by omega)⟩
 obtain⟨x,h1,h2⟩:=hp k hk'
 refine⟨x,?_,h2⟩
 rw[rowAt_hold hs1 (by omega) fun b m hb=>hk b ⟨_,hb⟩,←e1]
 exact h1
theorem fn_any(base g:Nat)(a0:Option Addr)(len cap:Nat)(M:Tmap)(ur us:Option Addr)(nr cr cs:Nat)(v:World)(h:FnIn base g a0 len cap M (.slice ur nr cr) (.slice us nr cs) nr v) :
  Calls Tryz.prog 58 #[.pointer (some ⟨g,0,none⟩),.slice ur nr cr,.slice us nr cs] v fun e w'=>∃ up np cp ret ub nb cb,e=.returned (.agg #[.slice up np cp,.int .i64 ret,.slice ub nb cb])∧∃ M2,TH base M2 400 w'∧SlN M2 2 (.slice up np cp) np∧SlN M2 74 (.slice ub nb cb) nb∧np≤2∧(1≤nb∧nb≤400)∧(ret=1∨ret=8∨ret=16∨ret=32)∧(∀ k,k<np→∃ x:Int,rowAt w' (.slice up np cp) k=some (.int .i64 x)∧(x=1∨x=8∨x=16∨x=32))∧Rd g a0 len cap w'∧(∀ b,b<v.heap.size→b≠g→w'.heap[b]?=v.heap[b]?)∧w'.os=v.os∧w'.tape=v.tape∧w'.output=v.output∧v.heap.size≤w'.heap.size∧(∀ b T m,M b=some (T,m)→M2 b=some (T,m)):=by
 have H1:=h.start (.cells #[.slice none 0 0,.int .i64 0,.slice none 0 0] 55)
 have hR:((v.alloc (.cells #[.slice none 0 0,.int .i64 0,.slice none 0 0] 55)).alloc (.cells (gcells g (grec0 (.slice ur nr cr) (.slice us nr cs) nr)) 141)).heap[v.heap.size]?=some (.cells #[.slice none 0 0,.int .i64 0,.slice none 0 0] 55 (0,0)):=heap_alloc2_old _ _ _
 have hl:∀ x,(∃ p,M x=some p)→x<v.heap.size:=fun x hx=>(h.th.lt hx).2
 have hall:Below v.heap.size v ((v.alloc (.cells #[.slice none 0 0,.int .i64 0,.slice none 0 0] 55)).alloc (.cells (gcells g (grec0 (.slice ur nr cr) (.slice us nr cs) nr)) 141)):=((Below.refl _ _).alloc (Nat.le_refl _) _).alloc (by simp) _
 have HP:ParW M (grec0 (.slice ur nr cr) (.slice us nr cs) nr) ((v.alloc (.cells #[.slice none 0 0,.int .i64 0,.slice none 0 0] 55)).alloc (.cells (gcells g (grec0 (.slice ur nr cr) (.slice us nr cs) nr)) 141)):=ParW.at (g:=g) (G:=v.heap.size+1) h.par rfl rfl ⟨Ext.refl _,fun b hb _ _ hn=>⟨hall.block b hb,hn⟩,fun b T m hb _=>⟨hall.block b (hl b ⟨_,hb⟩),hb⟩,hall.os,hall.tape,hall.output,hall.size⟩
 have hbv:=h.bv
 have hty:=h.ty
 have hgb:=h.gb
 have hMR:M v.heap.size=none:=h.th.none (Nat.le_refl _)
 go_enter Tryz.func58,Tryz.ntmps58
 go_wp2_with fail
 change Calls _ _ _ ((v.alloc (.cells #[.slice none 0 0,.int .i64 0,.slice none 0 0] 55)).alloc (.cells (gcells g (grec0 (.slice ur nr cr) (.slice us nr cs) nr)) 141)) _
 generalize hv1:(v.alloc (.cells #[.slice none 0 0,.int .i64 0,.slice none 0 0] 55)).alloc (.cells (gcells g (grec0 (.slice ur nr cr) (.slice us nr cs) nr)) 141)=v1 at H1 hR hall HP ⊢
 generalize hG:v.heap.size+1=G at H1 ⊢
 have hGR:v.heap.size≠G:=by omega
 go_wp2_with (first|(go_at_call 93;refine (width_any g a0 len cap _ H1.rd).mono ?_;rintro e w1 ⟨x,rfl,hx,hr1,hg1⟩;obtain⟨H2,V2⟩:=H1.read hr1 hg1;have c2:w1.cell? ⟨G,2,none⟩=some (.int .i64 0):=(zgc H2.cells 2).1.trans rfl;have z2:=(zgc H2.cells 2).2;obtain⟨H3,V3⟩:=H2.setRet (x:=x);clear hr1 hg1)|(go_at_call 57;refine (below_any g a0 len cap _ _ H3.rd).mono ?_;rintro e w2 ⟨n2,rfl,hn0,hn1,hr2,hg2⟩;obtain⟨k2,rfl⟩:=Int.eq_ofNat_of_zero_le hn0;obtain⟨H4,V4⟩:=H3.read hr2 hg2;have B0:Bg base g G a0 len cap M v1 0 x (.slice ur nr cr) (.slice us nr cs) nr w2:=⟨M,_,H4,rfl,rfl,rfl,rfl,rfl,fun k hk=>absurd hk (Nat.not_lt_zero k),((V2.trans V3).trans V4).mv,fun q hq=>(by cases hq)⟩;clear c2 z2 H2 V2 V3 H3 V4 H4 hr2 hg2 H1))
 have HL:Hid (∀ y,(∃ p,M y=some p)→y<v1.heap.size):=fun y hy=>Nat.lt_of_lt_of_le (hl y hy) hall.size
 go_loopw [8] (fun i wr=>∃ k n:Nat,i=.int .i64 k∧n+k≤2∧Bg base g G a0 len cap M v1 n x (.slice ur nr cr) (.slice us nr cs) nr wr) (fun i _=>(intOf i).toNat)
 case atStart=>exact⟨k2,0,rfl,by omega,B0⟩
 case round =>
  clear B0
  obtain⟨k,n,rfl,hkn,⟨M',S',Hs,hn,hret,hrv,hsv,hnr,hpw,hv,ho⟩⟩:=hrel
  subst hn
  by_cases hk:0<k
  ·go_wp2_with (first|(go_at_call 93;refine (width_any g a0 len cap _ Hs.rd).mono ?_;rintro e w3 ⟨x3,rfl,hx3,hr3,hg3⟩;obtain⟨H5,V5⟩:=Hs.read hr3 hg3;have hpw5:=hpw.mv (w2:=w3) Hs (Kept.refl _) (fun b m hb=>(V5.hold b _ m hb (by decide)).1);have hv5:=hv.trans V5.mv;have c1:w3.cell? ⟨G,1,none⟩=some S'.pv:=(zgc H5.cells 1).1.trans rfl;have LAW:Hid _:=par_law H5 rfl (by omega) x3;have B1:Below w3.heap.size w3 (w3.alloc (.cells #[.int .i64 x3] 2)):=(Below.refl _ _).alloc (Nat.le_refl _) _;clear hr3 hg3 hpw hv Hs V5)|(at_builtin;refine wpList_row rfl (.tmp 34) (.tmp 36) 41 rfl rfl rfl LAW.out ?_;intro s' w4 M4 hPC;obtain⟨g',cap',rfl,rfl,hP,hb4,hg4,xs,hc1,hc2⟩:=hPC;obtain⟨H6,V6⟩:=H5.below B1;have y0:=(hP.out G (by exact (Array.getElem?_eq_some_iff.1 H6.cells).1) H6.mG).1.trans H6.cells;have y1:w4.cell? ⟨G,1,none⟩=some S'.pv:=(zgc y0 1).1.trans rfl;have z1:=(zgc y0 1).2;obtain⟨M6,S6,H7,q1,q2,q3,q4,q5,q6,q7,q8⟩:=par_more H6 rfl (by omega) HL.out hx3 ⟨hret,hrv,hsv,hnr⟩ (hpw5.mv (w2:=w3.alloc (.cells #[.int .i64 x3] 2)) H5 (Kept.refl _) (fun b m hb=>(V6.hold b _ m hb (by decide)).1)) (hv5.trans V6.mv) ho hP hb4 hg4 hc1 hc2;have PA:=add_any base g G a0 len cap M6 _ S6 x3 _ H7 (by omega);clear y0 hP hb4 hg4 hc1 hc2 c1 LAW H5 H6 V6 hv5 hpw5)|(go_at_call 94;refine PA.mono ?_;rintro e w5 ⟨n5,rfl,M5,S5,H8,hS5,V8⟩;clear y1 z1 PA))
   have hkp:Kept S6 S5:=by rw[hS5];exact⟨rfl,rfl,rfl,rfl,rfl,rfl⟩
   go_roundw
   case rel=>exact⟨k-1,S'.np+1,by first|go_num|(congr 1;omega),by omega,⟨M5,S5,H8,by rw[hkp.2.1,q1],by rw[hkp.2.2.2.2.2,q2],by rw[hkp.2.2.1,q3],by rw[hkp.2.2.2.2.1,q4],by rw[hkp.2.2.2.1,q5],q6.mv H7 hkp (fun b m hb=>(V8.hold b _ m hb (by decide)).1),q7.trans V8.mv,fun q hq=>q8 q (by rw[←hkp.1];exact hq)⟩⟩
   case measure=>simp[intOf];omega
  ·have hk0:k=0:=by omega
   have G0:Gok base g G a0 len cap M' 14 S' wr:=Hs.mono (by omega) (by omega)
   have h0:=G0.sb
   have HQ:Hid (ParW M' S' wr):=HP.at hnr hsv hv
   have hw:S'.ret=1∨S'.ret=8∨S'.ret=16∨S'.ret=32:=by rw[hret];exact hx
   have hRl:v.heap.size<v1.heap.size:=(Array.getElem?_eq_some_iff.1 hR).1
   obtain⟨hMR1,hMR2⟩:=hv.out v.heap.size hRl (by omega) hGR hMR
   have hRw:v.heap.size<wr.heap.size:=Nat.lt_of_lt_of_le hRl hv.size
   have P1:=below_sb h0 5 (by omega)
   clear h0 hk
   go_wp2_with (first|(go_at_call 57;refine P1.mono ?_;rintro e wA ⟨kA,rfl,hkA,hA,vA⟩;have P2:=some_sb hA HQ.out (1+kA) (by omega) (by omega);rw[show ((1+kA:Nat):Int)=1+(kA:Int) from (by omega)] at P2;clear P1)|(go_at_call 95;refine P2.mono ?_;rintro e wB ⟨⟨rB,rfl⟩,MB,SB,hB,sB,vB⟩;have P3:=below_sb hB 4 (by omega);clear P2)|(go_at_call 57;refine P3.mono ?_;rintro e wC ⟨kC,rfl,hkC,hC,vC⟩;have PF:=fork_sb hC HQ.out (by omega);have PL:=loop_sb hC HQ.out (by omega);have PB:=below_sb hC 3 (by omega);clear P3)|(go_at_call 96;refine PF.mono ?_;rintro e wD ⟨⟨rD,rfl⟩,MD,SD,hD⟩;have PB:=below_sb hD 3 (by omega);clear PF PL)|(go_at_call 97;refine PL.mono ?_;rintro e wD ⟨⟨rD,rfl⟩,MD,SD,hD⟩;have PB:=below_sb hD 3 (by omega);clear PL)|(go_at_call 57;refine PB.mono ?_;rintro e wE ⟨kE,rfl,hkE,hE,vE⟩;have PS:=some_sb hE HQ.out kE (by omega) (by omega);clear PB)|(go_at_call 95;refine PS.mono ?_;rintro e wF ⟨⟨rF,rfl⟩,MF,SF,hF,sF,vF⟩;have PE:=ends_sb hF (by omega) hw;have PL:=loop_sb hF HQ.out (by omega);clear PS)|(go_at_call 98;refine PE.mono ?_;rintro e wH ⟨⟨rH,rfl⟩,MH,SH,hH,hH1⟩;obtain⟨up,cp,e1,_⟩:=hH.1.p.sl;obtain⟨ub,cb,e2,_⟩:=hH.1.b.sl;have d1:wH.cell? ⟨G,1,none⟩=some (.slice up SH.np cp):=(by rw[←e1];exact (zgc hH.1.cells 1).1.trans rfl);have d2:wH.cell? ⟨G,2,none⟩=some (.int .i64 SH.ret):=(zgc hH.1.cells 2).1.trans rfl;have d3:wH.cell? ⟨G,3,none⟩=some (.slice ub SH.nb cb):=(by rw[←e2];exact (zgc hH.1.cells 3).1.trans rfl);obtain⟨oR1,oR2⟩:=hH.2.2.out v.heap.size hRw (by omega) hGR hMR2;have eR:wH.heap[v.heap.size]?=some (.cells #[.slice none 0 0,.int .i64 0,.slice none 0 0] 55 (0,0)):=oR1.trans (hMR1.trans hR);have b0:wH.cell? ⟨v.heap.size,0,none⟩=some (.slice none 0 0):=(zcH eR).trans rfl;have b1:wH.cell? ⟨v.heap.size,1,none⟩=some (.int .i64 0):=(zcH eR).trans rfl;have b2:wH.cell? ⟨v.heap.size,2,none⟩=some (.slice none 0 0):=(zcH eR).trans rfl;have s0:wH.frozen? ⟨v.heap.size,0,none⟩=false:=(by simp[World.frozen?,eR]);have s1:wH.frozen? ⟨v.heap.size,1,none⟩=false:=(by simp[World.frozen?,eR]);have s2:wH.frozen? ⟨v.heap.size,2,none⟩=false:=(by simp[World.frozen?,eR]);have HZ:Hid _:=hH;have HE:Hid _:=eR;clear hH eR PE PL oR1))
   all_goals
    have hr:=zhS (o:=2) (v:=.slice ub SH.nb cb) (zhS (o:=1) (v:=.int .i64 SH.ret) (zhS (o:=0) (v:=.slice up SH.np cp) HE.out))
    have hz:=HZ.out
    have hkp:=hz.2.1
    have PZ:PW wH SH:=hpw.mv G0 hkp (fun b m hb=>(hz.2.2.hold b _ m hb (.inl rfl)).1)
    obtain⟨r1,r2,r3,r4,r5,r6⟩:=fn_end (ret:=SH.ret) hz.1 (by omega) oR2 (by omega) e1 e2 rfl rfl PZ
    refine bodyPost_ret (v:=.agg #[.slice up SH.np cp,.int .i64 SH.ret,.slice ub SH.nb cb]) ((results_cell_row Tryz.results58 _ _ v.heap.size 55 _ (0,0) _ rfl hr Tryz.underlying55 rfl (by kernel_rfl)).trans (by rfl)) rfl ⟨up,SH.np,cp,SH.ret,ub,SH.nb,cb,rfl,MH,r1,r2,r3,by rw[hkp.2.1];omega,⟨hH1,r4⟩,by rw[hkp.2.2.2.2.2];exact hw,r5,r6,fun b hb hbg=>?_,?_,?_,?_,?_,fun b T m hb=>(hz.2.2.hold b T m ((hv.hold b T m hb (hty b T m hb)).2) (hty b T m hb)).2⟩
    ·have hbR:b≠v.heap.size:=by omega
     rw[Below.heap_setCell _ _ _ _ hbR,Below.heap_setCell _ _ _ _ hbR,Below.heap_setCell _ _ _ _ hbR,←hall.block b hb]
     have hb1:b<v1.heap.size:=by omega
     cases e:M b with
     | none =>
      obtain⟨t1,t2⟩:=hv.out b hb1 hbg (by omega) e
      exact (hz.2.2.out b (Nat.lt_of_lt_of_le hb1 hv.size) hbg (by omega) t2).1.trans t1
     | some p =>
      obtain⟨T,m⟩:=p
      obtain⟨t1,t2⟩:=hv.hold b T m e (hty b T m e)
      exact (hz.2.2.hold b T m t2 (hty b T m e)).1.trans t1
    ·exact (set_os _ _ _).trans ((set_os _ _ _).trans ((set_os _ _ _).trans (hz.2.2.os.trans (hv.os.trans hall.os))))
    ·exact (set_tape _ _ _).trans ((set_tape _ _ _).trans ((set_tape _ _ _).trans (hz.2.2.tape.trans (hv.tape.trans hall.tape))))
    ·exact (set_output _ _ _).trans ((set_output _ _ _).trans ((set_output _ _ _).trans (hz.2.2.output.trans (hv.output.trans hall.output))))
    ·simp only[World.size_setCell]
     exact Nat.le_trans hall.size (Nat.le_trans hv.size hz.2.2.size)
theorem list_of{α:Type}(z:α)(P:Nat→α→Prop):∀ n,(∀ i,i<n→∃ x,P i x)→∃ l:List α,l.length=n∧∀ i,i<n→P i (l.getD i z)
 | 0,_=>⟨[],rfl,fun i hi=>by omega⟩
 | n+1,h=>by
  obtain⟨l,h1,h2⟩:=list_of z P n fun i hi=>h i (by omega)
  obtain⟨x,hx⟩:=h n (by omega)
  refine⟨l++[x],by simp[h1],fun i hi=>?_⟩
  by_cases e:i=n
  ·subst e
   have:(l++[x]).getD i z=x:=by rw[List.getD,List.getElem?_append_right (by omega),h1,Nat.sub_self];rfl
   rw[this];exact hx
  ·have:(l++[x]).getD i z=l.getD i z:=by rw[List.getD,List.getElem?_append_left (by omega),List.getD]
   rw[this];exact h2 i (by omega)
theorem mem_getD{α:Type}(z:α){l:List α}{p:α}(h:p∈l):∃ i,i<l.length∧p=l.getD i z:=by
 obtain⟨i,hi,rfl⟩:=List.getElem_of_mem h
 exact⟨i,hi,by simp[List.getD,hi]⟩
variable {base N n c:Nat} {M:Tmap} {v:World} {u:Option Addr}
theorem sl_at{T:TypeId}(th:TH base M N v)(h:SlN M T (.slice u n c) n):n=0∨∃ g,u=some ⟨g,0,none⟩∧base≤g∧g<v.heap.size∧∀ i,i<n→ElOk M N T (fun j=>v.cell? ⟨g,0+i*szT T+j,none⟩):=by
 obtain⟨u',c',e,h⟩:=h
 cases e
 rcases h with h|⟨g,m,rfl,hM,hm⟩
 ·exact .inl h
 ·obtain⟨h1,cur,h2,h3⟩:=th g T m hM
  refine .inr ⟨g,rfl,h1,(Array.getElem?_eq_some_iff.1 h2).1,fun i hi=>?_⟩
  have e:(fun j=>v.cell? ⟨g,0+i*szT T+j,none⟩)=fun j=>cur[i*szT T+j]?:=by
   funext j
   rw[zcH h2,Nat.zero_add]
  rw[e]
  exact h3 i (by omega)
theorem ints_of(th:TH base M N v)(h:SlN M 2 (.slice u n c) n)(hn:n≤10000):∃ l:List Int,l.length=n∧IntsAt v base u l:=by
 rcases sl_at th h with rfl|⟨g,rfl,h1,h2,h3⟩
 ·exact⟨[],rfl,by simp,.inl rfl⟩
 ·have hs:szT 2=1:=by decide
  obtain⟨l,l1,l2⟩:=list_of 0 (fun i z=>v.cell? ⟨g,0+i,none⟩=some (.int .i64 z)) n fun i hi=>by
   obtain⟨z,hz⟩:=(h3 i hi).1 rfl
   exact⟨z,by simpa [hs] using hz⟩
  exact⟨l,l1,by omega,.inr ⟨g,0,rfl,h1,h2,fun i hi=>l2 i (by omega)⟩⟩
theorem slv_form{T:TypeId}{s:Value}(h:SlV M N T s):∃ u n c,s=.slice u n c∧n≤N∧SlN M T (.slice u n c) n:=by
 obtain⟨n,h1,h2⟩:=h
 obtain⟨u,c,rfl,h3⟩:=h2
 exact⟨u,n,c,rfl,h1,u,c,rfl,h3⟩
theorem phis_of(th:TH base M N v)(hN:N≤10000)(h:SlN M 92 (.slice u n c) n)(hn:n≤10000):∃ l:List PhiD,l.length=n∧PhisAt v base u l∧∀ p∈l,SmPhi p:=by
 rcases sl_at th h with rfl|⟨g,rfl,h1,h2,h3⟩
 ·exact⟨[],rfl,⟨by simp,.inl rfl⟩,by simp⟩
 ·have hs:szT 92=2:=by decide
  obtain⟨l,l1,l2⟩:=list_of phi0 (fun i p=>(v.cell? ⟨g,0+i*2,none⟩=some (.int .i64 p.w)∧∃ u c,v.cell? ⟨g,0+i*2+1,none⟩=some (.slice u p.ins.length c)∧IntsAt v base u p.ins)∧p.ins.length≤10000) n fun i hi=>by
   obtain⟨⟨z,hz⟩,s,hs1,hs2⟩:=(h3 i hi).2.2.1 rfl
   obtain⟨u,k,c,rfl,hk,hs3⟩:=slv_form hs2.slv
   obtain⟨m,m1,m2⟩:=ints_of th hs3 (by omega)
   exact⟨⟨z,m⟩,⟨by simpa [hs] using hz,u,c,by simpa [hs,m1] using hs1,m2⟩,by dsimp only;omega⟩
  refine⟨l,l1,⟨by omega,.inr ⟨g,0,rfl,h1,h2,fun i hi=>(l2 i (by omega)).1⟩⟩,fun p hp=>?_⟩
  obtain⟨i,hi,rfl⟩:=mem_getD phi0 hp
  have:=(l2 i (by omega)).2
  show _≤_
  omega
theorem insts_of(th:TH base M N v)(hN:N≤10000)(h:SlN M 95 (.slice u n c) n)(hn:n≤10000):∃ l:List InstD,l.length=n∧InstsAt v base u l∧∀ p∈l,SmInst p:=by
 rcases sl_at th h with rfl|⟨g,rfl,h1,h2,h3⟩
 ·exact⟨[],rfl,⟨by simp,.inl rfl⟩,by simp⟩
 ·have hs:szT 95=7:=by decide
  obtain⟨l,l1,l2⟩:=list_of inst0 (fun i p=>(v.cell? ⟨g,0+i*7,none⟩=some (.int .i64 p.op)∧v.cell? ⟨g,0+i*7+1,none⟩=some (.int .i64 p.w)∧v.cell? ⟨g,0+i*7+2,none⟩=some (.int .i64 p.a)∧v.cell? ⟨g,0+i*7+3,none⟩=some (.int .i64 p.b)∧v.cell? ⟨g,0+i*7+4,none⟩=some (.int .i64 p.c)∧v.cell? ⟨g,0+i*7+5,none⟩=some (.int .i64 p.imm)∧∃ u c,v.cell? ⟨g,0+i*7+6,none⟩=some (.slice u p.args.length c)∧IntsAt v base u p.args)∧p.args.length≤10000) n fun i hi=>by
   obtain⟨hz,s,hs1,hs2⟩:=(h3 i hi).2.2.2.1 rfl
   obtain⟨u,k,c,rfl,hk,hs3⟩:=slv_form hs2
   obtain⟨m,m1,m2⟩:=ints_of th hs3 (by omega)
   obtain⟨z0,y0⟩:=hz 0 (by omega)
   obtain⟨z1,y1⟩:=hz 1 (by omega)
   obtain⟨z2,y2⟩:=hz 2 (by omega)
   obtain⟨z3,y3⟩:=hz 3 (by omega)
   obtain⟨z4,y4⟩:=hz 4 (by omega)
   obtain⟨z5,y5⟩:=hz 5 (by omega)
   simp only[hs] at y0 y1 y2 y3 y4 y5 hs1
   exact⟨⟨z0,z1,z2,z3,z4,z5,m⟩,⟨y0,y1,y2,y3,y4,y5,u,c,by rw[hs1,m1],m2⟩,by dsimp only;omega⟩
  refine⟨l,l1,⟨by omega,.inr ⟨g,0,rfl,h1,h2,fun i hi=>(l2 i (by omega)).1⟩⟩,fun p hp=>?_⟩
  obtain⟨i,hi,rfl⟩:=mem_getD inst0 hp
  have:=(l2 i (by omega)).2
  show _≤_
  omega
theorem blocks_of(th:TH base M N v)(hN:N≤10000)(h:SlN M 74 (.slice u n c) n)(hn:n≤10000):∃ l:List BlockD,l.length=n∧zBA v base u l∧∀ p∈l,SmBlock p:=by
 rcases sl_at th h with rfl|⟨g,rfl,h1,h2,h3⟩
 ·exact⟨[],rfl,⟨by simp,.inl rfl⟩,by simp⟩
 ·have hs:szT 74=6:=by decide
  obtain⟨l,l1,l2⟩:=list_of block0 (fun i p=>((∃ u c,v.cell? ⟨g,0+i*6,none⟩=some (.slice u p.phis.length c)∧PhisAt v base u p.phis)∧(∃ u c,v.cell? ⟨g,0+i*6+1,none⟩=some (.slice u p.insts.length c)∧InstsAt v base u p.insts)∧v.cell? ⟨g,0+i*6+2,none⟩=some (.int .i64 p.term.kind)∧v.cell? ⟨g,0+i*6+3,none⟩=some (.int .i64 p.term.a)∧v.cell? ⟨g,0+i*6+4,none⟩=some (.int .i64 p.term.x)∧v.cell? ⟨g,0+i*6+5,none⟩=some (.int .i64 p.term.y))∧SmBlock p) n fun i hi=>by
   obtain⟨⟨s,hs1,hs2⟩,⟨s',hs1',hs2'⟩,hz⟩:=(h3 i hi).2.2.2.2 rfl
   obtain⟨u,k,c,rfl,hk,hs3⟩:=slv_form hs2
   obtain⟨u',k',c',rfl,hk',hs3'⟩:=slv_form hs2'
   obtain⟨m,m1,m2,m3⟩:=phis_of th hN hs3 (by omega)
   obtain⟨m',m1',m2',m3'⟩:=insts_of th hN hs3' (by omega)
   obtain⟨z2,y2⟩:=hz 2 (by omega) (by omega)
   obtain⟨z3,y3⟩:=hz 3 (by omega) (by omega)
   obtain⟨z4,y4⟩:=hz 4 (by omega) (by omega)
   obtain⟨z5,y5⟩:=hz 5 (by omega) (by omega)
   simp only[hs] at y2 y3 y4 y5 hs1 hs1'
   exact⟨⟨m,m',⟨z2,z3,z4,z5⟩⟩,⟨⟨u,c,by rw[←m1] at hs1;exact hs1,m2⟩,⟨u',c',by rw[←m1'] at hs1';exact hs1',m2'⟩,y2,y3,y4,y5⟩,⟨by dsimp only;omega,m3⟩,⟨by dsimp only;omega,m3'⟩⟩
  refine⟨l,l1,⟨by omega,.inr ⟨g,0,rfl,h1,h2,fun i hi=>(l2 i (by omega)).1⟩⟩,fun p hp=>?_⟩
  obtain⟨i,hi,rfl⟩:=mem_getD block0 hp
  exact (l2 i (by omega)).2
end Go.Proofs.YtkpmiikafconmaaGreatDoor
