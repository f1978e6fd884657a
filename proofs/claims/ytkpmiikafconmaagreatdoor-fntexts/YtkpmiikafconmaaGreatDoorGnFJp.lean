import Derived.Test.YtkpmiikafconmaaGreatDoorGnEJp
namespace Go.Proofs.YtkpmiikafconmaaGreatDoor
open Go.RowKit Go.Deep
set_option maxHeartbeats 2000000
set_option maxRecDepth 100000
set_option linter.unusedVariables false
def Fit(B:Nat)(s:Value)(n:Nat)(v:World):Prop:=∃ zs:List Int,zs.length=n∧v.ownsRow B 2 1 s n (zs.map (Value.int .i64))∧∃ g c,s=.slice (some ⟨g,0,none⟩) n c
theorem pick_any(base g G:Nat)(a0:Option Addr)(len cap:Nat)(M:Tmap)(N:Nat)(S:GRec)(x:Int)(v:World)(h:Gok base g G a0 len cap M N S v)(hN:N+2≤10000)(hx:x=1∨x=8∨x=16∨x=32) :
  Calls Tryz.prog 130 #[.pointer (some ⟨G,0,none⟩),.int .i64 x] v fun e v'=>∃ n:Int,e=.returned (.int .i64 n)∧∃ M' S',Gok base g G a0 len cap M' (N+2) S' v'∧Same S S'∧Mov g G M M' v v':=by
 obtain⟨i0,hi,hz0,hz1,hz2⟩:=info_parts infoI
 have HI:Hid (Tryz.prog.info? 2=some i0):=hi
 have HZ0:Hid (i0.zero=some (.int .i64 0)):=hz0
 have HZ1:Hid (i0.size=1):=hz1
 have HZ2:Hid (i0.bytes=8):=hz2
 clear hi hz0 hz1 hz2
 have hbn:=h.bn
 have hGl:=(Array.getElem?_eq_some_iff.1 h.cells).1
 have c0:v.cell? ⟨G,0,none⟩=some (.pointer (some ⟨g,0,none⟩)):=(zgc h.cells 0).1.trans rfl
 have c11:v.cell? ⟨G,11,none⟩=some S.idv:=(zgc h.cells 11).1.trans rfl
 have c12:v.cell? ⟨G,12,none⟩=some S.wsv:=(zgc h.cells 12).1.trans rfl
 obtain⟨ui,ci,eI⟩:∃ u c,S.idv=.slice u S.nid c:=by
  rcases h.ids with⟨e1,_,e3⟩|⟨_,⟨u,c,e,_⟩,_⟩
  ·exact⟨none,0,by rw[e1,e3]⟩
  ·exact⟨u,c,e⟩
 obtain⟨uw,cw,eW⟩:∃ u c,S.wsv=.slice u S.nid c:=by
  rcases h.ids with⟨_,e1,e3⟩|⟨_,_,⟨u,c,e,_⟩⟩
  ·exact⟨none,0,by rw[e1,e3]⟩
  ·exact⟨u,c,e⟩
 rw[eI] at c11
 rw[eW] at c12
 go_enter Tryz.func130,Tryz.ntmps130
 go_wp2_with fail
 go_loopw [5,6] (fun s i wr=>∃ k m:Nat,k≤S.nid∧m≤k∧i=.int .i64 k∧Fit v.heap.size s m wr∧Below v.heap.size v wr) (fun _ i _=>S.nid-(intOf i).toNat)
 case atStart=>exact⟨0,0,by omega,by omega,rfl,⟨[],rfl,lit_own (zhL _ _) (Nat.le_refl _),_,_,rfl⟩,(Below.refl _ _).alloc (Nat.le_refl _) _⟩
 case round =>
  obtain⟨k,m,hk,hmk,rfl,⟨zs,hzl,hown,gf,cf,rfl⟩,hB⟩:=hrel
  obtain⟨wo,hwo⟩:∃ wo,wo=wr:=⟨_,rfl⟩
  subst hwo
  have d0:=(zcB (hB.block G hGl)).trans c0
  have d11:=(zcB (hB.block G hGl)).trans c11
  have d12:=(zcB (hB.block G hGl)).trans c12
  have hgf:v.heap.size≤gf:=by
   rcases hown.2 with⟨hbad,_⟩|⟨g',c',cur,hv,hb,_⟩
   ·cases hbad
   ·cases hv;exact hb
  by_cases hlt:k<S.nid
  ·rcases h.ids with⟨_,_,e3⟩|⟨hp,hI,hW⟩
   ·omega
   obtain⟨gi,ci',is,e1,hil,_,hgl,_,hread⟩:=hI.read h.th hp
   obtain⟨gj,cj',js,e2,hjl,_,hgl2,_,hread2⟩:=hW.read h.th hp
   rw[e1] at eI
   rw[e2] at eW
   cases eI
   cases eW
   have q1:wo.cell? ⟨gi,k,none⟩=some (.int .i64 (is.getD k 0)):=by
    have:=hread k (.int .i64 (is.getD k 0)) (by simp[List.getD,hil,hlt])
    rw[Addr.add_lit,Nat.zero_add] at this
    exact (zcB (hB.block gi hgl)).trans this
   have q2:wo.cell? ⟨gj,k,none⟩=some (.int .i64 (js.getD k 0)):=by
    have:=hread2 k (.int .i64 (js.getD k 0)) (by simp[List.getD,hjl,hlt])
    rw[Addr.add_lit,Nat.zero_add] at this
    exact (zcB (hB.block gj hgl2)).trans this
   generalize is.getD k 0=y at q1
   generalize js.getD k 0=z at q2
   clear hread hread2
   by_cases hxz:z=x
   ·go_wp2_with (at_builtin;refine wpList_append_lies _ rfl (.tmp 27) (.tmp 35) 41 rfl v.heap.size 2 i0 (.int .i64 0) 1 8 Tryz.underlying41 HI.out HZ0.out HZ1.out HZ2.out rfl (by decide) (.slice (some ⟨gf,0,none⟩) m cf) m (zs.map (Value.int .i64)) rfl (hown.alloc _) ⟨wo.heap.size,0,none⟩ 1 1 [.int .i64 y] rfl (by simp) (one_of (zhL wo _)) (by simp[Value.oneCell']) (by omega) (by unfold maxLen;omega) (by omega) (by have:=hB.size;simp;omega) _ rfl ?_;intro g4 cap4 w4 hown4 hgrow4 hat4 hlt4;have B4:Below v.heap.size v w4:=bel_grown (hB.alloc hB.size _) hgrow4 (by exact hgf))
    go_roundw
    case rel=>exact⟨k+1,m+1,by omega,by omega,by go_num,⟨zs++[y],by simp[hzl],by simpa using hown4,g4,cap4,rfl⟩,B4⟩
    case measure=>simp[intOf];omega
   ·go_wp2_with fail
    go_roundw
    case rel=>exact⟨k+1,m,by omega,by omega,by go_num,⟨zs,hzl,hown,gf,cf,rfl⟩,hB⟩
    case measure=>simp[intOf];omega
  ·have hke:k=S.nid:=by omega
   obtain⟨H1,V1⟩:=h.below hB
   have hcur:∃ cur,wo.heap[gf]?=some (.cells cur 2 (0,0))∧∀ j,j<m→cur[j]?=some (.int .i64 (zs.getD j 0)):=by
    rcases hown.2 with⟨hbad,_⟩|⟨g',c',cur,hv,hb,hc,hn,hcm,hsz,htk⟩
    ·cases hbad
    ·cases hv
     refine⟨cur,hc,fun j hj=>?_⟩
     have h1:(cur.toList.take (m*1))[j]?=some (.int .i64 (zs.getD j 0)):=by
      rw[htk,List.getElem?_map,List.getElem?_eq_getElem (by omega)]
      simp[List.getD,hzl,hj]
     rw[List.getElem?_take_of_lt (by omega)] at h1
     simpa using h1
   obtain⟨cur,hcur,hrd⟩:=hcur
   have hgfl:=(Array.getElem?_eq_some_iff.1 hcur).1
   have hgg:g<v.heap.size:=h.rd.lt
   by_cases hm0:m=0
   ·subst hm0
    rcases hx with rfl|rfl|rfl|rfl
    all_goals
     go_wp2_with (first|(go_at_call 129;refine (value_any g a0 len cap _ _ H1.rd (by simp)).mono ?_;rintro e w2 ⟨n2,rfl,hn0,hn1,hr2,hg2⟩;obtain⟨H2,V2⟩:=H1.read hr2 hg2)|(go_at_call 128;refine (put_any base g G a0 len cap M N S _ _ _ _ _ _ none 0 0 _ H2 hN ⟨none,0,rfl,.inl rfl⟩ (by omega)).mono ?_;rintro e w3 ⟨n3,rfl,M3,S3,H3,hS3,_,V3⟩))
     go_ret
     exact⟨n3,rfl,M3,S3,H3,hS3,V1.trans (V2.trans V3)⟩
   ·have hne:((m:Int)==0)=false:=by simp[hm0]
    have keep:∀ {wa wb:World},wa.grownBy wb (some g)→wa.heap[gf]?=wo.heap[gf]?→wo.heap.size≤wa.heap.size→wb.heap[gf]?=wo.heap[gf]?:=fun {wa wb} k e hs=>(k.block gf (by omega) (by simp;omega)).trans e
    have O:=once_any g a0 len cap 5 wo H1.rd (by omega)
    rcases hx with rfl|rfl|rfl|rfl
    all_goals
     go_wp2_with (first|(go_at_call 30;refine O.mono ?_;rintro e w2 ⟨bb,rfl,hr2,hg2⟩;obtain⟨H2,V2⟩:=H1.read hr2 hg2;have k2:=keep hg2 rfl (Nat.le_refl _);have z2:wo.heap.size≤w2.heap.size:=hg2.size;have f0:w2.cell? ⟨G,0,none⟩=some (.pointer (some ⟨g,0,none⟩)):=(zgc H2.cells 0).1.trans rfl)|(go_at_call 129;refine (value_any g a0 len cap _ _ H2.rd (by simp)).mono ?_;rintro e w3 ⟨n2,rfl,hn0,hn1,hr3,hg3⟩;obtain⟨H3,V3⟩:=H2.read hr3 hg3)|(go_at_call 128;refine (put_any base g G a0 len cap M N S _ _ _ _ _ _ none 0 0 _ H3 hN ⟨none,0,rfl,.inl rfl⟩ (by omega)).mono ?_;rintro e w4 ⟨n3,rfl,M3,S3,H4,hS3,_,V4⟩)|(go_at_call 57;refine (below_any g a0 len cap _ _ H2.rd).mono ?_;rintro e w3 ⟨n3,rfl,hn0,hn1,hr3,hg3⟩;obtain⟨kn,rfl⟩:=Int.eq_ofNat_of_zero_le hn0;obtain⟨H3,V3⟩:=H2.read hr3 hg3;have k3:=(keep hg3 k2 z2).trans hcur;have ra:w3.cell? ⟨gf,m-1,none⟩=some (.int .i64 (zs.getD (m-1) 0)):=((zcH k3).trans (hrd (m-1) (by omega)));clear hn1;rcases Nat.lt_or_ge kn m with hkn|hkn;(have rb:w3.cell? ⟨gf,kn,none⟩=some (.int .i64 (zs.getD kn 0)):=(zcH k3).trans (hrd kn hkn);clear ra)))
     all_goals go_ret
     all_goals first
      | exact⟨n3,rfl,M3,S3,H4,hS3,V1.trans (V2.trans (V3.trans V4))⟩
      | exact⟨_,rfl,M,S,H3.mono (by omega) hN,Same.refl _,V1.trans (V2.trans V3)⟩
theorem el_int{M:Tmap}{N:Nat}{z:Int}{c:Nat→Option Value}(h:c 0=some (.int .i64 z)):ElOk M N 2 c :=
 ⟨fun _=>⟨z,h⟩,fun q=>absurd q (by decide),fun q=>absurd q (by decide),fun q=>absurd q (by decide),fun q=>absurd q (by decide)⟩
theorem Gok.adopted{base g G len cap N b n:Nat}{a0:Option Addr}{M:Tmap}{S:GRec}{v:World}{cur:Array Value}(h:Gok base g G a0 len cap M N S v)(hb:base≤b)(hbG:b≠G)(hM:M b=none)(hc:v.heap[b]?=some (.cells cur 2 (0,0)))(he:∀ i,i<n→∃ z:Int,cur[i]?=some (.int .i64 z)) :
  Gok base g G a0 len cap (put M b 2 n) N S v∧Ext M (put M b 2 n)∧SlN (put M b 2 n) 2 (.slice (some ⟨b,0,none⟩) n n) n:=by
 have hext:Ext M (put M b 2 n):=put_ext (.inl hM)
 have hrow:∀ {T:TypeId} {s:Value} {k:Nat},RowT base M T s k v→RowT base (put M b 2 n) T s k v:=fun {T s k} r=>by
  rcases r with r|⟨q,c,cu,hv,hq,hq2,hr⟩
  ·exact .inl r
  ·refine .inr ⟨q,c,cu,hv,hq,?_,hr⟩
   have hqb:q≠b:=fun e=>by rw[e,hM] at hq2;cases hq2
   simp[put,hqb,hq2]
 have hth:TH base (put M b 2 n) N v:=h.th.put (Nat.le_refl _) hb (.inl hM) hc (fun _ _ _=>rfl) fun i hi=>by
  obtain⟨z,hz⟩:=he i hi
  exact el_int (z:=z) (by simpa [szT] using hz)
 refine⟨⟨h.rd,h.gb,h.bv,by simp[put,Ne.symm hbG,h.mG],h.nG,h.cells,hth,hrow h.p,hrow h.b,hrow h.ph,hrow h.i,?_,h.rets.ext hext,h.pars.ext hext,h.bn⟩,hext,⟨_,n,rfl,.inr ⟨b,n,rfl,by simp[put],Nat.le_refl _⟩⟩⟩
 rcases h.ids with e|⟨e1,e2,e3⟩
 ·exact .inl e
 ·exact .inr ⟨e1,e2.ext hext,e3.ext hext⟩
def ParW(M:Tmap)(S:GRec)(v:World):Prop:=0<S.nr→∃ gs cs ms,S.sv=.slice (some ⟨gs,0,none⟩) S.nr cs∧M gs=some (41,ms)∧∀ k,k<S.nr→∃ u n c,v.cell? ⟨gs,k,none⟩=some (.slice u n c)∧n≤2∧(0<n→∃ gp mp,u=some ⟨gp,0,none⟩∧M gp=some (2,mp)∧∀ i,i<n→∃ x:Int,v.cell? ⟨gp,i,none⟩=some (.int .i64 x)∧(x=1∨x=8∨x=16∨x=32))
theorem ParW.mov{g G:Nat}{M M':Tmap}{S S':GRec}{v v':World}(h:ParW M S v)(hS:Same S S')(k:Mov g G M M' v v'):ParW M' S' v':=fun hn=>by
 obtain⟨s1,s2,s3,s4,s5,s6,s7,s8,s9,s10⟩:=hS
 rw[s8] at hn
 obtain⟨gs,cs,ms,e1,e2,e3⟩:=h hn
 obtain⟨f1,f2⟩:=k.hold gs _ _ e2 (by decide)
 refine⟨gs,cs,ms,by rw[s9,s8];exact e1,f2,fun j hj=>?_⟩
 rw[s8] at hj
 obtain⟨u,n,c,g1,g2,g3⟩:=e3 j hj
 refine⟨u,n,c,(cell_blk f1).trans g1,g2,fun hp=>?_⟩
 obtain⟨gp,mp,r1,r2,r3⟩:=g3 hp
 obtain⟨t1,t2⟩:=k.hold gp _ _ r2 (by decide)
 refine⟨gp,mp,r1,t2,fun i hi=>?_⟩
 obtain⟨x,x1,x2⟩:=r3 i hi
 exact⟨x,(cell_blk t1).trans x1,x2⟩
end Go.Proofs.YtkpmiikafconmaaGreatDoor
