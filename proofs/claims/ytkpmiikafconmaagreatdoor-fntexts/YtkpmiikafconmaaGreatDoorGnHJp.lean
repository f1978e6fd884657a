import Derived.Test.YtkpmiikafconmaaGreatDoorGnFJp
namespace Go.Proofs.YtkpmiikafconmaaGreatDoor
open Go.RowKit Go.Deep
set_option maxHeartbeats 2000000
set_option maxRecDepth 100000
set_option linter.unusedVariables false
theorem own_stay{w w':World}{b:Nat}{e:TypeId}{s:Nat}{v:Value}{n:Nat}{xs:List Value}(h:w.ownsRow b e s v n xs)(k:∀ g,v.ownBlock=some g→w'.heap[g]?=w.heap[g]?):w'.ownsRow b e s v n xs:=by
 obtain⟨h1,h2⟩:=h
 refine⟨h1,?_⟩
 rcases h2 with h2|⟨g,cap,cur,hv,hb,hc,r⟩
 ·exact .inl h2
 ·subst hv
  exact .inr ⟨g,cap,cur,rfl,hb,(k g rfl).trans hc,r⟩
theorem Gok.beside{base g G len cap N q:Nat}{a0:Option Addr}{M:Tmap}{S:GRec}{v v':World}(h:Gok base g G a0 len cap M N S v)(hq:base≤q)(hqG:q≠G)(hM:M q=none)(k:v.grownBy v' (some q)):Gok base g G a0 len cap M N S v':=by
 have hG:=(Array.getElem?_eq_some_iff.1 h.cells).1
 have hk:∀ b,(∃ p,M b=some p)→v'.heap[b]?=v.heap[b]?:=fun b hb=>k.block b (h.th.lt hb).2 (by
  obtain⟨p,hb⟩:=hb
  have:b≠q:=fun e=>by rw[e,hM] at hb;cases hb
  simp;omega)
 exact⟨rd_keep h.rd k.size fun b hb=>k.block b (by have:=h.rd.lt;omega) (by have:=h.gb;simp;omega),h.gb,Nat.le_trans h.bv k.size,h.mG,h.nG,(k.block G hG (by simp;omega)).trans h.cells,h.th.keep (Nat.le_refl _) hk,h.p.keep hk,h.b.keep hk,h.ph.keep hk,h.i.keep hk,h.ids,h.rets,h.pars,h.bn⟩
theorem Mov.beside{g G q:Nat}{A B:Tmap}{a b c:World}(h:Mov g G A B a b)(hq:a.heap.size≤q)(hB:B q=none)(hl:∀ x,(∃ p,B x=some p)→x<b.heap.size)(k:b.grownBy c (some q)):Mov g G A B a c :=
 ⟨h.ext,fun x hx h1 h2 h3=>⟨(k.block x (Nat.lt_of_lt_of_le hx h.size) (by simp;omega)).trans (h.out x hx h1 h2 h3).1,(h.out x hx h1 h2 h3).2⟩,fun x T m hx hT=>by
  obtain⟨e1,e2⟩:=h.hold x T m hx hT
  have hxq:x≠q:=fun e=>by rw[e,hB] at e2;cases e2
  exact⟨(k.block x (hl x ⟨_,e2⟩) (by simp;omega)).trans e1,e2⟩,k.os.trans h.os,k.tape.trans h.tape,k.output.trans h.output,Nat.le_trans h.size k.size⟩
theorem Mov.adopt{g G q n:Nat}{T0:TypeId}{A B:Tmap}{a b:World}(h:Mov g G A B a b)(hq:a.heap.size≤q)(hB:B q=none):Mov g G A (put B q T0 n) a b :=
 ⟨h.ext.trans (put_ext (.inl hB)),fun x hx h1 h2 h3=>by
  obtain⟨e1,e2⟩:=h.out x hx h1 h2 h3
  have hxq:x≠q:=by omega
  exact⟨e1,by simp[put,hxq,e2]⟩,fun x T m hx hT=>by
  obtain⟨e1,e2⟩:=h.hold x T m hx hT
  have hxq:x≠q:=fun e=>by rw[e,hB] at e2;cases e2
  exact⟨e1,by simp[put,hxq,e2]⟩,h.os,h.tape,h.output,h.size⟩
structure Args(base g G:Nat)(a0:Option Addr)(len cap:Nat)(M:Tmap)(N:Nat)(S:GRec)(v:World)(k:Nat)(s:Value)(wr:World):Prop where
 it:∃ Mk Sk,∃ zs:List Int,∃ gf cf,s=.slice (some ⟨gf,0,none⟩) k cf∧zs.length=k∧wr.ownsRow v.heap.size 2 1 s k (zs.map (Value.int .i64))∧Gok base g G a0 len cap Mk (N+2*k) Sk wr∧Same S Sk∧Mov g G M Mk v wr∧Mk gf=none∧v.heap.size≤gf∧gf<wr.heap.size
theorem call_any(base g G:Nat)(a0:Option Addr)(len cap:Nat)(M:Tmap)(N:Nat)(S:GRec)(v:World)(h:Gok base g G a0 len cap M N S v)(hN:N+6≤10000)(hp:ParW M S v) :
  Calls Tryz.prog 131 #[.pointer (some ⟨G,0,none⟩)] v fun e v'=>(∃ r,e=.returned r)∧∃ M' S',Gok base g G a0 len cap M' (N+6) S' v'∧Same S S'∧Mov g G M M' v v':=by
 obtain⟨i0,hi,hz0,hz1,hz2⟩:=info_parts infoI
 have HI:Hid (Tryz.prog.info? 2=some i0):=hi
 have HZ0:Hid (i0.zero=some (.int .i64 0)):=hz0
 have HZ1:Hid (i0.size=1):=hz1
 have HZ2:Hid (i0.bytes=8):=hz2
 clear hi hz0 hz1 hz2
 have hbn:=h.bn
 have hGl:=(Array.getElem?_eq_some_iff.1 h.cells).1
 have c0:v.cell? ⟨G,0,none⟩=some (.pointer (some ⟨g,0,none⟩)):=(zgc h.cells 0).1.trans rfl
 have c13:v.cell? ⟨G,13,none⟩=some S.rv:=(zgc h.cells 13).1.trans rfl
 obtain⟨ur,cr,eR,_⟩:=h.rets
 rw[eR] at c13
 go_enter Tryz.func131,Tryz.ntmps131
 by_cases hn0:S.nr=0
 ·rw[hn0] at c13
  go_wp2_with fail
  exact bodyPost_ret (results_none Tryz.results131 _ _ _) rfl ⟨⟨_,rfl⟩,M,S,h.mono (by omega) hN,Same.refl _,Mov.refl _ _ _ _⟩
 ·obtain⟨gs,cs,ms,e1,e2,e3⟩:=hp (by omega)
  have HD:Gok base g G a0 len cap M N S v.drew∧Mov g G M M v v.drew:=h.below (Below.refl _ _).drew
  obtain⟨HD,VD⟩:=HD
  have c0d:v.drew.cell? ⟨G,0,none⟩=some (.pointer (some ⟨g,0,none⟩)):=c0
  have c13d:v.drew.cell? ⟨G,13,none⟩=some (.slice ur S.nr cr):=c13
  go_wp2_with fail
  go_region_held2 (fun w'=>w'.cell? ⟨G,0,none⟩=some (.pointer (some ⟨g,0,none⟩))∧w'.cell? ⟨G,13,none⟩=some (.slice ur S.nr cr)) (first|with_reducible exact⟨c0d,c13d⟩|with_reducible exact⟨x0,x13⟩) ((go_at_call 57;refine (below_any g a0 len cap _ _ (by exact HD.rd)).mono ?_;rintro e w1 ⟨n1,rfl,hn1,hn2,hr1,hg1⟩;obtain⟨kn,rfl⟩:=Int.eq_ofNat_of_zero_le hn1;obtain⟨H1,V1⟩:=HD.read hr1 (by exact hg1);have x0:w1.cell? ⟨G,0,none⟩=some (.pointer (some ⟨g,0,none⟩)):=(zgc H1.cells 0).1.trans rfl;have x13:w1.cell? ⟨G,13,none⟩=some (.slice ur S.nr cr):=(by rw[←eR];exact (zgc H1.cells 13).1.trans rfl)))
  have hkn:kn<S.nr:=by omega
  obtain⟨u,np,c,g1,g2,g3⟩:=e3 kn hkn
  have VV:=VD.trans V1
  have hgv:g<v.heap.size:=h.rd.lt
  have hbv:=h.bv
  clear e3 c0d c13d c0 c13 HD VD hr1 hg1 x0 x13 hn1 hn2
  go_wp2_with fail
  go_loopw [3,4] (fun s i wr=>∃ k:Nat,k≤np∧i=.int .i64 k∧Args base g G a0 len cap M N S v k s wr) (fun _ i _=>np-(intOf i).toNat)
  case atStart =>
   have B1:Below w1.heap.size w1 (w1.alloc (.cells #[] 2)):=(Below.refl _ _).alloc (Nat.le_refl _) _
   obtain⟨K1,L1⟩:=H1.below B1
   exact⟨0,by omega,rfl,⟨M,S,[],w1.heap.size,0,rfl,rfl,lit_own (zhL _ _) VV.size,K1,Same.refl _,VV.trans L1,H1.th.none (Nat.le_refl _),VV.size,by simp⟩⟩
  case round =>
   obtain⟨k,hk,rfl,⟨Mk,Sk,zs,gf,cf,rfl,hzl,hown,Hk,hSk,Vk,hMf,hgf,hgfl⟩⟩:=hrel
   obtain⟨wo,hwo⟩:∃ wo,wo=wr:=⟨_,rfl⟩
   subst hwo
   have d14:wo.cell? ⟨G,14,none⟩=some (.slice (some ⟨gs,0,none⟩) S.nr cs):=(zgc Hk.cells 14).1.trans (by show some Sk.sv=_;rw[hSk.2.2.2.2.2.2.2.2.1,e1])
   have d13:wo.cell? ⟨G,13,none⟩=some (.slice ur S.nr cr):=(zgc Hk.cells 13).1.trans (by show some Sk.rv=_;rw[hSk.2.2.2.2.2.2.1,eR])
   have dgs:wo.cell? ⟨gs,kn,none⟩=some (.slice u np c):=(cell_blk (Vk.hold gs _ _ e2 (by decide)).1).trans g1
   by_cases hlt:k<np
   ·obtain⟨gp,mp,rfl,r2,r3⟩:=g3 (by omega)
    obtain⟨x,x1,x2⟩:=r3 k hlt
    have dgp:wo.cell? ⟨gp,k,none⟩=some (.int .i64 x):=(cell_blk (Vk.hold gp _ _ r2 (by decide)).1).trans x1
    have P:=pick_any base g G a0 len cap Mk (N+2*k) Sk x wo Hk (by omega) x2
    go_wp2_with (first|(go_at_call 130;refine P.mono ?_;rintro e w2 ⟨y,rfl,M2,S2,H2,hS2,V2⟩;have hst:=V2.out gf hgfl (by omega) (by omega) hMf;have own2:=own_stay (w':=w2) hown (fun q hq=>by cases hq;exact hst.1))|(at_builtin;refine wpList_append_lies _ rfl (.tmp 34) (.tmp 47) 41 rfl v.heap.size 2 i0 (.int .i64 0) 1 8 Tryz.underlying41 HI.out HZ0.out HZ1.out HZ2.out rfl (by decide) (.slice (some ⟨gf,0,none⟩) k cf) k (zs.map (Value.int .i64)) rfl (own2.alloc _) ⟨w2.heap.size,0,none⟩ 1 1 [.int .i64 y] rfl (by simp) (one_of (zhL w2 _)) (by simp[Value.oneCell']) (by omega) (by unfold maxLen;omega) (by omega) (by have:=V2.size;have:=Vk.size;simp;omega) _ rfl ?_;intro g4 cap4 w4 hown4 hgrow4 hat4 hlt4))
    have B1:Below w2.heap.size w2 (w2.alloc (.cells #[.int .i64 y] 2)):=(Below.refl _ _).alloc (Nat.le_refl _) _
    obtain⟨K1,L1⟩:=H2.below B1
    have H4:=K1.beside (by omega) (by omega) hst.2 hgrow4
    have V4:=(Vk.trans (V2.trans L1)).beside hgf hst.2 (fun x hx=>(K1.th.lt hx).2) hgrow4
    have m4:M2 g4=none∧v.heap.size≤g4:=by
     rcases hat4 with e|e
     ·cases e;exact⟨hst.2,hgf⟩
     ·rw[e];exact⟨K1.th.none (Nat.le_refl _),(Vk.trans (V2.trans L1)).size⟩
    go_roundw
    case rel=>exact⟨k+1,by omega,by go_num,⟨M2,S2,zs++[y],g4,cap4,rfl,by simp[hzl],by simpa using hown4,H4,hSk.trans hS2,V4,m4.1,m4.2,hlt4⟩⟩
    case measure=>simp[intOf];omega
   ·have hke:k=np:=by omega
    subst hke
    have hcur:∃ cur,wo.heap[gf]?=some (.cells cur 2 (0,0))∧∀ j,j<k→∃ z:Int,cur[j]?=some (.int .i64 z):=by
     rcases hown.2 with⟨hbad,_⟩|⟨g',c',cur,hv,hb,hc,hn,hcm,hsz,htk⟩
     ·cases hbad
     ·cases hv
      refine⟨cur,hc,fun j hj=>⟨zs.getD j 0,?_⟩⟩
      have h1:(cur.toList.take (k*1))[j]?=some (.int .i64 (zs.getD j 0)):=by
       rw[htk,List.getElem?_map,List.getElem?_eq_getElem (by omega)]
       simp[List.getD,hzl,hj]
      rw[List.getElem?_take_of_lt (by omega)] at h1
      simpa using h1
    obtain⟨cur,hcur,hci⟩:=hcur
    obtain⟨HA,_,_⟩:=Hk.adopted (by omega) (by omega) hMf hcur hci
    have VA:=Vk.adopt (T0:=2) (n:=k) hgf hMf
    obtain⟨gr,cr',rs,er,hrl,_,_,_,hread⟩:=h.rets.read h.th (by omega)
    rw[er] at eR
    cases eR
    obtain⟨_,_,ecr,hcr⟩:=h.rets
    rw[er] at ecr
    cases ecr
    obtain⟨gr',mr,egr,hmr,_⟩:∃ g m,(some ⟨gr,0,none⟩:Option Addr)=some ⟨g,0,none⟩∧M g=some (2,m)∧S.nr≤m:=by
     rcases hcr with e|e
     ·omega
     ·exact e
    cases egr
    have dgr:wo.cell? ⟨gr,kn,none⟩=some (.int .i64 (rs.getD kn 0)):=by
     have:=hread kn (.int .i64 (rs.getD kn 0)) (by simp[List.getD,hrl,hkn])
     rw[Addr.add_lit,Nat.zero_add] at this
     exact (cell_blk (Vk.hold gr _ _ hmr (by decide)).1).trans this
    generalize rs.getD kn 0=z at dgr
    have P:=put_any base g G a0 len cap _ (N+2*k) Sk 26 z 0 0 0 kn (some ⟨gf,0,none⟩) k cf wo HA (by omega) ⟨_,cf,rfl,.inr ⟨gf,k,rfl,by simp[put],Nat.le_refl _⟩⟩ (by omega)
    clear hread hci
    go_wp2_with (go_at_call 128;refine P.mono ?_;rintro e w3 ⟨n3,rfl,M3,S3,H3,hS3,_,V3⟩)
    exact bodyPost_end (results_none Tryz.results131 _ _ _) rfl ⟨⟨_,rfl⟩,M3,S3,H3.mono (by omega) hN,hSk.trans hS3,VA.trans V3⟩
def St(base g G:Nat)(a0:Option Addr)(len cap:Nat)(M:Tmap)(N:Nat)(S:GRec)(v:World)(j:Nat)(w:World):Prop:=∃ M' S',Gok base g G a0 len cap M' (N+j) S' w∧Same S S'∧Mov g G M M' v w
variable {base g G len cap N j:Nat} {a0:Option Addr} {M:Tmap} {S:GRec} {v w:World}
theorem Gok.st(h:Gok base g G a0 len cap M N S v):St base g G a0 len cap M N S v 0 v:=⟨M,S,h,Same.refl _,Mov.refl _ _ _ _⟩
theorem St.cell0(h:St base g G a0 len cap M N S v j w):w.cell? ⟨G,0,none⟩=some (.pointer (some ⟨g,0,none⟩)):=by
 obtain⟨M',S',H,_,_⟩:=h
 exact (zgc H.cells 0).1.trans rfl
theorem St.cell10(h:St base g G a0 len cap M N S v j w):∃ nx:Int,w.cell? ⟨G,10,none⟩=some (.int .i64 nx):=by
 obtain⟨M',S',H,_,_⟩:=h
 exact⟨S'.nx,(zgc H.cells 10).1.trans rfl⟩
theorem St.glt(h:St base g G a0 len cap M N S v j w):g<w.heap.size:=by
 obtain⟨M',S',H,_,_⟩:=h
 exact H.rd.lt
theorem St.mono{i:Nat}(h:St base g G a0 len cap M N S v j w)(hj:j≤i)(hN:N+i≤10000):St base g G a0 len cap M N S v i w:=by
 obtain⟨M',S',H,hS,V⟩:=h
 exact⟨M',S',H.mono (by omega) hN,hS,V⟩
theorem St.below{w':World}(h:St base g G a0 len cap M N S v j w)(k:Below w.heap.size w w'):St base g G a0 len cap M N S v j w':=by
 obtain⟨M',S',H,hS,V⟩:=h
 obtain⟨H2,V2⟩:=H.below k
 exact⟨M',S',H2,hS,V.trans V2⟩
theorem St.alloc(h:St base g G a0 len cap M N S v j w)(o:Obj):St base g G a0 len cap M N S v j (w.alloc o):=h.below ((Below.refl _ _).alloc (Nat.le_refl _) _)
theorem St.drew(h:St base g G a0 len cap M N S v j w):St base g G a0 len cap M N S v j w.drew:=h.below (Below.refl _ _).drew
theorem St.read{w':World}(h:St base g G a0 len cap M N S v j w)(hr:Rd g a0 len cap w')(k:w.grownBy w' (some g)):St base g G a0 len cap M N S v j w':=by
 obtain⟨M',S',H,hS,V⟩:=h
 obtain⟨H2,V2⟩:=H.read hr k
 exact⟨M',S',H2,hS,V.trans V2⟩
theorem below_st(h:St base g G a0 len cap M N S v j w)(m:Int)(hm:1≤m) :
  Calls Tryz.prog 57 #[.pointer (some ⟨g,0,none⟩),.int .i64 m] w fun e w'=>∃ k:Nat,e=.returned (.int .i64 k)∧(k:Int)<m∧St base g G a0 len cap M N S v j w'∧w.grownBy w' (some g):=by
 have hr:Rd g a0 len cap w:=by obtain⟨M',S',H,_,_⟩:=h;exact H.rd
 refine (below_any g a0 len cap m w hr).mono ?_
 rintro e w' ⟨n,rfl,h0,h1,hr',hg'⟩
 obtain⟨k,rfl⟩:=Int.eq_ofNat_of_zero_le h0
 exact⟨k,rfl,by omega,h.read hr' hg',hg'⟩
theorem width_st(h:St base g G a0 len cap M N S v j w) :
  Calls Tryz.prog 93 #[.pointer (some ⟨g,0,none⟩)] w fun e w'=>∃ x:Int,e=.returned (.int .i64 x)∧(x=1∨x=8∨x=16∨x=32)∧St base g G a0 len cap M N S v j w'∧w.grownBy w' (some g):=by
 have hr:Rd g a0 len cap w:=by obtain⟨M',S',H,_,_⟩:=h;exact H.rd
 refine (width_any g a0 len cap w hr).mono ?_
 rintro e w' ⟨n,rfl,h0,hr',hg'⟩
 exact⟨n,rfl,h0,h.read hr' hg',hg'⟩
theorem value_st(h:St base g G a0 len cap M N S v j w)(x:Int)(hx:x=1∨x=8∨x=16∨x=32) :
  Calls Tryz.prog 129 #[.pointer (some ⟨g,0,none⟩),.int .i64 x] w fun e w'=>∃ n:Int,e=.returned (.int .i64 n)∧St base g G a0 len cap M N S v j w':=by
 have hr:Rd g a0 len cap w:=by obtain⟨M',S',H,_,_⟩:=h;exact H.rd
 refine (value_any g a0 len cap x w hr hx).mono ?_
 rintro e w' ⟨n,rfl,_,_,hr',hg'⟩
 exact⟨n,rfl,h.read hr' hg'⟩
theorem pick_st(h:St base g G a0 len cap M N S v j w)(x:Int)(hx:x=1∨x=8∨x=16∨x=32)(hN:N+j+2≤10000) :
  Calls Tryz.prog 130 #[.pointer (some ⟨G,0,none⟩),.int .i64 x] w fun e w'=>∃ n:Int,e=.returned (.int .i64 n)∧St base g G a0 len cap M N S v (j+2) w':=by
 obtain⟨M',S',H,hS,V⟩:=h
 refine (pick_any base g G a0 len cap M' (N+j) S' x w H hN hx).mono ?_
 rintro e w' ⟨n,rfl,M2,S2,H2,hS2,V2⟩
 exact⟨n,rfl,M2,S2,H2,hS.trans hS2,V.trans V2⟩
theorem put_st(h:St base g G a0 len cap M N S v j w)(op iw a b c imm:Int)(hN:N+j+2≤10000) :
  Calls Tryz.prog 128 #[.pointer (some ⟨G,0,none⟩),.agg #[.int .i64 op,.int .i64 iw,.int .i64 a,.int .i64 b,.int .i64 c,.int .i64 imm,.slice none 0 0]] w fun e w'=>∃ n:Int,e=.returned (.int .i64 n)∧St base g G a0 len cap M N S v (j+2) w':=by
 obtain⟨M',S',H,hS,V⟩:=h
 refine (put_any base g G a0 len cap M' (N+j) S' op iw a b c imm none 0 0 w H hN ⟨none,0,rfl,.inl rfl⟩ (by omega)).mono ?_
 rintro e w' ⟨n,rfl,M2,S2,H2,hS2,_,V2⟩
 exact⟨n,rfl,M2,S2,H2,hS.trans hS2,V.trans V2⟩
theorem call_st(h:St base g G a0 len cap M N S v j w)(hp:ParW M S v)(hN:N+j+6≤10000) :
  Calls Tryz.prog 131 #[.pointer (some ⟨G,0,none⟩)] w fun e w'=>(∃ r,e=.returned r)∧St base g G a0 len cap M N S v (j+6) w':=by
 obtain⟨M',S',H,hS,V⟩:=h
 refine (call_any base g G a0 len cap M' (N+j) S' w H hN (hp.mov hS V)).mono ?_
 rintro e w' ⟨hr,M2,S2,H2,hS2,V2⟩
 exact⟨hr,M2,S2,H2,hS.trans hS2,V.trans V2⟩
theorem wpAny_inv{P:Program}{md:Region.Mode}{ops:Array Oper}{Q:Exit→Act→World→Prop}(J:Array Bool→Act→World→Prop)
  (hend:∀ listed a w,listed.size=ops.size→Region.ready md ops listed=[]→J listed a w→Q .normal a w)
  (hstep:∀ listed i a w,listed.size=ops.size→i∈Region.ready md ops listed→J listed a w→wpOp P ops Q i (J (listed.setIfInBounds i true)) a w) :
  ∀ (fuel:Nat) (listed:Array Bool) (a:Act) (w:World),listed.size=ops.size→listed.toList.count false≤fuel→J listed a w→wpAny P md ops Q fuel listed a w:=by
 have key:∀ (listed:Array Bool) (i:Nat),i∈Region.ready md ops listed→∃ h:i<listed.toList.length,listed.toList[i]=false:=fun listed i hi=>by
  have h1:=(mem_ready.1 hi)
  have h2:listed.getD i true=false:=by simp_all
  by_cases h3:i<listed.size
  ·refine⟨by simpa using h3,?_⟩
   simpa [Array.getD,h3] using h2
  ·simp[Array.getD,h3] at h2
 intro fuel
 induction fuel with
 | zero =>
  intro listed a w hs hc hJ
  have h0:Region.ready md ops listed=[]:=by
   refine List.eq_nil_iff_forall_not_mem.2 fun i hi=>?_
   obtain⟨h1,h2⟩:=key listed i hi
   have h3:false∈listed.toList:=h2▸List.getElem_mem h1
   have:=List.count_pos_iff.2 h3
   omega
  exact⟨h0,hend _ _ _ hs h0 hJ⟩
 | succ fuel ih =>
  intro listed a w hs hc hJ
  refine⟨fun h0=>hend _ _ _ hs h0 hJ,fun i hi=>wpOp_mono (fun a' w' hJ'=>ih _ _ _ (by simpa using hs) ?_ hJ') (hstep listed i a w hs hi hJ)⟩
  obtain⟨h1,h2⟩:=key listed i hi
  have h3:false∈listed.toList:=h2▸List.getElem_mem h1
  have h4:=List.count_pos_iff.2 h3
  rw[Array.toList_setIfInBounds,List.count_set h1,h2]
  generalize listed.toList.count false=n at hc h4 ⊢
  simp
  omega
theorem wp_region_inv{P:Program}{id:Nat}{ops:Array Oper}{Q:Exit→Act→World→Prop}{a:Act}{w:World}(hm:P.follows .mixedOrders=true)(J:Array Bool→Act→World→Prop)
  (h0:J (Array.replicate ops.size false) a w.drew)
  (hend:∀ listed a w,listed.size=ops.size→Region.ready .any ops listed=[]→J listed a w→Q .normal a w)
  (hstep:∀ listed i a w,listed.size=ops.size→i∈Region.ready .any ops listed→J listed a w→wpOp P ops Q i (J (listed.setIfInBounds i true)) a w):(Code.region id ops true).wp P Q a w :=
 wp_region_any hm (wpAny_inv J hend hstep ops.size _ a _ (by simp) (by rw[Array.toList_replicate,List.count_replicate_self];exact Nat.le_refl _) h0)
def upd{α:Type}(f:Nat→α)(i:Nat)(x:α):Nat→α:=fun j=>if j=i then x else f j
theorem upd_same{α:Type}(f:Nat→α)(i:Nat)(x:α):upd f i x i=x:=by simp[upd]
theorem upd_ne{α:Type}(f:Nat→α){i j:Nat}(x:α)(h:j≠i):upd f i x j=f j:=by simp[upd,h]
def putsF(A:Act)(s:Nat):Nat→(Nat→Value)→Act
 | 0,_=>A
 | n+1,f=>(putsF A s n f).put (some (s+n)) (f n)
theorem put_get(A:Act)(t u:Nat)(v:Value):(A.put (some t) v).tmps.getD u undef=if u=t∧t<A.tmps.size then v else A.tmps.getD u undef:=by
 unfold Act.put
 simp only[Array.getD_eq_getD_getElem?,Array.getElem?_setIfInBounds]
 by_cases h:t=u
 ·subst h
  by_cases h2:t<A.tmps.size
  ·simp[h2]
  ·simp[h2]
 ·have h':¬u=t:=fun e=>h e.symm
  simp[h,h']
theorem put_size(A:Act)(t:Nat)(v:Value):(A.put (some t) v).tmps.size=A.tmps.size:=by simp[Act.put]
theorem putsF_size(A:Act)(s:Nat)(f:Nat→Value):∀ n,(putsF A s n f).tmps.size=A.tmps.size
 | 0=>rfl
 | n+1=>by rw[putsF,put_size,putsF_size A s f n]
theorem putsF_defers(A:Act)(s:Nat)(f:Nat→Value):∀ n,(putsF A s n f).defers=A.defers
 | 0=>rfl
 | n+1=>putsF_defers A s f n
theorem putsF_out(A:Act)(s:Nat)(f:Nat→Value)(t:Nat):∀ n,(t<s∨s+n≤t)→(putsF A s n f).tmps.getD t undef=A.tmps.getD t undef
 | 0,_=>rfl
 | n+1,h=>by rw[putsF,put_get,if_neg (by omega),putsF_out A s f t n (by omega)]
theorem putsF_in(A:Act)(s:Nat)(f:Nat→Value)(i:Nat):∀ n,i<n→s+n≤A.tmps.size→(putsF A s n f).tmps.getD (s+i) undef=f i
 | 0,h,_=>by omega
 | n+1,h,hs=>by
  rw[putsF,put_get,putsF_size]
  by_cases e:i=n
  ·rw[if_pos (by omega),e]
  ·rw[if_neg (by omega),putsF_in A s f i n (by omega) (by omega)]
theorem act_ext{a b:Act}(hs:a.tmps.size=b.tmps.size)(hd:a.defers=b.defers)(h:∀ t,a.tmps.getD t undef=b.tmps.getD t undef):a=b:=by
 obtain⟨a,d⟩:=a
 obtain⟨b,e⟩:=b
 simp only at hs hd h
 subst hd
 congr 1
 refine Array.ext hs fun i h1 h2=>?_
 have:=h i
 simpa [Array.getD,h1,h2] using this
theorem putsF_put(A:Act)(s n:Nat)(f:Nat→Value)(i:Nat)(v:Value)(hi:i<n)(hs:s+n≤A.tmps.size):(putsF A s n f).put (some (s+i)) v=putsF A s n (upd f i v):=by
 refine act_ext (by rw[put_size,putsF_size,putsF_size]) (by show (putsF A s n f).defers=_;rw[putsF_defers,putsF_defers]) fun t=>?_
 rw[put_get,putsF_size]
 by_cases h:t<s∨s+n≤t
 ·rw[if_neg (by omega),putsF_out _ _ _ _ _ h,putsF_out _ _ _ _ _ h]
 ·obtain⟨j,rfl⟩:∃ j,t=s+j:=⟨t-s,by omega⟩
  rw[putsF_in _ _ _ _ _ (by omega) hs,putsF_in _ _ _ _ _ (by omega) hs]
  by_cases e:j=i
  ·subst e;rw[if_pos (by omega),upd_same]
  ·rw[if_neg (by omega),upd_ne _ _ e]
theorem putsF_self(A:Act)(s n:Nat)(hs:s+n≤A.tmps.size):putsF A s n (fun i=>A.tmps.getD (s+i) undef)=A:=by
 refine act_ext (putsF_size ..) (putsF_defers ..) fun t=>?_
 by_cases h:t<s∨s+n≤t
 ·rw[putsF_out _ _ _ _ _ h]
 ·obtain⟨j,rfl⟩:∃ j,t=s+j:=⟨t-s,by omega⟩
  rw[putsF_in _ _ _ _ _ (by omega) hs]
def slotsOk(s n:Nat)(ops:Array Oper):Bool:=ops.size==n&&(List.range n).all fun i=>match ops[i]? with
 | none=>false
 | some o=>o.dst==some (s+i)&&o.guard.isNone&&o.after.all fun e=>decide (e.on<i)
theorem slotsOk_at{s n:Nat}{ops:Array Oper}(h:slotsOk s n ops=true){i:Nat}{o:Oper}(ho:ops[i]?=some o):i<n∧o.dst=some (s+i)∧o.guard=none∧∀ e∈o.after,e.on<i:=by
 unfold slotsOk at h
 rw[Bool.and_eq_true] at h
 have hn:ops.size=n:=by simpa using h.1
 have hi:i<n:=by rw[←hn];exact (Array.getElem?_eq_some_iff.1 ho).1
 have h2:=(List.all_eq_true.1 h.2) i (List.mem_range.2 hi)
 rw[ho] at h2
 simp only[Bool.and_eq_true,beq_iff_eq,Option.isNone_iff_eq_none] at h2
 refine⟨hi,h2.1.1,h2.1.2,fun e he=>?_⟩
 have h3:=h2.2
 rw[Array.all_eq_true'] at h3
 simpa using h3 e he
theorem ready_nil{s n:Nat}{ops:Array Oper}(h:slotsOk s n ops=true){listed:Array Bool}(hl:listed.size=ops.size)(hr:Region.ready .any ops listed=[]):∀ i,i<n→listed.getD i false=true:=by
 have hn:ops.size=n:=by unfold slotsOk at h;rw[Bool.and_eq_true] at h;simpa using h.1
 intro i
 induction i using Nat.strongRecOn with
 | _ i ih =>
  intro hi
  obtain⟨o,ho⟩:∃ o,ops[i]?=some o:=⟨ops[i]'(by omega),by simp[show i<ops.size by omega]⟩
  obtain⟨_,_,_,ha⟩:=slotsOk_at h ho
  rcases hb:listed.getD i false with _|_
  ·exfalso
   have h1:listed.getD i true=false:=by
    have h2:i<listed.size:=by omega
    simp[Array.getD,h2] at hb ⊢
    exact hb
   have:i∈Region.ready .any ops listed:=mem_ready.2 ⟨h1,o,ho,fun e he _=>ih e.on (ha e he) (by have:=ha e he;omega)⟩
   rw[hr] at this
   simp at this
  ·rfl
theorem wp_region_slots{P:Program}{id:Nat}{ops:Array Oper}{Q:Exit→Act→World→Prop}{A:Act}{w:World}(hm:P.follows .mixedOrders=true)(s n:Nat)(hsz:s+n≤A.tmps.size)(hops:slotsOk s n ops=true)
  (J:(Nat→Bool)→(Nat→Value)→World→Prop)
  (h0:J (fun _=>false) (fun i=>A.tmps.getD (s+i) undef) w.drew)
  (hend:∀ f w,J (fun i=>decide (i<n)) f w→Q .normal (putsF A s n f) w)
  (hstep:∀ i o up f w,ops[i]?=some o→(∀ e∈o.after,Region.binds .any e=true→up e.on=true)→(∀ k o,ops[k]?=some o→up k=true→∀ e∈o.after,Region.binds .any e=true→up e.on=true)→up i=false→J up f w→o.wp P (putsF A s n f) w (fun a w'=>∃ v,a=(putsF A s n f).put (some (s+i)) v∧J (upd up i true) (upd f i v) w') Q):(Code.region id ops true).wp P Q A w:=by
 have hn:ops.size=n:=by unfold slotsOk at hops;rw[Bool.and_eq_true] at hops;simpa using hops.1
 refine wp_region_inv hm (fun listed a w=>∃ f,a=putsF A s n f∧(∀ k o,ops[k]?=some o→listed.getD k false=true→∀ e∈o.after,Region.binds .any e=true→listed.getD e.on false=true)∧J (fun i=>listed.getD i false) f w) ?_ ?_ ?_
 ·have e:(fun i=>(Array.replicate ops.size false).getD i false)=fun _=>false:=by
   funext i
   by_cases h:i<ops.size<;>simp[Array.getD,h]
  refine⟨_,(putsF_self A s n hsz).symm,fun k o _ hk=>?_,by rw[e];exact h0⟩
  rw[congrFun e k] at hk
  cases hk
 ·rintro listed a w hl hr ⟨f,rfl,_,hJ⟩
  refine hend f w ?_
  have e:(fun i=>listed.getD i false)=fun i=>decide (i<n):=by
   funext i
   by_cases h:i<n
   ·rw[ready_nil hops hl hr i h];simp[h]
   ·simp[Array.getD,show ¬i<listed.size by omega,h]
  rw[e] at hJ;exact hJ
 ·rintro listed i a w hl hi ⟨f,rfl,hcl,hJ⟩
  obtain⟨h1,o,ho,ha⟩:=mem_ready.1 hi
  obtain⟨hin,hd,hg,_⟩:=slotsOk_at hops ho
  have hw:Region.wanted o (yielded ops (putsF A s n f).tmps)=true:=by simp[Region.wanted,hg]
  have h2:listed.getD i false=false:=by
   have h2:i<listed.size:=by omega
   simp[Array.getD,h2] at h1 ⊢
   exact h1
  unfold wpOp
  rw[ho]
  show if Region.wanted o (yielded ops (putsF A s n f).tmps)=true then _ else _
  rw[if_pos hw]
  refine .inl (Oper.wp_mono ?_ (hstep i o _ f w ho ha hcl h2 hJ))
  rintro a' w' ⟨v,rfl,hJ'⟩
  have e:(fun j=>(listed.setIfInBounds i true).getD j false)=upd (fun j=>listed.getD j false) i true:=by
   funext j
   unfold upd
   by_cases h:j=i
   ·subst h
    simp[Array.getD,show j<listed.size by omega]
   ·have h':¬i=j:=fun e=>h e.symm
    simp[h,h',Array.getD_eq_getD_getElem?]
  refine⟨_,putsF_put A s n f i v hin hsz,fun k o' ho' hk x hx hb=>?_,by rw[e];exact hJ'⟩
  rw[congrFun e x.on]
  rw[congrFun e k] at hk
  have keep:listed.getD x.on false=true→upd (fun j=>listed.getD j false) i true x.on=true:=fun h=>by
   unfold upd
   split
   ·rfl
   ·exact h
  by_cases hki:k=i
  ·subst hki
   rw[ho] at ho'
   cases ho'
   exact keep (ha x hx hb)
  ·rw[upd_ne _ _ hki] at hk
   exact keep (hcl k o' ho' hk x hx hb)
end Go.Proofs.YtkpmiikafconmaaGreatDoor
