import Derived.Test.YtkpmiikafconmaaGreatDoorGnQJp
namespace Go.Proofs.YtkpmiikafconmaaGreatDoor
open Go.RowKit Go.Deep
set_option maxHeartbeats 4000000
set_option maxRecDepth 100000
set_option linter.unusedVariables false
theorem loop_any(base g G:Nat)(a0:Option Addr)(len cap:Nat)(M:Tmap)(N:Nat)(S:GRec)(v:World)(h:Gok base g G a0 len cap M N S v)(hp:ParW M S v)(hN:N+80≤10000) :
  Calls Tryz.prog 97 #[.pointer (some ⟨G,0,none⟩)] v fun e v'=>(∃ r,e=.returned r)∧∃ M' S',Sb base g G a0 len cap M N S v 60 M' S' v':=by
 have hl:∀ x,(∃ p,M x=some p)→x<v.heap.size:=fun x hx=>(h.th.lt hx).2
 have HL:Hid (∀ x,(∃ p,M x=some p)→x<v.heap.size):=hl
 have h0:=h.sb
 obtain⟨ub,cb,eb,_⟩:=h.b.sl
 have c3:v.cell? ⟨G,3,none⟩=some (.slice ub S.nb cb):=by rw[←eb];exact (zgc h.cells 3).1.trans rfl
 have hbn:=h.bn
 have HP:Hid (ParW M S v):=hp
 have f0:=h0.cell0
 have P0:=below_sb h0 5 (by omega)
 clear h hl hp eb
 go_enter Tryz.func97,Tryz.ntmps97
 go_wp2_with (first|(go_at_call 57;refine P0.mono ?_;rintro e w1 ⟨k1,rfl,hk1,h1,v1⟩;have P1:=put_sb h1 21 8 0 0 0 k1 (by omega);clear P0 c3 f0)|(go_at_call 128;refine P1.mono ?_;rintro e w2 ⟨n2,rfl,M2,S2,h2,s2,v2⟩;have P2:=width_sb h2;have f2:=h2.cell0;clear P1)|(go_at_call 93;refine P2.mono ?_;rintro e w3 ⟨x,rfl,hx,h3,v3⟩;have P3:=pick_sb h3 x hx (by omega);clear P2 f2)|(go_at_call 130;refine P3.mono ?_;rintro e w4 ⟨a4,rfl,M4,S4,h4,s4,v4⟩;have P4:=fun kd ta tx ty=>close_at h4 kd ta tx ty (by omega);clear P3)|(go_at_call 132;refine (P4 _ _ _ _).mono ?_;rintro e w5 ⟨⟨r5,rfl⟩,M5,S5,h5,v5,⟨q5,nb5⟩,_,_,_⟩;obtain⟨T5,L5⟩:=h5.two HL.out n2 0;have P5:=phi_at T5 8 _ 2 L5 (by omega) (by omega);clear P4)|(go_at_call 133;refine P5.mono ?_;rintro e w6 ⟨n6,rfl,M6,S6,h6,b6,nb6,q6,v6,k6,p6⟩;obtain⟨T6,L6⟩:=h6.two HL.out a4 0;have P6:=phi_at T6 x _ 2 L6 (by omega) (by omega);clear P5)|(go_at_call 133;refine P6.mono ?_;rintro e w7 ⟨n7,rfl,M7,S7,h7,b7,nb7,q7,v7,k7,p7⟩;have e6:S6.nph=1:=(by omega);rw[q5] at p6;rw[e6] at p7;have K7:=tk_made (V:=v.heap.size) h5.2.2.size v6.size h6.1 h7.1 v6 v7 e6 (by omega) p6 (k7 1 (by omega)) p7;have hnb:S7.nb=S.nb+1:=(by rw[nb7,nb6,nb5,s4.2.2.2.1,s2.2.2.2.1]);have P7:=put_sb h7 21 8 0 0 0 0 (by omega);clear P6 k6 k7 p6 p7 T5 T6 L5 L6 h5 h6 v6 v7 h1 h2 h3 h4 b6 b7 nb7 nb6 nb5 s4 s2 q5 q6 q7 v1 v2 v3 v4 v5)|(go_at_call 128;refine P7.mono ?_;rintro e w8 ⟨n8,rfl,M8,S8,h8,s8,v8⟩;have K8:=K7.mov v8;have P8:=put_sb h8 15 8 n6 n8 0 0 (by omega);clear P7 K7 h7)|(go_at_call 128;refine P8.mono ?_;rintro e w9 ⟨n9,rfl,M9,S9,h9,s9,v9⟩;have K9:=K8.mov v9;have P9:=fun kd ta tx ty=>close_at h9 kd ta tx ty (by omega);clear P8 K8 h8)|(go_at_call 132;refine (P9 _ _ _ _).mono ?_;rintro e w10 ⟨⟨r10,rfl⟩,M10,S10,h10,v10,⟨q10,nb10⟩,hh10,kk10,pp10⟩;have hn9:S9.nb=S.nb+1:=(by rw[s9.2.2.2.1,s8.2.2.2.1,hnb]);have hp9:S9.phv=S7.phv:=(by rw[s9.2.2.2.2.1,s8.2.2.2.2.1]);rw[hn9,hp9] at pp10;have L10:Lp M10 w10 S10 v.heap.size (S.nb+1) _ _ S7.phv:=⟨K9.hold v10.ext hh10,pp10,(by omega)⟩;have I10:Idf M10 S10:=h10.1.ids;obtain⟨ui,ci,uw,cw,ei,ew⟩:=I10.form;have c11:w10.cell? ⟨G,11,none⟩=some (.slice ui S10.nid ci):=(by rw[←ei];exact (zgc h10.1.cells 11).1.trans rfl);have c12:w10.cell? ⟨G,12,none⟩=some (.slice uw S10.nid cw):=(by rw[←ew];exact (zgc h10.1.cells 12).1.trans rfl);have n10:=h10.1.bn.2.2.2.2.1;have P10:=put_sb h10 21 8 0 0 0 1 (by omega);clear P9 K9 h9 hh10 kk10 pp10 s9 s8 hn9 hp9 hnb nb10 q10 v10 v8 v9;generalize S7.phv=phv at L10;generalize w5.heap.size=t1 at L10;generalize w6.heap.size=t2 at L10)|(go_at_call 128;refine P10.mono ?_;rintro e w11 ⟨n11,rfl,M11,S11,h11,s11,v11⟩;have L11:=L10.mov h10.1 v11 s11;have I11:=I10.ext v11.ext;have P11:=put_sb h11 2 8 n6 n11 0 0 (by omega);clear P10 c11 c12 L10 h10 s11 v11 I10)|(go_at_call 128;refine P11.mono ?_;rintro e w12 ⟨n12,rfl,M12,S12,h12,s12,v12⟩;have L12:=L11.mov h11.1 v12 s12;have I12:=I11.ext v12.ext;have P12:=below_sb h12 3 (by omega);have f12:=h12.cell0;clear P11 L11 h11 s12 v12 I11)|(go_at_call 57;refine P12.mono ?_;rintro e w13 ⟨k13,rfl,hk13,h13,v13⟩;have L13:=L12.mov h12.1 v13 (Same.refl _);have I13:=I12.ext v13.ext;have P13:=some_sb h13 HP.out k13 (by omega) (by omega);clear P12 f12 L12 h12 v13 I12)|(go_at_call 95;refine P13.mono ?_;rintro e w14 ⟨⟨r14,rfl⟩,M14,S14,h14,s14,v14⟩;have L14:=L13.mov h13.1 v14 s14;have I14:=I13.ext v14.ext;have h14:=h14.mono (i:=50) (by omega) (by omega);have P14:=pick_sb h14 x hx (by omega);clear P13 L13 h13 s14 v14 I13)|(go_at_call 130;refine P14.mono ?_;rintro e w15 ⟨y15,rfl,M15,S15,h15,s15,v15⟩;have L15:=L14.mov h14.1 v15 s15;have I15:=I14.ext v15.ext;have P15:=put_sb h15 1 x n7 a4 0 0 (by omega);have Q15:=fun kd ta tx ty=>close_at h15 kd ta tx ty (by omega);clear P14 L14 h14 s15 v15 I14)|(go_at_call 128;refine P15.mono ?_;rintro e w16 ⟨y16,rfl,M16,S16,h16,s16,v16⟩;have L16:=L15.mov h15.1 v16 s16;have I16:=I15.ext v16.ext;have Q16:=fun kd ta tx ty=>close_at h16 kd ta tx ty (by omega);clear P15 Q15 L15 s16 v16 I15)|(go_at_call 132;refine (Q16 _ _ _ _).mono ?_;rintro e w17 ⟨⟨r17,rfl⟩,M17,S17,h17,v17,⟨q17,nb17⟩,hh17,kk17,pp17⟩;have L17:=L16.close v17.ext hh17 kk17 nb17;have I17:=I16.ext v17.ext;have h17:=h17.mono (i:=60) (by omega) (by omega);have hi17:=L17.hi;obtain⟨gb,cb,gp,cp,e1,y1,y2,y3,⟨z1,y4⟩,y5,⟨z2,y6⟩,y7,na,nb,nc,nd,ne,nf⟩:=L17.cells h17.1;have c3:w17.cell? ⟨G,3,none⟩=some (.slice (some ⟨gb,0,none⟩) S17.nb cb):=(by rw[←e1];exact (zgc h17.1.cells 3).1.trans rfl);have KT:=L17.tk;have H2:=(h17.setInt (z:=n12) HL.out KT.m1 KT.f1).setInt (z:=y16) HL.out KT.m2 KT.f2;obtain⟨⟨g1,zz1⟩,g2,zz2⟩:=seen_cells H2.1 S10.idv;obtain⟨R17,_⟩:=H2.restore I17 (by omega);rw[ei] at g2 zz2 R17;rw[ew] at R17;have nt:=KT.ne;have RR:Hid _:=R17;clear R17 H2 I17 KT h17;clear Q16 L17 L16 I16 hh17 kk17 nb17 v17 q17)|(go_at_call 132;refine (Q15 _ _ _ _).mono ?_;rintro e w17 ⟨⟨r17,rfl⟩,M17,S17,h17,v17,⟨q17,nb17⟩,hh17,kk17,pp17⟩;have L17:=L15.close v17.ext hh17 kk17 nb17;have I17:=I15.ext v17.ext;have h17:=h17.mono (i:=60) (by omega) (by omega);have hi17:=L17.hi;obtain⟨gb,cb,gp,cp,e1,y1,y2,y3,⟨z1,y4⟩,y5,⟨z2,y6⟩,y7,na,nb,nc,nd,ne,nf⟩:=L17.cells h17.1;have c3:w17.cell? ⟨G,3,none⟩=some (.slice (some ⟨gb,0,none⟩) S17.nb cb):=(by rw[←e1];exact (zgc h17.1.cells 3).1.trans rfl);have KT:=L17.tk;have H2:=(h17.setInt (z:=n12) HL.out KT.m1 KT.f1).setInt (z:=y15) HL.out KT.m2 KT.f2;obtain⟨⟨g1,zz1⟩,g2,zz2⟩:=seen_cells H2.1 S10.idv;obtain⟨R17,_⟩:=H2.restore I17 (by omega);rw[ei] at g2 zz2 R17;rw[ew] at R17;have nt:=KT.ne;have RR:Hid _:=R17;clear R17 H2 I17 KT h17;clear Q15 L17 L15 I15 hh17 kk17 nb17 v17 q17))
 all_goals exact bodyPost_end (results_none Tryz.results97 _ _ _) rfl ⟨⟨_,rfl⟩,_,_,RR.out⟩
theorem run_row3{base n N N':Nat}{M:Tmap}{T t ty:TypeId}{s:Value}{v:World}(i:TypeInfo)(z:Value)(bytes:Nat)(ht:Tryz.prog.underlying t=some (.slice T))(hi:Tryz.prog.info? T=some i)(hz:i.zero=some z)(hsz:i.size=szT T)(hby:i.bytes=bytes)(hzs:z.cells.size=szT T)(hbm:bytes≤1000)
  (h:RowT base M T s n v) (th:TH base M N v) (hN:N≤N') (hT:T=2∨T=41∨T=92∨T=95∨T=74) (hb:base≤v.heap.size) (hn:n≤100000)
  (ad:Addr) (c:Nat) (news:List Value) (hl:news.length=szT T) (hnews:∀ j u,news[j]?=some u→v.cell? (ad.add j)=some u) (h1:∀ u∈news,u.oneCell'=true) (he:∀ M',Ext M M'→ElOk M' N' T (fun j=>news[j]?)) :
  ∃ s' w' M',(Builtin.append_ #[t,t] ty #[s,.slice (some ad) 1 c]).run Tryz.prog v=.ok s' w'∧∃ g' cap',s'=.slice (some ⟨g',0,none⟩) (n+1) cap'∧M'=put M g' T (n+1)∧Pushed base M M' N' T n v w' s'∧(∀ b,b≠g'→b<v.heap.size→w'.heap[b]?=v.heap[b]?)∧(s.ownBlock=some g'∨v.heap.size≤g')∧∃ xs,v.ownsRow base T (szT T) s n xs∧w'.ownsRow base T (szT T) s' (n+1) (xs++news):=by
 have hmul:(n+1)*bytes≤140737488355328:=Nat.le_trans (Nat.mul_le_mul (show n+1≤100001 by omega) hbm) (by decide)
 obtain⟨xs,hx⟩:=h.own
 rcases h with⟨rfl,rfl⟩|⟨g,cap,cur,rfl,hg,hM,hc,hnc,hm,hs⟩
 ·have hx0:xs=[]:=by have:=hx.1;simpa using this
  subst hx0
  obtain⟨v',w',hr,h2,h3,_,_⟩:=run_append_own_at (P:=Tryz.prog) v v.heap.size t ty T i z (szT T) bytes ht hi hz hsz hby hzs (szT_pos T) (.slice none 0 0) 0 [] ⟨by simp,.inl ⟨rfl,rfl⟩⟩ ad 1 c news (by omega) hnews h1 (by unfold maxLen;omega) (by simpa using hmul) (Nat.le_refl _)
  obtain⟨g',cap',rfl,hg',_⟩:=h2.form (by omega)
  have h2':=own_low (b':=base) (xs:=news) (by simpa using h2) hb
  exact⟨_,w',_,hr,g',cap',rfl,rfl,RowT.pushed (xs:=[]) (news:=news) (.inl ⟨rfl,rfl⟩) th hN hT hx hb h2' (.inr ⟨hg',h3⟩) hl he,fun b hbg hbl=>h3.block b hbl (by simp[Value.ownBlock]),.inr hg',[],hx,h2'⟩
 ·by_cases hroom:n+1≤cap
  ·obtain⟨w',hr,h2,h3⟩:=run_append_own_spare (P:=Tryz.prog) v base t ty T i (szT T) ht hi hsz g n cap xs hx ad 1 c news (by omega) hnews h1 hroom
   exact⟨_,w',_,hr,g,cap,rfl,rfl,RowT.pushed (.inr ⟨g,cap,cur,rfl,hg,hM,hc,hnc,hm,hs⟩) th hN hT hx hb h2 (.inl ⟨rfl,h3⟩) hl he,fun b hbg hbl=>h3.block b hbl (by simpa using hbg),.inl rfl,xs,hx,h2⟩
  ·have hxl:=hx.1
   obtain⟨v',w',hr,h2,h3⟩:=run_append_arg_grows (P:=Tryz.prog) v t ty T i z (szT T) bytes ht hi hz hsz hby hzs (szT_pos T) ⟨g,0,none⟩ n cap xs hxl (hx.cells rfl) ad 1 c news (by omega) hnews (by omega) (by unfold maxLen;omega) hmul
   obtain⟨g',cap',rfl,hg',_⟩:=h2.form (by omega)
   exact⟨_,w',_,hr,g',cap',rfl,rfl,RowT.pushed (.inr ⟨g,cap,cur,rfl,hg,hM,hc,hnc,hm,hs⟩) th hN hT hx hb (own_low h2 hb) (.inr ⟨hg',h3⟩) hl he,fun b hbg hbl=>h3.block b hbl (by simp),.inr hg',xs,hx,own_low h2 hb⟩
variable {base g G len cap N j:Nat} {a0:Option Addr} {M M':Tmap} {S S':GRec} {v w w2:World}
theorem Gok.pushPar{g' cap':Nat}(h:Gok base g G a0 len cap M N S w)(hN:N<10000)(k:Pushed base M (put M g' 2 (S.np+1)) (N+1) 2 S.np w w2 (.slice (some ⟨g',0,none⟩) (S.np+1) cap'))(hb:∀ b,b≠g'→b<w.heap.size→w2.heap[b]?=w.heap[b]?)(hg:S.pv.ownBlock=some g'∨w.heap.size≤g') :
  Gok base g G a0 len cap (put M g' 2 (S.np+1)) (N+1) { S with pv:=.slice (some ⟨g',0,none⟩) (S.np+1) cap',np:=S.np+1 } (w2.setCell ⟨G,1,none⟩ (.slice (some ⟨g',0,none⟩) (S.np+1) cap'))∧(∀ b,b≠g'→b≠G→b<w.heap.size→(w2.setCell ⟨G,1,none⟩ (.slice (some ⟨g',0,none⟩) (S.np+1) cap')).heap[b]?=w.heap[b]?):=by
 have hGl:=(Array.getElem?_eq_some_iff.1 h.cells).1
 obtain⟨o1,o2⟩:=k.out G hGl h.mG
 have hbn:=h.bn
 have hset:∀ b,b≠G→(w2.setCell ⟨G,1,none⟩ (.slice (some ⟨g',0,none⟩) (S.np+1) cap')).heap[b]?=w2.heap[b]?:=fun b hb=>Below.heap_setCell _ _ _ _ hb
 have hk:∀ b,(∃ p,put M g' 2 (S.np+1) b=some p)→(w2.setCell ⟨G,1,none⟩ (.slice (some ⟨g',0,none⟩) (S.np+1) cap')).heap[b]?=w2.heap[b]?:=fun b hb=>hset b fun e=>by
  obtain⟨p,hb⟩:=hb
  rw[e,o2] at hb;cases hb
 have hsz:(w2.setCell ⟨G,1,none⟩ (.slice (some ⟨g',0,none⟩) (S.np+1) cap')).heap.size=w2.heap.size:=by simp[World.setCell]
 have hgb:base≤g'∧g<g':=by
  have h1:=h.gb
  have h2:=h.bv
  rcases hg with hg|hg
  ·obtain⟨p,hp⟩:=own_M h.p hg
   have:=(h.th.lt ⟨_,hp⟩).1
   omega
  ·omega
 refine⟨⟨rd_keep h.rd (by rw[hsz];exact k.size) fun b hb'=>?_,h.gb,by rw[hsz];exact Nat.le_trans h.bv k.size,o2,h.nG,(zhS (o1.trans h.cells)).trans rfl,k.th.keep (Nat.le_refl _) hk,k.row.keep hk,(k.row2 h.b (by decide)).keep hk,(k.row2 h.ph (by decide)).keep hk,(k.row2 h.i (by decide)).keep hk,?_,h.rets.ext k.ext,h.pars.ext k.ext,by dsimp only;omega⟩,fun b h1 h2 h3=>(hset b h2).trans (hb b h1 h3)⟩
 ·have hgl:=h.rd.lt
  have h1:=h.nG
  have h2:=h.gb
  exact (hset b (by omega)).trans (hb b (by omega) (by omega))
 ·rcases h.ids with hi|⟨h1,h2,h3⟩
  ·exact .inl hi
  ·exact .inr ⟨h1,h2.ext k.ext,h3.ext k.ext⟩
def PW(w:World)(S:GRec):Prop:=∀ k,k<S.np→∃ x:Int,rowAt w S.pv k=some (.int .i64 x)∧(x=1∨x=8∨x=16∨x=32)
theorem PW.mv(h:PW w S)(hg:Gok base g G a0 len cap M N S w)(hS:Kept S S')(hh:∀ b m,M b=some (2,m)→w2.heap[b]?=w.heap[b]?):PW w2 S':=fun k hk=>by
 rw[hS.2.1] at hk
 obtain⟨x,h1,h2⟩:=h k hk
 refine⟨x,?_,h2⟩
 rw[hS.1,rowAt_hold hg.p.sl (by omega) hh]
 exact h1
structure Bg(base g G:Nat)(a0:Option Addr)(len cap:Nat)(M:Tmap)(v:World)(n:Nat)(ret:Int)(rv sv:Value)(nr:Nat)(w:World):Prop where
 st:∃ M' S',Gok base g G a0 len cap M' (10+2*n) S' w∧S'.np=n∧S'.ret=ret∧S'.rv=rv∧S'.sv=sv∧S'.nr=nr∧PW w S'∧Mv g G M M' v w∧(∀ q,S'.pv.ownBlock=some q→v.heap.size≤q)
theorem info1:(Tryz.prog.info? 2).map (fun i=>(i.zero,i.size,i.bytes))=some (some (.int .i64 0),1,8):=by kernel_rfl
theorem par_more{n:Nat}{ret x:Int}{rv sv:Value}{nr:Nat}{g' cap':Nat}{S':GRec}{xs:List Value}(H:Gok base g G a0 len cap M' (10+2*n) S' w)(hn:S'.np=n)(hn2:n≤2)(hl:∀ b,(∃ p,M b=some p)→b<v.heap.size)(hx:x=1∨x=8∨x=16∨x=32)(hr:S'.ret=ret∧S'.rv=rv∧S'.sv=sv∧S'.nr=nr)(hpw:PW w S')(hv:Mv g G M M' v w)(ho:∀ q,S'.pv.ownBlock=some q→v.heap.size≤q)
  (k:Pushed base M' (put M' g' 2 (S'.np+1)) (10+2*n+1) 2 S'.np w w2 (.slice (some ⟨g',0,none⟩) (S'.np+1) cap')) (hb:∀ b,b≠g'→b<w.heap.size→w2.heap[b]?=w.heap[b]?) (hg:S'.pv.ownBlock=some g'∨w.heap.size≤g') (hc1:w.ownsRow base 2 (szT 2) S'.pv S'.np xs) (hc2:w2.ownsRow base 2 (szT 2) (.slice (some ⟨g',0,none⟩) (S'.np+1) cap') (S'.np+1) (xs++[.int .i64 x])) :
  ∃ M2 S2,Gok base g G a0 len cap M2 (10+2*n+1) S2 (w2.setCell ⟨G,1,none⟩ (.slice (some ⟨g',0,none⟩) (S'.np+1) cap'))∧S2.np=n+1∧S2.ret=ret∧S2.rv=rv∧S2.sv=sv∧S2.nr=nr∧PW (w2.setCell ⟨G,1,none⟩ (.slice (some ⟨g',0,none⟩) (S'.np+1) cap')) S2∧Mv g G M M2 v (w2.setCell ⟨G,1,none⟩ (.slice (some ⟨g',0,none⟩) (S'.np+1) cap'))∧(∀ q,S2.pv.ownBlock=some q→v.heap.size≤q):=by
 obtain⟨H2,hkeep⟩:=H.pushPar (by omega) k hb hg
 have hvs:=hv.size
 have hg':v.heap.size≤g':=by
  rcases hg with hg|hg
  ·exact ho _ hg
  ·omega
 have hs1:szT 2=1:=by decide
 rw[hs1] at hc1 hc2
 have hsz:(w2.setCell ⟨G,1,none⟩ (.slice (some ⟨g',0,none⟩) (S'.np+1) cap')).heap.size=w2.heap.size:=by simp[World.setCell]
 have hgG:g'≠G:=fun e=>by
  have:=H2.mG
  rw[←e] at this
  simp[put] at this
 have hc3:(w2.setCell ⟨G,1,none⟩ (.slice (some ⟨g',0,none⟩) (S'.np+1) cap')).ownsRow base 2 1 (.slice (some ⟨g',0,none⟩) (S'.np+1) cap') (S'.np+1) (xs++[.int .i64 x]):=own_stay hc2 fun q hq=>by
  have e:q=g':=by simpa [Value.ownBlock] using hq.symm
  exact Below.heap_setCell _ _ _ _ (by rw[e];exact hgG)
 have hlx:=hc1.1
 refine⟨_,_,H2,by dsimp only;omega,hr.1,hr.2.1,hr.2.2.1,hr.2.2.2,fun q hq=>?_,⟨hv.ext.trans k.ext,fun b hb' h1 h2 h3=>?_,fun b T m hb' hT=>?_,k.os.trans hv.os,k.tape.trans hv.tape,k.output.trans hv.output,by rw[hsz];exact Nat.le_trans hvs k.size⟩,fun q hq=>?_⟩
 ·dsimp only at hq ⊢
  rw[own_at hc3 (by omega)]
  by_cases e:q=S'.np
  ·rw[List.getElem?_append_right (by omega),hlx,e,Nat.mul_one,Nat.sub_self]
   exact⟨x,rfl,hx⟩
  ·rw[List.getElem?_append_left (by omega),←own_at hc1 (by omega)]
   exact hpw q (by omega)
 ·obtain⟨r1,r2⟩:=hv.out b hb' h1 h2 h3
  exact⟨(hkeep b (by omega) h2 (by omega)).trans r1,by unfold put;rw[if_neg (by omega)];exact r2⟩
 ·obtain⟨r1,r2⟩:=hv.hold b T m hb' hT
  have:=hl b ⟨_,hb'⟩
  have hbG:b≠G:=fun e=>by have:=H.mG;rw[←e,r2] at this;cases this
  exact⟨(hkeep b (by omega) hbG (by omega)).trans r1,by unfold put;rw[if_neg (by omega)];exact r2⟩
 ·have e:q=g':=by simpa [Value.ownBlock] using hq.symm
  omega
end Go.Proofs.YtkpmiikafconmaaGreatDoor
