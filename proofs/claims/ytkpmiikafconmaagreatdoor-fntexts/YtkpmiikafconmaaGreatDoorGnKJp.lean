import Derived.Test.YtkpmiikafconmaaGreatDoorGnHJp
import Derived.Test.YtkpmiikafconmaaGreatDoorFmDJp
namespace Go.Proofs.YtkpmiikafconmaaGreatDoor
open Go.RowKit Go.Deep
set_option maxHeartbeats 2000000
set_option maxRecDepth 100000
set_option linter.unusedVariables false
structure Mv(g G:Nat)(M M':Tmap)(v v':World):Prop where
 ext:Ext M M'
 out:∀ b,b<v.heap.size→b≠g→b≠G→M b=none→v'.heap[b]?=v.heap[b]?∧M' b=none
 hold:∀ b T m,M b=some (T,m)→(T=2∨T=41)→v'.heap[b]?=v.heap[b]?∧M' b=some (T,m)
 os:v'.os=v.os
 tape:v'.tape=v.tape
 output:v'.output=v.output
 size:v.heap.size≤v'.heap.size
theorem Mov.mv{g G:Nat}{M M':Tmap}{v v':World}(h:Mov g G M M' v v'):Mv g G M M' v v' :=
 ⟨h.ext,h.out,fun b T m hb hT=>h.hold b T m hb (by rcases hT with rfl|rfl<;>decide),h.os,h.tape,h.output,h.size⟩
theorem Mv.refl(g G:Nat)(M:Tmap)(v:World):Mv g G M M v v:=(Mov.refl g G M v).mv
theorem Mv.trans{g G:Nat}{A B C:Tmap}{a b c:World}(h:Mv g G A B a b)(k:Mv g G B C b c):Mv g G A C a c :=
 ⟨h.ext.trans k.ext,fun x hx h1 h2 h3=>by
  obtain⟨e1,e2⟩:=h.out x hx h1 h2 h3
  obtain⟨f1,f2⟩:=k.out x (Nat.lt_of_lt_of_le hx h.size) h1 h2 e2
  exact⟨f1.trans e1,f2⟩,fun x T m hx hT=>by
  obtain⟨e1,e2⟩:=h.hold x T m hx hT
  obtain⟨f1,f2⟩:=k.hold x T m e2 hT
  exact⟨f1.trans e1,f2⟩,k.os.trans h.os,k.tape.trans h.tape,k.output.trans h.output,Nat.le_trans h.size k.size⟩
theorem infoP:(Tryz.prog.info? 92).map (fun i=>(i.zero,i.size,i.bytes))=some (some (.agg #[.int .i64 0,.slice none 0 0]),2,32):=by kernel_rfl
theorem two_of{w:World}{L:Nat}{x0 x1:Value}{T:TypeId}(hL:w.heap[L]?=some (.cells #[x0,x1] T (0,0))):∀ j u,[x0,x1][j]?=some u→w.cell? ((⟨L,0,none⟩:Addr).add j)=some u:=fun j u hj=>by
 rw[Addr.add_lit,zcH hL,Nat.zero_add,←hj]
 rcases j with _|_|j<;>rfl
theorem el_phi{M:Tmap}{N:Nat}{x:Int}{s:Value}(h:SlV1 M N 2 s):∀ M',Ext M M'→ElOk M' (N+1) 92 (fun j=>[.int .i64 x,s][j]?):=fun M' he =>
 ⟨fun q=>absurd q (by decide),fun q=>absurd q (by decide),fun _=>⟨⟨_,rfl⟩,s,rfl,h.ext he (by omega)⟩,fun q=>absurd q (by decide),fun q=>absurd q (by decide)⟩
theorem Gok.pushP{base g G len cap N:Nat}{a0:Option Addr}{M M':Tmap}{S:GRec}{v w2:World}{s':Value}(h:Gok base g G a0 len cap M N S v)(hN:N<10000)(k:Pushed base M M' (N+1) 92 S.nph v w2 s') :
  Gok base g G a0 len cap M' (N+1) { S with phv:=s',nph:=S.nph+1 } (w2.setCell ⟨G,4,none⟩ s')∧Mv g G M M' v (w2.setCell ⟨G,4,none⟩ s'):=by
 have hGl:=(Array.getElem?_eq_some_iff.1 h.cells).1
 obtain⟨o1,o2⟩:=k.out G hGl h.mG
 have hbn:=h.bn
 have hset:∀ b,b≠G→(w2.setCell ⟨G,4,none⟩ s').heap[b]?=w2.heap[b]?:=fun b hb=>Below.heap_setCell _ _ _ _ hb
 have hne:∀ b,(∃ p,M' b=some p)→b≠G:=fun b hb e=>by
  obtain⟨p,hb⟩:=hb
  rw[e,o2] at hb;cases hb
 have hk:∀ b,(∃ p,M' b=some p)→(w2.setCell ⟨G,4,none⟩ s').heap[b]?=w2.heap[b]?:=fun b hb=>hset b (hne b hb)
 have hsz:(w2.setCell ⟨G,4,none⟩ s').heap.size=w2.heap.size:=by simp[World.setCell]
 refine⟨⟨rd_keep h.rd (by rw[hsz];exact k.size) fun b hb=>?_,h.gb,by rw[hsz];exact Nat.le_trans h.bv k.size,o2,h.nG,(zhS (o1.trans h.cells)).trans rfl,k.th.keep (Nat.le_refl _) hk,(k.row2 h.p (by decide)).keep hk,(k.row2 h.b (by decide)).keep hk,k.row.keep hk,(k.row2 h.i (by decide)).keep hk,?_,h.rets.ext k.ext,h.pars.ext k.ext,by dsimp only;omega⟩,⟨k.ext,fun b hb h1 h2 h3=>?_,fun b T m hb hT=>?_,k.os,k.tape,k.output,by rw[hsz];exact k.size⟩⟩
 ·have hbg:b<base:=Nat.lt_of_le_of_lt hb h.gb
  have hn:M b=none:=by
   cases e:M b with
   | none=>rfl
   | some p=>have:=(h.th.lt ⟨p,e⟩).1;omega
  exact (hset b (by have:=h.nG;omega)).trans (k.out b (by have:=h.bv;omega) hn).1
 ·rcases h.ids with hi|⟨h1,h2,h3⟩
  ·exact .inl hi
  ·exact .inr ⟨h1,h2.ext k.ext,h3.ext k.ext⟩
 ·obtain⟨e1,e2⟩:=k.out b hb h3
  exact⟨(hset b h2).trans e1,e2⟩
 ·obtain⟨e1,e2⟩:=k.other b T m hb (by rcases hT with rfl|rfl<;>decide)
  exact⟨(hk b ⟨_,e2⟩).trans e1,e2⟩
theorem phi_any(base g G:Nat)(a0:Option Addr)(len cap:Nat)(M:Tmap)(N:Nat)(S:GRec)(x:Int)(u:Option Addr)(na q:Nat)(v:World)(h:Gok base g G a0 len cap M N S v)(hN:N+2≤10000)(hav:SlN M 2 (.slice u na q) na)(hna:na≤N)(h1a:1≤na) :
  Calls Tryz.prog 133 #[.pointer (some ⟨G,0,none⟩),.int .i64 x,.slice u na q] v fun e v'=>∃ n:Int,e=.returned (.int .i64 n)∧∃ M' S',Gok base g G a0 len cap M' (N+2) S' v'∧(∃ s',S'={ S with phv:=s',nph:=S.nph+1,idv:=S'.idv,wsv:=S'.wsv,nid:=S.nid+1,nx:=S.nx+1 })∧Mv g G M M' v v':=by
 obtain⟨i0,hi,hz0,hz1,hz2⟩:=info_parts infoP
 have hbn:=h.bn
 have hGl:=(Array.getElem?_eq_some_iff.1 h.cells).1
 have B1:Below v.heap.size v (v.alloc (.cells #[.int .i64 x,.slice u na q] 92)):=(Below.refl _ _).alloc (Nat.le_refl _) _
 have HH:Hid (Gok base g G a0 len cap M N S (v.alloc (.cells #[.int .i64 x,.slice u na q] 92))∧Mov g G M M v (v.alloc (.cells #[.int .i64 x,.slice u na q] 92))):=h.below B1
 have LAW:Hid (∀ ty,∃ s' w' M',(Builtin.append_ #[69,69] ty #[S.phv,.slice (some ⟨v.heap.size,0,none⟩) 1 1]).run Tryz.prog (v.alloc (.cells #[.int .i64 x,.slice u na q] 92))=.ok s' w'∧Pushed base M M' (N+1) 92 S.nph (v.alloc (.cells #[.int .i64 x,.slice u na q] 92)) w' s'):=fun ty =>
  run_row i0 _ 32 Tryz.underlying69 hi hz0 hz1 hz2 (by decide) (by omega) HH.out.1.ph HH.out.1.th (by omega) (.inr (.inr (.inl rfl))) HH.out.1.bv (by omega) ⟨v.heap.size,0,none⟩ 1 [.int .i64 x,.slice u na q] rfl (two_of (zhL v _)) (by simp[Value.oneCell']) (el_phi ⟨na,h1a,hna,hav⟩)
 have c4:v.cell? ⟨G,4,none⟩=some S.phv:=(zgc h.cells 4).1.trans rfl
 clear hi hz0 hz1 hz2
 go_enter Tryz.func133,Tryz.ntmps133
 go_wp2_with (first|(at_builtin;refine wpList_row rfl (.tmp 12) (.tmp 16) 69 rfl rfl rfl LAW.out ?_;intro s' w2 M' hP;obtain⟨gs,qs,rfl⟩:=hP.row.form;have y0:=(hP.out G (by exact Nat.lt_of_lt_of_le hGl B1.size) h.mG).1.trans ((B1.block G hGl).trans h.cells);have y4:w2.cell? ⟨G,4,none⟩=some S.phv:=(zgc y0 4).1.trans rfl;have z4:=(zgc y0 4).2;clear y0;obtain⟨H2,V2⟩:=HH.out.1.pushP (by omega) hP;have A:=add_any base g G a0 len cap M' (N+1) _ x _ H2 (by omega))|(go_at_call 94;refine A.mono ?_;rintro e w4 ⟨n,rfl,M4,S4,H4,hS4,V4⟩))
 go_ret
 refine⟨n,rfl,M4,S4,H4,⟨_,hS4⟩,(HH.out.2.mv.trans V2).trans V4.mv⟩
theorem run_row2{base n N N':Nat}{M:Tmap}{T t ty:TypeId}{s:Value}{v:World}(i:TypeInfo)(z:Value)(bytes:Nat)(ht:Tryz.prog.underlying t=some (.slice T))(hi:Tryz.prog.info? T=some i)(hz:i.zero=some z)(hsz:i.size=szT T)(hby:i.bytes=bytes)(hzs:z.cells.size=szT T)(hbm:bytes≤1000)
  (h:RowT base M T s n v) (th:TH base M N v) (hN:N≤N') (hT:T=2∨T=41∨T=92∨T=95∨T=74) (hb:base≤v.heap.size) (hn:n≤100000)
  (ad:Addr) (c:Nat) (news:List Value) (hl:news.length=szT T) (hnews:∀ j u,news[j]?=some u→v.cell? (ad.add j)=some u) (h1:∀ u∈news,u.oneCell'=true) (he:∀ M',Ext M M'→ElOk M' N' T (fun j=>news[j]?)) :
  ∃ s' w' M',(Builtin.append_ #[t,t] ty #[s,.slice (some ad) 1 c]).run Tryz.prog v=.ok s' w'∧Pushed base M M' N' T n v w' s'∧∃ xs,v.ownsRow base T (szT T) s n xs∧w'.ownsRow base T (szT T) s' (n+1) (xs++news):=by
 have hmul:(n+1)*bytes≤140737488355328:=Nat.le_trans (Nat.mul_le_mul (show n+1≤100001 by omega) hbm) (by decide)
 obtain⟨xs,hx⟩:=h.own
 rcases h with⟨rfl,rfl⟩|⟨g,cap,cur,rfl,hg,hM,hc,hnc,hm,hs⟩
 ·have hx0:xs=[]:=by have:=hx.1;simpa using this
  subst hx0
  obtain⟨v',w',hr,h2,h3,_,_⟩:=run_append_own_at (P:=Tryz.prog) v v.heap.size t ty T i z (szT T) bytes ht hi hz hsz hby hzs (szT_pos T) (.slice none 0 0) 0 [] ⟨by simp,.inl ⟨rfl,rfl⟩⟩ ad 1 c news (by omega) hnews h1 (by unfold maxLen;omega) (by simpa using hmul) (Nat.le_refl _)
  obtain⟨g',cap',rfl,hg',_⟩:=h2.form (by omega)
  have h2':=own_low (b':=base) (xs:=news) (by simpa using h2) hb
  exact⟨_,w',_,hr,RowT.pushed (xs:=[]) (news:=news) (.inl ⟨rfl,rfl⟩) th hN hT hx hb h2' (.inr ⟨hg',h3⟩) hl he,[],hx,h2'⟩
 ·by_cases hroom:n+1≤cap
  ·obtain⟨w',hr,h2,h3⟩:=run_append_own_spare (P:=Tryz.prog) v base t ty T i (szT T) ht hi hsz g n cap xs hx ad 1 c news (by omega) hnews h1 hroom
   exact⟨_,w',_,hr,RowT.pushed (.inr ⟨g,cap,cur,rfl,hg,hM,hc,hnc,hm,hs⟩) th hN hT hx hb h2 (.inl ⟨rfl,h3⟩) hl he,xs,hx,h2⟩
  ·have hxl:=hx.1
   obtain⟨v',w',hr,h2,h3⟩:=run_append_arg_grows (P:=Tryz.prog) v t ty T i z (szT T) bytes ht hi hz hsz hby hzs (szT_pos T) ⟨g,0,none⟩ n cap xs hxl (hx.cells rfl) ad 1 c news (by omega) hnews (by omega) (by unfold maxLen;omega) hmul
   obtain⟨g',cap',rfl,hg',_⟩:=h2.form (by omega)
   exact⟨_,w',_,hr,RowT.pushed (.inr ⟨g,cap,cur,rfl,hg,hM,hc,hnc,hm,hs⟩) th hN hT hx hb (own_low h2 hb) (.inr ⟨hg',h3⟩) hl he,xs,hx,own_low h2 hb⟩
theorem Gok.pushB{base g G len cap N:Nat}{a0:Option Addr}{M M':Tmap}{S:GRec}{v w2:World}{s':Value}(h:Gok base g G a0 len cap M N S v)(hN:N<10000)(k:Pushed base M M' (N+1) 74 S.nb v w2 s') :
  Gok base g G a0 len cap M' (N+1) { S with bv:=s',nb:=S.nb+1 } (w2.setCell ⟨G,3,none⟩ s')∧Mv g G M M' v (w2.setCell ⟨G,3,none⟩ s'):=by
 have hGl:=(Array.getElem?_eq_some_iff.1 h.cells).1
 obtain⟨o1,o2⟩:=k.out G hGl h.mG
 have hbn:=h.bn
 have hset:∀ b,b≠G→(w2.setCell ⟨G,3,none⟩ s').heap[b]?=w2.heap[b]?:=fun b hb=>Below.heap_setCell _ _ _ _ hb
 have hne:∀ b,(∃ p,M' b=some p)→b≠G:=fun b hb e=>by
  obtain⟨p,hb⟩:=hb
  rw[e,o2] at hb;cases hb
 have hk:∀ b,(∃ p,M' b=some p)→(w2.setCell ⟨G,3,none⟩ s').heap[b]?=w2.heap[b]?:=fun b hb=>hset b (hne b hb)
 have hsz:(w2.setCell ⟨G,3,none⟩ s').heap.size=w2.heap.size:=by simp[World.setCell]
 refine⟨⟨rd_keep h.rd (by rw[hsz];exact k.size) fun b hb=>?_,h.gb,by rw[hsz];exact Nat.le_trans h.bv k.size,o2,h.nG,(zhS (o1.trans h.cells)).trans rfl,k.th.keep (Nat.le_refl _) hk,(k.row2 h.p (by decide)).keep hk,k.row.keep hk,(k.row2 h.ph (by decide)).keep hk,(k.row2 h.i (by decide)).keep hk,?_,h.rets.ext k.ext,h.pars.ext k.ext,by dsimp only;omega⟩,⟨k.ext,fun b hb h1 h2 h3=>?_,fun b T m hb hT=>?_,k.os,k.tape,k.output,by rw[hsz];exact k.size⟩⟩
 ·have hbg:b<base:=Nat.lt_of_le_of_lt hb h.gb
  have hn:M b=none:=by
   cases e:M b with
   | none=>rfl
   | some p=>have:=(h.th.lt ⟨p,e⟩).1;omega
  exact (hset b (by have:=h.nG;omega)).trans (k.out b (by have:=h.bv;omega) hn).1
 ·rcases h.ids with hi|⟨h1,h2,h3⟩
  ·exact .inl hi
  ·exact .inr ⟨h1,h2.ext k.ext,h3.ext k.ext⟩
 ·obtain⟨e1,e2⟩:=k.out b hb h3
  exact⟨(hset b h2).trans e1,e2⟩
 ·obtain⟨e1,e2⟩:=k.other b T m hb (by rcases hT with rfl|rfl<;>decide)
  exact⟨(hk b ⟨_,e2⟩).trans e1,e2⟩
theorem Gok.reset{base g G len cap N:Nat}{a0:Option Addr}{M:Tmap}{S:GRec}{v v':World}(h:Gok base g G a0 len cap M N S v)(hB:∀ b,b≠G→v'.heap[b]?=v.heap[b]?)(hz:v'.heap.size=v.heap.size)(e1:v'.os=v.os)(e2:v'.tape=v.tape)(e3:v'.output=v.output)
  (hG:v'.heap[G]?=some (.cells (gcells g { S with phv:=.slice none 0 0,nph:=0,iv:=.slice none 0 0,ni:=0,kd:=0,ta:=0,tx:=0,ty:=0 }) 141 (0,0))) :
  Gok base g G a0 len cap M N { S with phv:=.slice none 0 0,nph:=0,iv:=.slice none 0 0,ni:=0,kd:=0,ta:=0,tx:=0,ty:=0 } v'∧Mv g G M M v v':=by
 have hgG:g<G:=Nat.lt_of_lt_of_le h.gb h.nG
 have hk:∀ b,(∃ p,M b=some p)→v'.heap[b]?=v.heap[b]?:=fun b hb=>hB b (fun e=>by
  obtain⟨p,hb⟩:=hb
  rw[e,h.mG] at hb;cases hb)
 have hbn:=h.bn
 exact⟨⟨rd_keep h.rd (by omega) fun b hb=>hB b (by omega),h.gb,by rw[hz];exact h.bv,h.mG,h.nG,hG,h.th.keep (Nat.le_refl _) hk,h.p.keep hk,h.b.keep hk,.inl ⟨rfl,rfl⟩,.inl ⟨rfl,rfl⟩,h.ids,h.rets,h.pars,by dsimp only;omega⟩,⟨Ext.refl _,fun b _ _ h2 h3=>⟨hB b h2,h3⟩,fun b T m hb _=>⟨hk b ⟨_,hb⟩,hb⟩,e1,e2,e3,by omega⟩⟩
theorem infoB:(Tryz.prog.info? 74).map (fun i=>(i.zero,i.size,i.bytes))=some (some (.agg #[.slice none 0 0,.slice none 0 0,.int .i64 0,.int .i64 0,.int .i64 0,.int .i64 0]),6,80):=by kernel_rfl
theorem el_block{M:Tmap}{N:Nat}{p i:Value}{a b c d:Int}(hp:SlV M N 92 p)(hi:SlV M N 95 i):∀ M',Ext M M'→ElOk M' (N+1) 74 (fun j=>[p,i,.int .i64 a,.int .i64 b,.int .i64 c,.int .i64 d][j]?):=fun M' he=>by
 refine⟨fun q=>absurd q (by decide),fun q=>absurd q (by decide),fun q=>absurd q (by decide),fun q=>absurd q (by decide),fun _=>⟨⟨p,rfl,hp.ext he (by omega)⟩,⟨i,rfl,hi.ext he (by omega)⟩,fun j h2 hj=>?_⟩⟩
 match j,h2,hj with
 | 2,_,_=>exact⟨_,rfl⟩
 | 3,_,_=>exact⟨_,rfl⟩
 | 4,_,_=>exact⟨_,rfl⟩
 | 5,_,_=>exact⟨_,rfl⟩
theorem six_of{w:World}{L:Nat}{x0 x1 x2 x3 x4 x5:Value}{T:TypeId}(hL:w.heap[L]?=some (.cells #[x0,x1,x2,x3,x4,x5] T (0,0))):∀ j u,[x0,x1,x2,x3,x4,x5][j]?=some u→w.cell? ((⟨L,0,none⟩:Addr).add j)=some u:=fun j u hj=>by
 rw[Addr.add_lit,zcH hL,Nat.zero_add,←hj]
 rcases j with _|_|_|_|_|_|j<;>rfl
set_option maxHeartbeats 600000
theorem set_os(w:World)(a:Addr)(x:Value):(w.setCell a x).os=w.os:=rfl
theorem set_tape(w:World)(a:Addr)(x:Value):(w.setCell a x).tape=w.tape:=rfl
theorem set_output(w:World)(a:Addr)(x:Value):(w.setCell a x).output=w.output:=rfl
def Closed(S:GRec)(s':Value):GRec:={ S with bv:=s',nb:=S.nb+1,phv:=.slice none 0 0,nph:=0,iv:=.slice none 0 0,ni:=0,kd:=0,ta:=0,tx:=0,ty:=0 }
theorem close_any(base g G:Nat)(a0:Option Addr)(len cap:Nat)(M:Tmap)(N:Nat)(S:GRec)(kd ta tx ty:Int)(v:World)(h:Gok base g G a0 len cap M N S v)(hN:N+1≤10000) :
  Calls Tryz.prog 132 #[.pointer (some ⟨G,0,none⟩),.agg #[.int .i64 kd,.int .i64 ta,.int .i64 tx,.int .i64 ty]] v fun e v'=>(∃ r,e=.returned r)∧∃ M' s',Gok base g G a0 len cap M' (N+1) (Closed S s') v'∧Mv g G M M' v v':=by
 have hGl:=(Array.getElem?_eq_some_iff.1 h.cells).1
 have B1:Below v.heap.size v (v.alloc (.cells #[.int .i64 kd,.int .i64 ta,.int .i64 tx,.int .i64 ty] 72)):=(Below.refl _ _).alloc (Nat.le_refl _) _
 have HH:Hid (Gok base g G a0 len cap M N S (v.alloc (.cells #[.int .i64 kd,.int .i64 ta,.int .i64 tx,.int .i64 ty] 72))∧Mov g G M M v (v.alloc (.cells #[.int .i64 kd,.int .i64 ta,.int .i64 tx,.int .i64 ty] 72))):=h.below B1
 have q0:v.heap[G]?=some (.cells (gcells g S) 141 (0,0)):=h.cells
 have q1:(v.setCell ⟨G,6,none⟩ (.int .i64 kd)).heap[G]?=some (.cells (gcells g { S with kd:=kd }) 141 (0,0)):=(zhS q0).trans rfl
 have q2:((v.setCell ⟨G,6,none⟩ (.int .i64 kd)).setCell ⟨G,7,none⟩ (.int .i64 ta)).heap[G]?=some (.cells (gcells g { S with kd:=kd,ta:=ta }) 141 (0,0)):=(zhS q1).trans rfl
 have q3:(((v.setCell ⟨G,6,none⟩ (.int .i64 kd)).setCell ⟨G,7,none⟩ (.int .i64 ta)).setCell ⟨G,8,none⟩ (.int .i64 tx)).heap[G]?=some (.cells (gcells g { S with kd:=kd,ta:=ta,tx:=tx }) 141 (0,0)):=(zhS q2).trans rfl
 have q4:((((v.setCell ⟨G,6,none⟩ (.int .i64 kd)).setCell ⟨G,7,none⟩ (.int .i64 ta)).setCell ⟨G,8,none⟩ (.int .i64 tx)).setCell ⟨G,9,none⟩ (.int .i64 ty)).heap[G]?=some (.cells (gcells g { S with kd:=kd,ta:=ta,tx:=tx,ty:=ty }) 141 (0,0)):=(zhS q3).trans rfl
 have p0:(v.alloc (.cells #[.int .i64 kd,.int .i64 ta,.int .i64 tx,.int .i64 ty] 72)).heap[G]?=some (.cells (gcells g S) 141 (0,0)):=(Below.heap_alloc _ _ _ (by simpa [World.setCell] using hGl)).trans q0
 have p1:((v.setCell ⟨G,6,none⟩ (.int .i64 kd)).alloc (.cells #[.int .i64 kd,.int .i64 ta,.int .i64 tx,.int .i64 ty] 72)).heap[G]?=some (.cells (gcells g { S with kd:=kd }) 141 (0,0)):=(Below.heap_alloc _ _ _ (by simpa [World.setCell] using hGl)).trans q1
 have p2:(((v.setCell ⟨G,6,none⟩ (.int .i64 kd)).setCell ⟨G,7,none⟩ (.int .i64 ta)).alloc (.cells #[.int .i64 kd,.int .i64 ta,.int .i64 tx,.int .i64 ty] 72)).heap[G]?=some (.cells (gcells g { S with kd:=kd,ta:=ta }) 141 (0,0)):=(Below.heap_alloc _ _ _ (by simpa [World.setCell] using hGl)).trans q2
 have p3:((((v.setCell ⟨G,6,none⟩ (.int .i64 kd)).setCell ⟨G,7,none⟩ (.int .i64 ta)).setCell ⟨G,8,none⟩ (.int .i64 tx)).alloc (.cells #[.int .i64 kd,.int .i64 ta,.int .i64 tx,.int .i64 ty] 72)).heap[G]?=some (.cells (gcells g { S with kd:=kd,ta:=ta,tx:=tx }) 141 (0,0)):=(Below.heap_alloc _ _ _ (by simpa [World.setCell] using hGl)).trans q3
 have p4:(((((v.setCell ⟨G,6,none⟩ (.int .i64 kd)).setCell ⟨G,7,none⟩ (.int .i64 ta)).setCell ⟨G,8,none⟩ (.int .i64 tx)).setCell ⟨G,9,none⟩ (.int .i64 ty)).alloc (.cells #[.int .i64 kd,.int .i64 ta,.int .i64 tx,.int .i64 ty] 72)).heap[G]?=some (.cells (gcells g { S with kd:=kd,ta:=ta,tx:=tx,ty:=ty }) 141 (0,0)):=(Below.heap_alloc _ _ _ (by simpa [World.setCell] using hGl)).trans q4
 have c0:(v.alloc (.cells #[.int .i64 kd,.int .i64 ta,.int .i64 tx,.int .i64 ty] 72)).cell? ⟨G,6,none⟩=some (.int .i64 S.kd):=(zgc p0 6).1.trans rfl
 have z0:(v.alloc (.cells #[.int .i64 kd,.int .i64 ta,.int .i64 tx,.int .i64 ty] 72)).frozen? ⟨G,6,none⟩=false:=(zgc p0 6).2
 have c1:((v.setCell ⟨G,6,none⟩ (.int .i64 kd)).alloc (.cells #[.int .i64 kd,.int .i64 ta,.int .i64 tx,.int .i64 ty] 72)).cell? ⟨G,7,none⟩=some (.int .i64 S.ta):=(zgc p1 7).1.trans rfl
 have z1:((v.setCell ⟨G,6,none⟩ (.int .i64 kd)).alloc (.cells #[.int .i64 kd,.int .i64 ta,.int .i64 tx,.int .i64 ty] 72)).frozen? ⟨G,7,none⟩=false:=(zgc p1 7).2
 have c2:(((v.setCell ⟨G,6,none⟩ (.int .i64 kd)).setCell ⟨G,7,none⟩ (.int .i64 ta)).alloc (.cells #[.int .i64 kd,.int .i64 ta,.int .i64 tx,.int .i64 ty] 72)).cell? ⟨G,8,none⟩=some (.int .i64 S.tx):=(zgc p2 8).1.trans rfl
 have z2:(((v.setCell ⟨G,6,none⟩ (.int .i64 kd)).setCell ⟨G,7,none⟩ (.int .i64 ta)).alloc (.cells #[.int .i64 kd,.int .i64 ta,.int .i64 tx,.int .i64 ty] 72)).frozen? ⟨G,8,none⟩=false:=(zgc p2 8).2
 have c3:((((v.setCell ⟨G,6,none⟩ (.int .i64 kd)).setCell ⟨G,7,none⟩ (.int .i64 ta)).setCell ⟨G,8,none⟩ (.int .i64 tx)).alloc (.cells #[.int .i64 kd,.int .i64 ta,.int .i64 tx,.int .i64 ty] 72)).cell? ⟨G,9,none⟩=some (.int .i64 S.ty):=(zgc p3 9).1.trans rfl
 have z3:((((v.setCell ⟨G,6,none⟩ (.int .i64 kd)).setCell ⟨G,7,none⟩ (.int .i64 ta)).setCell ⟨G,8,none⟩ (.int .i64 tx)).alloc (.cells #[.int .i64 kd,.int .i64 ta,.int .i64 tx,.int .i64 ty] 72)).frozen? ⟨G,9,none⟩=false:=(zgc p3 9).2
 clear q0 q1 q2 q3 q4 p0 p1 p2 p3
 go_enter Tryz.func132,Tryz.ntmps132
 obtain⟨i0,hi,hz0,hz1,hz2⟩:=info_parts infoB
 have HX:Gok base g G a0 len cap M N { S with kd:=kd,ta:=ta,tx:=tx,ty:=ty } (((((v.setCell ⟨G,6,none⟩ (.int .i64 kd)).setCell ⟨G,7,none⟩ (.int .i64 ta)).setCell ⟨G,8,none⟩ (.int .i64 tx)).setCell ⟨G,9,none⟩ (.int .i64 ty)).alloc (.cells #[.int .i64 kd,.int .i64 ta,.int .i64 tx,.int .i64 ty] 72))∧Mov g G M M v (((((v.setCell ⟨G,6,none⟩ (.int .i64 kd)).setCell ⟨G,7,none⟩ (.int .i64 ta)).setCell ⟨G,8,none⟩ (.int .i64 tx)).setCell ⟨G,9,none⟩ (.int .i64 ty)).alloc (.cells #[.int .i64 kd,.int .i64 ta,.int .i64 tx,.int .i64 ty] 72)):=h.grew (Nat.le_refl _) (fun b hb hn=>(Below.heap_alloc _ _ _ (by simpa [World.setCell] using hb)).trans (by rw[Below.heap_setCell _ _ _ _ hn,Below.heap_setCell _ _ _ _ hn,Below.heap_setCell _ _ _ _ hn,Below.heap_setCell _ _ _ _ hn])) (by simp[World.setCell]) rfl rfl rfl (fun _ _=>rfl) (fun b T m hb hm=>by rw[h.th.none hb] at hm;cases hm) p4 ⟨rfl,rfl,rfl,rfl,rfl,rfl,rfl,rfl,rfl,rfl,rfl⟩ h.ids (by have:=h.bn;dsimp only;omega)
 go_wp2_with fail
 clear c0 c1 c2 c3 z0 z1 z2 z3
 generalize (((((v.setCell ⟨G,6,none⟩ (.int .i64 kd)).setCell ⟨G,7,none⟩ (.int .i64 ta)).setCell ⟨G,8,none⟩ (.int .i64 tx)).setCell ⟨G,9,none⟩ (.int .i64 ty)).alloc (.cells #[.int .i64 kd,.int .i64 ta,.int .i64 tx,.int .i64 ty] 72))=wx at p4 HX ⊢
 obtain⟨HX,VX⟩:=HX
 have hbn:=HX.bn
 dsimp only at hbn
 have hGx:=(Array.getElem?_eq_some_iff.1 p4).1
 have B2:Below wx.heap.size wx (wx.drew.alloc (.cells #[S.phv,S.iv,.int .i64 kd,.int .i64 ta,.int .i64 tx,.int .i64 ty] 74)):=(Below.refl _ _).drew.alloc (Nat.le_refl _) _
 have HH2:Hid (Gok base g G a0 len cap M N { S with kd:=kd,ta:=ta,tx:=tx,ty:=ty } (wx.drew.alloc (.cells #[S.phv,S.iv,.int .i64 kd,.int .i64 ta,.int .i64 tx,.int .i64 ty] 74))∧Mov g G M M wx (wx.drew.alloc (.cells #[S.phv,S.iv,.int .i64 kd,.int .i64 ta,.int .i64 tx,.int .i64 ty] 74))):=HX.below B2
 have LAW:Hid (∀ ty',∃ s' w' M',(Builtin.append_ #[53,53] ty' #[S.bv,.slice (some ⟨wx.heap.size,0,none⟩) 1 1]).run Tryz.prog (wx.drew.alloc (.cells #[S.phv,S.iv,.int .i64 kd,.int .i64 ta,.int .i64 tx,.int .i64 ty] 74))=.ok s' w'∧Pushed base M M' (N+1) 74 S.nb (wx.drew.alloc (.cells #[S.phv,S.iv,.int .i64 kd,.int .i64 ta,.int .i64 tx,.int .i64 ty] 74)) w' s'):=fun ty' =>
  run_row i0 _ 80 Tryz.underlying53 hi hz0 hz1 hz2 (by decide) (by omega) HH2.out.1.b HH2.out.1.th (by omega) (.inr (.inr (.inr (.inr rfl)))) HH2.out.1.bv (by dsimp only;omega) ⟨wx.heap.size,0,none⟩ 1 [S.phv,S.iv,.int .i64 kd,.int .i64 ta,.int .i64 tx,.int .i64 ty] rfl (six_of (zhL wx.drew _)) (by
   have o1:=HX.ph.sl
   have o2:=HX.i.sl
   obtain⟨_,_,e1,_⟩:=o1
   obtain⟨_,_,e2,_⟩:=o2
   dsimp only at e1 e2
   simp[Value.oneCell',e1,e2]) (el_block ⟨S.nph,by omega,HX.ph.sl⟩ ⟨S.ni,by omega,HX.i.sl⟩)
 clear hi hz0 hz1 hz2
 have k3:wx.cell? ⟨G,3,none⟩=some S.bv:=(zgc p4 3).1.trans rfl
 have k4:wx.cell? ⟨G,4,none⟩=some S.phv:=(zgc p4 4).1.trans rfl
 have k5:wx.cell? ⟨G,5,none⟩=some S.iv:=(zgc p4 5).1.trans rfl
 have k6:wx.cell? ⟨G,6,none⟩=some (.int .i64 kd):=(zgc p4 6).1.trans rfl
 have k7:wx.cell? ⟨G,7,none⟩=some (.int .i64 ta):=(zgc p4 7).1.trans rfl
 have k8:wx.cell? ⟨G,8,none⟩=some (.int .i64 tx):=(zgc p4 8).1.trans rfl
 have k9:wx.cell? ⟨G,9,none⟩=some (.int .i64 ty):=(zgc p4 9).1.trans rfl
 have x3:=(zcB (o:=3) (B2.block G hGx)).trans k3
 go_cut [0] (fun s0 wz=>s0=.pointer (some ⟨G,0,none⟩)∧∃ w2 s' M',Pushed base M M' (N+1) 74 S.nb (wx.drew.alloc (.cells #[S.phv,S.iv,.int .i64 kd,.int .i64 ta,.int .i64 tx,.int .i64 ty] 74)) w2 s'∧wz=w2.setCell ⟨G,3,none⟩ s')
 case first =>
  go_region_law (refine step_row rfl (.tmp 14) (.tmp 19) 53 rfl rfl rfl LAW.out ?_;intro s' w2 M' hP;obtain⟨gs,qs,rfl⟩:=hP.row.form;have y0:=(hP.out G (by exact Nat.lt_of_lt_of_le hGx B2.size) h.mG).1.trans ((B2.block G hGx).trans p4);have y3:w2.cell? ⟨G,3,none⟩=some S.bv:=(zgc y0 3).1.trans rfl;have z3:=(zgc y0 3).2;clear y0)
  all_goals
   go_wp2_with fail
   go_meet
   case rel=>exact⟨rfl,w2,_,M',hP,rfl⟩
 case rest =>
  obtain⟨rfl,w2,s',M',hP,rfl⟩:=hcut
  obtain⟨H1,V1⟩:=HH2.out
  obtain⟨H2,V2⟩:=H1.pushB (by omega) hP
  clear k3 k4 k5 k6 k7 k8 k9 x3 LAW HH2 B2
  generalize w2.setCell ⟨G,3,none⟩ s'=wy at H2 V2 ⊢
  have q0:wy.heap[G]?=some (.cells (gcells g { S with bv:=s',nb:=S.nb+1,kd:=kd,ta:=ta,tx:=tx,ty:=ty }) 141 (0,0)):=H2.cells
  have q1:(wy.setCell ⟨G,4,none⟩ (.slice none 0 0)).heap[G]?=some (.cells (gcells g { S with bv:=s',nb:=S.nb+1,kd:=kd,ta:=ta,tx:=tx,ty:=ty,phv:=.slice none 0 0 }) 141 (0,0)):=(zhS q0).trans rfl
  have q2:((wy.setCell ⟨G,4,none⟩ (.slice none 0 0)).setCell ⟨G,5,none⟩ (.slice none 0 0)).heap[G]?=some (.cells (gcells g { S with bv:=s',nb:=S.nb+1,kd:=kd,ta:=ta,tx:=tx,ty:=ty,phv:=.slice none 0 0,iv:=.slice none 0 0 }) 141 (0,0)):=(zhS q1).trans rfl
  have q3:(((wy.setCell ⟨G,4,none⟩ (.slice none 0 0)).setCell ⟨G,5,none⟩ (.slice none 0 0)).setCell ⟨G,6,none⟩ (.int .i64 0)).heap[G]?=some (.cells (gcells g { S with bv:=s',nb:=S.nb+1,kd:=0,ta:=ta,tx:=tx,ty:=ty,phv:=.slice none 0 0,iv:=.slice none 0 0 }) 141 (0,0)):=(zhS q2).trans rfl
  have q4:((((wy.setCell ⟨G,4,none⟩ (.slice none 0 0)).setCell ⟨G,5,none⟩ (.slice none 0 0)).setCell ⟨G,6,none⟩ (.int .i64 0)).setCell ⟨G,7,none⟩ (.int .i64 0)).heap[G]?=some (.cells (gcells g { S with bv:=s',nb:=S.nb+1,kd:=0,ta:=0,tx:=tx,ty:=ty,phv:=.slice none 0 0,iv:=.slice none 0 0 }) 141 (0,0)):=(zhS q3).trans rfl
  have q5:(((((wy.setCell ⟨G,4,none⟩ (.slice none 0 0)).setCell ⟨G,5,none⟩ (.slice none 0 0)).setCell ⟨G,6,none⟩ (.int .i64 0)).setCell ⟨G,7,none⟩ (.int .i64 0)).setCell ⟨G,8,none⟩ (.int .i64 0)).heap[G]?=some (.cells (gcells g { S with bv:=s',nb:=S.nb+1,kd:=0,ta:=0,tx:=0,ty:=ty,phv:=.slice none 0 0,iv:=.slice none 0 0 }) 141 (0,0)):=(zhS q4).trans rfl
  have q6:((((((wy.setCell ⟨G,4,none⟩ (.slice none 0 0)).setCell ⟨G,5,none⟩ (.slice none 0 0)).setCell ⟨G,6,none⟩ (.int .i64 0)).setCell ⟨G,7,none⟩ (.int .i64 0)).setCell ⟨G,8,none⟩ (.int .i64 0)).setCell ⟨G,9,none⟩ (.int .i64 0)).heap[G]?=some (.cells (gcells g { S with bv:=s',nb:=S.nb+1,kd:=0,ta:=0,tx:=0,ty:=0,phv:=.slice none 0 0,iv:=.slice none 0 0 }) 141 (0,0)):=(zhS q5).trans rfl
  have c0:wy.cell? ⟨G,4,none⟩=some S.phv:=(zgc q0 4).1.trans rfl
  have z0:wy.frozen? ⟨G,4,none⟩=false:=(zgc q0 4).2
  have c1:(wy.setCell ⟨G,4,none⟩ (.slice none 0 0)).cell? ⟨G,5,none⟩=some S.iv:=(zgc q1 5).1.trans rfl
  have z1:(wy.setCell ⟨G,4,none⟩ (.slice none 0 0)).frozen? ⟨G,5,none⟩=false:=(zgc q1 5).2
  have c2:((wy.setCell ⟨G,4,none⟩ (.slice none 0 0)).setCell ⟨G,5,none⟩ (.slice none 0 0)).cell? ⟨G,6,none⟩=some (.int .i64 kd):=(zgc q2 6).1.trans rfl
  have z2:((wy.setCell ⟨G,4,none⟩ (.slice none 0 0)).setCell ⟨G,5,none⟩ (.slice none 0 0)).frozen? ⟨G,6,none⟩=false:=(zgc q2 6).2
  have c3:(((wy.setCell ⟨G,4,none⟩ (.slice none 0 0)).setCell ⟨G,5,none⟩ (.slice none 0 0)).setCell ⟨G,6,none⟩ (.int .i64 0)).cell? ⟨G,7,none⟩=some (.int .i64 ta):=(zgc q3 7).1.trans rfl
  have z3:(((wy.setCell ⟨G,4,none⟩ (.slice none 0 0)).setCell ⟨G,5,none⟩ (.slice none 0 0)).setCell ⟨G,6,none⟩ (.int .i64 0)).frozen? ⟨G,7,none⟩=false:=(zgc q3 7).2
  have c4:((((wy.setCell ⟨G,4,none⟩ (.slice none 0 0)).setCell ⟨G,5,none⟩ (.slice none 0 0)).setCell ⟨G,6,none⟩ (.int .i64 0)).setCell ⟨G,7,none⟩ (.int .i64 0)).cell? ⟨G,8,none⟩=some (.int .i64 tx):=(zgc q4 8).1.trans rfl
  have z4:((((wy.setCell ⟨G,4,none⟩ (.slice none 0 0)).setCell ⟨G,5,none⟩ (.slice none 0 0)).setCell ⟨G,6,none⟩ (.int .i64 0)).setCell ⟨G,7,none⟩ (.int .i64 0)).frozen? ⟨G,8,none⟩=false:=(zgc q4 8).2
  have c5:(((((wy.setCell ⟨G,4,none⟩ (.slice none 0 0)).setCell ⟨G,5,none⟩ (.slice none 0 0)).setCell ⟨G,6,none⟩ (.int .i64 0)).setCell ⟨G,7,none⟩ (.int .i64 0)).setCell ⟨G,8,none⟩ (.int .i64 0)).cell? ⟨G,9,none⟩=some (.int .i64 ty):=(zgc q5 9).1.trans rfl
  have z5:(((((wy.setCell ⟨G,4,none⟩ (.slice none 0 0)).setCell ⟨G,5,none⟩ (.slice none 0 0)).setCell ⟨G,6,none⟩ (.int .i64 0)).setCell ⟨G,7,none⟩ (.int .i64 0)).setCell ⟨G,8,none⟩ (.int .i64 0)).frozen? ⟨G,9,none⟩=false:=(zgc q5 9).2
  clear q0 q1 q2 q3 q4 q5
  have R:=H2.reset (v':=((((((wy.setCell ⟨G,4,none⟩ (.slice none 0 0)).setCell ⟨G,5,none⟩ (.slice none 0 0)).setCell ⟨G,6,none⟩ (.int .i64 0)).setCell ⟨G,7,none⟩ (.int .i64 0)).setCell ⟨G,8,none⟩ (.int .i64 0)).setCell ⟨G,9,none⟩ (.int .i64 0))) (fun b hn=>by rw[Below.heap_setCell _ _ _ _ hn,Below.heap_setCell _ _ _ _ hn,Below.heap_setCell _ _ _ _ hn,Below.heap_setCell _ _ _ _ hn,Below.heap_setCell _ _ _ _ hn,Below.heap_setCell _ _ _ _ hn]) (by simp only[World.size_setCell]) (by simp only[set_os]) (by simp only[set_tape]) (by simp only[set_output]) (q6.trans (by unfold gcells;rfl))
  go_wp2_with fail
  exact bodyPost_end (results_none Tryz.results132 _ _ _) rfl ⟨⟨_,rfl⟩,M',⟨s',R.1⟩,((VX.mv.trans V1.mv).trans V2).trans R.2⟩
set_option maxHeartbeats 1000000
def Kept(S S':GRec):Prop:=S'.pv=S.pv∧S'.np=S.np∧S'.rv=S.rv∧S'.nr=S.nr∧S'.sv=S.sv∧S'.ret=S.ret
theorem Kept.refl(S:GRec):Kept S S:=⟨rfl,rfl,rfl,rfl,rfl,rfl⟩
theorem Kept.trans{A B C:GRec}(h:Kept A B)(k:Kept B C):Kept A C:=⟨k.1.trans h.1,k.2.1.trans h.2.1,k.2.2.1.trans h.2.2.1,k.2.2.2.1.trans h.2.2.2.1,k.2.2.2.2.1.trans h.2.2.2.2.1,k.2.2.2.2.2.trans h.2.2.2.2.2⟩
theorem Same.kept{S S':GRec}(h:Same S S'):Kept S S':=⟨h.1,h.2.1,h.2.2.2.2.2.2.1,h.2.2.2.2.2.2.2.1,h.2.2.2.2.2.2.2.2.1,h.2.2.2.2.2.2.2.2.2⟩
theorem closed_kept(S:GRec)(s':Value):Kept S (Closed S s'):=⟨rfl,rfl,rfl,rfl,rfl,rfl⟩
theorem ends_any(base g G:Nat)(a0:Option Addr)(len cap:Nat)(M:Tmap)(N:Nat)(S:GRec)(v:World)(h:Gok base g G a0 len cap M N S v)(hN:N+3≤10000)(hw:S.ret=1∨S.ret=8∨S.ret=16∨S.ret=32) :
  Calls Tryz.prog 98 #[.pointer (some ⟨G,0,none⟩)] v fun e v'=>(∃ r,e=.returned r)∧∃ M' S',Gok base g G a0 len cap M' (N+3) S' v'∧Kept S S'∧Mv g G M M' v v'∧1≤S'.nb:=by
 have c0:v.cell? ⟨G,0,none⟩=some (.pointer (some ⟨g,0,none⟩)):=(zgc h.cells 0).1.trans rfl
 go_enter Tryz.func98,Tryz.ntmps98
 go_wp2_with (first|(go_at_call 30;refine (once_any g a0 len cap _ _ h.rd (by omega)).mono ?_;rintro e w1 ⟨bb,rfl,hr1,hg1⟩;obtain⟨H1,V1⟩:=h.read hr1 hg1;have d2:w1.cell? ⟨G,2,none⟩=some (.int .i64 S.ret):=(zgc H1.cells 2).1.trans rfl;clear hr1 hg1)|(go_at_call 130;refine (pick_any base g G a0 len cap M N S S.ret w1 H1 (by omega) hw).mono ?_;rintro e w2 ⟨n2,rfl,M2,S2,H2,hS2,V2⟩)|(go_at_call 132;refine (close_any base g G a0 len cap _ _ _ _ _ _ _ _ H2 (by omega)).mono ?_;rintro e w3 ⟨⟨r,rfl⟩,M3,s3,H3,V3⟩)|(go_at_call 132;refine (close_any base g G a0 len cap _ _ _ _ _ _ _ _ H1 (by omega)).mono ?_;rintro e w3 ⟨⟨r,rfl⟩,M3,s3,H3,V3⟩))
 all_goals first
  | exact bodyPost_end (results_none Tryz.results98 _ _ _) rfl ⟨⟨_,rfl⟩,M3,_,H3.mono (by omega) hN,hS2.kept.trans (closed_kept _ _),(V1.mv.trans V2.mv).trans V3,Nat.le_add_left 1 _⟩
  | exact bodyPost_ret (results_none Tryz.results98 _ _ _) rfl ⟨⟨_,rfl⟩,M3,_,H3.mono (by omega) hN,closed_kept _ _,V1.mv.trans V3,Nat.le_add_left 1 _⟩
def Sb(base g G:Nat)(a0:Option Addr)(len cap:Nat)(M:Tmap)(N:Nat)(S:GRec)(v:World)(j:Nat)(M':Tmap)(S':GRec)(w:World):Prop:=Gok base g G a0 len cap M' (N+j) S' w∧Kept S S'∧Mv g G M M' v w
variable {base g G len cap N j:Nat} {a0:Option Addr} {M M':Tmap} {S S':GRec} {v w:World}
theorem Gok.sb(h:Gok base g G a0 len cap M N S v):Sb base g G a0 len cap M N S v 0 M S v:=⟨h,Kept.refl _,Mv.refl _ _ _ _⟩
theorem Sb.cell0(h:Sb base g G a0 len cap M N S v j M' S' w):w.cell? ⟨G,0,none⟩=some (.pointer (some ⟨g,0,none⟩)):=(zgc h.1.cells 0).1.trans rfl
theorem Sb.mono{i:Nat}(h:Sb base g G a0 len cap M N S v j M' S' w)(hj:j≤i)(hN:N+i≤10000):Sb base g G a0 len cap M N S v i M' S' w:=⟨h.1.mono (by omega) hN,h.2⟩
theorem Sb.read{w':World}(h:Sb base g G a0 len cap M N S v j M' S' w)(hr:Rd g a0 len cap w')(k:w.grownBy w' (some g)):Sb base g G a0 len cap M N S v j M' S' w' :=
 ⟨(h.1.read hr k).1,h.2.1,h.2.2.trans (h.1.read hr k).2.mv⟩
theorem ParW.mv{v':World}(h:ParW M S v)(hS:Kept S S')(k:Mv g G M M' v v'):ParW M' S' v':=fun hn=>by
 obtain⟨s1,s2,s7,s8,s9,s10⟩:=hS
 rw[s8] at hn
 obtain⟨gs,cs,ms,e1,e2,e3⟩:=h hn
 obtain⟨f1,f2⟩:=k.hold gs _ _ e2 (.inr rfl)
 refine⟨gs,cs,ms,by rw[s9,s8];exact e1,f2,fun j hj=>?_⟩
 rw[s8] at hj
 obtain⟨u,n,c,g1,g2,g3⟩:=e3 j hj
 refine⟨u,n,c,(cell_blk f1).trans g1,g2,fun hp=>?_⟩
 obtain⟨gp,mp,r1,r2,r3⟩:=g3 hp
 obtain⟨t1,t2⟩:=k.hold gp _ _ r2 (.inl rfl)
 refine⟨gp,mp,r1,t2,fun i hi=>?_⟩
 obtain⟨x,x1,x2⟩:=r3 i hi
 exact⟨x,(cell_blk t1).trans x1,x2⟩
theorem pick_sb(h:Sb base g G a0 len cap M N S v j M' S' w)(x:Int)(hx:x=1∨x=8∨x=16∨x=32)(hN:N+j+2≤10000) :
  Calls Tryz.prog 130 #[.pointer (some ⟨G,0,none⟩),.int .i64 x] w fun e w'=>∃ n:Int,e=.returned (.int .i64 n)∧∃ M2 S2,Sb base g G a0 len cap M N S v (j+2) M2 S2 w'∧Same S' S2∧Mov g G M' M2 w w':=by
 refine (pick_any base g G a0 len cap M' (N+j) S' x w h.1 hN hx).mono ?_
 rintro e w' ⟨n,rfl,M2,S2,H2,hS2,V2⟩
 exact⟨n,rfl,M2,S2,⟨H2,h.2.1.trans hS2.kept,h.2.2.trans V2.mv⟩,hS2,V2⟩
theorem put_sb(h:Sb base g G a0 len cap M N S v j M' S' w)(op iw a b c imm:Int)(hN:N+j+2≤10000) :
  Calls Tryz.prog 128 #[.pointer (some ⟨G,0,none⟩),.agg #[.int .i64 op,.int .i64 iw,.int .i64 a,.int .i64 b,.int .i64 c,.int .i64 imm,.slice none 0 0]] w fun e w'=>∃ n:Int,e=.returned (.int .i64 n)∧∃ M2 S2,Sb base g G a0 len cap M N S v (j+2) M2 S2 w'∧Same S' S2∧Mov g G M' M2 w w':=by
 refine (put_any base g G a0 len cap M' (N+j) S' op iw a b c imm none 0 0 w h.1 hN ⟨none,0,rfl,.inl rfl⟩ (by omega)).mono ?_
 rintro e w' ⟨n,rfl,M2,S2,H2,hS2,_,V2⟩
 exact⟨n,rfl,M2,S2,⟨H2,h.2.1.trans hS2.kept,h.2.2.trans V2.mv⟩,hS2,V2⟩
theorem phi_sb(h:Sb base g G a0 len cap M N S v j M' S' w)(x:Int)(u:Option Addr)(na q:Nat)(hav:SlN M' 2 (.slice u na q) na)(hna:na≤N+j)(hN:N+j+2≤10000)(h1a:1≤na:=by omega) :
  Calls Tryz.prog 133 #[.pointer (some ⟨G,0,none⟩),.int .i64 x,.slice u na q] w fun e w'=>∃ n:Int,e=.returned (.int .i64 n)∧∃ M2 S2,Sb base g G a0 len cap M N S v (j+2) M2 S2 w'∧S2.bv=S'.bv∧S2.nb=S'.nb∧S2.nph=S'.nph+1∧Mv g G M' M2 w w':=by
 refine (phi_any base g G a0 len cap M' (N+j) S' x u na q w h.1 hN hav hna h1a).mono ?_
 rintro e w' ⟨n,rfl,M2,S2,H2,⟨s',hS2⟩,V2⟩
 refine⟨n,rfl,M2,S2,⟨H2,h.2.1.trans ?_,h.2.2.trans V2⟩,?_,?_,?_,V2⟩
 ·rw[hS2];exact⟨rfl,rfl,rfl,rfl,rfl,rfl⟩
 all_goals rw[hS2]
theorem close_sb(h:Sb base g G a0 len cap M N S v j M' S' w)(kd ta tx ty:Int)(hN:N+j+1≤10000) :
  Calls Tryz.prog 132 #[.pointer (some ⟨G,0,none⟩),.agg #[.int .i64 kd,.int .i64 ta,.int .i64 tx,.int .i64 ty]] w fun e w'=>(∃ r,e=.returned r)∧∃ M2 s',Sb base g G a0 len cap M N S v (j+1) M2 (Closed S' s') w'∧Mv g G M' M2 w w':=by
 refine (close_any base g G a0 len cap M' (N+j) S' kd ta tx ty w h.1 hN).mono ?_
 rintro e w' ⟨hr,M2,s',H2,V2⟩
 exact⟨hr,M2,s',⟨H2,h.2.1.trans (closed_kept _ _),h.2.2.trans V2⟩,V2⟩
end Go.Proofs.YtkpmiikafconmaaGreatDoor
namespace Go.Proofs.YtkpmiikafconmaaGreatDoor
open Go.RowKit
set_option maxHeartbeats 4000000
set_option maxRecDepth 100000
set_option linter.unusedVariables false
def phiB(ids:Int)(p:PhiD):Bool:=zWd p.w&&decide (p.ins.length≤10)&&p.ins.all fun n=>zBw n ids
def blockB(ids blocks funcs:Int)(b:BlockD):Bool:=b.phis.all (phiB ids)&&b.insts.all (fun i=>zIn i ids funcs)&&termB b.term ids blocks
def funcB(funcs:Int)(d:FuncD):Bool:=decide (d.params.length≤4)&&d.params.all zWd&&zWd d.ret&&decide (1≤d.blocks.length)&&decide (d.blocks.length≤10)&&decide (cntF d≤60)&&d.blocks.all (blockB (cntF d) d.blocks.length funcs)
def modB(l:List FuncD):Bool:=decide (1≤l.length)&&decide (l.length≤3)&&l.all (funcB l.length)
theorem phiB_w{ids:Int}{p:PhiD}(h:zWd p.w=false):¬phiB ids p=true:=by simp[phiB,h]
theorem phiB_l{ids:Int}{p:PhiD}(h:¬p.ins.length≤10):¬phiB ids p=true:=by simp[phiB,h]
theorem phiB_a{ids:Int}{p:PhiD}(h:(p.ins.all fun n=>zBw n ids)=false):¬phiB ids p=true:=by simp[phiB,h]
theorem phiB_t{ids:Int}{p:PhiD}(h:zWd p.w=true)(h1:p.ins.length≤10)(h2:(p.ins.all fun n=>zBw n ids)=true):phiB ids p=true:=by simp[phiB,h,h1,h2]
structure RoomB(x:BlockD)(v0:Option Addr)(q0:Nat)(v1:Option Addr)(q1:Nat)(ids blocks funcs:Int)(w w1:World):Prop where
 cells:w1.cell? ⟨w.heap.size,0,none⟩=some (.slice v0 x.phis.length q0)∧w1.cell? ⟨w.heap.size,1,none⟩=some (.slice v1 x.insts.length q1)∧w1.cell? ⟨w.heap.size,2,none⟩=some (.int .i64 x.term.kind)∧w1.cell? ⟨w.heap.size,3,none⟩=some (.int .i64 x.term.a)∧w1.cell? ⟨w.heap.size,4,none⟩=some (.int .i64 x.term.x)∧w1.cell? ⟨w.heap.size,5,none⟩=some (.int .i64 x.term.y)∧w1.cell? ⟨w.heap.size+1,0,none⟩=some (.int .i64 ids)∧w1.cell? ⟨w.heap.size+1,1,none⟩=some (.int .i64 blocks)∧w1.cell? ⟨w.heap.size+1,2,none⟩=some (.int .i64 funcs)
 below:Below w.heap.size w w1
 size:w.heap.size+2≤w1.heap.size
theorem RoomB.keep{x:BlockD}{v0 v1:Option Addr}{q0 q1:Nat}{ids blocks funcs:Int}{w w1 w2:World}(h:RoomB x v0 q0 v1 q1 ids blocks funcs w w1)(k:Below w1.heap.size w1 w2):RoomB x v0 q0 v1 q1 ids blocks funcs w w2:=by
 have hz:=h.size
 have e0:∀ o,w2.cell? ⟨w.heap.size,o,none⟩=w1.cell? ⟨w.heap.size,o,none⟩:=fun o=>zcB (k.block _ (by omega))
 have e1:∀ o,w2.cell? ⟨w.heap.size+1,o,none⟩=w1.cell? ⟨w.heap.size+1,o,none⟩:=fun o=>zcB (k.block _ (by omega))
 refine⟨?_,h.below.trans (k.mono (by omega)),Nat.le_trans hz k.size⟩
 simp only[e0,e1]
 exact h.cells
theorem RoomB.start{x:BlockD}{v0 v1:Option Addr}{q0 q1:Nat}{ids blocks funcs:Int}{w:World}:RoomB x v0 q0 v1 q1 ids blocks funcs w ((w.alloc (.cells #[.slice v0 x.phis.length q0,.slice v1 x.insts.length q1,.int .i64 x.term.kind,.int .i64 x.term.a,.int .i64 x.term.x,.int .i64 x.term.y] 74)).alloc (.cells #[.int .i64 ids,.int .i64 blocks,.int .i64 funcs] 117)):=by
 refine⟨?_,((Below.refl _ _).alloc (Nat.le_refl _) _).alloc (by simp) _,by simp⟩
 have hb:=(Below.heap_alloc _ (.cells #[.int .i64 ids,.int .i64 blocks,.int .i64 funcs] 117) _ (by simp)).trans (zhL w (.cells #[.slice v0 x.phis.length q0,.slice v1 x.insts.length q1,.int .i64 x.term.kind,.int .i64 x.term.a,.int .i64 x.term.x,.int .i64 x.term.y] 74))
 have hl:=zhL (w.alloc (.cells #[.slice v0 x.phis.length q0,.slice v1 x.insts.length q1,.int .i64 x.term.kind,.int .i64 x.term.a,.int .i64 x.term.x,.int .i64 x.term.y] 74)) (.cells #[.int .i64 ids,.int .i64 blocks,.int .i64 funcs] 117)
 have e:(w.alloc (.cells #[.slice v0 x.phis.length q0,.slice v1 x.insts.length q1,.int .i64 x.term.kind,.int .i64 x.term.a,.int .i64 x.term.x,.int .i64 x.term.y] 74)).heap.size=w.heap.size+1:=by simp
 rw[e] at hl
 exact⟨(zcH hb).trans rfl,(zcH hb).trans rfl,(zcH hb).trans rfl,(zcH hb).trans rfl,(zcH hb).trans rfl,(zcH hb).trans rfl,(zcH hl).trans rfl,(zcH hl).trans rfl,(zcH hl).trans rfl⟩
theorem RoomB.alloc{x:BlockD}{v0 v1:Option Addr}{q0 q1:Nat}{ids blocks funcs:Int}{w w1:World}(h:RoomB x v0 q0 v1 q1 ids blocks funcs w w1)(o:Obj):RoomB x v0 q0 v1 q1 ids blocks funcs w (w1.alloc o):=h.keep ((Below.refl _ _).alloc (Nat.le_refl _) o)
theorem blockShI(lo:Nat)(x:BlockD)(v0:Option Addr)(q0:Nat)(v1:Option Addr)(q1:Nat)(ids blocks funcs:Int)(w:World)(hs:SmBlock x)(m0:PhisAt w lo v0 x.phis)(m1:InstsAt w lo v1 x.insts) :
  Calls Tryz.prog 73 #[.agg #[.slice v0 x.phis.length q0,.slice v1 x.insts.length q1,.int .i64 x.term.kind,.int .i64 x.term.a,.int .i64 x.term.x,.int .i64 x.term.y],.agg #[.int .i64 ids,.int .i64 blocks,.int .i64 funcs]] w fun e w'=>e=.returned (.bool (blockB ids blocks funcs x))∧Below w.heap.size w w':=by
 have s0:=hs.1.1
 have s1:=hs.2.1
 have SP:Hid (∀ p∈x.phis,SmPhi p):=hs.1.2
 have SN:Hid (∀ p∈x.insts,SmInst p):=hs.2.2
 have HP:Hid ((x.phis.all (phiB ids))=false→false=blockB ids blocks funcs x):=fun h=>by simp[blockB,h]
 have HI:Hid ((x.insts.all (fun i=>zIn i ids funcs))=false→false=blockB ids blocks funcs x):=fun h=>by simp[blockB,h]
 have HT:Hid ((x.phis.all (phiB ids))=true→(x.insts.all (fun i=>zIn i ids funcs))=true→termB x.term ids blocks=blockB ids blocks funcs x):=fun h h'=>by simp[blockB,h,h']
 clear hs
 go_enter Tryz.func73,Tryz.ntmps73
 go_wp2_with fail
 go_loopw [12] (fun i wr=>∃ j:Nat,j≤x.phis.length∧i=.int .i64 j∧Hid (∀ k,k<j→phiB ids (x.phis.getD k phi0)=true)∧RoomB x v0 q0 v1 q1 ids blocks funcs w wr) (fun i _=>x.phis.length-(intOf i).toNat)
 case atStart=>exact⟨0,by omega,rfl,fun k hk=>by omega,RoomB.start⟩
 case round =>
  obtain⟨j,hj,rfl,HD,hR⟩:=hrel
  obtain⟨wp,hwp⟩:∃ wp,wp=wr:=⟨_,rfl⟩
  subst hwp
  obtain⟨y0,y1,y2,y3,y4,y5,r0,r1,r2⟩:=hR.cells
  have hW:=hR.below
  by_cases hjl:j<x.phis.length
  ·rcases m0.2 with hn|⟨pb,po,rfl,hplo,hpb,hpc⟩
   ·simp[hn] at hjl
   obtain⟨hi0,⟨iu,iq,hi1,im⟩⟩:=hpc j hjl
   have hsp:=SP.out _ (getD_mem phi0 x.phis j hjl)
   generalize hp:x.phis.getD j phi0=p at hi0 hi1 im hsp
   have HPj:Hid (x.phis.getD j phi0=p):=hp
   have f0:wp.cell? ⟨pb,po+j*2,none⟩=some (.int .i64 p.w):=(zcB (hW.block pb hpb)).trans hi0
   have f1:wp.cell? ⟨pb,po+j*2+1,none⟩=some (.slice iu p.ins.length iq):=(zcB (hW.block pb hpb)).trans hi1
   have IM:=(im.keep (zaB hW lo)).keep (zaA wp (.cells #[.int .i64 p.w,.slice iu p.ins.length iq] 92) _)
   have hsp':p.ins.length≤1048576:=hsp
   have RR:Hid (RoomB x (some ⟨pb,po,none⟩) q0 v1 q1 ids blocks funcs w (wp.alloc (.cells #[.int .i64 p.w,.slice iu p.ins.length iq] 92))):=hR.alloc _
   have NO:Hid (¬phiB ids p=true→false=blockB ids blocks funcs x):=fun h=>HP.out (all_no phi0 x.phis j hjl (by rw[HPj.out];exact h))
   have YES:Hid (phiB ids p=true→∀ k,k<j+1→phiB ids (x.phis.getD k phi0)=true):=fun h k hk=>by
    by_cases e:k=j
    ·subst e;rw[HPj.out];exact h
    ·exact HD.out k (by omega)
   obtain⟨_,_,_,_,_,_,t0,t1,t2⟩:=RR.out.cells
   clear hpc hi0 hi1 im hsp hp m0 m1 hR HD HP HI HT
   cases hw:zWd p.w with
   | false =>
    have HF:Hid (false=blockB ids blocks funcs x):=NO.out (phiB_w hw)
    go_wp2_with (go_at_call 71;refine (widthI _ _).mono ?_;rintro e w' ⟨rfl,rfl⟩)
    go_ret
    exact⟨zrB HF.out,RR.out.below⟩
   | true =>
    by_cases hl:p.ins.length≤10
    ·have hl2:¬(10:Int)<p.ins.length:=by omega
     cases ha:(p.ins.all fun n=>zBw n ids) with
     | false =>
      have HF:Hid (false=blockB ids blocks funcs x):=NO.out (phiB_a ha)
      go_wp2_with (first|(go_at_call 71;refine (widthI _ _).mono ?_;rintro e w' ⟨rfl,rfl⟩)|(go_at_call 108;refine (allBelowI lo _ _ _ _ _ IM).mono ?_;rw[ha];rintro e w' ⟨rfl,rfl⟩))
      go_ret
      exact⟨zrB HF.out,RR.out.below⟩
     | true =>
      have HF:Hid (phiB ids p=true):=phiB_t hw hl ha
      go_wp2_with (first|(go_at_call 71;refine (widthI _ _).mono ?_;rintro e w' ⟨rfl,rfl⟩)|(go_at_call 108;refine (allBelowI lo _ _ _ _ _ IM).mono ?_;rw[ha];rintro e w' ⟨rfl,rfl⟩))
      go_roundw
      case rel=>exact⟨j+1,by omega,by go_num,YES.out HF.out,RR.out⟩
      case measure=>simp[intOf];omega
    ·have HF:Hid (false=blockB ids blocks funcs x):=NO.out (phiB_l hl)
     have hl2:(10:Int)<p.ins.length:=by omega
     go_wp2_with (go_at_call 71;refine (widthI _ _).mono ?_;rintro e w' ⟨rfl,rfl⟩)
     go_ret
     exact⟨zrB HF.out,RR.out.below⟩
  ·have HPA:Hid ((x.phis.all (phiB ids))=true):=all_yes phi0 x.phis (fun k hk=>HD.out k (by omega))
   have RR:Hid (RoomB x v0 q0 v1 q1 ids blocks funcs w wp):=hR
   clear hR HD HP m0
   go_wp2_with fail
   clear y0 y1 y2 y3 y4 y5 r0 r1 r2
   go_loopw [38] (fun i wr=>∃ j:Nat,j≤x.insts.length∧i=.int .i64 j∧Hid (∀ k,k<j→zIn (x.insts.getD k inst0) ids funcs=true)∧RoomB x v0 q0 v1 q1 ids blocks funcs w wr) (fun i _=>x.insts.length-(intOf i).toNat)
   case atStart=>exact⟨0,by omega,rfl,fun k hk=>by omega,RR.out⟩
   case round =>
    obtain⟨j,hj,rfl,HD,hR⟩:=hrel
    obtain⟨wq,hwq⟩:∃ wq,wq=wr:=⟨_,rfl⟩
    subst hwq
    clear RR
    obtain⟨y0,y1,y2,y3,y4,y5,r0,r1,r2⟩:=hR.cells
    have hW:=hR.below
    by_cases hjl:j<x.insts.length
    ·rcases m1.2 with hn|⟨pb,po,rfl,hplo,hpb,hpc⟩
     ·simp[hn] at hjl
     obtain⟨i0,i1,i2,i3,i4,i5,⟨iu,iq,i6,im⟩⟩:=hpc j hjl
     have hsp:=SN.out _ (getD_mem inst0 x.insts j hjl)
     generalize hp:x.insts.getD j inst0=p at i0 i1 i2 i3 i4 i5 i6 im hsp
     have HPj:Hid (x.insts.getD j inst0=p):=hp
     have f0:wq.cell? ⟨pb,po+j*7,none⟩=some (.int .i64 p.op):=(zcB (hW.block pb hpb)).trans i0
     have f1:wq.cell? ⟨pb,po+j*7+1,none⟩=some (.int .i64 p.w):=(zcB (hW.block pb hpb)).trans i1
     have f2:wq.cell? ⟨pb,po+j*7+2,none⟩=some (.int .i64 p.a):=(zcB (hW.block pb hpb)).trans i2
     have f3:wq.cell? ⟨pb,po+j*7+3,none⟩=some (.int .i64 p.b):=(zcB (hW.block pb hpb)).trans i3
     have f4:wq.cell? ⟨pb,po+j*7+4,none⟩=some (.int .i64 p.c):=(zcB (hW.block pb hpb)).trans i4
     have f5:wq.cell? ⟨pb,po+j*7+5,none⟩=some (.int .i64 p.imm):=(zcB (hW.block pb hpb)).trans i5
     have f6:wq.cell? ⟨pb,po+j*7+6,none⟩=some (.slice iu p.args.length iq):=(zcB (hW.block pb hpb)).trans i6
     have IM:=(im.keep (zaB hW lo)).keep (zaA wq (.cells #[.int .i64 p.op,.int .i64 p.w,.int .i64 p.a,.int .i64 p.b,.int .i64 p.c,.int .i64 p.imm,.slice iu p.args.length iq] 95) _)
     have hsp':p.args.length≤1048576:=hsp
     have RR:Hid (RoomB x v0 q0 (some ⟨pb,po,none⟩) q1 ids blocks funcs w (wq.alloc (.cells #[.int .i64 p.op,.int .i64 p.w,.int .i64 p.a,.int .i64 p.b,.int .i64 p.c,.int .i64 p.imm,.slice iu p.args.length iq] 95))):=hR.alloc _
     have NO:Hid (zIn p ids funcs=false→false=blockB ids blocks funcs x):=fun h=>HI.out (all_no inst0 x.insts j hjl (by rw[HPj.out,h];decide))
     have YES:Hid (zIn p ids funcs=true→∀ k,k<j+1→zIn (x.insts.getD k inst0) ids funcs=true):=fun h k hk=>by
      by_cases e:k=j
      ·subst e;rw[HPj.out];exact h
      ·exact HD.out k (by omega)
     have B:∀ B,zIn p ids funcs=B→Calls Tryz.prog 109 #[.agg #[.int .i64 p.op,.int .i64 p.w,.int .i64 p.a,.int .i64 p.b,.int .i64 p.c,.int .i64 p.imm,.slice iu p.args.length iq],.agg #[.int .i64 ids,.int .i64 blocks,.int .i64 funcs]] (wq.alloc (.cells #[.int .i64 p.op,.int .i64 p.w,.int .i64 p.a,.int .i64 p.b,.int .i64 p.c,.int .i64 p.imm,.slice iu p.args.length iq] 95)) fun e w'=>e=.returned (.bool B)∧Below (wq.alloc (.cells #[.int .i64 p.op,.int .i64 p.w,.int .i64 p.a,.int .i64 p.b,.int .i64 p.c,.int .i64 p.imm,.slice iu p.args.length iq] 95)).heap.size (wq.alloc (.cells #[.int .i64 p.op,.int .i64 p.w,.int .i64 p.a,.int .i64 p.b,.int .i64 p.c,.int .i64 p.imm,.slice iu p.args.length iq] 95)) w':=fun B h=>by
      rw[←h];exact instShI lo p iu iq ids blocks funcs _ hsp' IM
     have RA:=hR.alloc (.cells #[.int .i64 p.op,.int .i64 p.w,.int .i64 p.a,.int .i64 p.b,.int .i64 p.c,.int .i64 p.imm,.slice iu p.args.length iq] 95)
     obtain⟨_,_,_,_,_,_,t0,t1,t2⟩:=RA.cells
     clear hpc i0 i1 i2 i3 i4 i5 i6 im hsp hp m1 hR HD HI HT IM RA
     cases hb:zIn p ids funcs with
     | false =>
      have HF:Hid (false=blockB ids blocks funcs x):=NO.out hb
      have BB:=B _ hb
      clear B
      go_wp2_with (go_at_call 109;refine BB.mono ?_;rintro e w2 ⟨rfl,hb2⟩)
      go_ret
      exact⟨zrB HF.out,(RR.out.keep hb2).below⟩
     | true =>
      have HF:Hid (zIn p ids funcs=true):=hb
      have BB:=B _ hb
      clear B
      go_wp2_with (go_at_call 109;refine BB.mono ?_;rintro e w2 ⟨rfl,hb2⟩)
      go_roundw
      case rel=>exact⟨j+1,by omega,by go_num,YES.out HF.out,RR.out.keep hb2⟩
      case measure=>simp[intOf];omega
    ·have HF:Hid (termB x.term ids blocks=blockB ids blocks funcs x):=HT.out HPA.out (all_yes inst0 x.insts (fun k hk=>HD.out k (by omega)))
     have RR:Hid (RoomB x v0 q0 v1 q1 ids blocks funcs w wq):=hR
     clear hR HD HI HT m1
     go_wp2_with (go_at_call 110;refine (termShI x.term _ _ _ _).mono ?_;rintro e w2 ⟨rfl,hb2⟩)
     go_ret
     exact⟨zrB HF.out,(RR.out.keep hb2).below⟩
structure FBox(d:FuncD)(u0:Option Addr)(c0:Nat)(u2:Option Addr)(c2:Nat)(w w1:World):Prop where
 a0:w1.cell? ⟨w.heap.size,0,none⟩=some (.slice u0 d.params.length c0)
 a1:w1.cell? ⟨w.heap.size,1,none⟩=some (.int .i64 d.ret)
 a2:w1.cell? ⟨w.heap.size,2,none⟩=some (.slice u2 d.blocks.length c2)
 below:Below w.heap.size w w1
 size:w.heap.size+1≤w1.heap.size
theorem FBox.keep{d:FuncD}{u0 u2:Option Addr}{c0 c2:Nat}{w w1 w2:World}(h:FBox d u0 c0 u2 c2 w w1)(k:Below w1.heap.size w1 w2):FBox d u0 c0 u2 c2 w w2:=by
 have hz:=h.size
 exact⟨(zcB (k.block _ (by omega))).trans h.a0,(zcB (k.block _ (by omega))).trans h.a1,(zcB (k.block _ (by omega))).trans h.a2,h.below.trans (k.mono (by omega)),Nat.le_trans hz k.size⟩
theorem FBox.start{d:FuncD}{u0 u2:Option Addr}{c0 c2:Nat}{w:World}{T:TypeId}:FBox d u0 c0 u2 c2 w (w.alloc (.cells #[.slice u0 d.params.length c0,.int .i64 d.ret,.slice u2 d.blocks.length c2] T)):=by
 have hb:=zhL w (.cells #[.slice u0 d.params.length c0,.int .i64 d.ret,.slice u2 d.blocks.length c2] T)
 exact⟨(zcH hb).trans rfl,(zcH hb).trans rfl,(zcH hb).trans rfl,(Below.refl _ _).alloc (Nat.le_refl _) _,by simp⟩
theorem FBox.alloc{d:FuncD}{u0 u2:Option Addr}{c0 c2:Nat}{w w1:World}(h:FBox d u0 c0 u2 c2 w w1)(o:Obj):FBox d u0 c0 u2 c2 w (w1.alloc o):=h.keep ((Below.refl _ _).alloc (Nat.le_refl _) o)
theorem cell_far{w:World}{g o h p:Nat}{v:Value}{x:Option Value}(hn:h<g)(hx:w.cell? ⟨h,p,none⟩=x):(w.setCell ⟨g,o,none⟩ v).cell? ⟨h,p,none⟩=x:=(zcB (Below.heap_setCell _ _ _ _ (by show h≠g;omega))).trans hx
theorem cell_new{w:World}{h p:Nat}{o:Obj}{x:Value}(hn:h<w.heap.size)(hx:w.cell? ⟨h,p,none⟩=some x):(w.alloc o).cell? ⟨h,p,none⟩=some x:=(zcB (Below.heap_alloc w o h hn)).trans hx
theorem new_room{w w2:World}{a b c:Int}{T:TypeId}(h:Below (w.drew.alloc (.cells #[.int .i64 a,.int .i64 b,.int .i64 c] T)).heap.size (w.drew.alloc (.cells #[.int .i64 a,.int .i64 b,.int .i64 c] T)) w2) :
  w2.heap[w.heap.size]?=some (.cells #[.int .i64 a,.int .i64 b,.int .i64 c] T (0,0)):=by
 have h2:(w.drew.alloc (.cells #[.int .i64 a,.int .i64 b,.int .i64 c] T)).heap.size=w.drew.heap.size+1:=by simp
 have h3:w.drew.heap.size=w.heap.size:=rfl
 exact (h.block w.heap.size (by omega)).trans (zhL w.drew _)
structure RBox(R:Nat)(a b c:Int)(w1:World):Prop where
 r0:w1.cell? ⟨R,0,none⟩=some (.int .i64 a)
 r1:w1.cell? ⟨R,1,none⟩=some (.int .i64 b)
 r2:w1.cell? ⟨R,2,none⟩=some (.int .i64 c)
 lt:R<w1.heap.size
theorem RBox.keep{R:Nat}{a b c:Int}{w1 w2:World}(h:RBox R a b c w1)(k:Below w1.heap.size w1 w2):RBox R a b c w2 :=
 ⟨(zcB (k.block _ h.lt)).trans h.r0,(zcB (k.block _ h.lt)).trans h.r1,(zcB (k.block _ h.lt)).trans h.r2,Nat.lt_of_lt_of_le h.lt k.size⟩
theorem RBox.of{R:Nat}{a b c:Int}{w1:World}{T:TypeId}(h:w1.heap[R]?=some (.cells #[.int .i64 a,.int .i64 b,.int .i64 c] T (0,0))):RBox R a b c w1 :=
 ⟨(zcH h).trans rfl,(zcH h).trans rfl,(zcH h).trans rfl,(Array.getElem?_eq_some_iff.1 h).1⟩
theorem funcShI_ok(lo:Nat)(d:FuncD)(u0:Option Addr)(c0:Nat)(u2:Option Addr)(c2:Nat)(funcs:Int)(w:World)(hs:SmFunc d)(k0:IntsAt w lo u0 d.params)(k2:zBA w lo u2 d.blocks)(hp:d.params.length≤4)(ha:d.params.all zWd=true)(hr:zWd d.ret=true)(hb1:1≤d.blocks.length)(hb2:d.blocks.length≤10)(hc:cntF d≤60) :
  Calls Tryz.prog 38 #[.agg #[.slice u0 d.params.length c0,.int .i64 d.ret,.slice u2 d.blocks.length c2],.int .i64 funcs] w fun e w'=>e=.returned (.bool (funcB funcs d))∧Below w.heap.size w w':=by
 have HS:Hid (∀ p∈d.blocks,SmBlock p):=hs.2.2
 have HE:Hid (funcB funcs d=d.blocks.all (blockB (cntF d) d.blocks.length funcs)):=by show _=_;simp[funcB,hp,ha,hr,hb1,hb2,hc]
 have K1:=(k0.keep (zaA w (.cells #[.slice u0 d.params.length c0,.int .i64 d.ret,.slice u2 d.blocks.length c2] 55) _))
 have F0:=FBox.start (d:=d) (u0:=u0) (u2:=u2) (c0:=c0) (c2:=c2) (w:=w) (T:=55)
 have i1:¬(4:Int)<d.params.length:=by omega
 have i2:¬(d.blocks.length:Int)<1:=by omega
 have i3:¬(10:Int)<d.blocks.length:=by omega
 have i4:¬(60:Int)<cntF d:=by omega
 have A:=fun w k=>allWidthsI lo u0 c0 d.params w k
 simp only[show (fun n=>zWd n)=zWd from rfl] at A
 rw[ha] at A
 go_enter Tryz.func38,Tryz.ntmps38
 go_wp2_with (first|(go_at_call 70;refine (A _ K1).mono ?_;rintro e w' ⟨rfl,rfl⟩)|(go_at_call 71;refine (widthI _ _).mono ?_;rintro e w' ⟨rfl,rfl⟩))
 refine (countI_any lo d u0 c0 u2 c2 _ hs (k2.keep (zaB F0.below lo))).mono ?_
 rintro e w1 ⟨rfl,hb1'⟩
 have F1:=F0.keep hb1'
 have b0:=F1.a0
 have b1:=F1.a1
 have b2:=F1.a2
 clear hb1' F0 A K1
 go_wp2_with fail
 have z0:w.heap.size<w1.heap.size:=by have:=F1.size;omega
 have F1d:=F1.keep (Below.refl w1.heap.size w1).drew
 have b0d:=F1d.a0
 have b1d:=F1d.a1
 have b2d:=F1d.a2
 have F1n:=F1d.alloc (.cells #[.int .i64 0,.int .i64 0,.int .i64 0] 117)
 have b0n:=F1n.a0
 have b1n:=F1n.a1
 have b2n:=F1n.a2
 have KB:=k2.keep (zaB F1d.below lo)
 have KN:=k2.keep (zaB F1n.below lo)
 go_region_held2 (fun w'=>w'.cell? ⟨w.heap.size,0,none⟩=some (.slice u0 d.params.length c0)∧w'.cell? ⟨w.heap.size,1,none⟩=some (.int .i64 d.ret)∧w'.cell? ⟨w.heap.size,2,none⟩=some (.slice u2 d.blocks.length c2)) (first|with_reducible exact⟨b0d,b1d,b2d⟩|with_reducible exact⟨b0n,b1n,b2n⟩|with_reducible exact⟨e0,e1,e2⟩|with_reducible exact⟨cell_new z2 e0,cell_new z2 e1,cell_new z2 e2⟩|with_reducible exact⟨cell_far z0 (cell_far z0 (cell_far z0 e0)),cell_far z0 (cell_far z0 (cell_far z0 e1)),cell_far z0 (cell_far z0 (cell_far z0 e2))⟩|go_keep) (first|(go_at_call 72;refine (countI_any lo d u0 c0 u2 c2 _ hs KN).mono ?_;rintro e w2 ⟨rfl,hb2'⟩;have F2:=F1n.keep hb2';have e0:=F2.a0;have e1:=F2.a1;have e2:=F2.a2;have hr2:=new_room hb2';have r0:=zcH (o:=0) hr2;have r1:=zcH (o:=1) hr2;have r2:=zcH (o:=2) hr2;have q0:=zfH (o:=0) hr2;have q1:=zfH (o:=1) hr2;have q2:=zfH (o:=2) hr2)|(go_at_call 72;refine (countI_any lo d u0 c0 u2 c2 _ hs KB).mono ?_;rintro e w2 ⟨rfl,hb2'⟩;have F2:=F1d.keep hb2';have e0:=F2.a0;have e1:=F2.a1;have e2:=F2.a2;have z2:w.heap.size<w2.heap.size:=by have:=F2.size;omega))
 ·have RB:RBox w2.heap.size (cntF d) d.blocks.length funcs (w2.alloc (.cells #[.int .i64 (cntF d),.int .i64 d.blocks.length,.int .i64 funcs] 117)):=RBox.of (zhL _ _)
  have FB:=F2.alloc (.cells #[.int .i64 (cntF d),.int .i64 d.blocks.length,.int .i64 funcs] 117)
  clear e0 e1 e2 z2 hb2' F2
  clear b0 b1 b2 b0d b1d b2d b0n b1n b2n KB KN F1 F1d F1n z0
  have z0:=FB.a0
  have z1:=FB.a1
  have z2:=FB.a2
  go_wp2_with fail
  clear z0 z1 z2
  go_loopw [49] (fun i wr=>∃ j:Nat,j≤d.blocks.length∧i=.int .i64 j∧Hid (∀ k,k<j→blockB (cntF d) d.blocks.length funcs (d.blocks.getD k block0)=true)∧RBox w2.heap.size (cntF d) d.blocks.length funcs wr∧Below w.heap.size w wr) (fun i _=>d.blocks.length-(intOf i).toNat)
  case atStart=>exact⟨0,by omega,rfl,fun k hk=>by omega,RB,FB.below⟩
  case round =>
   obtain⟨j,hj,rfl,HD,hR,hW⟩:=hrel
   obtain⟨wp,hwp⟩:∃ wp,wp=wr:=⟨_,rfl⟩
   subst hwp
   clear RB FB
   by_cases hjl:j<d.blocks.length
   ·rcases k2.2 with hn|⟨bb,off,rfl,hlo,hbb,hcell⟩
    ·simp[hn] at hjl
    obtain⟨⟨p0,q0,h0,m0⟩,⟨p1,q1,h1,m1⟩,h2,h3,h4,h5⟩:=hcell j hjl
    have hsm:=HS.out _ (getD_mem block0 d.blocks j hjl)
    generalize hx:d.blocks.getD j block0=x at h0 h1 h2 h3 h4 h5 m0 m1 hsm
    have HX:Hid (d.blocks.getD j block0=x):=hx
    have f0:wp.cell? ⟨bb,off+j*6,none⟩=some (.slice p0 x.phis.length q0):=(zcB (hW.block bb hbb)).trans h0
    have f1:wp.cell? ⟨bb,off+j*6+1,none⟩=some (.slice p1 x.insts.length q1):=(zcB (hW.block bb hbb)).trans h1
    have f2:wp.cell? ⟨bb,off+j*6+2,none⟩=some (.int .i64 x.term.kind):=(zcB (hW.block bb hbb)).trans h2
    have f3:wp.cell? ⟨bb,off+j*6+3,none⟩=some (.int .i64 x.term.a):=(zcB (hW.block bb hbb)).trans h3
    have f4:wp.cell? ⟨bb,off+j*6+4,none⟩=some (.int .i64 x.term.x):=(zcB (hW.block bb hbb)).trans h4
    have f5:wp.cell? ⟨bb,off+j*6+5,none⟩=some (.int .i64 x.term.y):=(zcB (hW.block bb hbb)).trans h5
    have M0:=(m0.keep (zaB hW lo)).keep (zaA wp (.cells #[.slice p0 x.phis.length q0,.slice p1 x.insts.length q1,.int .i64 x.term.kind,.int .i64 x.term.a,.int .i64 x.term.x,.int .i64 x.term.y] 74) _)
    have M1:=(m1.keep (zaB hW lo)).keep (zaA wp (.cells #[.slice p0 x.phis.length q0,.slice p1 x.insts.length q1,.int .i64 x.term.kind,.int .i64 x.term.a,.int .i64 x.term.x,.int .i64 x.term.y] 74) _)
    have RA:=hR.keep ((Below.refl _ _).alloc (Nat.le_refl _) (.cells #[.slice p0 x.phis.length q0,.slice p1 x.insts.length q1,.int .i64 x.term.kind,.int .i64 x.term.a,.int .i64 x.term.x,.int .i64 x.term.y] 74))
    have WA:Below w.heap.size w (wp.alloc (.cells #[.slice p0 x.phis.length q0,.slice p1 x.insts.length q1,.int .i64 x.term.kind,.int .i64 x.term.a,.int .i64 x.term.x,.int .i64 x.term.y] 74)):=hW.alloc hW.size _
    have B:∀ B,blockB (cntF d) d.blocks.length funcs x=B→Calls Tryz.prog 73 #[.agg #[.slice p0 x.phis.length q0,.slice p1 x.insts.length q1,.int .i64 x.term.kind,.int .i64 x.term.a,.int .i64 x.term.x,.int .i64 x.term.y],.agg #[.int .i64 (cntF d),.int .i64 d.blocks.length,.int .i64 funcs]] (wp.alloc (.cells #[.slice p0 x.phis.length q0,.slice p1 x.insts.length q1,.int .i64 x.term.kind,.int .i64 x.term.a,.int .i64 x.term.x,.int .i64 x.term.y] 74)) fun e w'=>e=.returned (.bool B)∧Below (wp.alloc (.cells #[.slice p0 x.phis.length q0,.slice p1 x.insts.length q1,.int .i64 x.term.kind,.int .i64 x.term.a,.int .i64 x.term.x,.int .i64 x.term.y] 74)).heap.size (wp.alloc (.cells #[.slice p0 x.phis.length q0,.slice p1 x.insts.length q1,.int .i64 x.term.kind,.int .i64 x.term.a,.int .i64 x.term.x,.int .i64 x.term.y] 74)) w':=fun B h=>by
     rw[←h];exact blockShI lo x p0 q0 p1 q1 (cntF d) d.blocks.length funcs _ hsm M0 M1
    have NO:Hid (blockB (cntF d) d.blocks.length funcs x=false→false=funcB funcs d):=fun h=>by
     rw[HE.out];exact (all_no block0 d.blocks j hjl (by rw[HX.out,h];decide)).symm
    have YES:Hid (blockB (cntF d) d.blocks.length funcs x=true→∀ k,k<j+1→blockB (cntF d) d.blocks.length funcs (d.blocks.getD k block0)=true):=fun h k hk=>by
     by_cases e:k=j
     ·subst e;rw[HX.out];exact h
     ·exact HD.out k (by omega)
    have t0:=RA.r0
    have t1:=RA.r1
    have t2:=RA.r2
    have HRA:Hid (RBox w2.heap.size (cntF d) d.blocks.length funcs (wp.alloc (.cells #[.slice p0 x.phis.length q0,.slice p1 x.insts.length q1,.int .i64 x.term.kind,.int .i64 x.term.a,.int .i64 x.term.x,.int .i64 x.term.y] 74))):=RA
    have HWA:Hid (Below w.heap.size w (wp.alloc (.cells #[.slice p0 x.phis.length q0,.slice p1 x.insts.length q1,.int .i64 x.term.kind,.int .i64 x.term.a,.int .i64 x.term.x,.int .i64 x.term.y] 74))):=WA
    clear hcell h0 h1 h2 h3 h4 h5 m0 m1 hsm hx hR hW M0 M1 RA WA HD
    cases hb:blockB (cntF d) d.blocks.length funcs x with
    | false =>
     have HF:Hid (false=funcB funcs d):=NO.out hb
     have BB:=B _ hb
     clear B
     go_wp2_with (go_at_call 73;refine BB.mono ?_;rintro e w3 ⟨rfl,hb3⟩)
     go_ret
     exact⟨zrB HF.out,HWA.out.trans (hb3.mono HWA.out.size)⟩
    | true =>
     have HF:Hid (blockB (cntF d) d.blocks.length funcs x=true):=hb
     have BB:=B _ hb
     clear B
     go_wp2_with (go_at_call 73;refine BB.mono ?_;rintro e w3 ⟨rfl,hb3⟩)
     go_roundw
     case rel=>exact⟨j+1,by omega,by go_num,YES.out HF.out,HRA.out.keep hb3,HWA.out.trans (hb3.mono HWA.out.size)⟩
     case measure=>simp[intOf];omega
   ·have HF:Hid (true=funcB funcs d):=by
     show _=_
     rw[HE.out];exact (all_yes block0 d.blocks (fun k hk=>HD.out k (by omega))).symm
    go_wp2_with fail
    go_ret
    exact⟨zrB HF.out,hW⟩
 ·have RB:RBox w1.heap.size (cntF d) d.blocks.length funcs (((w2.setCell ⟨w1.heap.size,0,none⟩ (.int .i64 (cntF d))).setCell ⟨w1.heap.size,1,none⟩ (.int .i64 d.blocks.length)).setCell ⟨w1.heap.size,2,none⟩ (.int .i64 funcs)):=RBox.of (zhS (zhS (zhS hr2)))
  have FB:FBox d u0 c0 u2 c2 w (((w2.setCell ⟨w1.heap.size,0,none⟩ (.int .i64 (cntF d))).setCell ⟨w1.heap.size,1,none⟩ (.int .i64 d.blocks.length)).setCell ⟨w1.heap.size,2,none⟩ (.int .i64 funcs)) :=
   ⟨cell_far z0 (cell_far z0 (cell_far z0 e0)),cell_far z0 (cell_far z0 (cell_far z0 e1)),cell_far z0 (cell_far z0 (cell_far z0 e2)),((F2.below.setCell (by dsimp only;omega) _).setCell (by dsimp only;omega) _).setCell (by dsimp only;omega) _,by have:=F2.size;simp[World.setCell];omega⟩
  generalize ((w2.setCell ⟨w1.heap.size,0,none⟩ (.int .i64 (cntF d))).setCell ⟨w1.heap.size,1,none⟩ (.int .i64 d.blocks.length)).setCell ⟨w1.heap.size,2,none⟩ (.int .i64 funcs)=wz at RB FB ⊢
  clear e0 e1 e2 hb2' F2 hr2 r0 r1 r2 q0 q1 q2
  clear b0 b1 b2 b0d b1d b2d b0n b1n b2n KB KN F1 F1d F1n z0
  have z0:=FB.a0
  have z1:=FB.a1
  have z2:=FB.a2
  go_wp2_with fail
  clear z0 z1 z2
  go_loopw [49] (fun i wr=>∃ j:Nat,j≤d.blocks.length∧i=.int .i64 j∧Hid (∀ k,k<j→blockB (cntF d) d.blocks.length funcs (d.blocks.getD k block0)=true)∧RBox w1.heap.size (cntF d) d.blocks.length funcs wr∧Below w.heap.size w wr) (fun i _=>d.blocks.length-(intOf i).toNat)
  case atStart=>exact⟨0,by omega,rfl,fun k hk=>by omega,RB,FB.below⟩
  case round =>
   obtain⟨j,hj,rfl,HD,hR,hW⟩:=hrel
   obtain⟨wp,hwp⟩:∃ wp,wp=wr:=⟨_,rfl⟩
   subst hwp
   clear RB FB
   by_cases hjl:j<d.blocks.length
   ·rcases k2.2 with hn|⟨bb,off,rfl,hlo,hbb,hcell⟩
    ·simp[hn] at hjl
    obtain⟨⟨p0,q0,h0,m0⟩,⟨p1,q1,h1,m1⟩,h2,h3,h4,h5⟩:=hcell j hjl
    have hsm:=HS.out _ (getD_mem block0 d.blocks j hjl)
    generalize hx:d.blocks.getD j block0=x at h0 h1 h2 h3 h4 h5 m0 m1 hsm
    have HX:Hid (d.blocks.getD j block0=x):=hx
    have f0:wp.cell? ⟨bb,off+j*6,none⟩=some (.slice p0 x.phis.length q0):=(zcB (hW.block bb hbb)).trans h0
    have f1:wp.cell? ⟨bb,off+j*6+1,none⟩=some (.slice p1 x.insts.length q1):=(zcB (hW.block bb hbb)).trans h1
    have f2:wp.cell? ⟨bb,off+j*6+2,none⟩=some (.int .i64 x.term.kind):=(zcB (hW.block bb hbb)).trans h2
    have f3:wp.cell? ⟨bb,off+j*6+3,none⟩=some (.int .i64 x.term.a):=(zcB (hW.block bb hbb)).trans h3
    have f4:wp.cell? ⟨bb,off+j*6+4,none⟩=some (.int .i64 x.term.x):=(zcB (hW.block bb hbb)).trans h4
    have f5:wp.cell? ⟨bb,off+j*6+5,none⟩=some (.int .i64 x.term.y):=(zcB (hW.block bb hbb)).trans h5
    have M0:=(m0.keep (zaB hW lo)).keep (zaA wp (.cells #[.slice p0 x.phis.length q0,.slice p1 x.insts.length q1,.int .i64 x.term.kind,.int .i64 x.term.a,.int .i64 x.term.x,.int .i64 x.term.y] 74) _)
    have M1:=(m1.keep (zaB hW lo)).keep (zaA wp (.cells #[.slice p0 x.phis.length q0,.slice p1 x.insts.length q1,.int .i64 x.term.kind,.int .i64 x.term.a,.int .i64 x.term.x,.int .i64 x.term.y] 74) _)
    have RA:=hR.keep ((Below.refl _ _).alloc (Nat.le_refl _) (.cells #[.slice p0 x.phis.length q0,.slice p1 x.insts.length q1,.int .i64 x.term.kind,.int .i64 x.term.a,.int .i64 x.term.x,.int .i64 x.term.y] 74))
    have WA:Below w.heap.size w (wp.alloc (.cells #[.slice p0 x.phis.length q0,.slice p1 x.insts.length q1,.int .i64 x.term.kind,.int .i64 x.term.a,.int .i64 x.term.x,.int .i64 x.term.y] 74)):=hW.alloc hW.size _
    have B:∀ B,blockB (cntF d) d.blocks.length funcs x=B→Calls Tryz.prog 73 #[.agg #[.slice p0 x.phis.length q0,.slice p1 x.insts.length q1,.int .i64 x.term.kind,.int .i64 x.term.a,.int .i64 x.term.x,.int .i64 x.term.y],.agg #[.int .i64 (cntF d),.int .i64 d.blocks.length,.int .i64 funcs]] (wp.alloc (.cells #[.slice p0 x.phis.length q0,.slice p1 x.insts.length q1,.int .i64 x.term.kind,.int .i64 x.term.a,.int .i64 x.term.x,.int .i64 x.term.y] 74)) fun e w'=>e=.returned (.bool B)∧Below (wp.alloc (.cells #[.slice p0 x.phis.length q0,.slice p1 x.insts.length q1,.int .i64 x.term.kind,.int .i64 x.term.a,.int .i64 x.term.x,.int .i64 x.term.y] 74)).heap.size (wp.alloc (.cells #[.slice p0 x.phis.length q0,.slice p1 x.insts.length q1,.int .i64 x.term.kind,.int .i64 x.term.a,.int .i64 x.term.x,.int .i64 x.term.y] 74)) w':=fun B h=>by
     rw[←h];exact blockShI lo x p0 q0 p1 q1 (cntF d) d.blocks.length funcs _ hsm M0 M1
    have NO:Hid (blockB (cntF d) d.blocks.length funcs x=false→false=funcB funcs d):=fun h=>by
     rw[HE.out];exact (all_no block0 d.blocks j hjl (by rw[HX.out,h];decide)).symm
    have YES:Hid (blockB (cntF d) d.blocks.length funcs x=true→∀ k,k<j+1→blockB (cntF d) d.blocks.length funcs (d.blocks.getD k block0)=true):=fun h k hk=>by
     by_cases e:k=j
     ·subst e;rw[HX.out];exact h
     ·exact HD.out k (by omega)
    have t0:=RA.r0
    have t1:=RA.r1
    have t2:=RA.r2
    have HRA:Hid (RBox w1.heap.size (cntF d) d.blocks.length funcs (wp.alloc (.cells #[.slice p0 x.phis.length q0,.slice p1 x.insts.length q1,.int .i64 x.term.kind,.int .i64 x.term.a,.int .i64 x.term.x,.int .i64 x.term.y] 74))):=RA
    have HWA:Hid (Below w.heap.size w (wp.alloc (.cells #[.slice p0 x.phis.length q0,.slice p1 x.insts.length q1,.int .i64 x.term.kind,.int .i64 x.term.a,.int .i64 x.term.x,.int .i64 x.term.y] 74))):=WA
    clear hcell h0 h1 h2 h3 h4 h5 m0 m1 hsm hx hR hW M0 M1 RA WA HD
    cases hb:blockB (cntF d) d.blocks.length funcs x with
    | false =>
     have HF:Hid (false=funcB funcs d):=NO.out hb
     have BB:=B _ hb
     clear B
     go_wp2_with (go_at_call 73;refine BB.mono ?_;rintro e w3 ⟨rfl,hb3⟩)
     go_ret
     exact⟨zrB HF.out,HWA.out.trans (hb3.mono HWA.out.size)⟩
    | true =>
     have HF:Hid (blockB (cntF d) d.blocks.length funcs x=true):=hb
     have BB:=B _ hb
     clear B
     go_wp2_with (go_at_call 73;refine BB.mono ?_;rintro e w3 ⟨rfl,hb3⟩)
     go_roundw
     case rel=>exact⟨j+1,by omega,by go_num,YES.out HF.out,HRA.out.keep hb3,HWA.out.trans (hb3.mono HWA.out.size)⟩
     case measure=>simp[intOf];omega
   ·have HF:Hid (true=funcB funcs d):=by
     show _=_
     rw[HE.out];exact (all_yes block0 d.blocks (fun k hk=>HD.out k (by omega))).symm
    go_wp2_with fail
    go_ret
    exact⟨zrB HF.out,hW⟩
end Go.Proofs.YtkpmiikafconmaaGreatDoor
