import Derived.Test.YtkpmiikafconmaaGreatDoorGnUJp
namespace Go.Proofs.YtkpmiikafconmaaGreatDoor
open Go.RowKit Go.Deep
set_option linter.unusedVariables false
def FMem(w:World)(lo H:Nat)(d:FuncD)(up ub:Option Addr):Prop:=∃ w1:World,w1.heap.size≤H∧IntsAt w1 lo up d.params∧zBA w1 lo ub d.blocks∧Agree lo w1 w
theorem FMem.step{w w':World}{lo H:Nat}{d:FuncD}{up ub:Option Addr}(h:FMem w lo H d up ub)(hs:w.heap.size≤w'.heap.size)(hb:∀ b,lo≤b→b<H→w'.heap[b]?=w.heap[b]?):FMem w' lo H d up ub:=by
 obtain⟨w1,h1,h2,h3,h4,h5⟩:=h
 exact⟨w1,h1,h2,h3,Nat.le_trans h4 hs,fun b k1 k2=>(hb b k1 (by omega)).trans (h5 b k1 k2)⟩
theorem FMem.read{w:World}{lo H:Nat}{d:FuncD}{up ub:Option Addr}(h:FMem w lo H d up ub):IntsAt w lo up d.params∧zBA w lo ub d.blocks:=by
 obtain⟨w1,h1,h2,h3,h4⟩:=h
 exact⟨h2.keep h4,h3.keep h4⟩
def Wds(w:World)(lo H:Nat)(up:Option Addr)(np:Nat):Prop:=np≤2∧(0<np→∃ gp,up=some ⟨gp,0,none⟩∧lo≤gp∧gp<H∧(∃ cur,w.heap[gp]?=some (.cells cur 2 (0,0)))∧∀ i,i<np→∃ x:Int,w.cell? ⟨gp,i,none⟩=some (.int .i64 x)∧(x=1∨x=8∨x=16∨x=32))
theorem Wds.step{w w':World}{lo H np:Nat}{up:Option Addr}(h:Wds w lo H up np)(hb:∀ b,lo≤b→b<H→w'.heap[b]?=w.heap[b]?):Wds w' lo H up np:=by
 refine⟨h.1,fun hn=>?_⟩
 obtain⟨gp,h1,h2,h3,⟨cur,h4⟩,h5⟩:=h.2 hn
 refine⟨gp,h1,h2,h3,⟨cur,(hb gp h2 h3).trans h4⟩,fun i hi=>?_⟩
 obtain⟨x,x1,x2⟩:=h5 i hi
 exact⟨x,(cell_blk (hb gp h2 h3)).trans x1,x2⟩
structure Fnc(w:World)(lo H:Nat)(d:FuncD)(up ub:Option Addr):Prop where
 mem:FMem w lo H d up ub
 sm:SmFunc d
 one:1≤d.blocks.length
 wds:Wds w lo H up d.params.length
theorem Fnc.step{w w':World}{lo H:Nat}{d:FuncD}{up ub:Option Addr}(h:Fnc w lo H d up ub)(hs:w.heap.size≤w'.heap.size)(hb:∀ b,lo≤b→b<H→w'.heap[b]?=w.heap[b]?):Fnc w' lo H d up ub :=
 ⟨h.mem.step hs hb,h.sm,h.one,h.wds.step hb⟩
theorem Fnc.more{w:World}{lo H H':Nat}{d:FuncD}{up ub:Option Addr}(h:Fnc w lo H d up ub)(hH:H≤H'):Fnc w lo H' d up ub:=by
 obtain⟨⟨w1,a1,a2⟩,h2,h3,h4,h5⟩:=h
 refine⟨⟨w1,by omega,a2⟩,h2,h3,h4,fun hn=>?_⟩
 obtain⟨gp,b1,b2,b3,b4⟩:=h5 hn
 exact⟨gp,b1,b2,by omega,b4⟩
theorem Fnc.keep{w w':World}{lo H g:Nat}{d:FuncD}{up ub:Option Addr}(h:Fnc w lo H d up ub)(hb:∀ b,b<w.heap.size→b≠g→w'.heap[b]?=w.heap[b]?)(hs:w.heap.size≤w'.heap.size)(hg:g<lo):Fnc w' lo H d up ub:=by
 obtain⟨⟨w1,a1,a2,a3,a4,a5⟩,h2,h3,h4,h5⟩:=h
 refine⟨⟨w1,a1,a2,a3,by omega,fun b b1 b2=>(hb b (by omega) (by omega)).trans (a5 b b1 b2)⟩,h2,h3,h4,fun hn=>?_⟩
 obtain⟨gp,c1,c2,c3,⟨cur,c4⟩,c5⟩:=h5 hn
 have hl:=(Array.getElem?_eq_some_iff.1 c4).1
 have he:=hb gp hl (by omega)
 refine⟨gp,c1,c2,c3,⟨cur,he.trans c4⟩,fun i hi=>?_⟩
 obtain⟨x,x1,x2⟩:=c5 i hi
 exact⟨x,(cell_blk he).trans x1,x2⟩
theorem fnc_of{base N up np cp ub nb cb:_}{M:Tmap}{w:World}{ret:Int}(th:TH base M N w)(hN:N≤10000)(h1:SlN M 2 (.slice up np cp) np)(h2:SlN M 74 (.slice ub nb cb) nb)(hn:np≤2)(hb:1≤nb∧nb≤400)(hw:∀ k,k<np→∃ x:Int,rowAt w (.slice up np cp) k=some (.int .i64 x)∧(x=1∨x=8∨x=16∨x=32)) :
  ∃ d:FuncD,d.params.length=np∧d.ret=ret∧d.blocks.length=nb∧Fnc w base w.heap.size d up ub:=by
 obtain⟨l,l1,l2⟩:=ints_of th h1 (by omega)
 obtain⟨m,m1,m2,m3⟩:=blocks_of th hN h2 (by omega)
 refine⟨⟨l,ret,m⟩,l1,rfl,m1,⟨w,Nat.le_refl _,l2,m2,Nat.le_refl _,fun _ _ _=>rfl⟩,⟨by dsimp only;omega,by dsimp only;omega,m3⟩,by dsimp only;omega,by dsimp only;omega,fun hp=>?_⟩
 dsimp only at hp
 rw[l1] at hp
 obtain⟨u',c',e,h⟩:=h1
 cases e
 rcases h with h|⟨gp,mp,rfl,hM,hm⟩
 ·omega
 ·obtain⟨t1,cur,t2,t3⟩:=th gp _ _ hM
  refine⟨gp,rfl,t1,(Array.getElem?_eq_some_iff.1 t2).1,⟨cur,t2⟩,fun i hi=>?_⟩
  dsimp only at hi
  rw[l1] at hi
  exact hw i hi
def Two(v:Value)(g H:Nat)(w w':World):Prop:=(v.ownBlock=some g∧w.grownBy w' (some g))∨(H≤g∧w.grownBy w' none)
theorem Two.grown{v:Value}{g H:Nat}{w w':World}(h:Two v g H w w'):w.grownBy w' v.ownBlock:=by
 rcases h with⟨h1,h2⟩|⟨_,h2⟩
 ·rw[h1];exact h2
 ·exact⟨h2.os,h2.tape,h2.output,h2.size,fun b hb _=>h2.block b hb (by simp)⟩
theorem Two.at{v:Value}{g H:Nat}{w w':World}(h:Two v g H w w'):v.ownBlock=some g∨H≤g:=by
 rcases h with⟨h1,_⟩|⟨h1,_⟩
 ·exact .inl h1
 ·exact .inr h1
theorem Two.blk{v:Value}{g H b:Nat}{w w':World}(h:Two v g H w w')(hb:b<w.heap.size):w'.heap[b]?=w.heap[b]?∨(v.ownBlock=some b∧b=g):=by
 rcases h with⟨h1,h2⟩|⟨_,h2⟩
 ·by_cases e:b=g
  ·exact .inr ⟨e▸h1,e⟩
  ·exact .inl (h2.block b hb (by intro k;exact e (Option.some.inj k)))
 ·exact .inl (h2.block b hb (by simp))
theorem run_two{base n sz:Nat}{T t ty:TypeId}{s:Value}{v:World}{xs:List Value}(i:TypeInfo)(z:Value)(bytes:Nat)(ht:Tryz.prog.underlying t=some (.slice T))(hi:Tryz.prog.info? T=some i)(hz:i.zero=some z)(hsz:i.size=sz)(hby:i.bytes=bytes)(hzs:z.cells.size=sz)(hs0:0<sz)
  (hx:v.ownsRow base T sz s n xs) (hb:base≤v.heap.size) (hn:n+1≤maxLen) (hmul:(n+1)*bytes≤140737488355328)
  (ad:Addr) (c:Nat) (news:List Value) (hl:news.length=sz) (hnews:∀ j u,news[j]?=some u→v.cell? (ad.add j)=some u) (h1:∀ u∈news,u.oneCell'=true) :
  ∃ s' w' g cap,(Builtin.append_ #[t,t] ty #[s,.slice (some ad) 1 c]).run Tryz.prog v=.ok s' w'∧s'=.slice (some ⟨g,0,none⟩) (n+1) cap∧w'.ownsRow base T sz (.slice (some ⟨g,0,none⟩) (n+1) cap) (n+1) (xs++news)∧Two s g v.heap.size v w'∧g<w'.heap.size:=by
 rcases hx.2 with⟨rfl,rfl⟩|⟨g,cap,cur,rfl,hg,hc,hnc,hm,hs,hk⟩
 ·have hx0:xs=[]:=by have:=hx.1;simpa using this
  subst hx0
  obtain⟨v',w',hr,h2,h3,_,_⟩:=run_append_own_at (P:=Tryz.prog) v v.heap.size t ty T i z sz bytes ht hi hz hsz hby hzs hs0 (.slice none 0 0) 0 [] ⟨by simp,.inl ⟨rfl,rfl⟩⟩ ad 1 c news (by omega) hnews h1 hn hmul (Nat.le_refl _)
  obtain⟨g',cap',rfl,hg',_⟩:=h2.form (by omega)
  have h4:=own_low (by simpa using h2) hb
  exact⟨_,w',g',cap',hr,rfl,h4,.inr ⟨hg',h3⟩,(h4.lt g' rfl).2⟩
 ·by_cases hroom:n+1≤cap
  ·obtain⟨w',hr,h2,h3⟩:=run_append_own_spare (P:=Tryz.prog) v base t ty T i sz ht hi hsz g n cap xs hx ad 1 c news (by omega) hnews h1 hroom
   exact⟨_,w',g,cap,hr,rfl,h2,.inl ⟨rfl,h3⟩,(h2.lt g rfl).2⟩
  ·have hxl:=hx.1
   obtain⟨v',w',hr,h2,h3⟩:=run_append_arg_grows (P:=Tryz.prog) v t ty T i z sz bytes ht hi hz hsz hby hzs hs0 ⟨g,0,none⟩ n cap xs hxl (hx.cells rfl) ad 1 c news (by omega) hnews (by omega) hn hmul
   obtain⟨g',cap',rfl,hg',_⟩:=h2.form (by omega)
   have h4:=own_low h2 hb
   exact⟨_,w',g',cap',hr,rfl,h4,.inr ⟨hg',h3⟩,(h4.lt g' rfl).2⟩
theorem wpList_append_two(w:World){ops:Array Oper}{rest:List Oper}{o:Oper}{a:Act}{Q:Exit→Act→World→Prop}(hgd:o.guard=none)(s x:Operand)(t:TypeId)
  (ho:o.op=.call { callee:=.builtin .append,args:=#[s,x],argTypes:=#[t,t] })
  (base:Nat) (e:TypeId) (i:TypeInfo) (z:Value) (size bytes:Nat) (ht:Tryz.prog.underlying t=some (.slice e)) (hi:Tryz.prog.info? e=some i) (hz:i.zero=some z)
  (hsize:i.size=size) (hby:i.bytes=bytes) (hzs:z.cells.size=size) (hsz:0<size)
  (v:Value) (n:Nat) (xs:List Value) (hs:a.eval s=v) (hown:w.ownsRow base e size v n xs)
  (ad:Addr) (c:Nat) (news:List Value) (hx:a.eval x=.slice (some ad) 1 c) (hl:news.length=size) (hnews:∀ j u,news[j]?=some u→w.cell? (ad.add j)=some u) (h1:∀ u∈news,u.oneCell'=true)
  (h63:n+1≤maxLen) (hbytes:(n+1)*bytes≤140737488355328) (hbase:base≤w.heap.size)
  (h:∀ g cap w',w'.ownsRow base e size (.slice (some ⟨g,0,none⟩) (n+1) cap) (n+1) (xs++news)→Two v g w.heap.size w w'→g<w'.heap.size→wpList Tryz.prog ops Q rest (a.put o.dst (.slice (some ⟨g,0,none⟩) (n+1) cap)) w'):wpList Tryz.prog ops Q (o :: rest) a w:=by
 refine wpList_row hgd s x t ho hs hx (R:=fun w' s' _=>∃ g cap,s'=.slice (some ⟨g,0,none⟩) (n+1) cap∧w'.ownsRow base e size (.slice (some ⟨g,0,none⟩) (n+1) cap) (n+1) (xs++news)∧Two v g w.heap.size w w'∧g<w'.heap.size) (fun ty=>?_) ?_
 ·obtain⟨s',w',g,cap,k1,k2,k3,k4,k5⟩:=run_two (ty:=ty) i z bytes ht hi hz hsize hby hzs hsz hown hbase h63 hbytes ad c news hl hnews h1
  exact⟨s',w',fun _=>none,k1,g,cap,k2,k3,k4,k5⟩
 ·rintro s' w' M' ⟨g,cap,rfl,k3,k4,k5⟩
  exact h g cap w' k3 k4 k5
def TyM(M:Tmap)(d:FuncD)(up ub:Option Addr):Prop:=SlN M 2 (.slice up d.params.length 0) d.params.length∧SlN M 74 (.slice ub d.blocks.length 0) d.blocks.length∧d.params.length≤2∧1≤d.blocks.length∧d.blocks.length≤400
def Ty2(w:World)(lo:Nat)(d:FuncD)(up ub:Option Addr):Prop:=∃ M,TH lo M 400 w∧TyM M d up ub
def TyH(w:World)(lo H:Nat)(d:FuncD)(up ub:Option Addr):Prop:=∃ M,TH lo M 400 w∧(∀ b p,M b=some p→b<H)∧TyM M d up ub
def Ty1(w:World)(lo:Nat)(d:FuncD)(up ub:Option Addr)(r s:Value)(k:Nat):Prop:=∃ M,TH lo M 400 w∧(∀ q T m,(r.ownBlock=some q∨s.ownBlock=some q)→M q=some (T,m)→m≤k)∧TyM M d up ub
theorem TH.same{lo N:Nat}{M:Tmap}{w w':World}(h:TH lo M N w)(hb:∀ b,lo≤b→b<w.heap.size→(∃ p,M b=some p)→w'.heap[b]?=w.heap[b]?):TH lo M N w':=fun b T m hm=>by
 obtain⟨h1,cur,h2,h3⟩:=h b T m hm
 exact⟨h1,cur,(hb b h1 (Array.getElem?_eq_some_iff.1 h2).1 ⟨_,hm⟩).trans h2,h3⟩
theorem TH.blk{lo N b:Nat}{M:Tmap}{w:World}(h:TH lo M N w){p:TypeId × Nat}(hb:M b=some p):lo≤b∧b<w.heap.size:=by
 obtain⟨T,m⟩:=p
 obtain⟨h1,cur,h2,h3⟩:=h b T m hb
 exact⟨h1,(Array.getElem?_eq_some_iff.1 h2).1⟩
theorem TH.turn{lo N:Nat}{M:Tmap}{w w':World}(h:TH lo M N w)(hb:∀ b T m,M b=some (T,m)→w'.heap[b]?=w.heap[b]?∨∃ cur,w'.heap[b]?=some (.cells cur T (0,0))∧∀ i,i<m→ElOk M N T (fun j=>cur[i*szT T+j]?)):TH lo M N w':=fun b T m hm=>by
 obtain⟨h1,cur,h2,h3⟩:=h b T m hm
 rcases hb b T m hm with e|⟨cur',e1,e2⟩
 ·exact⟨h1,cur,e.trans h2,h3⟩
 ·exact⟨h1,cur',e1,e2⟩
theorem Ty2.keep{w w':World}{lo g:Nat}{d:FuncD}{up ub:Option Addr}(h:Ty2 w lo d up ub)(hb:∀ b,b<w.heap.size→b≠g→w'.heap[b]?=w.heap[b]?)(hg:g<lo):Ty2 w' lo d up ub:=by
 obtain⟨M,h1,h2⟩:=h
 exact⟨M,h1.same fun b k1 k2 _=>hb b k2 (by omega),h2⟩
theorem TyH.keep{w w':World}{lo H g:Nat}{d:FuncD}{up ub:Option Addr}(h:TyH w lo H d up ub)(hb:∀ b,b<w.heap.size→b≠g→w'.heap[b]?=w.heap[b]?)(hg:g<lo):TyH w' lo H d up ub:=by
 obtain⟨M,h1,h2,h3⟩:=h
 exact⟨M,h1.same fun b k1 k2 _=>hb b k2 (by omega),h2,h3⟩
theorem TyH.step{w w':World}{lo H:Nat}{d:FuncD}{up ub:Option Addr}(h:TyH w lo H d up ub)(hb:∀ b,lo≤b→b<H→w'.heap[b]?=w.heap[b]?):TyH w' lo H d up ub:=by
 obtain⟨M,h1,h2,h3⟩:=h
 refine⟨M,h1.same fun b k1 _ k3=>?_,h2,h3⟩
 obtain⟨p,hp⟩:=k3
 exact hb b k1 (h2 b p hp)
theorem TyH.two{w:World}{lo lo' H:Nat}{d:FuncD}{up ub:Option Addr}(h:TyH w lo H d up ub)(hl:lo'≤lo):Ty2 w lo' d up ub:=by
 obtain⟨M,h1,_,h3⟩:=h
 refine⟨M,fun b T m hb=>?_,h3⟩
 obtain⟨k1,k2⟩:=h1 b T m hb
 exact⟨by omega,k2⟩
theorem Ty1.same{w w':World}{lo k:Nat}{d:FuncD}{up ub:Option Addr}{r s:Value}(h:Ty1 w lo d up ub r s k)(hb:∀ b,b<w.heap.size→w'.heap[b]?=w.heap[b]?):Ty1 w' lo d up ub r s k:=by
 obtain⟨M,h1,h2⟩:=h
 exact⟨M,h1.same fun b _ k2 _=>hb b k2,h2⟩
theorem sl_cap{M:Tmap}{T:TypeId}{u:Option Addr}{n c c':Nat}(h:SlN M T (.slice u n c) n):SlN M T (.slice u n c') n:=by
 obtain⟨u',q,e,h⟩:=h
 cases e
 exact⟨_,_,rfl,h⟩
theorem own_pre{x y:World}{b n n' sz c c' q:Nat}{T:TypeId}{xs news:List Value}(h:x.ownsRow b T sz (.slice (some ⟨q,0,none⟩) n c) n xs)(k:y.ownsRow b T sz (.slice (some ⟨q,0,none⟩) n' c') n' (xs++news)):∃ cur cur',x.heap[q]?=some (.cells cur T (0,0))∧y.heap[q]?=some (.cells cur' T (0,0))∧∀ j,j<n*sz→cur'[j]?=cur[j]?:=by
 have hl:=h.1
 rcases h.2 with⟨e,_⟩|⟨g,cap,cur,e,_,hc,_,_,_,ht⟩
 ·cases e
 cases e
 rcases k.2 with⟨e,_⟩|⟨g',cap',cur',e,_,hc',_,_,_,ht'⟩
 ·cases e
 cases e
 have hl':=k.1
 simp only[List.length_append] at hl'
 refine⟨cur,cur',hc,hc',fun j hj=>?_⟩
 have e1:(cur.toList.take (n*sz))[j]?=xs[j]?:=by rw[ht]
 have e2:(cur'.toList.take (n'*sz))[j]?=(xs++news)[j]?:=by rw[ht']
 rw[List.getElem?_take,if_pos hj] at e1
 rw[List.getElem?_take,if_pos (by omega),List.getElem?_append_left (by omega)] at e2
 rw[←e1] at e2
 simpa using e2
structure MSt(z0 g:Nat)(a0:Option Addr)(len cap:Nat)(v:World)(k:Nat)(r s:Value)(w:World):Prop where
 rd:Rd g a0 len cap w
 gz:g<z0
 sz:z0+4≤w.heap.size
 res:w.heap[z0]?=some (.cells #[.slice none 0 0] 26 (0,0))
 fs:∃ mf xs ps,w.heap[z0+1]?=some (.cells #[mf] 26 (0,0))∧w.ownsRow (z0+2) 55 3 mf k xs∧w.ownsRow (z0+2) 41 1 s k ps∧(k=0→mf=.slice none 0 0)∧(0<k→∃ d up cp ub cb H,xs[0]?=some (.slice up d.params.length cp)∧xs[1]?=some (.int .i64 d.ret)∧xs[2]?=some (.slice ub d.blocks.length cb)∧Fnc w (z0+4) H d up ub∧(∀ q,mf.ownBlock=some q→q<z0+4∨H≤q)∧(∀ q,r.ownBlock=some q→q<z0+4∨H≤q)∧(∀ q,s.ownBlock=some q→q<z0+4∨H≤q)∧H≤w.heap.size∧(k=1→ps=[.slice up d.params.length cp])∧TyH w (z0+4) H d up ub)∧(1<k→∃ d up cp ub cb,xs[3]?=some (.slice up d.params.length cp)∧xs[4]?=some (.int .i64 d.ret)∧xs[5]?=some (.slice ub d.blocks.length cb)∧Ty2 w (z0+2) d up ub)
 ro:∃ zs:List Int,w.ownsRow (z0+2) 2 1 r k (zs.map (Value.int .i64))
 new0:k=0→(∀ q,r.ownBlock=some q→q<z0+4)∧(∀ q,s.ownBlock=some q→q<z0+4)
 old:∀ b,b<z0→b≠g→w.heap[b]?=v.heap[b]?
 os:w.os=v.os
 tape:w.tape=v.tape
 output:w.output=v.output
theorem own_ne{w:World}{b b' n n' sz sz' p q:Nat}{T T':TypeId}{x x':Value}{xs xs':List Value}(h:w.ownsRow b T sz x n xs)(h':w.ownsRow b' T' sz' x' n' xs')(hT:T≠T')(hp:x.ownBlock=some p)(hq:x'.ownBlock=some q):p≠q:=by
 rcases h.2 with⟨rfl,_⟩|⟨g,c,cur,rfl,_,hc,_⟩
 ·simp[Value.ownBlock] at hp
 rcases h'.2 with⟨rfl,_⟩|⟨g',c',cur',rfl,_,hc',_⟩
 ·simp[Value.ownBlock] at hq
 simp[Value.ownBlock] at hp hq
 subst hp hq
 intro e
 subst e
 rw[hc] at hc'
 cases hc'
 exact hT rfl
def mapOf(gr gs:Nat)(gp:Option Nat)(np:Nat):Tmap:=fun b=>if b=gr then some (2,1) else if b=gs then some (41,1) else if gp=some b then some (2,np) else none
theorem MSt.fnIn{z0 g len cap k:Nat}{a0:Option Addr}{v w:World}{r s:Value}(h:MSt z0 g a0 len cap v k r s w)(hk:k≤1):∃ base M ur cr us cs,(k=0→base=z0+4)∧r=.slice ur k cr∧s=.slice us k cs∧FnIn base g a0 len cap M (.slice ur k cr) (.slice us k cs) k w∧z0+2≤base∧(∀ q,(r.ownBlock=some q∨s.ownBlock=some q)→q<base∨∃ T m,M q=some (T,m)∧m≤k):=by
 have hgz:=h.gz
 have hsz:=h.sz
 obtain⟨zs,hr⟩:=h.ro
 obtain⟨mf,xs,ps,_,_,hs,_,hf,_⟩:=h.fs
 rcases Nat.lt_or_ge 0 k with hk1|hk0
 ·obtain rfl:k=1:=by omega
  obtain⟨d,up,cp,_,_,H,_,_,_,hfnc,_,hHr,hHs,_,hps,_⟩:=hf (by omega)
  obtain rfl:=hps rfl
  obtain⟨hn,hw⟩:=hfnc.wds
  generalize d.params.length=np at *
  rcases hr.2 with⟨_,e⟩|⟨gr,cr,cur,rfl,hgr2,hcr,hcr2,_,hcr3,hcr4⟩
  ·omega
  rcases hs.2 with⟨_,e⟩|⟨gs,cs,cus,rfl,hgs2,hcs,hcs2,_,hcs3,hcs4⟩
  ·omega
  have hgr:=hHr gr rfl
  have hgs:=hHs gs rfl
  have hlr:=(Array.getElem?_eq_some_iff.1 hcr).1
  have hls:=(Array.getElem?_eq_some_iff.1 hcs).1
  have hne:gr≠gs:=own_ne hr hs (by decide) rfl rfl
  have hr0:∃ z:Int,cur[0]?=some (.int .i64 z):=by
   obtain⟨z,rfl⟩:∃ z,zs=[z]:=by
    have:=hr.1
    match zs,this with
    | [z],_=>exact⟨z,rfl⟩
   refine⟨z,?_⟩
   have:(cur.toList.take (1*1))[0]?=some (.int .i64 z):=by rw[hcr4];rfl
   rw[List.getElem?_take] at this
   simpa using this
  have hs0:cus[0]?=some (.slice up np cp):=by
   have:(cus.toList.take (1*1))[0]?=some (.slice up np cp):=by rw[hcs4];rfl
   rw[List.getElem?_take] at this
   simpa using this
  have hs1:szT 2=1:=by decide
  have hs2:szT 41=1:=by decide
  obtain⟨z,hr0⟩:=hr0
  have hgp:∃ gpo:Option Nat,(0<np→∃ gp,gpo=some gp∧up=some ⟨gp,0,none⟩)∧∀ gp,gpo=some gp→up=some ⟨gp,0,none⟩∧z0+4≤gp∧gp<H∧(∃ cur,w.heap[gp]?=some (.cells cur 2 (0,0))∧∀ i,i<np→∃ z:Int,cur[i]?=some (.int .i64 z)):=by
   rcases Nat.eq_zero_or_pos np with h0|h0
   ·exact⟨none,fun h=>by omega,fun gp h=>by cases h⟩
   ·obtain⟨gp,e1,e2,e3,⟨cu,e4⟩,e5⟩:=hw h0
    refine⟨some gp,fun _=>⟨gp,rfl,e1⟩,fun gp' e=>?_⟩
    cases e
    refine⟨e1,e2,e3,cu,e4,fun i hi=>?_⟩
    obtain⟨x,x1,_⟩:=e5 i hi
    rw[zcH e4] at x1
    exact⟨x,x1⟩
  obtain⟨gpo,hg1,hg2⟩:=hgp
  have hMp:∀ gp,gpo=some gp→∃ m,mapOf gr gs gpo np gp=some (2,m):=fun gp e=>by
   unfold mapOf
   by_cases e1:gp=gr
   ·exact⟨1,by rw[if_pos e1]⟩
   ·by_cases e2:gp=gs
    ·exfalso
     obtain⟨_,_,_,cu,c1,_⟩:=hg2 gp e
     rw[e2,hcs] at c1
     cases c1
    ·exact⟨np,by rw[if_neg e1,if_neg e2,if_pos e]⟩
  refine⟨z0+2,mapOf gr gs gpo np,some ⟨gr,0,none⟩,cr,some ⟨gs,0,none⟩,cs,fun e=>by omega,rfl,rfl,⟨h.rd,by omega,by omega,fun b T m hb=>?_,⟨_,_,rfl,.inr ⟨gr,1,rfl,by simp[mapOf],Nat.le_refl _⟩⟩,⟨_,_,rfl,.inr ⟨gs,1,rfl,by simp[mapOf,Ne.symm hne],Nat.le_refl _⟩⟩,by omega,fun _=>?_,fun b T m hb=>?_⟩,Nat.le_refl _,fun q hq=>?_⟩
  ·unfold mapOf at hb
   split at hb
   ·rename_i e
    subst e
    cases hb
    exact⟨by omega,cur,hcr,fun i hi=>el_int (z:=z) (by rw[hs1];obtain rfl:i=0:=(by omega);exact hr0)⟩
   ·split at hb
    ·rename_i e
     subst e
     cases hb
     refine⟨by omega,cus,hcs,fun i hi=>?_⟩
     obtain rfl:i=0:=by omega
     refine⟨fun q=>absurd q (by decide),fun _=>⟨_,by rw[hs2];exact hs0,np,by omega,up,cp,rfl,?_⟩,fun q=>absurd q (by decide),fun q=>absurd q (by decide),fun q=>absurd q (by decide)⟩
     rcases Nat.eq_zero_or_pos np with h0|h0
     ·exact .inl h0
     ·obtain⟨gp,e1,e2⟩:=hg1 h0
      right
      obtain⟨e3,e4,e5,e6⟩:=hg2 gp e1
      have n1:gp≠gr:=by clear hf hps hfnc;omega
      have n2:gp≠b:=by clear hf hps hfnc;omega
      exact⟨gp,np,e2,by unfold mapOf;rw[if_neg n1,if_neg n2,if_pos e1],Nat.le_refl _⟩
    ·split at hb
     ·rename_i e
      cases hb
      obtain⟨_,c2,c3,cu,c4,c5⟩:=hg2 b e
      refine⟨by omega,cu,c4,fun i hi=>?_⟩
      obtain⟨z,hz⟩:=c5 i hi
      exact el_int (z:=z) (by rw[hs1];simpa using hz)
     ·cases hb
  ·obtain⟨m,hm⟩:∃ m,mapOf gr gs gpo np gs=some (41,m):=⟨1,by simp[mapOf,Ne.symm hne]⟩
   refine⟨gs,cs,m,rfl,hm,fun i hi=>?_⟩
   have hi0:i=0:=by have:i<1:=hi;omega
   subst hi0
   refine⟨up,np,cp,(zcH hcs).trans hs0,hn,fun h0=>?_⟩
   obtain⟨gp,e1,e2⟩:=hg1 h0
   obtain⟨mp,hmp⟩:=hMp gp e1
   obtain⟨gp',f1,_,_,_,f5⟩:=hw h0
   rw[e2] at f1
   cases f1
   exact⟨gp,mp,e2,hmp,f5⟩
  ·unfold mapOf at hb
   split at hb
   ·cases hb;exact .inl rfl
   ·split at hb
    ·cases hb;exact .inr rfl
    ·split at hb
     ·cases hb;exact .inl rfl
     ·cases hb
  ·right
   rcases hq with hq|hq
   ·have e:q=gr:=by simpa [Value.ownBlock] using hq.symm
    exact⟨2,1,by rw[e];simp[mapOf],Nat.le_refl _⟩
   ·have e:q=gs:=by simpa [Value.ownBlock] using hq.symm
    exact⟨41,1,by rw[e];simp[mapOf,Ne.symm hne],Nat.le_refl _⟩
 ·obtain rfl:k=0:=by omega
  have form:∀ {T:TypeId} {x:Value} {ys:List Value},w.ownsRow (z0+2) T 1 x 0 ys→∃ u c,x=.slice u 0 c:=fun {T x ys} hx=>by
   rcases hx.2 with⟨rfl,_⟩|⟨g,c,cur,rfl,_⟩
   ·exact⟨none,0,rfl⟩
   ·exact⟨_,c,rfl⟩
  obtain⟨ur,cr,rfl⟩:=form hr
  obtain⟨us,cs,rfl⟩:=form hs
  obtain⟨q1,q2⟩:=h.new0 rfl
  exact⟨z0+4,fun _=>none,ur,cr,us,cs,fun _=>rfl,rfl,rfl,⟨h.rd,by omega,hsz,fun b T m hb=>(by cases hb),⟨_,_,rfl,.inl rfl⟩,⟨_,_,rfl,.inl rfl⟩,by omega,fun hp=>absurd hp (Nat.lt_irrefl 0),fun b T m hb=>(by cases hb)⟩,by omega,fun q hq=>.inl (by rcases hq with hq|hq;exact q1 q hq;exact q2 q hq)⟩
theorem MSt.keep{z0 g len cap k:Nat}{a0:Option Addr}{v w x:World}{r s:Value}(h:MSt z0 g a0 len cap v k r s w)(hr:Rd g a0 len cap x)(hb:∀ b,b<w.heap.size→b≠g→x.heap[b]?=w.heap[b]?)(hs:w.heap.size≤x.heap.size)(e1:x.os=w.os)(e2:x.tape=w.tape)(e3:x.output=w.output):MSt z0 g a0 len cap v k r s x:=by
 have hgz:=h.gz
 have hsz:=h.sz
 have hlt:∀ {T:TypeId} {sz n:Nat} {y:Value} {ys:List Value},w.ownsRow (z0+2) T sz y n ys→x.ownsRow (z0+2) T sz y n ys:=fun {T sz n y ys} hy=>own_stay hy fun q hq=>by
  obtain⟨q1,q2⟩:=hy.lt q hq
  exact hb q q2 (by omega)
 obtain⟨mf,xs,ps,m1,m2,m3,m0,m4,m6⟩:=h.fs
 obtain⟨zs,hz⟩:=h.ro
 refine⟨hr,hgz,by omega,(hb _ (by omega) (by omega)).trans h.res,⟨mf,xs,ps,(hb _ (by omega) (by omega)).trans m1,hlt m2,hlt m3,m0,fun hk=>?_,fun hk=>?_⟩,⟨zs,hlt hz⟩,h.new0,fun b b1 b2=>(hb b (by omega) b2).trans (h.old b b1 b2),e1.trans h.os,e2.trans h.tape,e3.trans h.output⟩
 ·obtain⟨d,up,cp,ub,cb,H,x0,x1,x2,hF,r1,r2,r3,r4,r5,r6⟩:=m4 hk
  exact⟨d,up,cp,ub,cb,H,x0,x1,x2,hF.keep hb hs (by omega),r1,r2,r3,by omega,r5,r6.keep hb (by omega)⟩
 ·obtain⟨d,up,cp,ub,cb,x0,x1,x2,r6⟩:=m6 hk
  exact⟨d,up,cp,ub,cb,x0,x1,x2,r6.keep hb (by omega)⟩
end Go.Proofs.YtkpmiikafconmaaGreatDoor
