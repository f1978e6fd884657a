import Derived.Test.YtkpmiikafconmaaGreatDoorGnWJp
import Derived.Test.YtkpmiikafconmaaGreatDoorTxLJp
import Derived.Test.YtkpmiikafconmaaGreatDoorRiHJp
import Derived.Defers
import Derived.Recover
import Derived.Laws.Pointers
namespace Go.Proofs.YtkpmiikafconmaaGreatDoor
open Go.RowKit Go.Deep
set_option maxHeartbeats 1000000
set_option linter.unusedVariables false
theorem rowblk{w:World}{b n sz:Nat}{T:TypeId}{x:Value}{xs:List Value}(h:w.ownsRow b T sz x n xs)(q:Nat)(hq:x.ownBlock=some q):∃ cur,w.heap[q]?=some (.cells cur T (0,0)):=by
 rcases h.2 with⟨rfl,_⟩|⟨g,c,cur,rfl,_,hc,_⟩
 ·simp[Value.ownBlock] at hq
 ·simp[Value.ownBlock] at hq
  subst hq
  exact⟨cur,hc⟩
theorem blk_ne{w:World}{p q:Nat}{T T':TypeId}{c c':Array Value}{f f':Nat × Nat}(h:w.heap[p]?=some (.cells c T f))(h':w.heap[q]?=some (.cells c' T' f'))(hT:T≠T'):p≠q:=fun e=>by
 subst e
 rw[h] at h'
 cases h'
 exact hT rfl
theorem turn_row{x y:World}{lo N z k b c' m:Nat}{M:Tmap}{T T':TypeId}{v:Value}{xs news:List Value}(hT:T=2∨T=41)(th:TH lo M N x)(hb:M b=some (T',m))(hmk:m≤k)(hv:v.ownBlock=some b)(h:x.ownsRow z T 1 v k xs)(hy:y.ownsRow z T 1 (.slice (some ⟨b,0,none⟩) (k+1) c') (k+1) (xs++news)) :
  ∃ cur,y.heap[b]?=some (.cells cur T' (0,0))∧∀ i,i<m→ElOk M N T' (fun j=>cur[i*szT T'+j]?):=by
 obtain⟨c,rfl⟩:∃ c,v=.slice (some ⟨b,0,none⟩) k c:=by
  rcases h.2 with⟨rfl,_⟩|⟨g,c,cur,rfl,_⟩
  ·simp[Value.ownBlock] at hv
  ·have e:g=b:=by simpa [Value.ownBlock] using hv
   exact⟨c,by rw[e]⟩
 obtain⟨cur,cur',k1,k2,k3⟩:=own_pre h hy
 obtain⟨_,cur0,h2,h3⟩:=th b T' m hb
 rw[k1] at h2
 cases h2
 refine⟨cur',k2,fun i hi=>ElOk.congr (by rcases hT with rfl|rfl<;>simp) (h3 i hi) fun j hj=>?_⟩
 have hs:szT T=1:=by rcases hT with rfl|rfl<;>decide
 rw[hs] at hj ⊢
 exact k3 _ (by omega)
theorem el_func(M:Tmap)(N:Nat)(c:Nat→Option Value):ElOk M N 55 c:=⟨fun q=>absurd q (by decide),fun q=>absurd q (by decide),fun q=>absurd q (by decide),fun q=>absurd q (by decide),fun q=>absurd q (by decide)⟩
theorem MSt.next{z0 g len cap k T7 g4 c4 g5 c5 g6 c6 lo:Nat}{a0:Option Addr}{v x y1 y3 y4:World}{r s mf:Value}{d:FuncD}{up ub:Option Addr}{cp cb:Nat}{xs ps:List Value}{zs:List Int}{A B C:Obj}
  (hM:MSt z0 g a0 len cap v k r s x) (hk:k≤1) (hF:Fnc x lo x.heap.size d up ub) (hlo:k=0→lo=z0+4) (hTy:Ty1 x lo d up ub r s k) (hlo2:z0+2≤lo)
  (m1:x.heap[z0+1]?=some (.cells #[mf] 26 (0,0))) (m2:x.ownsRow (z0+2) 55 3 mf k xs) (m3:x.ownsRow (z0+2) 41 1 s k ps) (m5:x.ownsRow (z0+2) 2 1 r k (zs.map (Value.int .i64)))
  (m0:k=0→mf=.slice none 0 0) (m4:0<k→∃ d up cp ub cb H,xs[0]?=some (.slice up d.params.length cp)∧xs[1]?=some (.int .i64 d.ret)∧xs[2]?=some (.slice ub d.blocks.length cb)∧Fnc x (z0+4) H d up ub∧(∀ q,mf.ownBlock=some q→q<z0+4∨H≤q)∧(∀ q,r.ownBlock=some q→q<z0+4∨H≤q)∧(∀ q,s.ownBlock=some q→q<z0+4∨H≤q)∧H≤x.heap.size∧(k=1→ps=[.slice up d.params.length cp])∧TyH x (z0+4) H d up ub)
  (o1:y1.ownsRow (z0+2) 55 3 (.slice (some ⟨g4,0,none⟩) (k+1) c4) (k+1) (xs++[.slice up d.params.length cp,.int .i64 d.ret,.slice ub d.blocks.length cb])) (E1:Two mf g4 (x.alloc A).heap.size (x.alloc A) y1)
  (o2:y3.ownsRow (z0+2) 2 1 (.slice (some ⟨g5,0,none⟩) (k+1) c5) (k+1) (zs.map (Value.int .i64)++[.int .i64 d.ret])) (E2:Two r g5 ((y1.setCell ⟨z0+1,0,none⟩ (.slice (some ⟨g4,0,none⟩) (k+1) c4)).alloc B).heap.size ((y1.setCell ⟨z0+1,0,none⟩ (.slice (some ⟨g4,0,none⟩) (k+1) c4)).alloc B) y3)
  (o3:y4.ownsRow (z0+2) 41 1 (.slice (some ⟨g6,0,none⟩) (k+1) c6) (k+1) (ps++[.slice up d.params.length cp])) (E3:Two s g6 (y3.alloc C).heap.size (y3.alloc C) y4) :
  MSt z0 g a0 len cap v (k+1) (.slice (some ⟨g5,0,none⟩) (k+1) c5) (.slice (some ⟨g6,0,none⟩) (k+1) c6) y4:=by
 have e1:=E1.grown
 have e2:=E2.grown
 have e3:=E3.grown
 have a1:mf.ownBlock=some g4∨x.heap.size+1≤g4:=by simpa using E1.at
 have a2:r.ownBlock=some g5∨y1.heap.size≤g5:=by
  rcases E2.at with h|h
  ·exact .inl h
  ·simp only[World.size_alloc,World.size_setCell] at h;exact .inr (by omega)
 have a3:s.ownBlock=some g6∨y3.heap.size≤g6:=by
  rcases E3.at with h|h
  ·exact .inl h
  ·simp only[World.size_alloc] at h;exact .inr (by omega)
 have hgz:=hM.gz
 have hsz:=hM.sz
 have s1:x.heap.size+1≤y1.heap.size:=by have:=e1.size;simpa using this
 have s2:y1.heap.size+1≤y3.heap.size:=by have:=e2.size;simpa [World.size_setCell] using this
 have s3:y3.heap.size+1≤y4.heap.size:=by have:=e3.size;simpa using this
 -- what each step leaves as it was
 have b1:∀ b,b<x.heap.size→mf.ownBlock≠some b→y1.heap[b]?=x.heap[b]?:=fun b hb hn=>(e1.block b (by simp;omega) (fun e=>hn e.symm)).trans (Below.heap_alloc _ _ _ hb)
 have b2:∀ b,b<y1.heap.size→b≠z0+1→r.ownBlock≠some b→y3.heap[b]?=y1.heap[b]?:=fun b hb h1 hn=>(e2.block b (by simp[World.size_setCell];omega) (fun e=>hn e.symm)).trans ((Below.heap_alloc _ _ _ (by simpa [World.size_setCell] using hb)).trans (Below.heap_setCell _ _ _ _ h1))
 have b3:∀ b,b<y3.heap.size→s.ownBlock≠some b→y4.heap[b]?=y3.heap[b]?:=fun b hb hn=>(e3.block b (by simp;omega) (fun e=>hn e.symm)).trans (Below.heap_alloc _ _ _ hb)
 -- the rows' own blocks
 have lm:∀ q,mf.ownBlock=some q→z0+2≤q∧q<x.heap.size:=fun q hq=>m2.lt q hq
 have lr:∀ q,r.ownBlock=some q→z0+2≤q∧q<x.heap.size:=fun q hq=>m5.lt q hq
 have ls:∀ q,s.ownBlock=some q→z0+2≤q∧q<x.heap.size:=fun q hq=>m3.lt q hq
 have all:∀ b,b<x.heap.size→b≠z0+1→mf.ownBlock≠some b→r.ownBlock≠some b→s.ownBlock≠some b→y4.heap[b]?=x.heap[b]?:=fun b hb h1 h2 h3 h4=>(b3 b (by omega) h4).trans ((b2 b (by omega) h1 h3).trans (b1 b hb h2))
 have low:∀ b,b<z0+1→y4.heap[b]?=x.heap[b]?:=fun b hb=>all b (by omega) (by omega) (fun e=>by have:=lm b e;omega) (fun e=>by have:=lr b e;omega) (fun e=>by have:=ls b e;omega)
 -- the module's own cell
 have c1:y4.heap[z0+1]?=some (.cells #[.slice (some ⟨g4,0,none⟩) (k+1) c4] 26 (0,0)):=by
  have t1:y1.heap[z0+1]?=some (.cells #[mf] 26 (0,0)):=(b1 _ (by omega) (fun e=>by have:=lm _ e;omega)).trans m1
  have t2:(y1.setCell ⟨z0+1,0,none⟩ (.slice (some ⟨g4,0,none⟩) (k+1) c4)).heap[z0+1]?=some (.cells #[.slice (some ⟨g4,0,none⟩) (k+1) c4] 26 (0,0)):=(zhS t1).trans rfl
  have t3:y3.heap[z0+1]?=some (.cells #[.slice (some ⟨g4,0,none⟩) (k+1) c4] 26 (0,0)):=(e2.block _ (by simp[World.size_setCell];omega) (fun e=>by have:=lr _ e.symm;omega)).trans ((Below.heap_alloc _ _ _ (by simp[World.size_setCell];omega)).trans t2)
  exact (b3 _ (by omega) (fun e=>by have:=ls _ e;omega)).trans t3
 -- the rows afterwards
 have g4l:=(o1.lt g4 rfl).2
 have g5l:=(o2.lt g5 rfl).2
 have n45:r.ownBlock≠some g4:=fun e=>by
  rcases a1 with a1|a1
  ·exact own_ne m2 m5 (by decide) a1 e rfl
  ·have:=lr _ e;omega
 have n46:s.ownBlock≠some g4:=fun e=>by
  rcases a1 with a1|a1
  ·exact own_ne m2 m3 (by decide) a1 e rfl
  ·have:=ls _ e;omega
 have n56:s.ownBlock≠some g5:=fun e=>by
  rcases a2 with a2|a2
  ·exact own_ne m5 m3 (by decide) a2 e rfl
  ·have:=ls _ e;omega
 have o1':y4.ownsRow (z0+2) 55 3 (.slice (some ⟨g4,0,none⟩) (k+1) c4) (k+1) (xs++[.slice up d.params.length cp,.int .i64 d.ret,.slice ub d.blocks.length cb]):=own_stay o1 fun q hq=>by
  have e:q=g4:=by simpa [Value.ownBlock] using hq.symm
  subst e
  have h4:=(o1.lt q rfl).1
  exact (b3 q (by omega) n46).trans (b2 q g4l (by omega) n45)
 have o2':y4.ownsRow (z0+2) 2 1 (.slice (some ⟨g5,0,none⟩) (k+1) c5) (k+1) (zs.map (Value.int .i64)++[.int .i64 d.ret]):=own_stay o2 fun q hq=>by
  have e:q=g5:=by simpa [Value.ownBlock] using hq.symm
  subst e
  exact b3 q g5l n56
 refine⟨rd_keep hM.rd (by omega) fun b hb=>low b (by omega),hgz,by omega,(low z0 (by omega)).trans hM.res,⟨_,_,_,c1,o1',o3,fun e=>by omega,fun _=>?_,fun hk2=>?_⟩,⟨zs++[d.ret],by simpa using o2'⟩,fun e=>by omega,fun b h1 h2=>(low b (by omega)).trans (hM.old b h1 h2),?_,?_,?_⟩
 ·rcases Nat.eq_zero_or_pos k with h0|h0
  ·subst h0
   have hlo0:=hlo rfl
   subst hlo0
   obtain⟨q1,q2⟩:=hM.new0 rfl
   have hx0:xs=[]:=by have:=m2.1;simpa using this
   have hp0:ps=[]:=by have:=m3.1;simpa using this
   subst hx0 hp0
   have hmf:∀ q,mf.ownBlock=some q→q<z0+4:=fun q hq=>by
    rw[m0 rfl] at hq
    simp[Value.ownBlock] at hq
   refine⟨d,up,cp,ub,cb,x.heap.size,rfl,rfl,rfl,hF.step (by omega) fun b h1 h2=>all b h2 (by omega) (fun e=>by have:=hmf b e;omega) (fun e=>by have:=q1 b e;omega) (fun e=>by have:=q2 b e;omega),fun q hq=>?_,fun q hq=>?_,fun q hq=>?_,by omega,fun _=>rfl,TyH.step (by obtain⟨M,t1,t2,t3⟩:=hTy;exact⟨M,t1,fun b p hp=>(t1.blk hp).2,t3⟩) fun b h1 h2=>all b h2 (by omega) (fun e=>by have:=hmf b e;omega) (fun e=>by have:=q1 b e;omega) (fun e=>by have:=q2 b e;omega)⟩
   ·have e:q=g4:=by simpa [Value.ownBlock] using hq.symm
    subst e
    rcases a1 with a1|a1
    ·exact .inl (hmf _ a1)
    ·exact .inr (by omega)
   ·have e:q=g5:=by simpa [Value.ownBlock] using hq.symm
    subst e
    rcases a2 with a2|a2
    ·exact .inl (q1 _ a2)
    ·exact .inr (by omega)
   ·have e:q=g6:=by simpa [Value.ownBlock] using hq.symm
    subst e
    rcases a3 with a3|a3
    ·exact .inl (q2 _ a3)
    ·exact .inr (by omega)
  ·obtain⟨d1,up1,cp1,ub1,cb1,H,x0,x1,x2,hF1,f1,f2,f3,f4,_,hT1⟩:=m4 h0
   have hl:xs.length=k*3:=m2.1
   refine⟨d1,up1,cp1,ub1,cb1,H,by rw[List.getElem?_append_left (by omega)];exact x0,by rw[List.getElem?_append_left (by omega)];exact x1,by rw[List.getElem?_append_left (by omega)];exact x2,?_,fun q hq=>?_,fun q hq=>?_,fun q hq=>?_,by omega,fun e=>by omega,?_⟩
   ·refine hF1.step (by omega) fun b h1 h2=>all b (by omega) (by omega) (fun e=>?_) (fun e=>?_) (fun e=>?_)
    ·have:=f1 b e;omega
    ·have:=f2 b e;omega
    ·have:=f3 b e;omega
   ·have e:q=g4:=by simpa [Value.ownBlock] using hq.symm
    subst e
    rcases a1 with a1|a1
    ·rcases f1 _ a1 with f|f
     ·exact .inl f
     ·exact .inr (by omega)
    ·exact .inr (by omega)
   ·have e:q=g5:=by simpa [Value.ownBlock] using hq.symm
    subst e
    rcases a2 with a2|a2
    ·rcases f2 _ a2 with f|f
     ·exact .inl f
     ·exact .inr (by omega)
    ·exact .inr (by omega)
   ·have e:q=g6:=by simpa [Value.ownBlock] using hq.symm
    subst e
    rcases a3 with a3|a3
    ·rcases f3 _ a3 with f|f
     ·exact .inl f
     ·exact .inr (by omega)
    ·exact .inr (by omega)
   ·refine hT1.step fun b h1 h2=>all b (by omega) (by omega) (fun e=>?_) (fun e=>?_) (fun e=>?_)
    ·have:=f1 b e;omega
    ·have:=f2 b e;omega
    ·have:=f3 b e;omega
 ·have hl:xs.length=k*3:=m2.1
  obtain rfl:k=1:=by omega
  refine⟨d,up,cp,ub,cb,by rw[List.getElem?_append_right (by omega),hl];rfl,by rw[List.getElem?_append_right (by omega),hl];rfl,by rw[List.getElem?_append_right (by omega),hl];rfl,?_⟩
  obtain⟨M,th,hcnt,tm⟩:=hTy
  refine⟨M,fun b T m hb=>?_,tm⟩
  have th4:TH lo M 400 y4:=th.turn fun b T m hb=>by
   have hbl:=th.blk hb
   rcases E1.blk (b:=b) (by simp;omega) with t1|⟨t1,t2⟩
   ·rcases E2.blk (b:=b) (by simp[World.size_setCell];omega) with t3|⟨t3,t4⟩
    ·rcases E3.blk (b:=b) (by simp;omega) with t5|⟨t5,t6⟩
     ·exact .inl (t5.trans ((Below.heap_alloc _ _ _ (by omega)).trans (t3.trans ((Below.heap_alloc _ _ _ (by simp[World.size_setCell];omega)).trans ((Below.heap_setCell _ _ _ _ (by dsimp only;omega)).trans (t1.trans (Below.heap_alloc _ _ _ hbl.2)))))))
     ·subst t6
      exact .inr (turn_row (.inr rfl) th hb (hcnt b T m (.inr t5) hb) t5 m3 o3)
    ·subst t4
     exact .inr (turn_row (.inl rfl) th hb (hcnt b T m (.inl t3) hb) t3 m5 o2')
   ·subst t2
    obtain⟨cur,hcur⟩:=rowblk m2 b t1
    obtain⟨_,cur0,h2,h3⟩:=th b T m hb
    rw[hcur] at h2
    cases h2
    obtain⟨cur',hcur'⟩:=rowblk o1' b rfl
    exact .inr ⟨cur',hcur',fun i _=>el_func _ _ _⟩
  obtain⟨k1,k2⟩:=th4 b T m hb
  exact⟨by omega,k2⟩
 ·exact e3.os.trans (e2.os.trans (e1.os.trans hM.os))
 ·exact e3.tape.trans (e2.tape.trans (e1.tape.trans hM.tape))
 ·exact e3.output.trans (e2.output.trans (e1.output.trans hM.output))
end Go.Proofs.YtkpmiikafconmaaGreatDoor
namespace Go.Proofs.YtkpmiikafconmaaGreatDoor
open Go.RowKit
set_option maxHeartbeats 2000000
set_option linter.unusedVariables false
theorem modTextS(lo:Nat)(l:List FuncD)(u:Option Addr)(c:Nat)(w:World)(hs:SmMod l)(k0:zFA w lo u l) :
  Calls Tryz.prog 9 #[.agg #[.slice u l.length c]] w fun e w'=>e=.returned (.string (modText l))∧Below w.heap.size w w':=by
 have P1:=modShS lo l u c (w.alloc (.cells #[.slice u l.length c] 26)) hs (k0.keep (zaA _ _ _))
 have A0:=At.new w #[.slice u l.length c] 26
 have B0:Below w.heap.size w (w.alloc (.cells #[.slice u l.length c] 26)):=(Below.refl _ w).alloc (Nat.le_refl _) _
 unfold modText
 by_cases hm:modB l=true
 ·rw[if_pos hm]
  have P2:=fun W (k:Below w.heap.size w W)=>l5TextS lo l u c W hs hm (k0.keep (zaB k lo))
  rw[hm] at P1
  clear hm
  generalize bs (xMod l)=X at P2 ⊢
  go_enter Tryz.func9,Tryz.ntmps9
  go_wp2_with fail
  refine P1.mono ?_
  rintro e w1 ⟨rfl,b1⟩
  have B1:=B0.trans (b1.mono B0.size)
  have y0:w1.cell? ⟨w.heap.size,0,none⟩=some (.slice u l.length c):=(A0.below b1).cell 0
  go_wp2_with fail
  refine (P2 _ B1).mono ?_
  rintro e w2 ⟨rfl,b2⟩
  go_wp2_with fail
  go_ret
  exact⟨rfl,B1.trans (b2.mono B1.size)⟩
 ·rw[if_neg hm]
  have hm':modB l=false:=by simpa using hm
  rw[hm'] at P1
  clear hm hm'
  go_enter Tryz.func9,Tryz.ntmps9
  go_wp2_with fail
  refine P1.mono ?_
  rintro e w1 ⟨rfl,b1⟩
  go_wp2_with fail
  go_ret
  exact⟨rfl,B0.trans (b1.mono B0.size)⟩
set_option linter.unusedSimpArgs false
theorem results_two{P:Program}{fn:Func}{p r:Tmp}{ty tb:TypeId}(h:fn.results=#[.cell p ty,.cell r tb])(tmps:Array Value)(w:World)(g k:Nat)(v1 v2:Value)
  (hp:tmps.getD p undef=.pointer (some ⟨g,0,none⟩)) (hr:tmps.getD r undef=.pointer (some ⟨k,0,none⟩)) (h1:(loadVar ty ⟨g,0,none⟩).run P w=.ok v1 w) (h2:(loadVar tb ⟨k,0,none⟩).run P w=.ok v2 w) :
  (results fn tmps).run P w=.ok (.tuple #[v1,v2]) w:=by
 have hp':tmps[p]?.getD undef=.pointer (some ⟨g,0,none⟩):=by simpa using hp
 have hr':tmps[r]?.getD undef=.pointer (some ⟨k,0,none⟩):=by simpa using hr
 simp[results,h,hp',hr',asAddr,h1,h2,Result.andThen]
theorem load_bool{w:World}{k:Nat}{b:Bool}(h:At w k #[.bool b] 4):(loadVar 4 ⟨k,0,none⟩).run Tryz.prog w=.ok (.bool b) w:=by
 have c:w.cell? ⟨k,0,none⟩=some (.bool b):=h.cell 0
 simp[go_sem,c]
theorem zrT{P:Program}{fn:Func}{p u:Tmp}{ty:TypeId}(h:fn.results=#[.cell p ty,.tmp u])(tmps:Array Value)(w:World)(g:Nat)(cs:Array Value)
  (hp:tmps.getD p undef=.pointer (some ⟨g,0,none⟩)) (hl:(loadVar ty ⟨g,0,none⟩).run P w=.ok (.agg cs) w) :
  (results fn tmps).run P w=.ok (.tuple #[.agg cs,tmps.getD u undef]) w:=by
 have hp':tmps[p]?.getD undef=.pointer (some ⟨g,0,none⟩):=by simpa using hp
 rw[results_cell_tmp h]
 simp[hp',asAddr,hl,Result.andThen]
end Go.Proofs.YtkpmiikafconmaaGreatDoor
