import Derived.Test.YtkpmiikafconmaaGreatDoorGnXJp
namespace Go.Proofs.YtkpmiikafconmaaGreatDoor
open Go.RowKit Go.Deep
set_option linter.unusedVariables false
theorem size5(v:World):((((v.alloc (.cells #[.slice none 0 0] 26)).alloc (.cells #[.slice none 0 0] 26)).alloc (.cells #[] 2)).alloc (.cells #[] 41)).heap.size=v.heap.size+4:=by simp
theorem mst_start{g len cap:Nat}{a0:Option Addr}{v:World}(h:Rd g a0 len cap v):MSt v.heap.size g a0 len cap v 0 (.slice (some ⟨v.heap.size+2,0,none⟩) 0 0) (.slice (some ⟨v.heap.size+3,0,none⟩) 0 0) ((((v.alloc (.cells #[.slice none 0 0] 26)).alloc (.cells #[.slice none 0 0] 26)).alloc (.cells #[] 2)).alloc (.cells #[] 41)):=by
 have hg:=h.lt
 have hb:Below v.heap.size v ((((v.alloc (.cells #[.slice none 0 0] 26)).alloc (.cells #[.slice none 0 0] 26)).alloc (.cells #[] 2)).alloc (.cells #[] 41)):=(((((Below.refl _ _).alloc (Nat.le_refl _) _).alloc (by simp) _).alloc (by first|(simp;done)|(simp;omega)) _).alloc (by first|(simp;done)|(simp;omega)) _)
 have e0:((((v.alloc (.cells #[.slice none 0 0] 26)).alloc (.cells #[.slice none 0 0] 26)).alloc (.cells #[] 2)).alloc (.cells #[] 41)).heap[v.heap.size]?=some (.cells #[.slice none 0 0] 26 (0,0)):=by
  rw[Below.heap_alloc _ _ _ (by first|(simp;done)|(simp;omega)),Below.heap_alloc _ _ _ (by first|(simp;done)|(simp;omega))]
  exact heap_alloc2_old _ _ _
 have e1:((((v.alloc (.cells #[.slice none 0 0] 26)).alloc (.cells #[.slice none 0 0] 26)).alloc (.cells #[] 2)).alloc (.cells #[] 41)).heap[v.heap.size+1]?=some (.cells #[.slice none 0 0] 26 (0,0)):=by
  rw[Below.heap_alloc _ _ _ (by first|(simp;done)|(simp;omega)),Below.heap_alloc _ _ _ (by first|(simp;done)|(simp;omega))]
  exact heap_alloc2_new _ _ _
 have e2:((((v.alloc (.cells #[.slice none 0 0] 26)).alloc (.cells #[.slice none 0 0] 26)).alloc (.cells #[] 2)).alloc (.cells #[] 41)).heap[v.heap.size+2]?=some (.cells #[] 2 (0,0)):=by
  have q:((v.alloc (.cells #[.slice none 0 0] 26)).alloc (.cells #[.slice none 0 0] 26)).heap.size=v.heap.size+2:=by simp
  rw[Below.heap_alloc _ _ _ (by first|(simp;done)|(simp;omega)),←q]
  exact zhL _ _
 have e3:((((v.alloc (.cells #[.slice none 0 0] 26)).alloc (.cells #[.slice none 0 0] 26)).alloc (.cells #[] 2)).alloc (.cells #[] 41)).heap[v.heap.size+3]?=some (.cells #[] 41 (0,0)):=by
  have q:(((v.alloc (.cells #[.slice none 0 0] 26)).alloc (.cells #[.slice none 0 0] 26)).alloc (.cells #[] 2)).heap.size=v.heap.size+3:=by simp
  rw[←q]
  exact zhL _ _
 refine⟨rd_keep h hb.size fun b hb'=>hb.block b (by omega),hg,by rw[size5];exact Nat.le_refl _,e0,⟨_,[],[],e1,⟨by simp,.inl ⟨rfl,rfl⟩⟩,⟨by simp,.inr ⟨_,0,#[],rfl,by omega,e3,Nat.le_refl _,by unfold maxLen;omega,by simp,by simp⟩⟩,fun _=>rfl,fun hk=>absurd hk (Nat.lt_irrefl 0),fun hk=>absurd hk (by omega)⟩,⟨[],⟨by simp,.inr ⟨_,0,#[],rfl,by omega,e2,Nat.le_refl _,by unfold maxLen;omega,by simp,by simp⟩⟩⟩,fun _=>⟨fun q hq=>?_,fun q hq=>?_⟩,fun b h1 h2=>hb.block b h1,hb.os,hb.tape,hb.output⟩
 ·have:q=v.heap.size+2:=by simpa [Value.ownBlock] using hq.symm
  omega
 ·have:q=v.heap.size+3:=by simpa [Value.ownBlock] using hq.symm
  omega
def fun7:FuncD:=⟨[],8,[⟨[],[⟨21,8,0,0,0,7,[]⟩],⟨1,0,0,0⟩⟩]⟩
theorem fnc_new{X:World}{lo bi bb:Nat}(h1:X.heap[bi]?=some (.cells #[.int .i64 21,.int .i64 8,.int .i64 0,.int .i64 0,.int .i64 0,.int .i64 7,.slice none 0 0] 95 (0,0)))(h2:X.heap[bb]?=some (.cells #[.slice none 0 0,.slice (some ⟨bi,0,none⟩) 1 1,.int .i64 1,.int .i64 0,.int .i64 0,.int .i64 0] 74 (0,0)))(l1:lo≤bi)(l2:lo≤bb):Fnc X lo X.heap.size fun7 none (some ⟨bb,0,none⟩):=by
 have s1:=(Array.getElem?_eq_some_iff.1 h1).1
 have s2:=(Array.getElem?_eq_some_iff.1 h2).1
 refine⟨⟨X,Nat.le_refl _,⟨by simp[fun7],.inl rfl⟩,⟨by simp[fun7],.inr ⟨bb,0,rfl,l2,s2,fun i hi=>?_⟩⟩,Nat.le_refl _,fun _ _ _=>rfl⟩,⟨by simp[fun7],by simp[fun7],fun p hp=>?_⟩,by simp[fun7],by simp[fun7],fun hn=>by simp[fun7] at hn⟩
 ·have hi0:i=0:=by simp[fun7] at hi;omega
  subst hi0
  refine⟨⟨none,0,(zcH h2).trans rfl,by simp[fun7],.inl rfl⟩,⟨some ⟨bi,0,none⟩,1,(zcH h2).trans rfl,by simp[fun7],.inr ⟨bi,0,rfl,l1,s1,fun j hj=>?_⟩⟩,(zcH h2).trans rfl,(zcH h2).trans rfl,(zcH h2).trans rfl,(zcH h2).trans rfl⟩
  have hj0:j=0:=by simp[fun7] at hj;omega
  subst hj0
  exact⟨(zcH h1).trans rfl,(zcH h1).trans rfl,(zcH h1).trans rfl,(zcH h1).trans rfl,(zcH h1).trans rfl,(zcH h1).trans rfl,none,0,(zcH h1).trans rfl,by simp[fun7],.inl rfl⟩
 ·have:p=⟨[],[⟨21,8,0,0,0,7,[]⟩],⟨1,0,0,0⟩⟩:=by simpa [fun7] using hp
  subst this
  exact⟨⟨by simp,by simp⟩,⟨by simp,fun p hp=>by obtain rfl:p=⟨21,8,0,0,0,7,[]⟩:=(by simpa using hp);show _≤_;simp⟩⟩
def map7(bi bb:Nat):Tmap:=fun q=>if q=bi then some (95,1) else if q=bb then some (74,1) else none
theorem ty_new{X:World}{lo k bi bb:Nat}{r s:Value}(h1:X.heap[bi]?=some (.cells #[.int .i64 21,.int .i64 8,.int .i64 0,.int .i64 0,.int .i64 0,.int .i64 7,.slice none 0 0] 95 (0,0)))(h2:X.heap[bb]?=some (.cells #[.slice none 0 0,.slice (some ⟨bi,0,none⟩) 1 1,.int .i64 1,.int .i64 0,.int .i64 0,.int .i64 0] 74 (0,0)))(l1:lo≤bi)(l2:lo≤bb)(hn:∀ q,(r.ownBlock=some q∨s.ownBlock=some q)→q≠bi∧q≠bb):Ty1 X lo fun7 none (some ⟨bb,0,none⟩) r s k:=by
 have hne:bb≠bi:=fun e=>by rw[e,h1] at h2;cases h2
 have hs1:szT 95=7:=by decide
 have hs2:szT 74=6:=by decide
 have hM1:map7 bi bb bi=some (95,1):=by simp[map7]
 have hM2:map7 bi bb bb=some (74,1):=by simp[map7,hne]
 refine⟨map7 bi bb,fun b T m hb=>?_,fun q T m hq hb=>?_,⟨none,0,rfl,.inl rfl⟩,⟨_,0,rfl,.inr ⟨bb,1,rfl,hM2,Nat.le_refl _⟩⟩,by simp[fun7],by simp[fun7],by simp[fun7]⟩
 ·by_cases e:b=bi
  ·subst e
   rw[hM1] at hb
   cases hb
   refine⟨l1,_,h1,fun i hi=>?_⟩
   obtain rfl:i=0:=by omega
   refine⟨fun q=>absurd q (by decide),fun q=>absurd q (by decide),fun q=>absurd q (by decide),fun _=>⟨fun j hj=>?_,_,by rw[hs1];rfl,0,by omega,none,0,rfl,.inl rfl⟩,fun q=>absurd q (by decide)⟩
   rw[hs1]
   rcases j with _|_|_|_|_|_|j
   all_goals first|exact⟨_,rfl⟩|omega
  ·by_cases e2:b=bb
   ·subst e2
    rw[hM2] at hb
    cases hb
    refine⟨l2,_,h2,fun i hi=>?_⟩
    obtain rfl:i=0:=by omega
    refine⟨fun q=>absurd q (by decide),fun q=>absurd q (by decide),fun q=>absurd q (by decide),fun q=>absurd q (by decide),fun _=>⟨⟨_,by rw[hs2];rfl,0,by omega,none,0,rfl,.inl rfl⟩,⟨_,by rw[hs2];rfl,1,by omega,_,1,rfl,.inr ⟨bi,1,rfl,hM1,Nat.le_refl _⟩⟩,fun j hj hj6=>?_⟩⟩
    rw[hs2]
    rcases j with _|_|_|_|_|_|j
    all_goals first|exact⟨_,rfl⟩|omega
   ·simp[map7,e,e2] at hb
 ·obtain⟨n1,n2⟩:=hn q hq
  simp[map7,n1,n2] at hb
theorem mids_ty{w1 w3:World}{base k:Nat}{r s:Value}{d:FuncD}{up ub:Option Addr}{F:Obj}(hTy:Ty1 w1 base d up ub r s k)(hb3:Below (w1.alloc F).heap.size (w1.alloc F) w3)(hq:∀ q,(r.ownBlock=some q∨s.ownBlock=some q)→q<w3.heap.size)(hbl:base≤w3.heap.size) :
  Ty1 w3 base d up ub r s k∧Ty1 (((((w3.setCell ⟨w1.heap.size,0,none⟩ (.slice none 0 0)).setCell ⟨w1.heap.size,1,none⟩ (.int .i64 8)).setCell ⟨w1.heap.size,2,none⟩ (.slice (some ⟨w3.heap.size+1,0,none⟩) 1 1)).alloc (.cells #[.int .i64 21,.int .i64 8,.int .i64 0,.int .i64 0,.int .i64 0,.int .i64 7,.slice none 0 0] 95)).alloc (.cells #[.slice none 0 0,.slice (some ⟨w3.heap.size,0,none⟩) 1 1,.int .i64 1,.int .i64 0,.int .i64 0,.int .i64 0] 74)) base fun7 none (some ⟨w3.heap.size+1,0,none⟩) r s k:=by
 have hY:(((w3.setCell ⟨w1.heap.size,0,none⟩ (.slice none 0 0)).setCell ⟨w1.heap.size,1,none⟩ (.int .i64 8)).setCell ⟨w1.heap.size,2,none⟩ (.slice (some ⟨w3.heap.size+1,0,none⟩) 1 1)).heap.size=w3.heap.size:=by simp only[World.size_setCell]
 generalize (((w3.setCell ⟨w1.heap.size,0,none⟩ (.slice none 0 0)).setCell ⟨w1.heap.size,1,none⟩ (.int .i64 8)).setCell ⟨w1.heap.size,2,none⟩ (.slice (some ⟨w3.heap.size+1,0,none⟩) 1 1))=Yw at hY
 refine⟨hTy.same fun b hb=>(hb3.block b (by simp;omega)).trans (Below.heap_alloc _ _ _ hb),ty_new ?_ ?_ hbl (by omega) fun q k=>?_⟩
 ·rw[←hY];exact heap_alloc2_old _ _ _
 ·have q:=heap_alloc2_new Yw (.cells #[.int .i64 21,.int .i64 8,.int .i64 0,.int .i64 0,.int .i64 0,.int .i64 7,.slice none 0 0] 95) (.cells #[.slice none 0 0,.slice (some ⟨w3.heap.size,0,none⟩) 1 1,.int .i64 1,.int .i64 0,.int .i64 0,.int .i64 0] 74)
  rw[hY] at q
  exact q
 ·have:=hq q k;omega
theorem ty1_of{w1:World}{base k cp cb:Nat}{M M2:Tmap}{r s:Value}{d:FuncD}{up ub:Option Addr}(th:TH base M2 400 w1)(sl1:SlN M2 2 (.slice up d.params.length cp) d.params.length)(sl2:SlN M2 74 (.slice ub d.blocks.length cb) d.blocks.length)(hn:d.params.length≤2)(hb:1≤d.blocks.length∧d.blocks.length≤400)(hh:∀ b T m,M b=some (T,m)→M2 b=some (T,m))(hq:∀ q,(r.ownBlock=some q∨s.ownBlock=some q)→q<base∨∃ T m,M q=some (T,m)∧m≤k):Ty1 w1 base d up ub r s k:=by
 refine⟨M2,th,fun q T m k1 k2=>?_,sl_cap sl1,sl_cap sl2,hn,hb.1,hb.2⟩
 rcases hq q k1 with h|⟨T',m',h1,h2⟩
 ·have:=(th.blk k2).1;omega
 ·rw[hh q T' m' h1] at k2
  cases k2
  exact h2
theorem infoF:(Tryz.prog.info? 55).map (fun i=>(i.zero,i.size,i.bytes))=some (some (.agg #[.slice none 0 0,.int .i64 0,.slice none 0 0]),3,56):=by kernel_rfl
theorem infoSy:(Tryz.prog.info? 41).map (fun i=>(i.zero,i.size,i.bytes))=some (some (.slice none 0 0),1,24):=by kernel_rfl
theorem three_of{w:World}{L:Nat}{x0 x1 x2:Value}{T:TypeId}(hL:w.heap[L]?=some (.cells #[x0,x1,x2] T (0,0))):∀ j u,[x0,x1,x2][j]?=some u→w.cell? ((⟨L,0,none⟩:Addr).add j)=some u:=fun j u hj=>by
 rw[Addr.add_lit,zcH hL,Nat.zero_add,←hj]
 rcases j with _|_|_|j<;>rfl
theorem heap_alloc_set(w:World)(p:Addr)(x:Value)(o:Obj):((w.setCell p x).alloc o).heap[w.heap.size]?=some o:=by
 have:=zhL (w.setCell p x) o
 rwa [World.size_setCell] at this
theorem after1{z0 g len cap k T7 g4 c4:Nat}{a0:Option Addr}{v x y1:World}{r s mf:Value}{xs ps:List Value}{zs:List Int}{A:Obj}{q0 q1 q2:Value}(hM:MSt z0 g a0 len cap v k r s x)(m1:x.heap[z0+1]?=some (.cells #[mf] 26 (0,0)))(m2:x.ownsRow (z0+2) 55 3 mf k xs)(m3:x.ownsRow (z0+2) 41 1 s k ps)(m5:x.ownsRow (z0+2) 2 1 r k (zs.map (Value.int .i64)))
  (ht:x.heap[T7]?=some (.cells #[q0,q1,q2] 55 (0,0))) (hT:z0+4≤T7) (hTm:mf.ownBlock≠some T7) (e1:(x.alloc A).grownBy y1 mf.ownBlock) :
  y1.heap[z0+1]?=some (.cells #[mf] 26 (0,0))∧y1.heap[T7]?=some (.cells #[q0,q1,q2] 55 (0,0))∧(y1.setCell ⟨z0+1,0,none⟩ (.slice (some ⟨g4,0,none⟩) (k+1) c4)).ownsRow (z0+2) 2 1 r k (zs.map (Value.int .i64))∧(y1.setCell ⟨z0+1,0,none⟩ (.slice (some ⟨g4,0,none⟩) (k+1) c4)).ownsRow (z0+2) 41 1 s k ps∧z0+4≤y1.heap.size:=by
 have hsz:=hM.sz
 have s1:x.heap.size+1≤y1.heap.size:=by have:=e1.size;simpa using this
 have b1:∀ b,b<x.heap.size→mf.ownBlock≠some b→y1.heap[b]?=x.heap[b]?:=fun b hb hn=>(e1.block b (by simp;omega) (fun e=>hn e.symm)).trans (Below.heap_alloc _ _ _ hb)
 have hTl:=(Array.getElem?_eq_some_iff.1 ht).1
 refine⟨(b1 _ (by omega) (fun e=>by have:=m2.lt _ e;omega)).trans m1,(b1 _ hTl hTm).trans ht,own_stay m5 fun q hq=>?_,own_stay m3 fun q hq=>?_,by omega⟩
 ·have:=m5.lt q hq
  exact (Below.heap_setCell _ _ _ _ (by dsimp only;omega)).trans (b1 q this.2 fun e=>own_ne m2 m5 (by decide) e hq rfl)
 ·have:=m3.lt q hq
  exact (Below.heap_setCell _ _ _ _ (by dsimp only;omega)).trans (b1 q this.2 fun e=>own_ne m2 m3 (by decide) e hq rfl)
theorem after2{z0 k T7:Nat}{y2 y3:World}{r s:Value}{ps:List Value}{zs:List Int}{B:Obj}{q0 q1 q2:Value}(m3:y2.ownsRow (z0+2) 41 1 s k ps)(m5:y2.ownsRow (z0+2) 2 1 r k (zs.map (Value.int .i64)))(ht:y2.heap[T7]?=some (.cells #[q0,q1,q2] 55 (0,0)))(e2:(y2.alloc B).grownBy y3 r.ownBlock) :
  y3.heap[T7]?=some (.cells #[q0,q1,q2] 55 (0,0))∧y3.ownsRow (z0+2) 41 1 s k ps∧y2.heap.size+1≤y3.heap.size:=by
 have b2:∀ b,b<y2.heap.size→r.ownBlock≠some b→y3.heap[b]?=y2.heap[b]?:=fun b hb hn=>(e2.block b (by simp;omega) (fun e=>hn e.symm)).trans (Below.heap_alloc _ _ _ hb)
 have hTl:=(Array.getElem?_eq_some_iff.1 ht).1
 refine⟨(b2 _ hTl fun e=>?_).trans ht,own_stay m3 fun q hq=>b2 q (m3.lt q hq).2 fun e=>own_ne m5 m3 (by decide) e hq rfl,by have:=e2.size;simpa using this⟩
 obtain⟨cur,hc⟩:=rowblk m5 T7 e
 rw[ht] at hc
 cases hc
theorem mids{z0 g len cap k base:Nat}{a0:Option Addr}{v wr w1 w3:World}{r s:Value}{d:FuncD}{up ub:Option Addr}{cp cb:Nat}(hM:MSt z0 g a0 len cap v k r s wr)(hrd:Rd g a0 len cap w1)(hkeep:∀ b,b<wr.heap.size→b≠g→w1.heap[b]?=wr.heap[b]?)(o1:w1.os=wr.os)(o2:w1.tape=wr.tape)(o3:w1.output=wr.output)(hs:wr.heap.size≤w1.heap.size)(hF:Fnc w1 base w1.heap.size d up ub)(hbl:base≤wr.heap.size)(hb3:Below (w1.alloc (.cells #[.slice up d.params.length cp,.int .i64 d.ret,.slice ub d.blocks.length cb] 55)).heap.size (w1.alloc (.cells #[.slice up d.params.length cp,.int .i64 d.ret,.slice ub d.blocks.length cb] 55)) w3) :
  (MSt z0 g a0 len cap v k r s w3∧w3.heap[w1.heap.size]?=some (.cells #[.slice up d.params.length cp,.int .i64 d.ret,.slice ub d.blocks.length cb] 55 (0,0))∧Fnc w3 base w3.heap.size d up ub) ∧
  (MSt z0 g a0 len cap v k r s (((((w3.setCell ⟨w1.heap.size,0,none⟩ (.slice none 0 0)).setCell ⟨w1.heap.size,1,none⟩ (.int .i64 8)).setCell ⟨w1.heap.size,2,none⟩ (.slice (some ⟨w3.heap.size+1,0,none⟩) 1 1)).alloc (.cells #[.int .i64 21,.int .i64 8,.int .i64 0,.int .i64 0,.int .i64 0,.int .i64 7,.slice none 0 0] 95)).alloc (.cells #[.slice none 0 0,.slice (some ⟨w3.heap.size,0,none⟩) 1 1,.int .i64 1,.int .i64 0,.int .i64 0,.int .i64 0] 74))∧(((((w3.setCell ⟨w1.heap.size,0,none⟩ (.slice none 0 0)).setCell ⟨w1.heap.size,1,none⟩ (.int .i64 8)).setCell ⟨w1.heap.size,2,none⟩ (.slice (some ⟨w3.heap.size+1,0,none⟩) 1 1)).alloc (.cells #[.int .i64 21,.int .i64 8,.int .i64 0,.int .i64 0,.int .i64 0,.int .i64 7,.slice none 0 0] 95)).alloc (.cells #[.slice none 0 0,.slice (some ⟨w3.heap.size,0,none⟩) 1 1,.int .i64 1,.int .i64 0,.int .i64 0,.int .i64 0] 74)).heap[w1.heap.size]?=some (.cells #[.slice none 0 0,.int .i64 8,.slice (some ⟨w3.heap.size+1,0,none⟩) 1 1] 55 (0,0))∧Fnc (((((w3.setCell ⟨w1.heap.size,0,none⟩ (.slice none 0 0)).setCell ⟨w1.heap.size,1,none⟩ (.int .i64 8)).setCell ⟨w1.heap.size,2,none⟩ (.slice (some ⟨w3.heap.size+1,0,none⟩) 1 1)).alloc (.cells #[.int .i64 21,.int .i64 8,.int .i64 0,.int .i64 0,.int .i64 0,.int .i64 7,.slice none 0 0] 95)).alloc (.cells #[.slice none 0 0,.slice (some ⟨w3.heap.size,0,none⟩) 1 1,.int .i64 1,.int .i64 0,.int .i64 0,.int .i64 0] 74)) base (((((w3.setCell ⟨w1.heap.size,0,none⟩ (.slice none 0 0)).setCell ⟨w1.heap.size,1,none⟩ (.int .i64 8)).setCell ⟨w1.heap.size,2,none⟩ (.slice (some ⟨w3.heap.size+1,0,none⟩) 1 1)).alloc (.cells #[.int .i64 21,.int .i64 8,.int .i64 0,.int .i64 0,.int .i64 0,.int .i64 7,.slice none 0 0] 95)).alloc (.cells #[.slice none 0 0,.slice (some ⟨w3.heap.size,0,none⟩) 1 1,.int .i64 1,.int .i64 0,.int .i64 0,.int .i64 0] 74)).heap.size fun7 none (some ⟨w3.heap.size+1,0,none⟩))∧w1.heap.size<w3.heap.size∧(∀ b,b<wr.heap.size→b≠g→w3.heap[b]?=wr.heap[b]?)∧(∀ b,b<wr.heap.size→b≠g→(((((w3.setCell ⟨w1.heap.size,0,none⟩ (.slice none 0 0)).setCell ⟨w1.heap.size,1,none⟩ (.int .i64 8)).setCell ⟨w1.heap.size,2,none⟩ (.slice (some ⟨w3.heap.size+1,0,none⟩) 1 1)).alloc (.cells #[.int .i64 21,.int .i64 8,.int .i64 0,.int .i64 0,.int .i64 0,.int .i64 7,.slice none 0 0] 95)).alloc (.cells #[.slice none 0 0,.slice (some ⟨w3.heap.size,0,none⟩) 1 1,.int .i64 1,.int .i64 0,.int .i64 0,.int .i64 0] 74)).heap[b]?=wr.heap[b]?)∧w3.heap.size≤(((((w3.setCell ⟨w1.heap.size,0,none⟩ (.slice none 0 0)).setCell ⟨w1.heap.size,1,none⟩ (.int .i64 8)).setCell ⟨w1.heap.size,2,none⟩ (.slice (some ⟨w3.heap.size+1,0,none⟩) 1 1)).alloc (.cells #[.int .i64 21,.int .i64 8,.int .i64 0,.int .i64 0,.int .i64 0,.int .i64 7,.slice none 0 0] 95)).alloc (.cells #[.slice none 0 0,.slice (some ⟨w3.heap.size,0,none⟩) 1 1,.int .i64 1,.int .i64 0,.int .i64 0,.int .i64 0] 74)).heap.size:=by
 have hg:=hM.rd.lt
 have hBw:Below w1.heap.size w1 (w1.alloc (.cells #[.slice up d.params.length cp,.int .i64 d.ret,.slice ub d.blocks.length cb] 55)):=(Below.refl _ _).alloc (Nat.le_refl _) _
 have hsz2:(w1.alloc (.cells #[.slice up d.params.length cp,.int .i64 d.ret,.slice ub d.blocks.length cb] 55)).heap.size=w1.heap.size+1:=by simp
 have hT2:(w1.alloc (.cells #[.slice up d.params.length cp,.int .i64 d.ret,.slice ub d.blocks.length cb] 55)).heap[w1.heap.size]?=some (.cells #[.slice up d.params.length cp,.int .i64 d.ret,.slice ub d.blocks.length cb] 55 (0,0)):=zhL _ _
 generalize (w1.alloc (.cells #[.slice up d.params.length cp,.int .i64 d.ret,.slice ub d.blocks.length cb] 55))=W2 at *
 have hs3:=hb3.size
 rw[hsz2] at hs3 hb3
 have hB3:Below w1.heap.size w1 w3:=hBw.trans (hb3.mono (by omega))
 have hT3:w3.heap[w1.heap.size]?=some (.cells #[.slice up d.params.length cp,.int .i64 d.ret,.slice ub d.blocks.length cb] 55 (0,0)):=(hb3.block _ (by omega)).trans hT2
 have hBy:Below w1.heap.size w1 (((w3.setCell ⟨w1.heap.size,0,none⟩ (.slice none 0 0)).setCell ⟨w1.heap.size,1,none⟩ (.int .i64 8)).setCell ⟨w1.heap.size,2,none⟩ (.slice (some ⟨w3.heap.size+1,0,none⟩) 1 1)):=((hB3.setCell (Nat.le_refl _) _).setCell (Nat.le_refl _) _).setCell (Nat.le_refl _) _
 have hY:(((w3.setCell ⟨w1.heap.size,0,none⟩ (.slice none 0 0)).setCell ⟨w1.heap.size,1,none⟩ (.int .i64 8)).setCell ⟨w1.heap.size,2,none⟩ (.slice (some ⟨w3.heap.size+1,0,none⟩) 1 1)).heap.size=w3.heap.size:=by simp only[World.size_setCell]
 have hTy:(((w3.setCell ⟨w1.heap.size,0,none⟩ (.slice none 0 0)).setCell ⟨w1.heap.size,1,none⟩ (.int .i64 8)).setCell ⟨w1.heap.size,2,none⟩ (.slice (some ⟨w3.heap.size+1,0,none⟩) 1 1)).heap[w1.heap.size]?=some (.cells #[.slice none 0 0,.int .i64 8,.slice (some ⟨w3.heap.size+1,0,none⟩) 1 1] 55 (0,0)):=(zhS (zhS (zhS hT3))).trans rfl
 generalize (((w3.setCell ⟨w1.heap.size,0,none⟩ (.slice none 0 0)).setCell ⟨w1.heap.size,1,none⟩ (.int .i64 8)).setCell ⟨w1.heap.size,2,none⟩ (.slice (some ⟨w3.heap.size+1,0,none⟩) 1 1))=Yw at *
 have hBx:=(hBy.alloc (by omega) (.cells #[.int .i64 21,.int .i64 8,.int .i64 0,.int .i64 0,.int .i64 0,.int .i64 7,.slice none 0 0] 95)).alloc (by simp;omega) (.cells #[.slice none 0 0,.slice (some ⟨w3.heap.size,0,none⟩) 1 1,.int .i64 1,.int .i64 0,.int .i64 0,.int .i64 0] 74)
 have hszx:((Yw.alloc (.cells #[.int .i64 21,.int .i64 8,.int .i64 0,.int .i64 0,.int .i64 0,.int .i64 7,.slice none 0 0] 95)).alloc (.cells #[.slice none 0 0,.slice (some ⟨w3.heap.size,0,none⟩) 1 1,.int .i64 1,.int .i64 0,.int .i64 0,.int .i64 0] 74)).heap.size=w3.heap.size+2:=by simp[hY]
 have hTx:((Yw.alloc (.cells #[.int .i64 21,.int .i64 8,.int .i64 0,.int .i64 0,.int .i64 0,.int .i64 7,.slice none 0 0] 95)).alloc (.cells #[.slice none 0 0,.slice (some ⟨w3.heap.size,0,none⟩) 1 1,.int .i64 1,.int .i64 0,.int .i64 0,.int .i64 0] 74)).heap[w1.heap.size]?=some (.cells #[.slice none 0 0,.int .i64 8,.slice (some ⟨w3.heap.size+1,0,none⟩) 1 1] 55 (0,0)):=(Below.heap_alloc _ _ _ (by simp;omega)).trans ((Below.heap_alloc _ _ _ (by omega)).trans hTy)
 have hI:((Yw.alloc (.cells #[.int .i64 21,.int .i64 8,.int .i64 0,.int .i64 0,.int .i64 0,.int .i64 7,.slice none 0 0] 95)).alloc (.cells #[.slice none 0 0,.slice (some ⟨w3.heap.size,0,none⟩) 1 1,.int .i64 1,.int .i64 0,.int .i64 0,.int .i64 0] 74)).heap[w3.heap.size]?=some (.cells #[.int .i64 21,.int .i64 8,.int .i64 0,.int .i64 0,.int .i64 0,.int .i64 7,.slice none 0 0] 95 (0,0)):=by rw[←hY];exact heap_alloc2_old _ _ _
 have hBk:((Yw.alloc (.cells #[.int .i64 21,.int .i64 8,.int .i64 0,.int .i64 0,.int .i64 0,.int .i64 7,.slice none 0 0] 95)).alloc (.cells #[.slice none 0 0,.slice (some ⟨w3.heap.size,0,none⟩) 1 1,.int .i64 1,.int .i64 0,.int .i64 0,.int .i64 0] 74)).heap[w3.heap.size+1]?=some (.cells #[.slice none 0 0,.slice (some ⟨w3.heap.size,0,none⟩) 1 1,.int .i64 1,.int .i64 0,.int .i64 0,.int .i64 0] 74 (0,0)):=by
  have q:=heap_alloc2_new Yw (.cells #[.int .i64 21,.int .i64 8,.int .i64 0,.int .i64 0,.int .i64 0,.int .i64 7,.slice none 0 0] 95) (.cells #[.slice none 0 0,.slice (some ⟨w3.heap.size,0,none⟩) 1 1,.int .i64 1,.int .i64 0,.int .i64 0,.int .i64 0] 74)
  rw[hY] at q
  exact q
 generalize ((Yw.alloc (.cells #[.int .i64 21,.int .i64 8,.int .i64 0,.int .i64 0,.int .i64 0,.int .i64 7,.slice none 0 0] 95)).alloc (.cells #[.slice none 0 0,.slice (some ⟨w3.heap.size,0,none⟩) 1 1,.int .i64 1,.int .i64 0,.int .i64 0,.int .i64 0] 74))=X at *
 have hgl:=hrd.lt
 refine⟨⟨hM.keep (rd_keep hrd hB3.size fun b hb=>hB3.block b (by omega)) (fun b h1 h2=>(hB3.block b (by omega)).trans (hkeep b h1 h2)) (by have:=hB3.size;omega) (hB3.os.trans o1) (hB3.tape.trans o2) (hB3.output.trans o3),hT3,(hF.step hB3.size fun b h1 h2=>hB3.block b h2).more (by omega)⟩,⟨hM.keep (rd_keep hrd hBx.size fun b hb=>hBx.block b (by omega)) (fun b h1 h2=>(hBx.block b (by omega)).trans (hkeep b h1 h2)) (by have:=hBx.size;omega) (hBx.os.trans o1) (hBx.tape.trans o2) (hBx.output.trans o3),hTx,fnc_new hI hBk (by omega) (by omega)⟩,by omega,fun b h1 h2=>(hB3.block b (by omega)).trans (hkeep b h1 h2),fun b h1 h2=>(hBx.block b (by omega)).trans (hkeep b h1 h2),by omega⟩
def Fs(z0 k:Nat)(r s mf:Value)(xs ps:List Value)(zs:List Int)(x:World):Prop:=x.heap[z0+1]?=some (.cells #[mf] 26 (0,0))∧x.ownsRow (z0+2) 55 3 mf k xs∧x.ownsRow (z0+2) 41 1 s k ps∧x.ownsRow (z0+2) 2 1 r k (zs.map (Value.int .i64))∧(k=0→mf=.slice none 0 0) ∧
 (0<k→∃ d up cp ub cb H,xs[0]?=some (.slice up d.params.length cp)∧xs[1]?=some (.int .i64 d.ret)∧xs[2]?=some (.slice ub d.blocks.length cb)∧Fnc x (z0+4) H d up ub∧(∀ q,mf.ownBlock=some q→q<z0+4∨H≤q)∧(∀ q,r.ownBlock=some q→q<z0+4∨H≤q)∧(∀ q,s.ownBlock=some q→q<z0+4∨H≤q)∧H≤x.heap.size∧(k=1→ps=[.slice up d.params.length cp])∧TyH x (z0+4) H d up ub)∧(1<k→∃ d up cp ub cb,xs[3]?=some (.slice up d.params.length cp)∧xs[4]?=some (.int .i64 d.ret)∧xs[5]?=some (.slice ub d.blocks.length cb)∧Ty2 x (z0+2) d up ub)
theorem fs_at{z0 g len cap k:Nat}{a0:Option Addr}{v w:World}{r s:Value}(h:MSt z0 g a0 len cap v k r s w):∃ mf xs ps zs,(∀ q,mf.ownBlock=some q→q<w.heap.size)∧∀ x:World,(∀ b,b<w.heap.size→b≠g→x.heap[b]?=w.heap[b]?)→w.heap.size≤x.heap.size→Fs z0 k r s mf xs ps zs x:=by
 have hgz:=h.gz
 have hsz:=h.sz
 obtain⟨mf,xs,ps,m1,m2,m3,m0,m4,m6⟩:=h.fs
 obtain⟨zs,hz⟩:=h.ro
 refine⟨mf,xs,ps,zs,fun q hq=>(m2.lt q hq).2,fun x hb hs=>?_⟩
 have hlt:∀ {T:TypeId} {sz n:Nat} {y:Value} {ys:List Value},w.ownsRow (z0+2) T sz y n ys→x.ownsRow (z0+2) T sz y n ys:=fun {T sz n y ys} hy=>own_stay hy fun q hq=>by
  obtain⟨q1,q2⟩:=hy.lt q hq
  exact hb q q2 (by omega)
 refine⟨(hb _ (by omega) (by omega)).trans m1,hlt m2,hlt m3,hlt hz,m0,fun hk=>?_,fun hk=>?_⟩
 ·obtain⟨d,up,cp,ub,cb,H,x0,x1,x2,hF,r1,r2,r3,r4,r5,r6⟩:=m4 hk
  exact⟨d,up,cp,ub,cb,H,x0,x1,x2,hF.keep hb hs (by omega),r1,r2,r3,by omega,r5,r6.keep hb (by omega)⟩
 ·obtain⟨d,up,cp,ub,cb,x0,x1,x2,r6⟩:=m6 hk
  exact⟨d,up,cp,ub,cb,x0,x1,x2,r6.keep hb (by omega)⟩
theorem next_at{z0 g len cap k T7 g4 c4 g5 c5 g6 c6 lo:Nat}{a0:Option Addr}{v x y1 y3 y4:World}{r s mf:Value}{d:FuncD}{up ub:Option Addr}{cp cb:Nat}{xs ps:List Value}{zs:List Int}{A B C:Obj}(hM:MSt z0 g a0 len cap v k r s x)(hk:k≤1)(hF:Fnc x lo x.heap.size d up ub)(hlo:k=0→lo=z0+4)(hTy:Ty1 x lo d up ub r s k)(hlo2:z0+2≤lo)(hf:Fs z0 k r s mf xs ps zs x)
  (o1:y1.ownsRow (z0+2) 55 3 (.slice (some ⟨g4,0,none⟩) (k+1) c4) (k+1) (xs++[.slice up d.params.length cp,.int .i64 d.ret,.slice ub d.blocks.length cb])) (E1:Two mf g4 (x.alloc A).heap.size (x.alloc A) y1)
  (o2:y3.ownsRow (z0+2) 2 1 (.slice (some ⟨g5,0,none⟩) (k+1) c5) (k+1) (zs.map (Value.int .i64)++[.int .i64 d.ret])) (E2:Two r g5 ((y1.setCell ⟨z0+1,0,none⟩ (.slice (some ⟨g4,0,none⟩) (k+1) c4)).alloc B).heap.size ((y1.setCell ⟨z0+1,0,none⟩ (.slice (some ⟨g4,0,none⟩) (k+1) c4)).alloc B) y3)
  (o3:y4.ownsRow (z0+2) 41 1 (.slice (some ⟨g6,0,none⟩) (k+1) c6) (k+1) (ps++[.slice up d.params.length cp])) (E3:Two s g6 (y3.alloc C).heap.size (y3.alloc C) y4) :
  MSt z0 g a0 len cap v (k+1) (.slice (some ⟨g5,0,none⟩) (k+1) c5) (.slice (some ⟨g6,0,none⟩) (k+1) c6) y4:=by
 obtain⟨m1,m2,m3,m5,m0,m4,_⟩:=hf
 exact hM.next (T7:=T7) hk hF hlo hTy hlo2 m1 m2 m3 m5 m0 m4 o1 E1 o2 E2 o3 E3
end Go.Proofs.YtkpmiikafconmaaGreatDoor
namespace Go.Proofs.YtkpmiikafconmaaGreatDoor
open Go.RowKit
set_option maxHeartbeats 4000000
set_option linter.unusedVariables false
set_option linter.unusedSimpArgs false
def valN(l:List UInt8):Nat:=l.foldl (fun a b=>10*a+(b.toNat-48)) 0
theorem valN_snoc(l:List UInt8)(b:UInt8):valN (l++[b])=10*valN l+(b.toNat-48):=by simp[valN,List.foldl_append]
theorem valN_dec(u:Nat):valN (Lib.decDigits u)=u:=by
 induction u using Nat.strongRecOn with
 | ind u ih =>
  by_cases h:u<10
  ·rw[dec_small h]
   show 10*0+((UInt8.ofNat (48+u)).toNat-48)=u
   rw[digit_nat h];omega
  ·rw[dec_big h,valN_snoc,ih (u/10) (by omega),digit_nat (by omega:u%10<10)];omega
theorem dec_one_len(u:Nat):∀ c,Lib.decDigits u=[c]→u<10:=by
 intro c e
 apply Decidable.byContradiction
 intro h
 have h1:=congrArg List.length e
 have h2:=dec_pos (u/10)
 rw[dec_big h] at h1
 simp only[List.length_append,List.length_cons,List.length_nil] at h1
 omega
theorem dec_lead(u:Nat):∀ c r,Lib.decDigits u=c :: r→r≠[]→¬c.toNat=48:=by
 induction u using Nat.strongRecOn with
 | ind u ih =>
  intro c r e hr
  by_cases h:u<10
  ·rw[dec_small h] at e
   obtain⟨rfl,rfl⟩:=List.cons.inj e
   exact absurd rfl hr
  ·rw[dec_big h] at e
   by_cases h2:u/10<10
   ·rw[dec_small h2] at e
    obtain⟨rfl,_⟩:=List.cons.inj e
    rw[digit_nat h2];omega
   ·obtain⟨c',r',e',_,_⟩:=digits_cons (u/10)
    rw[e'] at e
    obtain⟨rfl,_⟩:=List.cons.inj e
    refine ih (u/10) (by omega) _ _ e' ?_
    rintro rfl
    exact h2 (dec_one_len _ _ e')
def NumTold(s:ByteArray)(n:Int)(ok:Bool):Prop:=∀ k:Nat,k≤4294967295→s=bs (Lib.decDigits k)→ok=true∧n=k
theorem bs_list(l:List UInt8):(bs l).data.toList=l:=by simp[bs]
theorem list_size(s:ByteArray):s.data.toList.length=s.size:=rfl
def NumEnd(s:ByteArray)(e:Ending):Prop:=∃ (n:Int) (ok:Bool),e=.returned (.tuple #[.int .i64 n,.bool ok])∧NumTold s n ok
theorem told_empty{s:ByteArray}(h:s.size=0):NumTold s 0 false:=by
 intro k hk e
 have h1:=dec_pos k
 rw[e,bs_size] at h
 omega
theorem told_long{s:ByteArray}(h:10<s.size):NumTold s 0 false:=by
 intro k hk e
 have h1:=dec_len 9 k (by omega)
 rw[e,bs_size] at h
 omega
theorem told_lead{s:ByteArray}(h0:0<s.size)(h:(s[0]'h0).toNat=48)(h1:1<s.size):NumTold s 0 false:=by
 intro k hk e
 obtain⟨c,r,e2,_,_⟩:=digits_cons k
 have hb:=byte_at h0
 have hl:s.data.toList=c :: r:=by rw[e,bs_list,e2]
 rw[hl] at hb
 have hc:c=s[0]'h0:=Option.some.inj hb
 have hr:r≠[]:=by
  rintro rfl
  have:=congrArg List.length hl
  rw[list_size] at this
  simp only[List.length_cons,List.length_nil] at this
  omega
 exact absurd (by rw[hc];exact h) (dec_lead k c r e2 hr)
theorem told_bad{s:ByteArray}{j:Nat}(hj:j<s.size)(h:(s[j]'hj).toNat<48∨57<(s[j]'hj).toNat):NumTold s 0 false:=by
 intro k hk e
 have hb:=byte_at hj
 obtain⟨b,hb0⟩:∃ b,s[j]'hj=b:=⟨_,rfl⟩
 rw[hb0] at hb h
 rw[e,bs_list] at hb
 have:=digits_all k _ (List.mem_of_getElem? hb)
 omega
theorem told_all{s:ByteArray}{m:Nat}(h:valN (s.data.toList.take s.size)=m):NumTold s (m:Int) true:=by
 intro k hk e
 refine⟨rfl,?_⟩
 have hl:s.data.toList.take s.size=Lib.decDigits k:=by
  rw[List.take_of_length_le (by rw[list_size];exact Nat.le_refl _)]
  rw[e,bs_list]
 rw[hl,valN_dec] at h
 rw[h]
theorem valN_next{s:ByteArray}{j:Nat}(hj:j<s.size):valN (s.data.toList.take (j+1))=10*valN (s.data.toList.take j)+((s[j]'hj).toNat-48):=by
 have hb:=byte_at hj
 rw[List.take_add_one,hb]
 exact valN_snoc _ _
theorem numS(s:ByteArray)(w:World)(hs:s.size≤1048576) :
  Calls Tryz.prog 99 #[.string s] w fun e w'=>NumEnd s e∧Below w.heap.size w w':=by
 go_enter Tryz.func99,Tryz.ntmps99
 by_cases h0:s.size=0
 ·have HN:Hid (NumTold s 0 false):=told_empty h0
  have q0:(s.size:Int)<1:=by omega
  go_wp2_with fail
  exact bodyPost_ret (v:=.tuple #[.int .i64 0,.bool false]) (by simp[results,Tryz.results99]) rfl ⟨⟨0,false,rfl,HN.out⟩,Below.refl _ _⟩
 by_cases h10:10<s.size
 ·have HN:Hid (NumTold s 0 false):=told_long h10
  have q0:¬(s.size:Int)<1:=by omega
  have q1:(10:Int)<s.size:=by omega
  go_wp2_with fail
  exact bodyPost_ret (v:=.tuple #[.int .i64 0,.bool false]) (by simp[results,Tryz.results99]) rfl ⟨⟨0,false,rfl,HN.out⟩,Below.refl _ _⟩
 have h1:0<s.size:=by omega
 have q0:¬(s.size:Int)<1:=by omega
 have q10:¬(10:Int)<s.size:=by omega
 by_cases hz:(s[0]'h1).toNat=48
 ·have qz:(((s[0]'h1).toNat:Nat):Int)=48:=by omega
  by_cases h2:1<s.size
  ·have HN:Hid (NumTold s 0 false):=told_lead h1 hz h2
   have q2:(1:Int)<s.size:=by omega
   go_wp2_with fail
   exact bodyPost_ret (v:=.tuple #[.int .i64 0,.bool false]) (by simp[results,Tryz.results99]) rfl ⟨⟨0,false,rfl,HN.out⟩,Below.refl _ _⟩
  ·have q2:¬(1:Int)<s.size:=by omega
   go_wp2_with fail
   go_loopw [4,5] (fun n i wr=>∃ (j m:Nat),j≤s.size∧i=.int .i64 j∧n=.int .i64 m∧m<10 ^ j∧Hid (valN (s.data.toList.take j)=m)∧wr=w) (fun _ i _=>s.size-(intOf i).toNat)
   case atStart=>exact⟨0,0,by omega,rfl,rfl,by simp,by show _=_;simp[valN],rfl⟩
   case round =>
    obtain⟨j,m,hj,rfl,rfl,hm,HM,rfl⟩:=hrel
    by_cases hlt:j<s.size
    ·have hm9:m<10 ^ 9:=Nat.lt_of_lt_of_le hm (Nat.pow_le_pow_right (by omega) (by omega))
     have hb8:(s[j]'hlt).toNat<256:=UInt8.toNat_lt _
     by_cases hd:(s[j]'hlt).toNat<48
     ·have HN:Hid (NumTold s 0 false):=told_bad hlt (.inl hd)
      have q1:(((s[j]'hlt).toNat:Nat):Int)<48:=by omega
      go_wp2_with fail
      exact bodyPost_ret (v:=.tuple #[.int .i64 0,.bool false]) (by simp[results,Tryz.results99]) rfl ⟨⟨0,false,rfl,HN.out⟩,Below.refl _ _⟩
     by_cases hd2:57<(s[j]'hlt).toNat
     ·have HN:Hid (NumTold s 0 false):=told_bad hlt (.inr hd2)
      have q1:¬(((s[j]'hlt).toNat:Nat):Int)<48:=by omega
      have q2:(57:Int)<(((s[j]'hlt).toNat:Nat):Int):=by omega
      go_wp2_with fail
      exact bodyPost_ret (v:=.tuple #[.int .i64 0,.bool false]) (by simp[results,Tryz.results99]) rfl ⟨⟨0,false,rfl,HN.out⟩,Below.refl _ _⟩
     have q1:¬(((s[j]'hlt).toNat:Nat):Int)<48:=by omega
     have q2:¬(57:Int)<(((s[j]'hlt).toNat:Nat):Int):=by omega
     have HM2:Hid (valN (s.data.toList.take (j+1))=10*m+((s[j]'hlt).toNat-48)):=by show _=_;rw[valN_next hlt,HM.out]
     have hm2:Hid (10*m+((s[j]'hlt).toNat-48)<10 ^ (j+1)):=by show _<_;rw[Nat.pow_succ];omega
     go_wp2_with fail
     go_roundw
     case rel=>exact⟨j+1,10*m+((s[j]'hlt).toNat-48),by omega,by go_num,by go_num,hm2.out,HM2.out,trivial⟩
     case measure=>simp[intOf];omega
    ·have hje:j=s.size:=by omega
     subst hje
     have HN:Hid (NumTold s (m:Int) true):=told_all HM.out
     go_wp2_with fail
     exact bodyPost_ret (v:=.tuple #[.int .i64 m,.bool true]) (by simp[results,Tryz.results99]) rfl ⟨⟨m,true,rfl,HN.out⟩,Below.refl _ _⟩
 ·have qz:((((s[0]'h1).toNat:Nat):Int)==48)=false:=by simp;omega
  go_wp2_with fail
  go_loopw [4,5] (fun n i wr=>∃ (j m:Nat),j≤s.size∧i=.int .i64 j∧n=.int .i64 m∧m<10 ^ j∧Hid (valN (s.data.toList.take j)=m)∧wr=w) (fun _ i _=>s.size-(intOf i).toNat)
  case atStart=>exact⟨0,0,by omega,rfl,rfl,by simp,by show _=_;simp[valN],rfl⟩
  case round =>
   obtain⟨j,m,hj,rfl,rfl,hm,HM,rfl⟩:=hrel
   by_cases hlt:j<s.size
   ·have hm9:m<10 ^ 9:=Nat.lt_of_lt_of_le hm (Nat.pow_le_pow_right (by omega) (by omega))
    have hb8:(s[j]'hlt).toNat<256:=UInt8.toNat_lt _
    by_cases hd:(s[j]'hlt).toNat<48
    ·have HN:Hid (NumTold s 0 false):=told_bad hlt (.inl hd)
     have q1:(((s[j]'hlt).toNat:Nat):Int)<48:=by omega
     go_wp2_with fail
     exact bodyPost_ret (v:=.tuple #[.int .i64 0,.bool false]) (by simp[results,Tryz.results99]) rfl ⟨⟨0,false,rfl,HN.out⟩,Below.refl _ _⟩
    by_cases hd2:57<(s[j]'hlt).toNat
    ·have HN:Hid (NumTold s 0 false):=told_bad hlt (.inr hd2)
     have q1:¬(((s[j]'hlt).toNat:Nat):Int)<48:=by omega
     have q2:(57:Int)<(((s[j]'hlt).toNat:Nat):Int):=by omega
     go_wp2_with fail
     exact bodyPost_ret (v:=.tuple #[.int .i64 0,.bool false]) (by simp[results,Tryz.results99]) rfl ⟨⟨0,false,rfl,HN.out⟩,Below.refl _ _⟩
    have q1:¬(((s[j]'hlt).toNat:Nat):Int)<48:=by omega
    have q2:¬(57:Int)<(((s[j]'hlt).toNat:Nat):Int):=by omega
    have HM2:Hid (valN (s.data.toList.take (j+1))=10*m+((s[j]'hlt).toNat-48)):=by show _=_;rw[valN_next hlt,HM.out]
    have hm2:Hid (10*m+((s[j]'hlt).toNat-48)<10 ^ (j+1)):=by show _<_;rw[Nat.pow_succ];omega
    go_wp2_with fail
    go_roundw
    case rel=>exact⟨j+1,10*m+((s[j]'hlt).toNat-48),by omega,by go_num,by go_num,hm2.out,HM2.out,trivial⟩
    case measure=>simp[intOf];omega
   ·have hje:j=s.size:=by omega
    subst hje
    have HN:Hid (NumTold s (m:Int) true):=told_all HM.out
    go_wp2_with fail
    exact bodyPost_ret (v:=.tuple #[.int .i64 m,.bool true]) (by simp[results,Tryz.results99]) rfl ⟨⟨m,true,rfl,HN.out⟩,Below.refl _ _⟩
set_option maxRecDepth 100000
def lenR:Value→Nat
 | .slice _ n _=>n
 | _=>0
def SplitTold(s word:ByteArray)(out:List Int)(ok:Bool):Prop:=∀ j,ReadOk s j→ok=true∧word=opW j.op.toNat∧out=instN j
def SplitEnd(s:ByteArray)(base:Nat)(w:World)(e:Ending):Prop:=∃ (word:ByteArray) (out:List Int) (u:Option Addr) (c:Nat) (ok:Bool),e=.returned (.tuple #[.string word,.slice u out.length c,.bool ok])∧Row w base (.slice u out.length c) out∧out.length≤20∧(s=⟨#[]⟩→out=[])∧SplitTold s word out ok
def CutEnd(s one rest:ByteArray)(more:Bool):Prop:=pieces s=one :: (if more=true then pieces rest else [])∧rest.size≤1048576∧one.size≤1048576
theorem cutS(s:ByteArray)(w:World)(hs:s.size≤1048576):∃ (one rest:ByteArray) (more:Bool),(Calls Tryz.prog 32 #[.string s,.int .u8 32] w fun e w'=>e=.returned (.tuple #[.string one,.string rest,.bool more])∧Below w.heap.size w w')∧CutEnd s one rest more:=by
 rcases Lib.indexB_cases s blank with hi|⟨i,hi,_⟩
 ·exact⟨s,⟨#[]⟩,false,cutS_no s w hs hi,pieces_miss hi,by show 0≤_;omega,hs⟩
 ·refine⟨_,_,true,cutS_yes s i w hs hi,pieces_hit hi,?_,?_⟩
  ·rw[ByteArray.size_extract];omega
  ·rw[ByteArray.size_extract];omega
theorem cut_empty{s one rest:ByteArray}{more:Bool}(h:CutEnd s one rest more):s=⟨#[]⟩→more=false:=by
 rintro rfl
 cases more with
 | false=>rfl
 | true =>
  have h1:=congrArg List.length h.1
  rw[if_pos rfl,pieces_len,List.length_cons,pieces_len] at h1
  have h2:=count_size ⟨#[]⟩
  have h3:(⟨#[]⟩:ByteArray).size=0:=rfl
  omega
def Left(s rest:ByteArray)(more:Bool)(out:List Int):Prop:=∀ j,ReadOk s j→∃ T:List Int,instN j=out++T∧(T.map fun n=>bs (Lib.itoa n))=(if more=true then pieces rest else [])
theorem left_start{s word rest:ByteArray}{more:Bool}(h:CutEnd s word rest more):(∀ j,ReadOk s j→word=opW j.op.toNat)∧Left s rest more []:=by
 refine⟨fun j hj=>?_,fun j hj=>?_⟩
 ·exact (read_nums hj h.1).1
 ·exact⟨instN j,rfl,((read_nums hj h.1).2.map).symm⟩
theorem left_next{s rest one rest2:ByteArray}{more:Bool}{out:List Int}{n:Int}{ok:Bool}(h:Left s rest true out)(hc:CutEnd rest one rest2 more)(hn:NumTold one n ok):(∀ j,ReadOk s j→ok=true)∧Left s rest2 more (out++[n]):=by
 have key:∀ j,ReadOk s j→ok=true∧∃ T:List Int,instN j=(out++[n])++T∧(T.map fun n=>bs (Lib.itoa n))=(if more=true then pieces rest2 else []):=by
  intro j hj
  obtain⟨T,e1,e2⟩:=h j hj
  rw[if_pos rfl,hc.1] at e2
  cases T with
  | nil=>cases e2
  | cons t T =>
   rw[List.map_cons] at e2
   obtain⟨e3,e4⟩:=List.cons.inj e2
   obtain⟨k,e5,e6⟩:=instN_sm (instB_inF hj.1) t (by rw[e1];simp)
   rw[e5,itoa_nat] at e3
   obtain⟨h1,h2⟩:=hn k e6 e3.symm
   refine⟨h1,T,?_,e4⟩
   rw[e1,h2,e5]
   simp
 exact⟨fun j hj=>(key j hj).1,fun j hj=>(key j hj).2⟩
theorem left_end{s rest:ByteArray}{out:List Int}(h:Left s rest false out):∀ j,ReadOk s j→out=instN j:=by
 intro j hj
 obtain⟨T,e1,e2⟩:=h j hj
 rw[if_neg (by simp)] at e2
 rw[List.map_eq_nil_iff.1 e2,List.append_nil] at e1
 exact e1.symm
theorem left_long{s rest:ByteArray}{more:Bool}{out:List Int}(h:Left s rest more out)(hl:6<out.length):∀ j,¬ReadOk s j:=by
 intro j hj
 obtain⟨T,e1,e2⟩:=h j hj
 have h1:=instN_len (instB_inF hj.1)
 rw[e1] at h1
 simp at h1
 omega
theorem splitS(s:ByteArray)(w:World)(hs:s.size≤1048576) :
  Calls Tryz.prog 60 #[.string s] w fun e w'=>SplitEnd s w.heap.size w' e∧Below w.heap.size w w':=by
 obtain⟨word,rest,more,C,hC⟩:=cutS s w hs
 have HW:Hid (∀ j,ReadOk s j→word=opW j.op.toNat):=(left_start hC).1
 have HL:Hid (Left s rest more []):=(left_start hC).2
 have hrs:rest.size≤1048576:=hC.2.1
 have HM:Hid (s=⟨#[]⟩→more=false∧True):=fun e=>⟨cut_empty hC e,trivial⟩
 clear hC
 go_enter Tryz.func60,Tryz.ntmps60
 go_wp2_with (go_at_call 32;refine C.mono ?_;rintro e w1 ⟨rfl,b1⟩)
 have HB1:Hid (Below w.heap.size w w1):=b1
 have R1:Hid (Row (w1.alloc (.cells #[] 2)) w.heap.size (.slice (some ⟨w1.heap.size,0,none⟩) 0 0) []):=Row.lit w1 _ b1.size
 have B1:Hid (Below w.heap.size w (w1.alloc (.cells #[] 2))):=b1.alloc b1.size _
 clear b1 C
 generalize (w1.alloc (.cells #[] 2))=W1 at R1 B1 ⊢
 go_loopw [6,7,8] (fun rs mr st wr=>∃ (out:List Int) (rest:ByteArray) (more:Bool),Hid (Row wr w.heap.size st out)∧rs=.string rest∧mr=.bool more∧out.length≤20∧rest.size≤1048576∧Hid (Left s rest more out)∧Hid (s=⟨#[]⟩→more=false∧out=[])∧Hid (Below w.heap.size w wr)) (fun _ _ st _=>21-lenR st)
 case atStart=>exact⟨[],rest,more,R1.out,rfl,rfl,by simp,hrs,HL.out,fun e=>⟨(HM.out e).1,rfl⟩,B1.out⟩
 case round =>
  clear HL hrs R1 B1 HB1 HM
  obtain⟨out,rest,more,HO,rfl,rfl,hl,hrs,HL,HM,HB⟩:=hrel
  obtain⟨ta,tc,rfl⟩:=HO.out.slice
  cases more with
  | false =>
   have HT:Hid (SplitTold s word out true):=fun j hj=>⟨rfl,HW.out j hj,left_end HL.out j hj⟩
   go_wp2_with fail
   exact bodyPost_ret (v:=.tuple #[.string word,.slice ta out.length tc,.bool true]) (by simp[results,Tryz.results60]) rfl ⟨⟨word,out,ta,tc,true,rfl,HO.out,hl,fun e=>(HM.out e).2,HT.out⟩,HB.out⟩
  | true =>
   by_cases h20:out.length<20
   ·obtain⟨one,rest2,more2,C,hC⟩:=cutS rest wr hrs
    have hr2:rest2.size≤1048576:=hC.2.1
    have ho2:one.size≤1048576:=hC.2.2
    have HC:Hid (CutEnd rest one rest2 more2):=hC
    clear hC
    have q20:(out.length:Int)<20:=by omega
    go_wp2_with (go_at_call 32;refine C.mono ?_;rintro e w2 ⟨rfl,b2⟩;have HB2:Hid (Below w.heap.size w w2):=HB.out.trans (b2.mono HB.out.size);have HO2:Hid (Row w2 w.heap.size (.slice ta out.length tc) out):=HO.out.keep b2;clear b2)
    refine (numS one w2 ho2).mono ?_
    rintro e w3 ⟨⟨n,ok,rfl,hn⟩,b3⟩
    have HB3:Hid (Below w.heap.size w w3):=HB2.out.trans (b3.mono HB2.out.size)
    have HO3:Hid (Row w3 w.heap.size (.slice ta out.length tc) out):=HO2.out.keep b3
    have HN:=left_next HL.out HC.out hn
    clear b3 hn HC HB2 HO2 HL C HB HO
    cases ok with
    | false =>
     have HT:Hid (SplitTold s word [] false):=fun j hj=>absurd (HN.1 j hj) (by simp)
     clear HN
     go_wp2_with fail
     exact bodyPost_ret (v:=.tuple #[.string word,.slice none 0 0,.bool false]) (by simp[results,Tryz.results60]) rfl ⟨⟨word,[],none,0,false,rfl,Row.nil _ _,by simp,fun _=>rfl,HT.out⟩,HB3.out⟩
    | true =>
     have HL2:Hid (Left s rest2 more2 (out++[n])):=HN.2
     clear HN
     go_wp2_with (at_builtin;refine push_at rfl _ _ rfl w.heap.size (.slice ta out.length tc) out rfl (HO3.out.alloc _) n _ 1 rfl (by exact one_cell_at (by simp)) (by omega) (by simp;have:=HB3.out.size;omega) _ rfl ?_;intro g5 c5 w5 ho5 hg5 hat5 hlt5;have HO5:Hid _:=ho5;have HB5:Hid (Below w.heap.size w w5):=(HB3.out.alloc HB3.out.size _).grown hg5 (by simp;have:=HB3.out.size;omega) (fun q hq=>(HO3.out.ge hq).1);clear ho5 hg5 hat5)
     go_roundw
     case rel=>exact⟨out++[n],rest2,more2,HO5.out,rfl,rfl,by simp;omega,hr2,HL2.out,fun e=>absurd (HM.out e).1 (by simp),HB5.out⟩
     case measure=>simp[lenR];omega
   ·have HT:Hid (SplitTold s word out false):=fun j hj=>absurd hj (left_long HL.out (by omega) j)
    have q20:¬(out.length:Int)<20:=by omega
    go_wp2_with fail
    exact bodyPost_ret (v:=.tuple #[.string word,.slice ta out.length tc,.bool false]) (by simp[results,Tryz.results60]) rfl ⟨⟨word,out,ta,tc,false,rfl,HO.out,hl,fun e=>(HM.out e).2,HT.out⟩,HB.out⟩
set_option maxHeartbeats 1000000
def lastOp(b:ByteArray):Nat→Int
 | 0=>0
 | k+1=>if opW (k+1)=b then ((k+1:Nat):Int) else lastOp b k
theorem last_word{m:Nat}(h1:1≤m)(h2:m≤27):lastOp (opW m) 27=m:=by
 have:∀ k:Fin 28,lastOp (opW k.1) 27=(k.1:Int):=by decide
 exact this ⟨m,by omega⟩
theorem last_rng(b:ByteArray):∀ k,0≤lastOp b k∧lastOp b k≤k
 | 0=>by simp[lastOp]
 | k+1=>by
  have:=last_rng b k
  unfold lastOp
  split<;>omega
def modelD(op:Int)(n:List Int):InstD :=
 if op=26 then ⟨op,n.getD 0 0,0,0,0,n.getD 1 0,n.drop 2⟩ else if op=21 then ⟨op,n.getD 0 0,0,0,0,n.getD 1 0,[]⟩ else ⟨op,n.getD 0 0,n.getD 1 0,n.getD 2 0,n.getD 3 0,0,[]⟩
theorem model_of{op:Int}{n:List Int}{j:InstD}(h:ofNums op n=some j):modelD op n=j:=by
 cases n with
 | nil=>cases h
 | cons x r =>
  cases hb:immB op with
  | true =>
   cases r with
   | nil=>simp[ofNums,hb] at h
   | cons m r2 =>
    simp only[ofNums,hb,if_true] at h
    obtain⟨e1,e2⟩:=fin_ops h
    by_cases h26:op=26
    ·rw[e1]
     simp[modelD,mkD,h26]
    ·have h21:op=21:=by
      unfold immB at hb
      simpa [h26] using hb
     rw[e1]
     rw[e1] at e2
     subst h21
     have e3:r2=[]:=by
      rw[←e2]
      simp[opsD,mkD]
      decide
     subst e3
     simp[modelD,mkD]
  | false =>
   simp only[ofNums,hb,Bool.false_eq_true,if_false] at h
   obtain⟨e1,e2⟩:=fin_ops h
   have h26:¬op=26:=by rintro rfl;simp[immB] at hb
   have h21:¬op=21:=by rintro rfl;simp[immB] at hb
   rw[e1]
   simp[modelD,mkD,h26,h21,List.getD]
theorem model_read{s word:ByteArray}{out:List Int}{ok:Bool}(h:SplitTold s word out ok){j:InstD}(hj:ReadOk s j):ok=true∧lastOp word 27=j.op∧¬j.op=0∧¬out=[]∧modelD (lastOp word 27) out=j:=by
 obtain⟨h1,h2,h3⟩:=h j hj
 have hF:=instB_inF hj.1
 have hp:=read_pieces hj
 obtain⟨_,hn⟩:=read_nums hj hp
 have ho:=((read_iff hp hn j).1 hj).1
 have hop:lastOp word 27=j.op:=by
  have:=hF.op1
  have:=hF.op27
  rw[h2,last_word (by omega) (by omega)]
  omega
 have hon:opNum (opW j.op.toNat)=j.op:=by
  have:=hF.op1
  have:=hF.op27
  rw[opNum_word (by omega) (by omega)]
  omega
 rw[hon] at ho
 refine⟨h1,hop,by have:=hF.op1;omega,?_,?_⟩
 ·rw[h3];unfold instN;simp
 ·rw[hop,h3];exact model_of ho
theorem model_args(op:Int)(n:List Int)(h:n.length≤20):(modelD op n).args.length≤20:=by
 unfold modelD
 split
 ·simp;omega
 ·split<;>simp
def IntsBt(w:World)(lo hi:Nat)(u:Option Addr)(l:List Int):Prop:=l=[]∨∃ b,u=some ⟨b,0,none⟩∧lo≤b∧b<hi∧hi≤w.heap.size∧∀ i,i<l.length→w.cell? ⟨b,i,none⟩=some (.int .i64 (l.getD i 0))
theorem atS(lo hi:Nat)(u:Option Addr)(c:Nat)(l:List Int)(k:Nat)(w:World)(h:IntsBt w lo hi u l)(hl:l.length≤1048576)(hk:k≤3) :
  Calls Tryz.prog 62 #[.slice u l.length c,.int .i64 (k:Int)] w fun e w'=>e=.returned (.int .i64 (l.getD k 0))∧w'=w:=by
 by_cases hlt:k<l.length
 ·have q:(k:Int)<(l.length:Int):=by omega
  have q0:(0:Int)≤(k:Int):=by omega
  rcases h with h|⟨b,rfl,h2,h3,h4,h5⟩
  ·subst h
   cases hlt
  ·have hc:=h5 k hlt
   have hz:((k:Int)).toNat=k:=by omega
   clear h5
   generalize l.getD k 0=z at hc ⊢
   go_enter Tryz.func62,Tryz.ntmps62
   go_wp2_with fail
   go_ret
   exact⟨rfl,rfl⟩
 ·have q:¬(k:Int)<(l.length:Int):=by omega
  have e:l.getD k 0=0:=by simp[List.getD,List.getElem?_eq_none (Nat.le_of_not_lt hlt)]
  rw[e]
  clear e
  go_enter Tryz.func62,Tryz.ntmps62
  go_wp2_with fail
  go_ret
  exact⟨rfl,rfl⟩
end Go.Proofs.YtkpmiikafconmaaGreatDoor
