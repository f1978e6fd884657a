import Derived.Test.YtkpmiikafconmaaGreatDoorFmIJp
import Derived.Test.YtkpmiikafconmaaGreatDoorRiFJp
import Derived.Test.YtkpmiikafconmaaGreatDoorMtRJp
namespace Go.Proofs.YtkpmiikafconmaaGreatDoor
open Go.RowKit
set_option maxHeartbeats 4000000
set_option maxRecDepth 100000
set_option linter.unusedVariables false
set_option linter.unusedSimpArgs false
theorem Gv.only{R:Nat}{w w':World}{g:Nat}{v:Value}(h:Gv w g v)(k:OnlyR R w w')(hn:g≠R):Gv w' g v:=⟨(zcB (k.block g h.lt hn)).trans h.cell,Nat.lt_of_lt_of_le h.lt k.size⟩
theorem endY(B R:Nat)(w:World)(h:RwIn B w R []) :
  Calls Tryz.prog 158 #[.pointer (some ⟨R,0,none⟩)] w fun e w'=>e=.returned (.tuple #[])∧w'=w:=by
 have W:=wantY w
 rcases h with⟨_,h⟩|⟨b,off,c,h,h1,h2,h3,h4,h5⟩
 ·have c0:w.cell? ⟨R,0,none⟩=some (.slice none 0 0):=h.cell 0
  go_enter Tryz.func158,Tryz.ntmps158
  go_wp2_with fail
  refine W.mono ?_
  rintro e w1 ⟨rfl,h9⟩
  have h8:=h9.symm
  clear h9
  subst h8
  go_wp2_with fail
  exact bodyPost_end (results_none Tryz.results158 _ _ _) rfl ⟨rfl,rfl⟩
 ·have c0:w.cell? ⟨R,0,none⟩=some (.slice (some ⟨b,off,none⟩) 0 c):=h.cell 0
  clear h5
  go_enter Tryz.func158,Tryz.ntmps158
  go_wp2_with fail
  refine W.mono ?_
  rintro e w1 ⟨rfl,h9⟩
  have h8:=h9.symm
  clear h9
  subst h8
  go_wp2_with fail
  exact bodyPost_end (results_none Tryz.results158 _ _ _) rfl ⟨rfl,rfl⟩
theorem endN(a:Addr)(B R:Nat)(l:List Int)(w:World)(h:RwIn B w R l)(hl:l≠[])(hv:Gv w 1 (errV a)) :
  Calls Tryz.prog 158 #[.pointer (some ⟨R,0,none⟩)] w fun e w'=>e=.panicked [{ v:=errV a,recovered:=false }]∧w'=w:=by
 have W:=wantN a w hv
 rcases h with⟨e,_⟩|⟨b,off,c,h,h1,h2,h3,h4,h5⟩
 ·exact absurd e hl
 ·have c0:w.cell? ⟨R,0,none⟩=some (.slice (some ⟨b,off,none⟩) l.length c):=h.cell 0
  have hne:((l.length:Int)==0)=false:=by
   simp
   exact hl
  clear h5 h
  go_enter Tryz.func158,Tryz.ntmps158
  go_wp2_with fail
  refine W.mono ?_
  rintro e w1 ⟨rfl,h9⟩
  have h8:=h9.symm
  clear h9
  subst h8
  go_wp2_with fail
  exact⟨rfl,rfl,rfl⟩
abbrev Rdr(α:Type):=List Int→Option (α × List Int)
def pT1:Rdr TermD
 | a :: r=>some (⟨1,a,0,0⟩,r)
 | []=>none
def pT2:Rdr TermD
 | x :: r=>some (⟨2,0,x,0⟩,r)
 | []=>none
def pT3:Rdr TermD
 | a :: x :: y :: r=>some (⟨3,a,x,y⟩,r)
 | _=>none
def Pos(l:List Int):Prop:=∀ x∈l,0≤x
theorem Pos.tail{x:Int}{l:List Int}(h:Pos (x :: l)):Pos l:=fun y hy=>h y (List.mem_cons_of_mem _ hy)
def Took{α:Type}(p:Rdr α)(a:Addr)(B R:Nat)(L:List Int)(w:World)(A:α→Ending→World→Prop)(e:Ending)(w':World):Prop :=
 OnlyR R w w'∧((∃ x L',p L=some (x,L')∧A x e w'∧RwIn B w' R L')∨(p L=none∧Gone a e))
def pNext:Rdr Int
 | []=>none
 | x :: r=>some (x,r)
theorem nextT(a:Addr)(B R:Nat)(L:List Int)(w:World)(h:RwIn B w R L)(hl:L.length≤20000)(hv:Gv w 1 (errV a)) :
  Calls Tryz.prog 83 #[.pointer (some ⟨R,0,none⟩)] w fun e w'=>Took pNext a B R L w (fun x e _=>e=.returned (.int .i64 x)) e w':=by
 cases L with
 | nil =>
  refine (nextN2 a B R w h hv).mono ?_
  rintro e w' ⟨rfl,rfl⟩
  exact⟨OnlyR.refl _ _,.inr ⟨rfl,rfl⟩⟩
 | cons x r =>
  refine (nextY2 B R x r w h (by simp at hl;omega)).mono ?_
  rintro e w' ⟨rfl,h1,h2⟩
  exact⟨h2,.inl ⟨x,r,rfl,rfl,h1⟩⟩
structure FitN(L:List Int):Prop where
 pos:Pos L
 len:L.length≤20000
theorem pNext_yes{L L1:List Int}{x:Int}(h:pNext L=some (x,L1)):L=x :: L1:=by
 cases L with
 | nil=>cases h
 | cons y r=>cases h;rfl
theorem FitN.next{L L1:List Int}{x:Int}(h:FitN L)(e:pNext L=some (x,L1)):FitN L1∧0≤x:=by
 have e:=pNext_yes e
 subst e
 exact⟨⟨h.pos.tail,by have:=h.len;simp at this;omega⟩,h.pos _ (List.mem_cons_self ..)⟩
def pTk(k:Int):Rdr TermD:=fun r=>if k=1 then pT1 r else if k=2 then pT2 r else if k=3 then pT3 r else some (⟨k,0,0,0⟩,r)
theorem pT1_eq(L:List Int):pT1 L=(pNext L).bind fun p=>some (⟨1,p.1,0,0⟩,p.2):=by cases L<;>rfl
theorem pT2_eq(L:List Int):pT2 L=(pNext L).bind fun p=>some (⟨2,0,p.1,0⟩,p.2):=by cases L<;>rfl
theorem pT3_eq(L:List Int):pT3 L=(pNext L).bind fun p=>(pNext p.2).bind fun q=>(pNext q.2).bind fun r=>some (⟨3,p.1,q.1,r.1⟩,r.2):=by
 match L with
 | []=>rfl
 | [_]=>rfl
 | [_,_]=>rfl
 | _ :: _ :: _ :: _=>rfl
structure TSt(w wr:World)(a0:Addr)(R B:Nat)(k a x y:Int)(L:List Int):Prop where
 box:At wr (w.heap.size+1) #[.int .i64 k,.int .i64 a,.int .i64 x,.int .i64 y] 72
 res:At wr w.heap.size #[.int .i64 0,.int .i64 0,.int .i64 0,.int .i64 0] 72
 rw_:RwIn B wr R L
 fit:FitN L
 only:OnlyR R w wr
 gv:Gv wr 1 (errV a0)
 lt:R<w.heap.size
 leB:B≤w.heap.size
 ne:1≠R
theorem TSt.step{w wr w2:World}{a0:Addr}{R B:Nat}{k a x y:Int}{L L2:List Int}(h:TSt w wr a0 R B k a x y L)(ho:OnlyR R wr w2)(hr:RwIn B w2 R L2)(hf:FitN L2):TSt w w2 a0 R B k a x y L2 :=
 ⟨(ho.block _ h.box.lt (by have:=h.lt;omega)).trans h.box,(ho.block _ h.res.lt (by have:=h.lt;omega)).trans h.res,hr,hf,h.only.trans ho,h.gv.only ho h.ne,h.lt,h.leB,h.ne⟩
theorem gv_setT{w:World}{g b o:Nat}{v x:Value}(h:Gv w g v)(hn:g≠b):Gv (w.setCell ⟨b,o,none⟩ x) g v:=⟨(zcB (Below.heap_setCell _ _ _ _ (by show g≠b;exact hn))).trans h.cell,by simp only[World.size_setCell];exact h.lt⟩
theorem TSt.seta{w wr:World}{a0:Addr}{R B:Nat}{k a x y:Int}{L:List Int}(h:TSt w wr a0 R B k a x y L)(hg:1<w.heap.size)(z:Int):TSt w (wr.setCell ⟨w.heap.size+1,1,none⟩ (.int .i64 z)) a0 R B k z x y L :=
 ⟨zhS (o:=1) h.box,h.res.setOther (by omega),h.rw_.set (by have:=h.leB;omega) (by have:=h.lt;omega),h.fit,h.only.fresh (by omega),gv_setT h.gv (by omega),h.lt,h.leB,h.ne⟩
theorem TSt.setx{w wr:World}{a0:Addr}{R B:Nat}{k a x y:Int}{L:List Int}(h:TSt w wr a0 R B k a x y L)(hg:1<w.heap.size)(z:Int):TSt w (wr.setCell ⟨w.heap.size+1,2,none⟩ (.int .i64 z)) a0 R B k a z y L :=
 ⟨zhS (o:=2) h.box,h.res.setOther (by omega),h.rw_.set (by have:=h.leB;omega) (by have:=h.lt;omega),h.fit,h.only.fresh (by omega),gv_setT h.gv (by omega),h.lt,h.leB,h.ne⟩
theorem TSt.sety{w wr:World}{a0:Addr}{R B:Nat}{k a x y:Int}{L:List Int}(h:TSt w wr a0 R B k a x y L)(hg:1<w.heap.size)(z:Int):TSt w (wr.setCell ⟨w.heap.size+1,3,none⟩ (.int .i64 z)) a0 R B k a x z L :=
 ⟨zhS (o:=3) h.box,h.res.setOther (by omega),h.rw_.set (by have:=h.leB;omega) (by have:=h.lt;omega),h.fit,h.only.fresh (by omega),gv_setT h.gv (by omega),h.lt,h.leB,h.ne⟩
theorem termT(a:Addr)(B R:Nat)(k:Int)(L:List Int)(w:World)(h:RwIn B w R L)(hf:FitN L)(hv:Gv w 1 (errV a))(hR:1≠R)(hBw:B≤w.heap.size) :
  Calls Tryz.prog 156 #[.int .i64 k,.pointer (some ⟨R,0,none⟩)] w fun e w'=>Took (pTk k) a B R L w (fun t e _=>e=.returned (.agg #[.int .i64 t.kind,.int .i64 t.a,.int .i64 t.x,.int .i64 t.y])) e w':=by
 have hlt:=h.lt
 have hgw:=hv.lt
 have HRW:Hid (RwIn B w R L):=h
 have b1:Below w.heap.size w ((w.alloc (.cells #[.int .i64 0,.int .i64 0,.int .i64 0,.int .i64 0] 72)).alloc (.cells #[.int .i64 k,.int .i64 0,.int .i64 0,.int .i64 0] 72)):=((Below.refl _ _).alloc (Nat.le_refl _) _).alloc (by simp) _
 have HS0:Hid (TSt w ((w.alloc (.cells #[.int .i64 0,.int .i64 0,.int .i64 0,.int .i64 0] 72)).alloc (.cells #[.int .i64 k,.int .i64 0,.int .i64 0,.int .i64 0] 72)) a R B k 0 0 0 L):=⟨heap_two2 _ _ _,(Below.heap_alloc _ _ _ (by simp)).trans (zhL _ _),h.keep b1,hf,OnlyR.below b1,hv.keep b1,hlt,hBw,hR⟩
 clear h hf hv b1
 by_cases k1:k=1
 ·subst k1
  have HP0:Hid (pTk 1 L=_):=pT1_eq L
  have N0:=nextT a B R L _ HS0.out.rw_ HS0.out.fit.len HS0.out.gv
  go_enter Tryz.func156,Tryz.ntmps156
  go_wp2_with fail
  refine N0.mono ?_
  rintro e w1 ⟨o0,⟨z0,L1,p0,rfl,q0⟩|⟨p0,rfl⟩⟩
  rotate_left
  ·have HN:Hid (pTk 1 L=none):=by show _=_;rw[HP0.out,p0];rfl
   have HO:=HS0.out.only.trans o0
   clear p0 HP0 N0
   go_wp2_with fail
   exact⟨rfl,HO,.inr ⟨HN.out,rfl⟩⟩
  have e9:=HP0.out
  rw[p0,Option.bind_some] at e9
  have HP1:Hid (pTk 1 L=_):=e9
  have HS1a:Hid (TSt w w1 a R B 1 0 0 0 L1):=HS0.out.step o0 q0 (HS0.out.fit.next p0).1
  clear e9 p0 q0 o0 N0 HP0 HS0
  have b0:w1.cell? ⟨w.heap.size+1,1,none⟩=some (.int .i64 0):=HS1a.out.box.cell 1
  have bf:w1.frozen? ⟨w.heap.size+1,1,none⟩=false:=zfH HS1a.out.box
  have HS1:Hid (TSt w (w1.setCell ⟨w.heap.size+1,1,none⟩ (.int .i64 z0)) a R B 1 z0 0 0 L1):=HS1a.out.seta hgw z0
  clear HS1a
  have HN:Hid (pTk 1 L=some (⟨1,z0,0,0⟩,L1)):=HP1.out
  have c0:(w1.setCell ⟨w.heap.size+1,1,none⟩ (.int .i64 z0)).cell? ⟨w.heap.size+1,0,none⟩=some (.int .i64 1):=HS1.out.box.cell 0
  have c1:(w1.setCell ⟨w.heap.size+1,1,none⟩ (.int .i64 z0)).cell? ⟨w.heap.size+1,1,none⟩=some (.int .i64 z0):=HS1.out.box.cell 1
  have c2:(w1.setCell ⟨w.heap.size+1,1,none⟩ (.int .i64 z0)).cell? ⟨w.heap.size+1,2,none⟩=some (.int .i64 0):=HS1.out.box.cell 2
  have c3:(w1.setCell ⟨w.heap.size+1,1,none⟩ (.int .i64 z0)).cell? ⟨w.heap.size+1,3,none⟩=some (.int .i64 0):=HS1.out.box.cell 3
  have r0:(w1.setCell ⟨w.heap.size+1,1,none⟩ (.int .i64 z0)).cell? ⟨w.heap.size,0,none⟩=some (.int .i64 0):=HS1.out.res.cell 0
  have r1:(w1.setCell ⟨w.heap.size+1,1,none⟩ (.int .i64 z0)).cell? ⟨w.heap.size,1,none⟩=some (.int .i64 0):=HS1.out.res.cell 1
  have r2:(w1.setCell ⟨w.heap.size+1,1,none⟩ (.int .i64 z0)).cell? ⟨w.heap.size,2,none⟩=some (.int .i64 0):=HS1.out.res.cell 2
  have r3:(w1.setCell ⟨w.heap.size+1,1,none⟩ (.int .i64 z0)).cell? ⟨w.heap.size,3,none⟩=some (.int .i64 0):=HS1.out.res.cell 3
  have rf:∀ o,(w1.setCell ⟨w.heap.size+1,1,none⟩ (.int .i64 z0)).frozen? ⟨w.heap.size,o,none⟩=false:=fun o=>zfH HS1.out.res
  go_wp2_with fail
  have hr:=(zhS (o:=3) (v:=.int .i64 0) (zhS (o:=2) (v:=.int .i64 0) (zhS (o:=1) (v:=.int .i64 z0) (zhS (o:=0) (v:=.int .i64 1) HS1.out.res))))
  have OO:=(OnlyR.fresh (o:=3) (v:=.int .i64 0) (OnlyR.fresh (o:=2) (v:=.int .i64 0) (OnlyR.fresh (o:=1) (v:=.int .i64 z0) (OnlyR.fresh (o:=0) (v:=.int .i64 1) HS1.out.only (Nat.le_refl _)) (Nat.le_refl _)) (Nat.le_refl _)) (Nat.le_refl _))
  have RR:=(RwIn.set (o:=3) (v:=.int .i64 0) (RwIn.set (o:=2) (v:=.int .i64 0) (RwIn.set (o:=1) (v:=.int .i64 z0) (RwIn.set (o:=0) (v:=.int .i64 1) HS1.out.rw_ hBw (by omega)) hBw (by omega)) hBw (by omega)) hBw (by omega))
  exact bodyPost_ret (v:=.agg #[.int .i64 1,.int .i64 z0,.int .i64 0,.int .i64 0]) ((results_cell_row Tryz.results156 _ _ w.heap.size 72 _ (0,0) _ rfl hr Tryz.underlying72 rfl (by kernel_rfl)).trans (by rfl)) rfl ⟨OO,.inl ⟨⟨1,z0,0,0⟩,L1,HN.out,rfl,RR⟩⟩
 by_cases k2:k=2
 ·subst k2
  have HP0:Hid (pTk 2 L=_):=pT2_eq L
  have N0:=nextT a B R L _ HS0.out.rw_ HS0.out.fit.len HS0.out.gv
  go_enter Tryz.func156,Tryz.ntmps156
  go_wp2_with fail
  refine N0.mono ?_
  rintro e w1 ⟨o0,⟨z0,L1,p0,rfl,q0⟩|⟨p0,rfl⟩⟩
  rotate_left
  ·have HN:Hid (pTk 2 L=none):=by show _=_;rw[HP0.out,p0];rfl
   have HO:=HS0.out.only.trans o0
   clear p0 HP0 N0
   go_wp2_with fail
   exact⟨rfl,HO,.inr ⟨HN.out,rfl⟩⟩
  have e9:=HP0.out
  rw[p0,Option.bind_some] at e9
  have HP1:Hid (pTk 2 L=_):=e9
  have HS1a:Hid (TSt w w1 a R B 2 0 0 0 L1):=HS0.out.step o0 q0 (HS0.out.fit.next p0).1
  clear e9 p0 q0 o0 N0 HP0 HS0
  have b0:w1.cell? ⟨w.heap.size+1,2,none⟩=some (.int .i64 0):=HS1a.out.box.cell 2
  have bf:w1.frozen? ⟨w.heap.size+1,2,none⟩=false:=zfH HS1a.out.box
  have HS1:Hid (TSt w (w1.setCell ⟨w.heap.size+1,2,none⟩ (.int .i64 z0)) a R B 2 0 z0 0 L1):=HS1a.out.setx hgw z0
  clear HS1a
  have HN:Hid (pTk 2 L=some (⟨2,0,z0,0⟩,L1)):=HP1.out
  have c0:(w1.setCell ⟨w.heap.size+1,2,none⟩ (.int .i64 z0)).cell? ⟨w.heap.size+1,0,none⟩=some (.int .i64 2):=HS1.out.box.cell 0
  have c1:(w1.setCell ⟨w.heap.size+1,2,none⟩ (.int .i64 z0)).cell? ⟨w.heap.size+1,1,none⟩=some (.int .i64 0):=HS1.out.box.cell 1
  have c2:(w1.setCell ⟨w.heap.size+1,2,none⟩ (.int .i64 z0)).cell? ⟨w.heap.size+1,2,none⟩=some (.int .i64 z0):=HS1.out.box.cell 2
  have c3:(w1.setCell ⟨w.heap.size+1,2,none⟩ (.int .i64 z0)).cell? ⟨w.heap.size+1,3,none⟩=some (.int .i64 0):=HS1.out.box.cell 3
  have r0:(w1.setCell ⟨w.heap.size+1,2,none⟩ (.int .i64 z0)).cell? ⟨w.heap.size,0,none⟩=some (.int .i64 0):=HS1.out.res.cell 0
  have r1:(w1.setCell ⟨w.heap.size+1,2,none⟩ (.int .i64 z0)).cell? ⟨w.heap.size,1,none⟩=some (.int .i64 0):=HS1.out.res.cell 1
  have r2:(w1.setCell ⟨w.heap.size+1,2,none⟩ (.int .i64 z0)).cell? ⟨w.heap.size,2,none⟩=some (.int .i64 0):=HS1.out.res.cell 2
  have r3:(w1.setCell ⟨w.heap.size+1,2,none⟩ (.int .i64 z0)).cell? ⟨w.heap.size,3,none⟩=some (.int .i64 0):=HS1.out.res.cell 3
  have rf:∀ o,(w1.setCell ⟨w.heap.size+1,2,none⟩ (.int .i64 z0)).frozen? ⟨w.heap.size,o,none⟩=false:=fun o=>zfH HS1.out.res
  go_wp2_with fail
  have hr:=(zhS (o:=3) (v:=.int .i64 0) (zhS (o:=2) (v:=.int .i64 z0) (zhS (o:=1) (v:=.int .i64 0) (zhS (o:=0) (v:=.int .i64 2) HS1.out.res))))
  have OO:=(OnlyR.fresh (o:=3) (v:=.int .i64 0) (OnlyR.fresh (o:=2) (v:=.int .i64 z0) (OnlyR.fresh (o:=1) (v:=.int .i64 0) (OnlyR.fresh (o:=0) (v:=.int .i64 2) HS1.out.only (Nat.le_refl _)) (Nat.le_refl _)) (Nat.le_refl _)) (Nat.le_refl _))
  have RR:=(RwIn.set (o:=3) (v:=.int .i64 0) (RwIn.set (o:=2) (v:=.int .i64 z0) (RwIn.set (o:=1) (v:=.int .i64 0) (RwIn.set (o:=0) (v:=.int .i64 2) HS1.out.rw_ hBw (by omega)) hBw (by omega)) hBw (by omega)) hBw (by omega))
  exact bodyPost_ret (v:=.agg #[.int .i64 2,.int .i64 0,.int .i64 z0,.int .i64 0]) ((results_cell_row Tryz.results156 _ _ w.heap.size 72 _ (0,0) _ rfl hr Tryz.underlying72 rfl (by kernel_rfl)).trans (by rfl)) rfl ⟨OO,.inl ⟨⟨2,0,z0,0⟩,L1,HN.out,rfl,RR⟩⟩
 by_cases k3:k=3
 ·subst k3
  have HP0:Hid (pTk 3 L=_):=pT3_eq L
  have N0:=nextT a B R L _ HS0.out.rw_ HS0.out.fit.len HS0.out.gv
  go_enter Tryz.func156,Tryz.ntmps156
  go_wp2_with fail
  refine N0.mono ?_
  rintro e w1 ⟨o0,⟨z0,L1,p0,rfl,q0⟩|⟨p0,rfl⟩⟩
  rotate_left
  ·have HN:Hid (pTk 3 L=none):=by show _=_;rw[HP0.out,p0];rfl
   have HO:=HS0.out.only.trans o0
   clear p0 HP0 N0
   go_wp2_with fail
   exact⟨rfl,HO,.inr ⟨HN.out,rfl⟩⟩
  have e9:=HP0.out
  rw[p0,Option.bind_some] at e9
  have HP1:Hid (pTk 3 L=_):=e9
  have HS1a:Hid (TSt w w1 a R B 3 0 0 0 L1):=HS0.out.step o0 q0 (HS0.out.fit.next p0).1
  clear e9 p0 q0 o0 N0 HP0 HS0
  have b0:w1.cell? ⟨w.heap.size+1,1,none⟩=some (.int .i64 0):=HS1a.out.box.cell 1
  have bf:w1.frozen? ⟨w.heap.size+1,1,none⟩=false:=zfH HS1a.out.box
  have HS1:Hid (TSt w (w1.setCell ⟨w.heap.size+1,1,none⟩ (.int .i64 z0)) a R B 3 z0 0 0 L1):=HS1a.out.seta hgw z0
  clear HS1a
  have N1:=nextT a B R L1 _ HS1.out.rw_ HS1.out.fit.len HS1.out.gv
  go_wp2_with fail
  refine N1.mono ?_
  rintro e w2 ⟨o1,⟨z1,L2,p1,rfl,q1⟩|⟨p1,rfl⟩⟩
  rotate_left
  ·have HN:Hid (pTk 3 L=none):=by show _=_;rw[HP1.out,p1];rfl
   have HO:=HS1.out.only.trans o1
   clear p1 HP1 N1
   go_wp2_with fail
   exact⟨rfl,HO,.inr ⟨HN.out,rfl⟩⟩
  have e9:=HP1.out
  rw[p1,Option.bind_some] at e9
  have HP2:Hid (pTk 3 L=_):=e9
  have HS2a:Hid (TSt w w2 a R B 3 z0 0 0 L2):=HS1.out.step o1 q1 (HS1.out.fit.next p1).1
  clear e9 p1 q1 o1 N1 HP1 HS1
  have b0:w2.cell? ⟨w.heap.size+1,2,none⟩=some (.int .i64 0):=HS2a.out.box.cell 2
  have bf:w2.frozen? ⟨w.heap.size+1,2,none⟩=false:=zfH HS2a.out.box
  have HS2:Hid (TSt w (w2.setCell ⟨w.heap.size+1,2,none⟩ (.int .i64 z1)) a R B 3 z0 z1 0 L2):=HS2a.out.setx hgw z1
  clear HS2a
  have N2:=nextT a B R L2 _ HS2.out.rw_ HS2.out.fit.len HS2.out.gv
  go_wp2_with fail
  refine N2.mono ?_
  rintro e w3 ⟨o2,⟨z2,L3,p2,rfl,q2⟩|⟨p2,rfl⟩⟩
  rotate_left
  ·have HN:Hid (pTk 3 L=none):=by show _=_;rw[HP2.out,p2];rfl
   have HO:=HS2.out.only.trans o2
   clear p2 HP2 N2
   go_wp2_with fail
   exact⟨rfl,HO,.inr ⟨HN.out,rfl⟩⟩
  have e9:=HP2.out
  rw[p2,Option.bind_some] at e9
  have HP3:Hid (pTk 3 L=_):=e9
  have HS3a:Hid (TSt w w3 a R B 3 z0 z1 0 L3):=HS2.out.step o2 q2 (HS2.out.fit.next p2).1
  clear e9 p2 q2 o2 N2 HP2 HS2
  have b0:w3.cell? ⟨w.heap.size+1,3,none⟩=some (.int .i64 0):=HS3a.out.box.cell 3
  have bf:w3.frozen? ⟨w.heap.size+1,3,none⟩=false:=zfH HS3a.out.box
  have HS3:Hid (TSt w (w3.setCell ⟨w.heap.size+1,3,none⟩ (.int .i64 z2)) a R B 3 z0 z1 z2 L3):=HS3a.out.sety hgw z2
  clear HS3a
  have HN:Hid (pTk 3 L=some (⟨3,z0,z1,z2⟩,L3)):=HP3.out
  have c0:(w3.setCell ⟨w.heap.size+1,3,none⟩ (.int .i64 z2)).cell? ⟨w.heap.size+1,0,none⟩=some (.int .i64 3):=HS3.out.box.cell 0
  have c1:(w3.setCell ⟨w.heap.size+1,3,none⟩ (.int .i64 z2)).cell? ⟨w.heap.size+1,1,none⟩=some (.int .i64 z0):=HS3.out.box.cell 1
  have c2:(w3.setCell ⟨w.heap.size+1,3,none⟩ (.int .i64 z2)).cell? ⟨w.heap.size+1,2,none⟩=some (.int .i64 z1):=HS3.out.box.cell 2
  have c3:(w3.setCell ⟨w.heap.size+1,3,none⟩ (.int .i64 z2)).cell? ⟨w.heap.size+1,3,none⟩=some (.int .i64 z2):=HS3.out.box.cell 3
  have r0:(w3.setCell ⟨w.heap.size+1,3,none⟩ (.int .i64 z2)).cell? ⟨w.heap.size,0,none⟩=some (.int .i64 0):=HS3.out.res.cell 0
  have r1:(w3.setCell ⟨w.heap.size+1,3,none⟩ (.int .i64 z2)).cell? ⟨w.heap.size,1,none⟩=some (.int .i64 0):=HS3.out.res.cell 1
  have r2:(w3.setCell ⟨w.heap.size+1,3,none⟩ (.int .i64 z2)).cell? ⟨w.heap.size,2,none⟩=some (.int .i64 0):=HS3.out.res.cell 2
  have r3:(w3.setCell ⟨w.heap.size+1,3,none⟩ (.int .i64 z2)).cell? ⟨w.heap.size,3,none⟩=some (.int .i64 0):=HS3.out.res.cell 3
  have rf:∀ o,(w3.setCell ⟨w.heap.size+1,3,none⟩ (.int .i64 z2)).frozen? ⟨w.heap.size,o,none⟩=false:=fun o=>zfH HS3.out.res
  go_wp2_with fail
  have hr:=(zhS (o:=3) (v:=.int .i64 z2) (zhS (o:=2) (v:=.int .i64 z1) (zhS (o:=1) (v:=.int .i64 z0) (zhS (o:=0) (v:=.int .i64 3) HS3.out.res))))
  have OO:=(OnlyR.fresh (o:=3) (v:=.int .i64 z2) (OnlyR.fresh (o:=2) (v:=.int .i64 z1) (OnlyR.fresh (o:=1) (v:=.int .i64 z0) (OnlyR.fresh (o:=0) (v:=.int .i64 3) HS3.out.only (Nat.le_refl _)) (Nat.le_refl _)) (Nat.le_refl _)) (Nat.le_refl _))
  have RR:=(RwIn.set (o:=3) (v:=.int .i64 z2) (RwIn.set (o:=2) (v:=.int .i64 z1) (RwIn.set (o:=1) (v:=.int .i64 z0) (RwIn.set (o:=0) (v:=.int .i64 3) HS3.out.rw_ hBw (by omega)) hBw (by omega)) hBw (by omega)) hBw (by omega))
  exact bodyPost_ret (v:=.agg #[.int .i64 3,.int .i64 z0,.int .i64 z1,.int .i64 z2]) ((results_cell_row Tryz.results156 _ _ w.heap.size 72 _ (0,0) _ rfl hr Tryz.underlying72 rfl (by kernel_rfl)).trans (by rfl)) rfl ⟨OO,.inl ⟨⟨3,z0,z1,z2⟩,L3,HN.out,rfl,RR⟩⟩
 have HN:Hid (pTk k L=some (⟨k,0,0,0⟩,L)):=by
  show _=_
  unfold pTk
  rw[if_neg k1,if_neg k2,if_neg k3]
 have q1:(k==1)=false:=by simpa using k1
 have q2:(k==2)=false:=by simpa using k2
 have q3:(k==3)=false:=by simpa using k3
 clear k1 k2 k3
 go_enter Tryz.func156,Tryz.ntmps156
 go_wp2_with fail
 have b2:Below w.heap.size w ((w.alloc (.cells #[.int .i64 k,.int .i64 0,.int .i64 0,.int .i64 0] 72)).alloc (.cells #[.int .i64 k,.int .i64 0,.int .i64 0,.int .i64 0] 72)):=((Below.refl _ _).alloc (Nat.le_refl _) _).alloc (by simp) _
 have hr:((w.alloc (.cells #[.int .i64 k,.int .i64 0,.int .i64 0,.int .i64 0] 72)).alloc (.cells #[.int .i64 k,.int .i64 0,.int .i64 0,.int .i64 0] 72)).heap[w.heap.size]?=some (.cells #[.int .i64 k,.int .i64 0,.int .i64 0,.int .i64 0] 72 (0,0)):=(Below.heap_alloc _ _ _ (by simp)).trans (zhL _ _)
 exact bodyPost_ret (v:=.agg #[.int .i64 k,.int .i64 0,.int .i64 0,.int .i64 0]) ((results_cell_row Tryz.results156 _ _ w.heap.size 72 _ (0,0) _ rfl hr Tryz.underlying72 rfl (by kernel_rfl)).trans (by rfl)) rfl ⟨OnlyR.below b2,.inl ⟨⟨k,0,0,0⟩,L,HN.out,rfl,HRW.out.keep b2⟩⟩
theorem RwIn.row_{B R:Nat}{w:World}{l:List Int}(h:RwIn B w R l):∃ v,At w R #[v] 130:=by
 rcases h with⟨_,h⟩|⟨b,off,c,h,_⟩
 ·exact⟨_,h⟩
 ·exact⟨_,h⟩
theorem Still.only{R B:Nat}{w w':World}{l:List Int}(h:OnlyR R w w')(hR:RwIn B w R l):Still 9 w w':=fun b cur T hb hT=>by
 refine (h.block b (Array.getElem?_eq_some_iff.1 hb).1 (fun e=>?_)).trans hb
 obtain⟨v,hv⟩:=hR.row_
 rw[e,show w.heap[R]?=_ from hv] at hb
 cases hb
 exact absurd hT (by decide)
theorem infoPh:(Tryz.prog.info? 92).map (fun i=>(i.zero,i.size,i.bytes))=some (some (.agg #[.int .i64 0,.slice none 0 0]),2,32):=by kernel_rfl
theorem infoIn:(Tryz.prog.info? 95).map (fun i=>(i.zero,i.size,i.bytes))=some (some (.agg #[.int .i64 0,.int .i64 0,.int .i64 0,.int .i64 0,.int .i64 0,.int .i64 0,.slice none 0 0]),7,72):=by kernel_rfl
theorem info_three{o:Option TypeInfo}{z:Value}{n b:Nat}(h:o.map (fun i=>(i.zero,i.size,i.bytes))=some (some z,n,b)):∃ i,o=some i∧i.zero=some z∧i.size=n∧i.bytes=b:=by
 cases o with
 | none=>cases h
 | some i =>
  simp only[Option.map_some,Option.some.injEq,Prod.mk.injEq] at h
  exact⟨i,rfl,h.1,h.2.1,h.2.2⟩
end Go.Proofs.YtkpmiikafconmaaGreatDoor
