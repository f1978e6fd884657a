import Derived.Test.YtkpmiikafconmaaGreatDoorReEJp
namespace Go.Proofs.YtkpmiikafconmaaGreatDoor
open Go.RowKit
set_option maxHeartbeats 8000000
set_option maxRecDepth 100000
set_option linter.unusedVariables false
set_option linter.unusedSimpArgs false
structure Env(w:World)(a:Addr)(R:Nat):Prop where
 gv:Gv w 1 (errV a)
 ops:OpsAt w
 tms:TmsAt w
 e1:1<R
 e2:2<R
 e3:0<R
theorem Env.low{w w':World}{a:Addr}{R:Nat}(h:Env w a R)(k:∀ b,b<R→w'.heap[b]?=w.heap[b]?)(hz:w.heap.size≤w'.heap.size):Env w' a R :=
 ⟨⟨(zcB (k _ h.e1)).trans h.gv.cell,Nat.lt_of_lt_of_le h.gv.lt hz⟩,⟨Nat.lt_of_lt_of_le h.ops.1 hz,fun j hj=>(zcB (k _ h.e2)).trans (h.ops.2 j hj)⟩,⟨Nat.lt_of_lt_of_le h.tms.1 hz,fun j hj=>(zcB (k _ h.e3)).trans (h.tms.2 j hj)⟩,h.e1,h.e2,h.e3⟩
theorem Env.only{w w':World}{a:Addr}{R:Nat}(h:Env w a R)(k:OnlyR R w w')(hR:R<w.heap.size):Env w' a R:=h.low (fun b hb=>k.block b (by omega) (by omega)) k.size
theorem Env.below{w w':World}{a:Addr}{R n:Nat}(h:Env w a R)(k:Below n w w')(hR:R≤n):Env w' a R:=h.low (fun b hb=>k.block b (by omega)) k.size
theorem nm_rw{B R Nb:Nat}{w:World}{v:Value}{l:List Int}(h:NmIn B R w v l)(hA:At w Nb #[v] 130)(hB:B≤w.heap.size)(hN:B≤Nb):RwIn B w Nb l:=by
 obtain⟨⟨h1,h2⟩,h3,h4,h5⟩:=h
 rcases h2 with⟨rfl,hn⟩|⟨g,cap,cur,rfl,_,hg,hnc,hcm,hcs,htk⟩
 ·exact .inl ⟨List.length_eq_zero_iff.1 hn,hA⟩
 ·have hgB:=(h5 g rfl).1
  refine .inr ⟨g,0,cap,hA,hnc,by unfold maxLen at hcm;omega,by omega,⟨hgB,hB⟩,fun i hi=>?_⟩
  rw[Nat.zero_add,zcH hg]
  have e:(cur.toList.take (l.length*1))[i]?=(l.map (Value.int .i64))[i]?:=by rw[htk]
  rw[List.getElem?_take,if_pos (by omega)] at e
  simp[hi] at e
  simpa [List.getD,hi] using e
theorem NmIn.fit{B R:Nat}{w:World}{v:Value}{l:List Int}(h:NmIn B R w v l):FitN l:=⟨h.2.2.1,h.2.1⟩
theorem pTk_qT{k:Int}{l l':List Int}{t:TermD}(h:pTk k l=some (t,l')):(l'=[]→qT k l=some t)∧(l'≠[]→qT k l=none):=by
 unfold pTk pT1 pT2 pT3 at h
 unfold qT
 split at h
 ·rename_i hk
  rw[if_pos hk]
  match l,h with
  | [],h=>cases h
  | [a],h=>cases h;exact⟨fun _=>rfl,fun e=>absurd rfl e⟩
  | a :: b :: r,h=>cases h;exact⟨fun e=>(by cases e),fun _=>rfl⟩
 ·rename_i hk
  rw[if_neg hk]
  split at h
  ·rename_i hk
   rw[if_pos hk]
   match l,h with
   | [],h=>cases h
   | [a],h=>cases h;exact⟨fun _=>rfl,fun e=>absurd rfl e⟩
   | a :: b :: r,h=>cases h;exact⟨fun e=>(by cases e),fun _=>rfl⟩
  ·rename_i hk
   rw[if_neg hk]
   split at h
   ·rename_i hk
    rw[if_pos hk]
    match l,h with
    | [],h=>cases h
    | [_],h=>cases h
    | [_,_],h=>cases h
    | [a,b,c],h=>cases h;exact⟨fun _=>rfl,fun e=>absurd rfl e⟩
    | a :: b :: c :: d :: r,h=>cases h;exact⟨fun e=>(by cases e),fun _=>rfl⟩
   ·rename_i hk
    rw[if_neg hk]
    match l,h with
    | [],h=>cases h;exact⟨fun _=>rfl,fun e=>absurd rfl e⟩
    | a :: r,h=>cases h;exact⟨fun e=>(by cases e),fun _=>rfl⟩
theorem pTk_none{k:Int}{l:List Int}(h:pTk k l=none):qT k l=none:=by
 unfold pTk pT1 pT2 pT3 at h
 unfold qT
 split at h
 ·rename_i hk
  rw[if_pos hk]
  match l,h with
  | [],h=>rfl
  | _ :: _,h=>cases h
 ·rename_i hk
  rw[if_neg hk]
  split at h
  ·rename_i hk
   rw[if_pos hk]
   match l,h with
   | [],h=>rfl
   | _ :: _,h=>cases h
  ·rename_i hk
   rw[if_neg hk]
   split at h
   ·rename_i hk
    rw[if_pos hk]
    match l,h with
    | [],h=>rfl
    | [_],h=>rfl
    | [_,_],h=>rfl
    | _ :: _ :: _ :: _,h=>cases h
   ·cases h
theorem qTerm_eq(L:List Ln):qTerm L=(qNext L).bind fun x=>(qT (tmNum x.1.1) x.1.2).map fun t=>(t,x.2):=by cases L<;>rfl
theorem restT(B R:Nat)(l:List Int)(w:World)(h:RwIn B w R l)(hl:l.length≤1048576) :
  Calls Tryz.prog 84 #[.pointer (some ⟨R,0,none⟩)] w fun e w'=>∃ u c,e=.returned (.slice u l.length c)∧OwnI w' w.heap.size w'.heap.size u l∧OnlyR R w w':=by
 have W:=someY2 B R l.length l w h (Nat.le_refl _) hl
 rw[List.take_length,List.drop_length] at W
 obtain⟨u,c,c0⟩:∃ u c,w.cell? ⟨R,0,none⟩=some (.slice u l.length c):=by
  rcases h with⟨rfl,h⟩|⟨b,off,c,h,_⟩
  ·exact⟨none,0,h.cell 0⟩
  ·exact⟨_,_,h.cell 0⟩
 clear h
 go_enter Tryz.func84,Tryz.ntmps84
 go_wp2_with fail
 refine W.mono ?_
 rintro e w1 ⟨v,rfl,hr,_,ho⟩
 obtain⟨u2,c2,rfl⟩:=hr.slice
 go_wp2_with fail
 go_ret
 exact⟨u2,c2,rfl,OwnI.row hl hr,ho⟩
theorem takeTermT(a:Addr)(B R:Nat)(L:List Ln)(w:World)(h:LwIn B R w L)(hE:Env w a R)(hB:B≤w.heap.size)(hRB:R<B) :
  Calls Tryz.prog 125 #[.pointer (some ⟨R,0,none⟩)] w fun e w'=>LTook qTerm a B R L w (fun t e _=>e=.returned (.agg #[.int .i64 t.kind,.int .i64 t.a,.int .i64 t.x,.int .i64 t.y])) e w':=by
 have hR:=h.lt
 have B0:Below w.heap.size w (w.alloc (.cells #[.int .i64 0,.int .i64 0,.int .i64 0,.int .i64 0] 72)):=(Below.refl _ _).alloc (Nat.le_refl _) _
 have HA0:Hid (At (w.alloc (.cells #[.int .i64 0,.int .i64 0,.int .i64 0,.int .i64 0] 72)) w.heap.size #[.int .i64 0,.int .i64 0,.int .i64 0,.int .i64 0] 72):=At.new _ _ _
 have HO0:Hid (OnlyR R w (w.alloc (.cells #[.int .i64 0,.int .i64 0,.int .i64 0,.int .i64 0] 72))):=OnlyR.below B0
 have HE0:Hid (Env (w.alloc (.cells #[.int .i64 0,.int .i64 0,.int .i64 0,.int .i64 0] 72)) a R):=hE.below B0 (by omega)
 have T0:=takeLnT a B R L _ (h.keep hB B0) HE0.out.gv (Nat.le_trans hB B0.size) hRB
 have HQ:Hid (qTerm L=_):=qTerm_eq L
 have hz0:(w.alloc (.cells #[.int .i64 0,.int .i64 0,.int .i64 0,.int .i64 0] 72)).heap.size=w.heap.size+1:=by simp
 clear h hE B0
 go_enter Tryz.func125,Tryz.ntmps125
 go_wp2_with fail
 generalize (w.alloc (.cells #[.int .i64 0,.int .i64 0,.int .i64 0,.int .i64 0] 72))=W1 at *
 refine T0.mono ?_
 rintro e w2 ⟨o2,⟨x,r,p2,⟨v,rfl,hnm⟩,hl2⟩|⟨p2,rfl⟩⟩
 rotate_left
 ·have HN:Hid (qTerm L=none):=by show _=_;rw[HQ.out,p2];rfl
  have HO:=HO0.out.trans o2
  clear p2 HQ T0
  go_wp2_with fail
  exact⟨rfl,HO,.inr ⟨HN.out,rfl⟩⟩
 have e9:=HQ.out
 rw[p2,Option.bind_some] at e9
 have HQ2:Hid (qTerm L=_):=e9
 have HO2:Hid (OnlyR R w w2):=HO0.out.trans o2
 have HA2:Hid (At w2 w.heap.size #[.int .i64 0,.int .i64 0,.int .i64 0,.int .i64 0] 72):=(o2.block _ HA0.out.lt (by omega)).trans HA0.out
 have HE2:Hid (Env w2 a R):=HE0.out.only o2 (by omega)
 have HL2:Hid (LwIn B R w2 r):=hl2
 have HN2:Hid (NmIn B R w2 v x.2):=hnm
 have hz2:w.heap.size<w2.heap.size:=HA2.out.lt
 obtain⟨vu,vc,rfl⟩:=hnm.1.slice
 have B3:Below w2.heap.size w2 (w2.alloc (.cells #[.string (bs x.1),.slice vu x.2.length vc] 43)):=(Below.refl _ _).alloc (Nat.le_refl _) _
 have A3:At (w2.alloc (.cells #[.string (bs x.1),.slice vu x.2.length vc] 43)) w2.heap.size #[.string (bs x.1),.slice vu x.2.length vc] 43:=At.new _ _ _
 have z3:(w2.alloc (.cells #[.string (bs x.1),.slice vu x.2.length vc] 43)).heap.size=w2.heap.size+1:=by simp
 have B4':Below (w2.alloc (.cells #[.string (bs x.1),.slice vu x.2.length vc] 43)).heap.size (w2.alloc (.cells #[.string (bs x.1),.slice vu x.2.length vc] 43)) ((w2.alloc (.cells #[.string (bs x.1),.slice vu x.2.length vc] 43)).alloc (.cells #[.slice vu x.2.length vc] 130)):=(Below.refl _ _).alloc (Nat.le_refl _) _
 have A4:=At.new (w2.alloc (.cells #[.string (bs x.1),.slice vu x.2.length vc] 43)) #[.slice vu x.2.length vc] 130
 rw[z3] at A4
 have HB4:Hid (Below w2.heap.size w2 ((w2.alloc (.cells #[.string (bs x.1),.slice vu x.2.length vc] 43)).alloc (.cells #[.slice vu x.2.length vc] 130))):=B3.trans (B4'.mono (by rw[z3];omega))
 have HA3:Hid (At ((w2.alloc (.cells #[.string (bs x.1),.slice vu x.2.length vc] 43)).alloc (.cells #[.slice vu x.2.length vc] 130)) w2.heap.size #[.string (bs x.1),.slice vu x.2.length vc] 43):=A3.below B4'
 have HA4:Hid (At ((w2.alloc (.cells #[.string (bs x.1),.slice vu x.2.length vc] 43)).alloc (.cells #[.slice vu x.2.length vc] 130)) (w2.heap.size+1) #[.slice vu x.2.length vc] 130):=A4
 have hB2:B≤w2.heap.size:=by omega
 have hR2:R<w2.heap.size:=by omega
 clear T0 o2 p2 hl2 hnm HQ HA0 HO0 HE0 e9 B3 A3 B4' A4 z3
 go_wp2_with fail
 generalize ((w2.alloc (.cells #[.string (bs x.1),.slice vu x.2.length vc] 43)).alloc (.cells #[.slice vu x.2.length vc] 130))=W4 at *
 have y0:W4.cell? ⟨w2.heap.size,0,none⟩=some (.string (bs x.1)):=HA3.out.cell 0
 have HE4:Hid (Env W4 a R):=HE2.out.below HB4.out (by omega)
 have hz4:w2.heap.size+2≤W4.heap.size:=HA4.out.lt
 have K:=kindOfI (bs x.1) W4 HE4.out.tms
 have HRW:RwIn B W4 (w2.heap.size+1) x.2:=nm_rw (HN2.out.low hB2 HB4.out.block) HA4.out (by omega) (by omega)
 have hk:tmNumB (bs x.1)=tmNum x.1:=rfl
 rw[hk] at K
 obtain⟨kk,hkk⟩:∃ kk,tmNum x.1=kk:=⟨_,rfl⟩
 have e9:=HQ2.out
 try dsimp only at e9
 rw[hkk] at e9
 have HQ3:Hid (qTerm L=_):=e9
 rw[hkk] at K
 have TT:=termT a B (w2.heap.size+1) kk x.2 W4 HRW HN2.out.fit HE4.out.gv (by have:=HE4.out.e1;omega) (by omega)
 clear HQ2 e9 hkk hk HRW
 go_wp2_with fail
 refine K.mono ?_
 rintro e w5 ⟨rfl,h9⟩
 have h8:=h9.symm
 clear h9 K
 subst h8
 go_wp2_with fail
 refine TT.mono ?_
 rintro e w6 ⟨o6,⟨t,l6,p6,rfl,q6⟩|⟨p6,rfl⟩⟩
 rotate_left
 ·have HN:Hid (qTerm L=none):=by show _=_;rw[HQ3.out,pTk_none p6];rfl
  have HO:=HO2.out.trans (OnlyR.below (HB4.out.trans (o6.down (n:=w2.heap.size) (by omega) (by omega))))
  clear p6 HQ3 TT
  go_wp2_with fail
  exact⟨rfl,HO,.inr ⟨HN.out,rfl⟩⟩
 have HB6:Hid (Below w2.heap.size w2 w6):=HB4.out.trans (o6.down (n:=w2.heap.size) (by omega) (by omega))
 have B7:Below w6.heap.size w6 (w6.alloc (.cells #[.int .i64 t.kind,.int .i64 t.a,.int .i64 t.x,.int .i64 t.y] 72)):=(Below.refl _ _).alloc (Nat.le_refl _) _
 have HB7:Hid (Below w2.heap.size w2 (w6.alloc (.cells #[.int .i64 t.kind,.int .i64 t.a,.int .i64 t.x,.int .i64 t.y] 72))):=HB6.out.trans (B7.mono HB6.out.size)
 have HA7:Hid (At (w6.alloc (.cells #[.int .i64 t.kind,.int .i64 t.a,.int .i64 t.x,.int .i64 t.y] 72)) w6.heap.size #[.int .i64 t.kind,.int .i64 t.a,.int .i64 t.x,.int .i64 t.y] 72):=At.new _ _ _
 have HR7:Hid (RwIn B (w6.alloc (.cells #[.int .i64 t.kind,.int .i64 t.a,.int .i64 t.x,.int .i64 t.y] 72)) (w2.heap.size+1) l6):=q6.keep B7
 have HX:Hid ((l6=[]→qT kk x.2=some t)∧(l6≠[]→qT kk x.2=none)):=pTk_qT p6
 have hz6:w2.heap.size≤w6.heap.size:=HB6.out.size
 clear TT o6 p6 q6 B7 HB6 HB4 HA3 HA4 HE4 y0
 by_cases h6:l6=[]
 ·subst h6
  have EN:=endY B (w2.heap.size+1) _ HR7.out
  have HY:Hid (qTerm L=some (t,r)):=by show _=_;rw[HQ3.out,HX.out.1 rfl];rfl
  clear HX HQ3
  go_wp2_with fail
  generalize (w6.alloc (.cells #[.int .i64 t.kind,.int .i64 t.a,.int .i64 t.x,.int .i64 t.y] 72))=W7 at *
  refine EN.mono ?_
  rintro e w8 ⟨rfl,h9⟩
  have h8:=h9.symm
  clear h9 EN
  subst h8
  have x0:W7.cell? ⟨w6.heap.size,0,none⟩=some (.int .i64 t.kind):=HA7.out.cell 0
  have x1:W7.cell? ⟨w6.heap.size,1,none⟩=some (.int .i64 t.a):=HA7.out.cell 1
  have x2:W7.cell? ⟨w6.heap.size,2,none⟩=some (.int .i64 t.x):=HA7.out.cell 2
  have x3:W7.cell? ⟨w6.heap.size,3,none⟩=some (.int .i64 t.y):=HA7.out.cell 3
  have HA8:Hid (At W7 w.heap.size #[.int .i64 0,.int .i64 0,.int .i64 0,.int .i64 0] 72):=HA2.out.below' HB7.out hz2
  have r0:W7.cell? ⟨w.heap.size,0,none⟩=some (.int .i64 0):=HA8.out.cell 0
  have r1:W7.cell? ⟨w.heap.size,1,none⟩=some (.int .i64 0):=HA8.out.cell 1
  have r2:W7.cell? ⟨w.heap.size,2,none⟩=some (.int .i64 0):=HA8.out.cell 2
  have r3:W7.cell? ⟨w.heap.size,3,none⟩=some (.int .i64 0):=HA8.out.cell 3
  have rf:∀ o,W7.frozen? ⟨w.heap.size,o,none⟩=false:=fun o=>zfH HA8.out
  go_wp2_with fail
  have hr:=zhS (o:=3) (v:=.int .i64 t.y) (zhS (o:=2) (v:=.int .i64 t.x) (zhS (o:=1) (v:=.int .i64 t.a) (zhS (o:=0) (v:=.int .i64 t.kind) HA8.out)))
  have OO:OnlyR R w ((((W7.setCell ⟨w.heap.size,0,none⟩ (.int .i64 t.kind)).setCell ⟨w.heap.size,1,none⟩ (.int .i64 t.a)).setCell ⟨w.heap.size,2,none⟩ (.int .i64 t.x)).setCell ⟨w.heap.size,3,none⟩ (.int .i64 t.y)):=(((((HO2.out.trans (OnlyR.below HB7.out)).fresh (Nat.le_refl _)).fresh (Nat.le_refl _)).fresh (Nat.le_refl _)).fresh (Nat.le_refl _))
  have hst:∀ b,b<w.heap.size→((((W7.setCell ⟨w.heap.size,0,none⟩ (.int .i64 t.kind)).setCell ⟨w.heap.size,1,none⟩ (.int .i64 t.a)).setCell ⟨w.heap.size,2,none⟩ (.int .i64 t.x)).setCell ⟨w.heap.size,3,none⟩ (.int .i64 t.y)).heap[b]?=w2.heap[b]?:=fun b hb=>by
   rw[Below.heap_setCell _ _ _ _ (by dsimp only;omega),Below.heap_setCell _ _ _ _ (by dsimp only;omega),Below.heap_setCell _ _ _ _ (by dsimp only;omega),Below.heap_setCell _ _ _ _ (by dsimp only;omega)]
   exact HB7.out.block b (by omega)
  have LL:LwIn B R ((((W7.setCell ⟨w.heap.size,0,none⟩ (.int .i64 t.kind)).setCell ⟨w.heap.size,1,none⟩ (.int .i64 t.a)).setCell ⟨w.heap.size,2,none⟩ (.int .i64 t.x)).setCell ⟨w.heap.size,3,none⟩ (.int .i64 t.y)) r:=HL2.out.lower (N:=w.heap.size) hR hB (by simp only[World.size_setCell];exact HB7.out.size) hst
  exact bodyPost_ret (v:=.agg #[.int .i64 t.kind,.int .i64 t.a,.int .i64 t.x,.int .i64 t.y]) ((results_cell_row Tryz.results125 _ _ w.heap.size 72 _ (0,0) _ rfl hr Tryz.underlying72 rfl (by kernel_rfl)).trans (by rfl)) rfl ⟨OO,.inl ⟨t,r,HY.out,rfl,LL⟩⟩
 ·have HN:Hid (qTerm L=none):=by show _=_;rw[HQ3.out,HX.out.2 h6];rfl
  have HE7:Env (w6.alloc (.cells #[.int .i64 t.kind,.int .i64 t.a,.int .i64 t.x,.int .i64 t.y] 72)) a R:=HE2.out.below HB7.out (by omega)
  have EN:=endN a B (w2.heap.size+1) l6 _ HR7.out h6 HE7.gv
  have HO:Hid (OnlyR R w (w6.alloc (.cells #[.int .i64 t.kind,.int .i64 t.a,.int .i64 t.x,.int .i64 t.y] 72))):=HO2.out.trans (OnlyR.below HB7.out)
  clear HX HQ3 HE7 h6
  go_wp2_with fail
  refine EN.mono ?_
  rintro e w8 ⟨rfl,h9⟩
  rw[←h9] at HO
  clear h9 EN
  go_wp2_with fail
  exact⟨rfl,HO.out,.inr ⟨HN.out,rfl⟩⟩
end Go.Proofs.YtkpmiikafconmaaGreatDoor
