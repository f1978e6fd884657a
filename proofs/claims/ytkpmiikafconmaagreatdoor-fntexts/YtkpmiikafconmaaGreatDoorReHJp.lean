import Derived.Test.YtkpmiikafconmaaGreatDoorReGJp
namespace Go.Proofs.YtkpmiikafconmaaGreatDoor
open Go.RowKit
set_option maxHeartbeats 8000000
set_option maxRecDepth 100000
set_option linter.unusedVariables false
set_option linter.unusedSimpArgs false
theorem qBlock_len{L r:List Ln}{b:BlockD}(h:qBlock L=some (b,r)):r.length<L.length:=by
 cases L with
 | nil=>cases h
 | cons x L =>
  rw[qBlock] at h
  split at h
  ·obtain⟨ps,h1,h⟩:=bind_some h
   obtain⟨is,h2,h⟩:=bind_some h
   obtain⟨t,h3,h⟩:=map_some h
   cases h
   have e1:=congrArg List.length (phis_yes (ps:=ps.1) (r:=ps.2) h1)
   have e2:=congrArg List.length (insts_yes (is:=is.1) (r:=is.2) h2)
   have e3:t.2.length<is.2.length:=by
    cases hi:is.2 with
    | nil=>rw[hi] at h3;cases h3
    | cons y r =>
     rw[hi] at h3
     obtain⟨t2,_,e⟩:=map_some h3
     rw[←e]
     simp
   rw[List.length_append] at e1 e2
   simp
   omega
  ·cases h
theorem qBlocks_go{n:Nat}{L r:List Ln}{b:BlockD}(hw:wordOf L=wBlk)(h:qBlock L=some (b,r)):qBlocks (n+1) L=(qBlocks n r).map fun y=>(b :: y.1,y.2):=by rw[qBlocks,if_pos hw,h];rfl
theorem qBlocks_no{n:Nat}{L:List Ln}(hw:wordOf L=wBlk)(h:qBlock L=none):qBlocks (n+1) L=none:=by rw[qBlocks,if_pos hw,h];rfl
theorem qBlocks_end{n:Nat}{L:List Ln}(hw:¬wordOf L=wBlk):qBlocks n L=some ([],L):=by
 cases n with
 | zero=>rfl
 | succ n=>rw[qBlocks,if_neg hw]
theorem qFunc_eq(L:List Ln):qFunc L=if wordOf L=wFun then (qNext L).bind fun x=>(match x.1.2 with
  | []=>none
  | ret :: ps=>(qBlocks 20001 x.2).map fun y=>(⟨ps,ret,y.1⟩,y.2)) else none:=by
 cases L with
 | nil=>rfl
 | cons x r =>
  unfold qFunc
  rw[qHead]
  by_cases h:x.1=wFun
  ·rw[if_pos h,if_pos (show wordOf (x :: r)=wFun from h)]
   show ((match x.2 with
    | []=>none
    | ret :: ps=>some ((ret,ps),r):Option ((Int × List Int) × List Ln)).bind _)=(match x.2 with
    | []=>none
    | ret :: ps=>(qBlocks 20001 r).map fun y=>((⟨ps,ret,y.1⟩:FuncD),y.2):Option (FuncD × List Ln))
   cases x.2<;>rfl
  ·rw[if_neg h,if_neg (show ¬wordOf (x :: r)=wFun from h)]
   rfl
theorem infoBkL:(Tryz.prog.info? 74).map (fun i=>(i.zero,i.size,i.bytes))=some (some (.agg #[.slice none 0 0,.slice none 0 0,.int .i64 0,.int .i64 0,.int .i64 0,.int .i64 0]),6,80):=by kernel_rfl
theorem ESt.passed{w wr w2:World}{a0:Addr}{R B X Nb:Nat}{T:TypeId}{cs zs:Array Value}{L:List Ln}(h:ESt w wr a0 R B X T cs zs L)(o:OnlyR Nb wr w2)(h1:w.heap.size<Nb)(h2:Nb<X):ESt w w2 a0 R B X T cs zs L:=by
 have k1:=h.ltX
 have k2:=h.leB
 have k3:=h.ltB
 have k4:=h.box.lt
 have low:∀ b,b<Nb→w2.heap[b]?=wr.heap[b]?:=fun b hb=>o.block b (by omega) (by omega)
 exact⟨(o.block _ h.box.lt (by omega)).trans h.box,(low _ h1).trans h.res,h.ln.lower (N:=Nb) (by omega) (by omega) o.size low,h.len,⟨o.os.trans h.only.os,o.tape.trans h.only.tape,o.output.trans h.only.output,Nat.le_trans h.only.size o.size,fun i hi hn=>(low i (by omega)).trans (h.only.block i hi hn)⟩,h.env.low (fun b hb=>low b (by omega)) o.size,k1,k2,k3⟩
theorem takeFnT(a:Addr)(B R:Nat)(L:List Ln)(w:World)(h:LwIn B R w L)(hl:L.length≤20000)(hE:Env w a R)(hB:B≤w.heap.size)(hRB:R<B) :
  Calls Tryz.prog 48 #[.pointer (some ⟨R,0,none⟩)] w fun e w'=>LTook qFunc a B R L w (fun d e w'=>∃ f:FnE,f.d=d∧e=.returned (.agg #[.slice f.pu f.pars.length f.pc,.int .i64 f.ret,.slice f.bu f.bs.length f.bc])∧OwnFn w' w.heap.size w'.heap.size f) e w':=by
 have hR:=h.lt
 obtain⟨iB,hiB,zB,sB',bB⟩:=info_three infoBkL
 have FL:=field_line
 have B0:Below w.heap.size w (w.alloc (.cells #[.slice none 0 0,.int .i64 0,.slice none 0 0] 55)):=(Below.refl _ _).alloc (Nat.le_refl _) _
 have HA0:Hid (At (w.alloc (.cells #[.slice none 0 0,.int .i64 0,.slice none 0 0] 55)) w.heap.size #[.slice none 0 0,.int .i64 0,.slice none 0 0] 55):=At.new _ _ _
 have HO0:Hid (OnlyR R w (w.alloc (.cells #[.slice none 0 0,.int .i64 0,.slice none 0 0] 55))):=OnlyR.below B0
 have HE0:Hid (Env (w.alloc (.cells #[.slice none 0 0,.int .i64 0,.slice none 0 0] 55)) a R):=hE.below B0 (by omega)
 have hl0:=h.keep hB B0
 have WT:=wordT B R L _ hl0
 have T0:=takeLnT a B R L _ hl0 HE0.out.gv (Nat.le_trans hB B0.size) hRB
 have HQ:Hid (qFunc L=_):=qFunc_eq L
 have hz0:(w.alloc (.cells #[.slice none 0 0,.int .i64 0,.slice none 0 0] 55)).heap.size=w.heap.size+1:=by simp
 clear h hE B0 hl0
 go_enter Tryz.func48,Tryz.ntmps48
 go_wp2_with fail
 generalize (w.alloc (.cells #[.slice none 0 0,.int .i64 0,.slice none 0 0] 55))=W1 at *
 by_cases hw:wordOf L=wFun
 rotate_left
 ·have E:=word_ne hw
  unfold wFun at E
  have WN:=wantN a W1 HE0.out.gv
  have HN:Hid (qFunc L=none):=by show _=_;rw[HQ.out,if_neg hw]
  clear T0 HQ hw
  refine WT.mono ?_
  rintro e w8 ⟨rfl,h9⟩
  have h8:=h9.symm
  clear h9 WT
  subst h8
  go_wp2_with fail
  refine WN.mono ?_
  rintro e w8 ⟨rfl,h9⟩
  rw[←h9] at HO0
  clear h9 WN E
  go_wp2_with fail
  exact⟨rfl,HO0.out,.inr ⟨HN.out,rfl⟩⟩
 have E:=word_eq hw
 unfold wFun at E
 have WY:=wantY W1
 have e9:=HQ.out
 rw[if_pos hw] at e9
 have HQ1:Hid (qFunc L=_):=e9
 clear HQ hw e9
 refine WT.mono ?_
 rintro e w8 ⟨rfl,h9⟩
 have h8:=h9.symm
 clear h9 WT
 subst h8
 go_wp2_with fail
 refine WY.mono ?_
 rintro e w8 ⟨rfl,h9⟩
 have h8:=h9.symm
 clear h9 WY E
 subst h8
 go_wp2_with fail
 refine T0.mono ?_
 rintro e w2 ⟨o2,⟨x,L1,p2,⟨nv,rfl,hnm⟩,hl2⟩|⟨p2,rfl⟩⟩
 rotate_left
 ·have HN:Hid (qFunc L=none):=by show _=_;rw[HQ1.out,p2];rfl
  have HO:=HO0.out.trans o2
  clear p2 HQ1 T0
  go_wp2_with fail
  exact⟨rfl,HO,.inr ⟨HN.out,rfl⟩⟩
 have e9:=HQ1.out
 rw[p2,Option.bind_some] at e9
 have HQ2:Hid (qFunc L=_):=e9
 have hlen1:L1.length≤20000:=by
  cases L with
  | nil=>cases p2
  | cons y r=>cases p2;simp at hl;omega
 obtain⟨nu,nc,rfl⟩:=hnm.1.slice
 have HO2:Hid (OnlyR R w w2):=HO0.out.trans o2
 have HA2:Hid (At w2 w.heap.size #[.slice none 0 0,.int .i64 0,.slice none 0 0] 55):=(o2.block _ HA0.out.lt (by omega)).trans HA0.out
 have HE2:Hid (Env w2 a R):=HE0.out.only o2 (by omega)
 have HNm:Hid (NmIn B R w2 (.slice nu x.2.length nc) x.2):=hnm
 have hz2:w.heap.size<w2.heap.size:=HA2.out.lt
 have b3:Below w2.heap.size w2 ((w2.alloc (.cells #[.slice nu x.2.length nc] 130)).alloc (.cells #[.slice none 0 0,.int .i64 0,.slice none 0 0] 55)):=((Below.refl _ _).alloc (Nat.le_refl _) _).alloc (by simp) _
 have HS3:Hid (ESt w ((w2.alloc (.cells #[.slice nu x.2.length nc] 130)).alloc (.cells #[.slice none 0 0,.int .i64 0,.slice none 0 0] 55)) a R B (w2.heap.size+1) 55 #[.slice none 0 0,.int .i64 0,.slice none 0 0] #[.slice none 0 0,.int .i64 0,.slice none 0 0] L1):=⟨heap_two2 _ _ _,HA2.out.below b3,LwIn.keep hl2 (by omega) b3,hlen1,HO2.out.trans (OnlyR.below b3),HE2.out.below b3 (by omega),by omega,hB,hRB⟩
 have hRow:At ((w2.alloc (.cells #[.slice nu x.2.length nc] 130)).alloc (.cells #[.slice none 0 0,.int .i64 0,.slice none 0 0] 55)) w2.heap.size #[.slice nu x.2.length nc] 130:=(Below.heap_alloc _ _ _ (by simp)).trans (zhL _ _)
 have hB2:B≤w2.heap.size:=by omega
 have HRW:Hid (RwIn B ((w2.alloc (.cells #[.slice nu x.2.length nc] 130)).alloc (.cells #[.slice none 0 0,.int .i64 0,.slice none 0 0] 55)) w2.heap.size x.2):=nm_rw (HNm.out.low hB2 b3.block) hRow (by have:=b3.size;omega) hB2
 have N3:=nextT a B w2.heap.size x.2 _ HRW.out HNm.out.fit.len HS3.out.env.gv
 have hx20:=HNm.out.2.1
 clear T0 o2 p2 hl2 hnm HQ1 e9 HA0 HO0 HE0 HA2 HO2 HE2 b3 hRow
 go_wp2_with fail
 generalize ((w2.alloc (.cells #[.slice nu x.2.length nc] 130)).alloc (.cells #[.slice none 0 0,.int .i64 0,.slice none 0 0] 55))=W3 at *
 have hW3:w2.heap.size+2≤W3.heap.size:=HS3.out.box.lt
 refine N3.mono ?_
 rintro e w4 ⟨o4,⟨ret,l4,p4,rfl,q4⟩|⟨p4,rfl⟩⟩
 rotate_left
 ·have hx0:x.2=[]:=by
   cases h:x.2 with
   | nil=>rfl
   | cons _ _=>rw[h] at p4;cases p4
  have HN:Hid (qFunc L=none):=by
   have:=HQ2.out
   try dsimp only at this
   rw[hx0] at this
   exact this
  have HO:Hid (OnlyR R w w4):=⟨o4.os.trans HS3.out.only.os,o4.tape.trans HS3.out.only.tape,o4.output.trans HS3.out.only.output,Nat.le_trans HS3.out.only.size o4.size,fun i hi hn=>(o4.block i (by have:=HS3.out.only.size;omega) (by omega)).trans (HS3.out.only.block i hi hn)⟩
  clear p4 HQ2 N3
  go_wp2_with fail
  exact⟨rfl,HO.out,.inr ⟨HN.out,rfl⟩⟩
 have hx4:x.2=ret :: l4:=pNext_yes p4
 have HQ4:Hid (qFunc L=(qBlocks 20001 L1).map fun y=>(⟨l4,ret,y.1⟩,y.2)):=by
  have:=HQ2.out
  try dsimp only at this
  rw[hx4] at this
  exact this
 have hl4:l4.length≤20000:=by rw[hx4] at hx20;simp at hx20;omega
 have HS4:Hid (ESt w w4 a R B (w2.heap.size+1) 55 #[.slice none 0 0,.int .i64 0,.slice none 0 0] #[.slice none 0 0,.int .i64 0,.slice none 0 0] L1):=HS3.out.passed o4 (by omega) (by omega)
 have HRW4:Hid (RwIn B w4 w2.heap.size l4):=q4
 have c1:w4.cell? ⟨w2.heap.size+1,1,none⟩=some (.int .i64 0):=HS4.out.box.cell 1
 have f1:w4.frozen? ⟨w2.heap.size+1,1,none⟩=false:=zfH HS4.out.box
 have HS5:Hid (ESt w (w4.setCell ⟨w2.heap.size+1,1,none⟩ (.int .i64 ret)) a R B (w2.heap.size+1) 55 #[.slice none 0 0,.int .i64 ret,.slice none 0 0] #[.slice none 0 0,.int .i64 0,.slice none 0 0] L1):=HS4.out.set 1 _
 have HRW5:Hid (RwIn B (w4.setCell ⟨w2.heap.size+1,1,none⟩ (.int .i64 ret)) w2.heap.size l4):=HRW4.out.set (by omega) (by omega)
 have RT:=restT B w2.heap.size l4 _ HRW5.out (by omega)
 have hW5:w2.heap.size+2≤(w4.setCell ⟨w2.heap.size+1,1,none⟩ (.int .i64 ret)).heap.size:=HS5.out.box.lt
 clear N3 o4 p4 q4 HS3 HRW HQ2 hx4 HNm HS4 HRW4 hW3
 go_wp2_with fail
 clear c1 f1
 generalize (w4.setCell ⟨w2.heap.size+1,1,none⟩ (.int .i64 ret))=W5 at *
 refine RT.mono ?_
 rintro e w6 ⟨u,c,rfl,hu,o6⟩
 have HS6:Hid (ESt w w6 a R B (w2.heap.size+1) 55 #[.slice none 0 0,.int .i64 ret,.slice none 0 0] #[.slice none 0 0,.int .i64 0,.slice none 0 0] L1):=HS5.out.passed o6 (by omega) (by omega)
 have c0:w6.cell? ⟨w2.heap.size+1,0,none⟩=some (.slice none 0 0):=HS6.out.box.cell 0
 have f0:w6.frozen? ⟨w2.heap.size+1,0,none⟩=false:=zfH HS6.out.box
 have HS7:Hid (ESt w (w6.setCell ⟨w2.heap.size+1,0,none⟩ (.slice u l4.length c)) a R B (w2.heap.size+1) 55 #[.slice u l4.length c,.int .i64 ret,.slice none 0 0] #[.slice none 0 0,.int .i64 0,.slice none 0 0] L1):=HS6.out.set 0 _
 have HI7:Hid (OwnI (w6.setCell ⟨w2.heap.size+1,0,none⟩ (.slice u l4.length c)) (w2.heap.size+2) w6.heap.size u l4):=(hu.still (Still.set (k:=3) HS6.out.box (by decide)) (by decide)).wide hW5 (Nat.le_refl _)
 have hz7:w6.heap.size≤(w6.setCell ⟨w2.heap.size+1,0,none⟩ (.slice u l4.length c)).heap.size:=by simp only[World.size_setCell];exact Nat.le_refl _
 have hX6:w2.heap.size+2≤w6.heap.size:=HS6.out.box.lt
 clear RT hu o6 HS5 HS6 HRW5 hW5
 go_wp2_with fail
 clear c0 f0
 generalize (w6.setCell ⟨w2.heap.size+1,0,none⟩ (.slice u l4.length c))=W7 at *
 generalize w6.heap.size=m at *
 clear w6
 obtain⟨X,hX⟩:∃ X,w2.heap.size+1=X:=⟨_,rfl⟩
 rw[show w2.heap.size+2=X+1 by omega] at HI7 hX6
 rw[hX] at HS7 ⊢
 have hwX:=HS7.out.ltX
 clear hX hB2 hz2 hz0 hx20
 go_loopg [20] 20001 (fun gk v4 wr=>∃ (v:Value) (es:List BkE) (Lr:List Ln),Lr.length<gk∧es.length+Lr.length≤20000∧Hid (qBlocks 20001 L1=(qBlocks gk Lr).map fun y=>(es.map BkE.d++y.1,y.2))∧Hid (ESt w wr a R B X 55 #[.slice u l4.length c,.int .i64 ret,v] #[.slice none 0 0,.int .i64 0,.slice none 0 0] Lr)∧Hid (OwnI wr (X+1) m u l4)∧Hid (RowS 74 6 bkC wr m v es)∧Hid (Sub OwnBk wr m wr.heap.size es))
 case atStart=>exact⟨_,[],L1,by omega,by simpa using hlen1,(by show _=_;cases qBlocks 20001 L1<;>simp),HS7.out,HI7.out,RowS.nil _ _ _ _ _,hz7⟩
 case round =>
  clear HS7 HI7 hz7
  obtain⟨v,es,Lr,hLr,hes,HM,HS,HI,HR,HU⟩:=hrel
  obtain⟨w4,hwo⟩:∃ w1,w1=wr:=⟨_,rfl⟩
  subst hwo
  have WT:=wordT B R Lr w4 HS.out.ln
  obtain⟨vu,vc,rfl⟩:=HR.out.slice
  have hel:es.length≤20000:=by omega
  by_cases hw:wordOf Lr=wBlk
  ·have E:=word_eq hw
   unfold wBlk at E
   have HW:Hid (wordOf Lr=wBlk):=hw
   have TB:=takeBlkT a B R Lr w4.drew HS.out.ln HS.out.len (HS.out.env.low (fun _ _=>rfl) (Nat.le_refl _)) (by have:=HS.out.leB;have:=HS.out.only.size;show B≤w4.heap.size;omega) hRB
   have c0:w4.cell? ⟨X,2,none⟩=some (.slice vu es.length vc):=HS.out.box.cell 2
   obtain⟨n,rfl⟩:∃ n,gk=n+1:=⟨gk-1,by omega⟩
   clear hw
   go_wp2_with fail
   refine WT.mono ?_
   rintro e w6 ⟨rfl,h9⟩
   have h8:=h9.symm
   clear h9 WT
   subst h8
   go_wp2_with fail
   clear E
   refine startX (fun w'=>w'.cell? ⟨X,2,none⟩=some (.slice vu es.length vc)) (fun i=>decide (i=7)) (by kernel_rfl) ?_
   refine takeX 0 (v:=?_) rfl rfl (by kernel_rfl) (fun _ _ _ h=>h) (yesH (by rfl) ?_) c0 ?_
   rotate_left
   ·intro w9 hS9
    go_simp
    try with_reducible rfl
   try simp only[Act.put,sA,sB,sC]
   refine takeX 1 (v:=?_) rfl rfl (by kernel_rfl) (fun _ _ _ h=>h) (yesH (by rfl) ?_) c0 ?_
   rotate_left
   ·intro w9 hS9
    have g0:=hS9
    go_simp
    try with_reducible rfl
   try simp only[Act.put,sA,sB,sC]
   refine takeX 2 (v:=?_) rfl rfl (by kernel_rfl) (fun _ _ _ h=>h) (yesH (by rfl) ?_) c0 ?_
   rotate_left
   ·intro w9 hS9
    go_simp
    try with_reducible rfl
   try simp only[Act.put,sA,sB,sC]
   refine readyX 3 rfl (by kernel_rfl) (fun K hK=>?_)
   go_simp
   go_wp2_with fail
   refine TB.mono ?_
   rintro e w6 ⟨o2,⟨d,L6,p2,⟨b,hbd,rfl,hu⟩,q2⟩|⟨p2,rfl⟩⟩
   rotate_left
   ·have o3:OnlyR R w4 w6:=⟨o2.os,o2.tape,o2.output,o2.size,o2.block⟩
    have HN:Hid (qFunc L=none):=by
     show _=_
     rw[HQ4.out,HM.out,qBlocks_no HW.out p2]
     rfl
    have HO:=HS.out.only.trans o3
    clear hK p2 HQ4 TB
    go_wp2_with fail
    exact⟨rfl,HO,.inr ⟨HN.out,rfl⟩⟩
   subst hbd
   have o3:OnlyR R w4 w6:=⟨o2.os,o2.tape,o2.output,o2.size,o2.block⟩
   have hlen6:=qBlock_len p2
   have HM6:Hid (qBlocks 20001 L1=(qBlocks n L6).map fun y=>((es++[b]).map BkE.d++y.1,y.2)):=by
    show _=_
    rw[HM.out,qBlocks_go HW.out p2,map_more,List.map_append]
    rfl
   have HS4:Hid (ESt w w6 a R B X 55 #[.slice u l4.length c,.int .i64 ret,.slice vu es.length vc] #[.slice none 0 0,.int .i64 0,.slice none 0 0] L6):=HS.out.step o3 q2 (by omega)
   have ST4:=Still.lns o3 HS.out.ln
   have HI4:Hid (OwnI w6 (X+1) m u l4):=HI.out.still ST4 (by decide)
   have HR4:Hid (RowS 74 6 bkC w6 m (.slice vu es.length vc) es):=HR.out.still ST4 (by decide)
   have HU4:Hid (Sub OwnBk w6 m w6.heap.size (es++[b])):=Sub.snoc (HU.out.still fun _ _ _ h=>OwnBk.still h ST4 (by decide)) (Nat.le_refl _) o3.size hu
   have c4:w6.cell? ⟨X,2,none⟩=some (.slice vu es.length vc):=HS4.out.box.cell 2
   have hb6:m≤w6.heap.size:=HU4.out.le
   clear TB o2 o3 p2 q2 hu HS HR HU HM HI ST4 c0 HW
   have b5:Below w6.heap.size w6 (w6.alloc (.cells #[.slice b.pu b.ps.length b.pc,.slice b.iu b.is.length b.ic,.int .i64 b.t.kind,.int .i64 b.t.a,.int .i64 b.t.x,.int .i64 b.t.y] 74)):=(Below.refl _ _).alloc (Nat.le_refl _) _
   have HS5:Hid (ESt w (w6.alloc (.cells #[.slice b.pu b.ps.length b.pc,.slice b.iu b.is.length b.ic,.int .i64 b.t.kind,.int .i64 b.t.a,.int .i64 b.t.x,.int .i64 b.t.y] 74)) a R B X 55 #[.slice u l4.length c,.int .i64 ret,.slice vu es.length vc] #[.slice none 0 0,.int .i64 0,.slice none 0 0] L6):=HS4.out.keep b5
   have ST5:Still 9 w6 (w6.alloc (.cells #[.slice b.pu b.ps.length b.pc,.slice b.iu b.is.length b.ic,.int .i64 b.t.kind,.int .i64 b.t.a,.int .i64 b.t.x,.int .i64 b.t.y] 74)):=Still.below b5
   have HI5:Hid (OwnI (w6.alloc (.cells #[.slice b.pu b.ps.length b.pc,.slice b.iu b.is.length b.ic,.int .i64 b.t.kind,.int .i64 b.t.a,.int .i64 b.t.x,.int .i64 b.t.y] 74)) (X+1) m u l4):=HI4.out.still ST5 (by decide)
   have HR5:Hid (RowS 74 6 bkC (w6.alloc (.cells #[.slice b.pu b.ps.length b.pc,.slice b.iu b.is.length b.ic,.int .i64 b.t.kind,.int .i64 b.t.a,.int .i64 b.t.x,.int .i64 b.t.y] 74)) m (.slice vu es.length vc) es):=HR4.out.still ST5 (by decide)
   have HU5:Hid (Sub OwnBk (w6.alloc (.cells #[.slice b.pu b.ps.length b.pc,.slice b.iu b.is.length b.ic,.int .i64 b.t.kind,.int .i64 b.t.a,.int .i64 b.t.x,.int .i64 b.t.y] 74)) m (w6.alloc (.cells #[.slice b.pu b.ps.length b.pc,.slice b.iu b.is.length b.ic,.int .i64 b.t.kind,.int .i64 b.t.a,.int .i64 b.t.x,.int .i64 b.t.y] 74)).heap.size (es++[b])):=(HU4.out.wide (Nat.le_refl _) b5.size).still fun _ _ _ h=>OwnBk.still h ST5 (by decide)
   have c5:(w6.alloc (.cells #[.slice b.pu b.ps.length b.pc,.slice b.iu b.is.length b.ic,.int .i64 b.t.kind,.int .i64 b.t.a,.int .i64 b.t.x,.int .i64 b.t.y] 74)).cell? ⟨X,2,none⟩=some (.slice vu es.length vc):=HS5.out.box.cell 2
   obtain⟨g6,cap6,w8,hrun,hown6,hgr6,_,_⟩:=run_append_lies (P:=Tryz.prog) (w6.alloc (.cells #[.slice b.pu b.ps.length b.pc,.slice b.iu b.is.length b.ic,.int .i64 b.t.kind,.int .i64 b.t.a,.int .i64 b.t.x,.int .i64 b.t.y] 74)) 53 53 m 74 iB (.agg #[.slice none 0 0,.slice none 0 0,.int .i64 0,.int .i64 0,.int .i64 0,.int .i64 0]) 6 80 Tryz.underlying53 hiB zB sB' bB rfl (by decide) (.slice vu es.length vc) es.length (es.flatMap bkC) HR5.out ⟨w6.heap.size,0,none⟩ 1 1 [.slice b.pu b.ps.length b.pc,.slice b.iu b.is.length b.ic,.int .i64 b.t.kind,.int .i64 b.t.a,.int .i64 b.t.x,.int .i64 b.t.y] rfl (World.news_of_block (At.new w6 #[.slice b.pu b.ps.length b.pc,.slice b.iu b.is.length b.ic,.int .i64 b.t.kind,.int .i64 b.t.a,.int .i64 b.t.x,.int .i64 b.t.y] 74)) (by simp[Value.oneCell']) (by decide) (by unfold maxLen;omega) (by omega) (Nat.le_trans hb6 b5.size) _ rfl
   have HS6:Hid (ESt w w8 a R B X 55 #[.slice u l4.length c,.int .i64 ret,.slice vu es.length vc] #[.slice none 0 0,.int .i64 0,.slice none 0 0] L6):=HS5.out.grown hgr6 (fun g e=>by have:=(HR5.out.ge e).1;omega)
   have ST6:Still 3 (w6.alloc (.cells #[.slice b.pu b.ps.length b.pc,.slice b.iu b.is.length b.ic,.int .i64 b.t.kind,.int .i64 b.t.a,.int .i64 b.t.x,.int .i64 b.t.y] 74)) w8:=Still.grown hgr6 (fun g e=>by obtain⟨_,cur,hc⟩:=HR5.out.ge e;exact⟨cur,_,hc,by decide⟩)
   have HI6:Hid (OwnI w8 (X+1) m u l4):=HI5.out.still ST6 (by decide)
   have HR6:Hid (RowS 74 6 bkC w8 m (.slice (some ⟨g6,0,none⟩) (es.length+1) cap6) (es++[b])):=RowS.push hown6
   have HU6:Hid (Sub OwnBk w8 m w8.heap.size (es++[b])):=(HU5.out.wide (Nat.le_refl _) hgr6.size).still fun _ _ _ h=>OwnBk.still h ST6 (by decide)
   have HS7:Hid (ESt w (w8.setCell ⟨X,2,none⟩ (.slice (some ⟨g6,0,none⟩) (es.length+1) cap6)) a R B X 55 #[.slice u l4.length c,.int .i64 ret,(.slice (some ⟨g6,0,none⟩) (es.length+1) cap6)] #[.slice none 0 0,.int .i64 0,.slice none 0 0] L6):=HS6.out.set 2 _
   have ST7:Still 4 w8 (w8.setCell ⟨X,2,none⟩ (.slice (some ⟨g6,0,none⟩) (es.length+1) cap6)):=Still.set HS6.out.box (by decide)
   have HI7:Hid (OwnI (w8.setCell ⟨X,2,none⟩ (.slice (some ⟨g6,0,none⟩) (es.length+1) cap6)) (X+1) m u l4):=HI6.out.still ST7 (by decide)
   have HR7:Hid (RowS 74 6 bkC (w8.setCell ⟨X,2,none⟩ (.slice (some ⟨g6,0,none⟩) (es.length+1) cap6)) m (.slice (some ⟨g6,0,none⟩) (es.length+1) cap6) (es++[b])):=HR6.out.still ST7 (by decide)
   have HU7:Hid (Sub OwnBk (w8.setCell ⟨X,2,none⟩ (.slice (some ⟨g6,0,none⟩) (es.length+1) cap6)) m (w8.setCell ⟨X,2,none⟩ (.slice (some ⟨g6,0,none⟩) (es.length+1) cap6)).heap.size (es++[b])):=(HU6.out.wide (Nat.le_refl _) (by simp only[World.size_setCell];exact Nat.le_refl _)).still fun _ _ _ h=>OwnBk.still h ST7 (by decide)
   have c6:w8.cell? ⟨X,2,none⟩=some (.slice vu es.length vc):=HS6.out.box.cell 2
   have f6:w8.frozen? ⟨X,2,none⟩=false:=zfH HS6.out.box
   clear b5 HS5 ST5 HR5 HU5 HI5 ST6 HR6 HU6 HI6 ST7 HS4 HR4 HU4 HI4 hown6 hgr6 HS6 hb6
   refine hK.out _ _ (.inr c4) ?_
   clear hK K
   try simp only[Act.put,sA,sB,sC]
   refine readyX 4 rfl (by kernel_rfl) (fun K hK=>?_)
   go_simp
   refine hK.out _ _ (.inr c5) ?_
   clear hK K
   try simp only[Act.put,sA,sB,sC]
   refine readyX 5 rfl (by kernel_rfl) (fun K hK=>?_)
   refine step_runP rfl _ _ _ rfl rfl rfl hrun ?_
   refine hK.out _ _ (.inr c6) ?_
   clear hK K hrun
   try simp only[Act.put,sA,sB,sC]
   refine takeX 6 (v:=?_) rfl rfl (by kernel_rfl) (fun _ _ _ h=>h) (yesH (by rfl) ?_) c6 ?_
   rotate_left
   ·intro w9 hS9
    go_simp
    try with_reducible rfl
   try simp only[Act.put,sA,sB,sC]
   refine readyX 7 rfl (by kernel_rfl) (fun K hK=>?_)
   go_simp
   refine hK.out _ _ (.inl rfl) ?_
   clear hK K
   refine doneX (by kernel_rfl) ?_ _
   go_wp2_with fail
   go_roundg n
   case measure=>omega
   case rel=>exact⟨_,_,L6,by omega,(by rw[List.length_append];simp;omega),HM6.out,HS7.out,HI7.out,HR7.out,HU7.out⟩
  ·have E:=word_ne hw
   unfold wBlk at E
   have HN:Hid (qFunc L=some (⟨l4,ret,es.map BkE.d⟩,Lr)):=by
    show _=_
    rw[HQ4.out,HM.out,qBlocks_end hw]
    simp
   have HX:Hid (OwnBks w4 m w4.heap.size vu es):=RowS.own (fun _=>rfl) (by omega) HR.out HU.out (Nat.le_refl _) (Nat.le_refl _)
   have hz4:m≤w4.heap.size:=HU.out.le
   have hRw:R<w.heap.size:=by omega
   clear HM HR HU hw HQ4
   have c0:w4.cell? ⟨X,0,none⟩=some (.slice u l4.length c):=HS.out.box.cell 0
   have c1:w4.cell? ⟨X,1,none⟩=some (.int .i64 ret):=HS.out.box.cell 1
   have c2:w4.cell? ⟨X,2,none⟩=some (.slice vu es.length vc):=HS.out.box.cell 2
   have r0:w4.cell? ⟨w.heap.size,0,none⟩=some (.slice none 0 0):=HS.out.res.cell 0
   have r1:w4.cell? ⟨w.heap.size,1,none⟩=some (.int .i64 0):=HS.out.res.cell 1
   have r2:w4.cell? ⟨w.heap.size,2,none⟩=some (.slice none 0 0):=HS.out.res.cell 2
   have rf:∀ o,w4.frozen? ⟨w.heap.size,o,none⟩=false:=fun o=>zfH HS.out.res
   go_wp2_with fail
   refine WT.mono ?_
   rintro e w6 ⟨rfl,h9⟩
   have h8:=h9.symm
   clear h9 WT
   subst h8
   go_wp2_with fail
   have hr:=(zhS (o:=2) (v:=.slice vu es.length vc) (zhS (o:=1) (v:=.int .i64 ret) (zhS (o:=0) (v:=.slice u l4.length c) HS.out.res)))
   have OO:OnlyR R w (((w4.setCell ⟨w.heap.size,0,none⟩ (.slice u l4.length c)).setCell ⟨w.heap.size,1,none⟩ (.int .i64 ret)).setCell ⟨w.heap.size,2,none⟩ (.slice vu es.length vc)):=((HS.out.only.fresh (Nat.le_refl _)).fresh (Nat.le_refl _)).fresh (Nat.le_refl _)
   have hst:∀ b,b<w.heap.size→(((w4.setCell ⟨w.heap.size,0,none⟩ (.slice u l4.length c)).setCell ⟨w.heap.size,1,none⟩ (.int .i64 ret)).setCell ⟨w.heap.size,2,none⟩ (.slice vu es.length vc)).heap[b]?=w4.heap[b]?:=fun b hb=>by
    rw[Below.heap_setCell _ _ _ _ (by dsimp only;omega),Below.heap_setCell _ _ _ _ (by dsimp only;omega),Below.heap_setCell _ _ _ _ (by dsimp only;omega)]
   have hzr:w4.heap.size≤(((w4.setCell ⟨w.heap.size,0,none⟩ (.slice u l4.length c)).setCell ⟨w.heap.size,1,none⟩ (.int .i64 ret)).setCell ⟨w.heap.size,2,none⟩ (.slice vu es.length vc)).heap.size:=by simp only[World.size_setCell];exact Nat.le_refl _
   have LL:LwIn B R (((w4.setCell ⟨w.heap.size,0,none⟩ (.slice u l4.length c)).setCell ⟨w.heap.size,1,none⟩ (.int .i64 ret)).setCell ⟨w.heap.size,2,none⟩ (.slice vu es.length vc)) Lr:=HS.out.ln.lower (N:=w.heap.size) hRw hB hzr hst
   have SS:Still 4 w4 (((w4.setCell ⟨w.heap.size,0,none⟩ (.slice u l4.length c)).setCell ⟨w.heap.size,1,none⟩ (.int .i64 ret)).setCell ⟨w.heap.size,2,none⟩ (.slice vu es.length vc)):=(Still.trans (Still.trans (Still.set (k:=4) (o:=0) (v:=.slice u l4.length c) HS.out.res (by decide)) (Still.set (k:=4) (o:=1) (v:=.int .i64 ret) (zhS (o:=0) (v:=.slice u l4.length c) HS.out.res) (by decide))) (Still.set (k:=4) (o:=2) (v:=.slice vu es.length vc) (zhS (o:=1) (v:=.int .i64 ret) (zhS (o:=0) (v:=.slice u l4.length c) HS.out.res)) (by decide)))
   generalize (((w4.setCell ⟨w.heap.size,0,none⟩ (.slice u l4.length c)).setCell ⟨w.heap.size,1,none⟩ (.int .i64 ret)).setCell ⟨w.heap.size,2,none⟩ (.slice vu es.length vc))=W9 at *
   have UU:OwnFn W9 w.heap.size W9.heap.size ⟨l4,u,c,ret,es,vu,vc⟩:=⟨m,by omega,by omega,(HI.out.still SS (by decide)).wide (by omega) (Nat.le_refl _),(OwnBks.still HX.out SS (by decide)).wide (Nat.le_refl _) (by omega)⟩
   exact bodyPost_ret (v:=.agg #[.slice u l4.length c,.int .i64 ret,.slice vu es.length vc]) ((results_cell_row Tryz.results48 _ _ w.heap.size 55 _ (0,0) _ rfl hr Tryz.underlying55 rfl (by kernel_rfl)).trans (by rfl)) rfl ⟨OO,.inl ⟨_,Lr,HN.out,⟨⟨l4,u,c,ret,es,vu,vc⟩,rfl,rfl,UU⟩,LL⟩⟩
end Go.Proofs.YtkpmiikafconmaaGreatDoor
