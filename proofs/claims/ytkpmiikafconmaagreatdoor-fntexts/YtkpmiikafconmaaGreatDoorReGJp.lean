import Derived.Test.YtkpmiikafconmaaGreatDoorReFJp
import Derived.Deep.CutBlock
namespace Go.Proofs.YtkpmiikafconmaaGreatDoor
open Go.RowKit
set_option maxHeartbeats 8000000
set_option maxRecDepth 100000
set_option linter.unusedVariables false
set_option linter.unusedSimpArgs false
structure ESt(w wr:World)(a0:Addr)(R B X:Nat)(T:TypeId)(cs zs:Array Value)(L:List Ln):Prop where
 box:At wr X cs T
 res:At wr w.heap.size zs T
 ln:LwIn B R wr L
 len:L.length≤20000
 only:OnlyR R w wr
 env:Env wr a0 R
 ltX:w.heap.size<X
 leB:B≤w.heap.size
 ltB:R<B
theorem ESt.step{w wr w2:World}{a0:Addr}{R B X:Nat}{T:TypeId}{cs zs:Array Value}{L L2:List Ln}(h:ESt w wr a0 R B X T cs zs L)(ho:OnlyR R wr w2)(hr:LwIn B R w2 L2)(hl:L2.length≤20000):ESt w w2 a0 R B X T cs zs L2 :=
 ⟨(ho.block _ h.box.lt (by have:=h.ltX;have:=h.leB;have:=h.ltB;omega)).trans h.box,(ho.block _ h.res.lt (by have:=h.leB;have:=h.ltB;omega)).trans h.res,hr,hl,h.only.trans ho,h.env.only ho h.ln.lt,h.ltX,h.leB,h.ltB⟩
theorem ESt.low{w wr w2:World}{a0:Addr}{R B X n:Nat}{T:TypeId}{cs zs:Array Value}{L:List Ln}(h:ESt w wr a0 R B X T cs zs L)(k:Below n wr w2)(hn:X<n):ESt w w2 a0 R B X T cs zs L:=by
 have h1:=h.ltX
 have h2:=h.leB
 have h3:=h.ltB
 exact⟨(k.block _ hn).trans h.box,(k.block _ (by omega)).trans h.res,h.ln.lower (N:=n) (by omega) (by omega) k.size k.block,h.len,⟨k.os.trans h.only.os,k.tape.trans h.only.tape,k.output.trans h.only.output,Nat.le_trans h.only.size k.size,fun i hi hne=>(k.block i (by omega)).trans (h.only.block i hi hne)⟩,h.env.below k (by omega),h1,h2,h3⟩
theorem ESt.keep{w wr w2:World}{a0:Addr}{R B X:Nat}{T:TypeId}{cs zs:Array Value}{L:List Ln}(h:ESt w wr a0 R B X T cs zs L)(k:Below wr.heap.size wr w2):ESt w w2 a0 R B X T cs zs L:=h.low k h.box.lt
theorem ESt.grown{w wr w2:World}{a0:Addr}{R B X:Nat}{T:TypeId}{cs zs:Array Value}{L:List Ln}{r:Option Nat}(h:ESt w wr a0 R B X T cs zs L)(k:wr.grownBy w2 r)(hr:∀ g,r=some g→X<g):ESt w w2 a0 R B X T cs zs L :=
 h.low (n:=X+1) ⟨k.os,k.tape,k.output,k.size,fun b hb=>k.block b (by have:=h.box.lt;omega) (fun e=>by have:=hr b e.symm;omega)⟩ (by omega)
theorem ESt.set{w wr:World}{a0:Addr}{R B X:Nat}{T:TypeId}{cs zs:Array Value}{L:List Ln}(h:ESt w wr a0 R B X T cs zs L)(o:Nat)(v:Value):ESt w (wr.setCell ⟨X,o,none⟩ v) a0 R B X T (cs.setIfInBounds o v) zs L:=by
 have h1:=h.ltX
 have h2:=h.leB
 have h3:=h.ltB
 have hs:∀ b,b<X→(wr.setCell ⟨X,o,none⟩ v).heap[b]?=wr.heap[b]?:=fun b hb=>Below.heap_setCell _ _ _ _ (by dsimp only;omega)
 have hz:wr.heap.size≤(wr.setCell ⟨X,o,none⟩ v).heap.size:=by simp only[World.size_setCell];exact Nat.le_refl _
 exact⟨zhS (o:=o) h.box,h.res.setOther (by omega),h.ln.lower (N:=X) (by omega) (by omega) hz hs,h.len,h.only.fresh (by omega),h.env.low (fun b hb=>hs b (by omega)) hz,h1,h2,h3⟩
theorem bs_listT(u:List UInt8):(bs u).toList=u:=by rw[ByteArray.toList_eq];rfl
theorem word_eq{u v:List UInt8}(h:u=v):((bs u).toList==v)=true:=by rw[bs_listT,h];exact beq_self_eq_true v
theorem word_ne{u v:List UInt8}(h:¬u=v):((bs u).toList==v)=false:=by rw[bs_listT];exact beq_eq_false_iff_ne.2 h
theorem qBlock_eq(L:List Ln):qBlock L=(qNext L).bind fun x=>if x.1.2=[] then qBody x.2 else none:=by cases L<;>rfl
theorem qPhis_go{x:Ln}{r:List Ln}{z:Int}{l:List Int}(h:x.1=wPhi)(h2:x.2=z :: l):qPhis (x :: r)=(qPhis r).map fun y=>(⟨z,l⟩ :: y.1,y.2):=by rw[qPhis,if_pos h,h2]
theorem qPhis_no{x:Ln}{r:List Ln}(h:x.1=wPhi)(h2:x.2=[]):qPhis (x :: r)=none:=by rw[qPhis,if_pos h,h2]
theorem qPhis_end{L:List Ln}(h:¬wordOf L=wPhi):qPhis L=some ([],L):=by
 cases L with
 | nil=>rfl
 | cons x r=>rw[qPhis,if_neg (show ¬x.1=wPhi from h)]
theorem field_line(s v:Value)(w:World):(Instr.field 43 (.agg #[s,v]) 1).run Tryz.prog w=.ok v w:=by
 simp[Instr.field,go_sem,asAgg]
theorem qInsts_go{x:Ln}{r:List Ln}{i:InstD}(h:¬opL x.1=0)(h2:ofNums (opL x.1) x.2=some i):qInsts (x :: r)=(qInsts r).map fun y=>(i :: y.1,y.2):=by rw[qInsts,if_neg h,h2]
theorem qInsts_no{x:Ln}{r:List Ln}(h:¬opL x.1=0)(h2:ofNums (opL x.1) x.2=none):qInsts (x :: r)=none:=by rw[qInsts,if_neg h,h2]
theorem qInsts_end{L:List Ln}(h:opL (wordOf L)=0):qInsts L=some ([],L):=by
 cases L with
 | nil=>rfl
 | cons x r=>rw[qInsts,if_pos (show opL x.1=0 from h)]
theorem map_more{α:Type}{o:Option (List α × List Ln)}(es:List α)(x:α):(o.map fun y=>(x :: y.1,y.2)).map (fun y=>(es++y.1,y.2))=o.map fun y=>((es++[x])++y.1,y.2):=by
 cases o<;>simp
theorem fin_argsE{op x m:Int}{l:List Int}{i:InstD}(h:finN op x m l=some i):i.args.length≤l.length:=by
 unfold finN at h
 split at h
 ·cases h
  unfold mkD
  split
  ·exact Nat.le_refl _
  ·exact Nat.zero_le _
 ·cases h
theorem of_argsE{op:Int}{nums:List Int}{i:InstD}(h:ofNums op nums=some i):i.args.length≤nums.length:=by
 cases nums with
 | nil=>cases h
 | cons x r =>
  cases hb:immB op with
  | true =>
   cases r with
   | nil=>simp[ofNums,hb] at h
   | cons m r2 =>
    simp only[ofNums,hb,if_true] at h
    have:=fin_argsE h
    simp
    omega
  | false =>
   have h':finN op x 0 r=some i:=by cases r<;>simpa [ofNums,hb] using h
   have:=fin_argsE h'
   simp
   omega
theorem takeBlkT(a:Addr)(B R:Nat)(L:List Ln)(w:World)(h:LwIn B R w L)(hl:L.length≤20000)(hE:Env w a R)(hB:B≤w.heap.size)(hRB:R<B) :
  Calls Tryz.prog 85 #[.pointer (some ⟨R,0,none⟩)] w fun e w'=>LTook qBlock a B R L w (fun d e w'=>∃ b:BkE,b.d=d∧e=.returned (.agg #[.slice b.pu b.ps.length b.pc,.slice b.iu b.is.length b.ic,.int .i64 b.t.kind,.int .i64 b.t.a,.int .i64 b.t.x,.int .i64 b.t.y])∧OwnBk w' w.heap.size w'.heap.size b) e w':=by
 have hR:=h.lt
 obtain⟨iP,hiP,zP,sP,bP⟩:=info_three infoPh
 have FL:=field_line
 obtain⟨iI,hiI,zI,sI,bI⟩:=info_three infoIn
 have B0:Below w.heap.size w (w.alloc (.cells #[.slice none 0 0,.slice none 0 0,.int .i64 0,.int .i64 0,.int .i64 0,.int .i64 0] 74)):=(Below.refl _ _).alloc (Nat.le_refl _) _
 have HA0:Hid (At (w.alloc (.cells #[.slice none 0 0,.slice none 0 0,.int .i64 0,.int .i64 0,.int .i64 0,.int .i64 0] 74)) w.heap.size #[.slice none 0 0,.slice none 0 0,.int .i64 0,.int .i64 0,.int .i64 0,.int .i64 0] 74):=At.new _ _ _
 have HO0:Hid (OnlyR R w (w.alloc (.cells #[.slice none 0 0,.slice none 0 0,.int .i64 0,.int .i64 0,.int .i64 0,.int .i64 0] 74))):=OnlyR.below B0
 have HE0:Hid (Env (w.alloc (.cells #[.slice none 0 0,.slice none 0 0,.int .i64 0,.int .i64 0,.int .i64 0,.int .i64 0] 74)) a R):=hE.below B0 (by omega)
 have T0:=takeLnT a B R L _ (h.keep hB B0) HE0.out.gv (Nat.le_trans hB B0.size) hRB
 have HQ:Hid (qBlock L=_):=qBlock_eq L
 have hz0:(w.alloc (.cells #[.slice none 0 0,.slice none 0 0,.int .i64 0,.int .i64 0,.int .i64 0,.int .i64 0] 74)).heap.size=w.heap.size+1:=by simp
 clear h hE B0
 go_enter Tryz.func85,Tryz.ntmps85
 go_wp2_with fail
 generalize (w.alloc (.cells #[.slice none 0 0,.slice none 0 0,.int .i64 0,.int .i64 0,.int .i64 0,.int .i64 0] 74))=W1 at *
 refine T0.mono ?_
 rintro e w2 ⟨o2,⟨x,L1,p2,⟨v,rfl,hnm⟩,hl2⟩|⟨p2,rfl⟩⟩
 rotate_left
 ·have HN:Hid (qBlock L=none):=by show _=_;rw[HQ.out,p2];rfl
  have HO:=HO0.out.trans o2
  clear p2 HQ T0
  go_wp2_with fail
  exact⟨rfl,HO,.inr ⟨HN.out,rfl⟩⟩
 have e9:=HQ.out
 rw[p2,Option.bind_some] at e9
 have HQ2:Hid (qBlock L=_):=e9
 have hlen1:L1.length≤20000:=by
  cases L with
  | nil=>cases p2
  | cons y r=>cases p2;simp at hl;omega
 obtain⟨vu,vc,rfl⟩:=hnm.1.slice
 have HO2:Hid (OnlyR R w w2):=HO0.out.trans o2
 have HA2:Hid (At w2 w.heap.size #[.slice none 0 0,.slice none 0 0,.int .i64 0,.int .i64 0,.int .i64 0,.int .i64 0] 74):=(o2.block _ HA0.out.lt (by omega)).trans HA0.out
 have HE2:Hid (Env w2 a R):=HE0.out.only o2 (by omega)
 have HL2:Hid (LwIn B R w2 L1):=hl2
 have hz2:w.heap.size<w2.heap.size:=HA2.out.lt
 by_cases hx:x.2=[]
 rotate_left
 ·have WN:=wantN a w2 HE2.out.gv
  have HN:Hid (qBlock L=none):=by show _=_;rw[HQ2.out,if_neg hx]
  have hxl:((x.2.length:Int)==0)=false:=by
   have:=List.length_pos_iff.2 hx
   simp;omega
  clear T0 o2 p2 hl2 HQ e9 HQ2
  go_wp2_with fail
  refine WN.mono ?_
  rintro e w8 ⟨rfl,h9⟩
  rw[←h9] at HO2
  clear h9 WN
  go_wp2_with fail
  exact⟨rfl,HO2.out,.inr ⟨HN.out,rfl⟩⟩
 have WY:=wantY w2
 have e8:=HQ2.out
 rw[if_pos hx] at e8
 have HQ3:Hid (qBlock L=qBody L1):=e8
 have hx0:x.2.length=0:=by rw[hx];rfl
 rw[hx0]
 have b3:Below w2.heap.size w2 (w2.alloc (.cells #[.slice none 0 0,.slice none 0 0,.int .i64 0,.int .i64 0,.int .i64 0,.int .i64 0] 74)):=(Below.refl _ _).alloc (Nat.le_refl _) _
 have HS3:Hid (ESt w (w2.alloc (.cells #[.slice none 0 0,.slice none 0 0,.int .i64 0,.int .i64 0,.int .i64 0,.int .i64 0] 74)) a R B w2.heap.size 74 #[.slice none 0 0,.slice none 0 0,.int .i64 0,.int .i64 0,.int .i64 0,.int .i64 0] #[.slice none 0 0,.slice none 0 0,.int .i64 0,.int .i64 0,.int .i64 0,.int .i64 0] L1):=⟨At.new _ _ _,HA2.out.below b3,HL2.out.keep (by omega) b3,hlen1,HO2.out.trans (OnlyR.below b3),HE2.out.below b3 (by omega),hz2,hB,hRB⟩
 clear T0 o2 p2 hl2 hnm HQ HQ2 e9 e8 hx hx0 HA0 HO0 HE0 HA2 HO2 HE2 HL2 b3
 go_wp2_with fail
 refine WY.mono ?_
 rintro e w8 ⟨rfl,h9⟩
 have h8:=h9.symm
 clear h9 WY
 subst h8
 go_wp2_with fail
 generalize hW3:(w2.alloc (.cells #[.slice none 0 0,.slice none 0 0,.int .i64 0,.int .i64 0,.int .i64 0,.int .i64 0] 74))=W3 at *
 clear hW3
 have hX1:w2.heap.size+1≤W3.heap.size:=HS3.out.box.lt
 generalize w2.heap.size=X at *
 clear w2
 go_loopg [4] 20001 (fun gk v4 wr=>∃ (v:Value) (es:List PhE) (Lr:List Ln),Lr.length<gk∧es.length+Lr.length≤20000∧Hid (qPhis L1=(qPhis Lr).map fun y=>(es.map (·.1)++y.1,y.2))∧Hid (ESt w wr a R B X 74 #[v,.slice none 0 0,.int .i64 0,.int .i64 0,.int .i64 0,.int .i64 0] #[.slice none 0 0,.slice none 0 0,.int .i64 0,.int .i64 0,.int .i64 0,.int .i64 0] Lr)∧Hid (RowS 92 2 phC wr (X+1) v es)∧Hid (Sub OwnPhE wr (X+1) wr.heap.size es))
 case atStart=>exact⟨_,[],L1,by omega,by simpa using hlen1,(by show _=_;cases qPhis L1<;>simp),HS3.out,RowS.nil _ _ _ _ _,hX1⟩
 case round =>
  clear HS3 hX1
  obtain⟨v,es,Lr,hLr,hes,HM,HS,HR,HU⟩:=hrel
  obtain⟨w4,hwo⟩:∃ w1,w1=wr:=⟨_,rfl⟩
  subst hwo
  have WT:=wordT B R Lr w4 HS.out.ln
  by_cases hw:wordOf Lr=wPhi
  ·have E:=word_eq hw
   obtain⟨x4,r4,rfl⟩:∃ x r,Lr=x :: r:=by
    cases Lr with
    | nil=>cases hw
    | cons x r=>exact⟨x,r,rfl⟩
   have hw':x4.1=wPhi:=hw
   have HW:Hid (x4.1=wPhi):=hw'
   have T4:=takeLnT a B R (x4 :: r4) w4 HS.out.ln HS.out.env.gv (by have:=HS.out.leB;have:=HS.out.only.size;omega) hRB
   clear hw hw'
   go_wp2_with fail
   refine WT.mono ?_
   rintro e w5 ⟨rfl,h9⟩
   have h8:=h9.symm
   clear h9 WT
   subst h8
   unfold wPhi at E
   go_wp2_with fail
   refine T4.mono ?_
   rintro e w5 ⟨o5,⟨x5,r5,p5,⟨nv,rfl,hnm⟩,hl5⟩|⟨p5,rfl⟩⟩
   rotate_left
   ·cases p5
   cases p5
   have HS5:Hid (ESt w w5 a R B X 74 #[v,.slice none 0 0,.int .i64 0,.int .i64 0,.int .i64 0,.int .i64 0] #[.slice none 0 0,.slice none 0 0,.int .i64 0,.int .i64 0,.int .i64 0,.int .i64 0] r4):=HS.out.step o5 hl5 (by simp at hes;omega)
   have ST5:=Still.lns o5 HS.out.ln
   have HR5:Hid (RowS 92 2 phC w5 (X+1) v es):=HR.out.still ST5 (by decide)
   have HU5:Hid (Sub OwnPhE w5 (X+1) w5.heap.size es):=(HU.out.wide (Nat.le_refl _) o5.size).still fun _ _ _ h=>OwnI.still h ST5 (by decide)
   have HNm:Hid (NmIn B R w5 nv x4.2):=hnm
   obtain⟨nu,nc,rfl⟩:=hnm.1.slice
   have b6:Below w5.heap.size w5 (w5.alloc (.cells #[.slice nu x4.2.length nc] 130)):=(Below.refl _ _).alloc (Nat.le_refl _) _
   have HS6:Hid (ESt w (w5.alloc (.cells #[.slice nu x4.2.length nc] 130)) a R B X 74 #[v,.slice none 0 0,.int .i64 0,.int .i64 0,.int .i64 0,.int .i64 0] #[.slice none 0 0,.slice none 0 0,.int .i64 0,.int .i64 0,.int .i64 0,.int .i64 0] r4):=HS5.out.keep b6
   have ST6:Still 9 w5 (w5.alloc (.cells #[.slice nu x4.2.length nc] 130)):=Still.below b6
   have HR6:Hid (RowS 92 2 phC (w5.alloc (.cells #[.slice nu x4.2.length nc] 130)) (X+1) v es):=HR5.out.still ST6 (by decide)
   have HU6:Hid (Sub OwnPhE (w5.alloc (.cells #[.slice nu x4.2.length nc] 130)) (X+1) (w5.alloc (.cells #[.slice nu x4.2.length nc] 130)).heap.size es):=(HU5.out.wide (Nat.le_refl _) b6.size).still fun _ _ _ h=>OwnI.still h ST6 (by decide)
   have hBz:B≤w5.heap.size:=by have:=HS5.out.leB;have:=HS5.out.only.size;omega
   have hXz:X<w5.heap.size:=HS5.out.box.lt
   have RW6:RwIn B (w5.alloc (.cells #[.slice nu x4.2.length nc] 130)) w5.heap.size x4.2:=nm_rw (HNm.out.low hBz b6.block) (At.new _ _ _) (by have:=b6.size;omega) hBz
   have N6:=nextT a B w5.heap.size x4.2 _ RW6 HNm.out.fit.len HS6.out.env.gv
   have hW6:w5.heap.size≤(w5.alloc (.cells #[.slice nu x4.2.length nc] 130)).heap.size:=b6.size
   have HRW6:Hid (RwIn B (w5.alloc (.cells #[.slice nu x4.2.length nc] 130)) w5.heap.size x4.2):=RW6
   clear T4 o5 hl5 hnm HS HR HU ST5 HS5 HR5 HU5 b6 ST6 RW6 E
   go_wp2_with fail
   generalize (w5.alloc (.cells #[.slice nu x4.2.length nc] 130))=W6 at *
   refine N6.mono ?_
   rintro e w7 ⟨o7,⟨z,l7,p7,rfl,q7⟩|⟨p7,rfl⟩⟩
   rotate_left
   ·have hx0:x4.2=[]:=by
     cases h:x4.2 with
     | nil=>rfl
     | cons _ _=>rw[h] at p7;cases p7
    have HN:Hid (qBlock L=none):=by
     show _=_
     rw[HQ3.out]
     unfold qBody
     rw[HM.out,qPhis_no HW.out hx0]
     rfl
    have HO:Hid (OnlyR R w w7):=(HS6.out.low (o7.down (n:=X+1) (by omega) (by have:=HS6.out.box.lt;omega)) (by omega)).only
    clear p7 HQ3 N6
    go_wp2_with fail
    exact⟨rfl,HO.out,.inr ⟨HN.out,rfl⟩⟩
   have hx4:x4.2=z :: l7:=pNext_yes p7
   have HX4:Hid (x4.2=z :: l7):=hx4
   have BL7:Below w5.heap.size W6 w7:=o7.down (Nat.le_refl _) hW6
   have HS7:Hid (ESt w w7 a R B X 74 #[v,.slice none 0 0,.int .i64 0,.int .i64 0,.int .i64 0,.int .i64 0] #[.slice none 0 0,.slice none 0 0,.int .i64 0,.int .i64 0,.int .i64 0,.int .i64 0] r4):=HS6.out.low BL7 hXz
   have ST7:=Still.only o7 HRW6.out
   have HR7:Hid (RowS 92 2 phC w7 (X+1) v es):=HR6.out.still ST7 (by decide)
   have HU7:Hid (Sub OwnPhE w7 (X+1) w7.heap.size es):=(HU6.out.wide (Nat.le_refl _) o7.size).still fun _ _ _ h=>OwnI.still h ST7 (by decide)
   have hl7:l7.length≤20000:=by have:=HNm.out.fit.len;rw[hx4] at this;simp at this;omega
   have RT:=restT B w5.heap.size l7 w7.drew q7 (by omega)
   have hw7:w5.heap.size≤w7.heap.size:=by have:=BL7.size;omega
   have c0:w7.cell? ⟨X,0,none⟩=some v:=HS7.out.box.cell 0
   have Q7:Hid (RwIn B w7 w5.heap.size l7):=q7
   clear N6 o7 p7 q7 hx4 HS6 HR6 HU6 ST7 BL7 HRW6 HNm
   obtain⟨vu,vc,rfl⟩:=HR7.out.slice
   go_wp2_with fail
   refine startX (fun w'=>w'.cell? ⟨X,0,none⟩=some (.slice vu es.length vc)) (fun i=>decide (i=9)) (by kernel_rfl) ?_
   refine takeX 0 (v:=?_) rfl rfl (by kernel_rfl) (fun _ _ _ h=>h) (yesH (by rfl) ?_) c0 ?_
   rotate_left
   ·intro w9 hS9
    go_simp
    try with_reducible rfl
   try simp only[Act.put,sA,sB,sC]
   refine takeX 1 (v:=?_) rfl rfl (by kernel_rfl) (fun _ _ _ h=>h) (yesH (by rfl) ?_) c0 ?_
   rotate_left
   ·intro w9 hS9
    have g0:=hS9
    go_simp
    try with_reducible rfl
   try simp only[Act.put,sA,sB,sC]
   refine takeX 2 (v:=?_) rfl rfl (by kernel_rfl) (fun _ _ _ h=>h) (yesH (by rfl) ?_) c0 ?_
   rotate_left
   ·intro w9 hS9
    go_simp
    try with_reducible rfl
   try simp only[Act.put,sA,sB,sC]
   refine takeX 3 (v:=?_) rfl rfl (by kernel_rfl) (fun _ _ _ h=>h) (yesH (by rfl) ?_) c0 ?_
   rotate_left
   ·intro w9 hS9
    go_simp
    try with_reducible rfl
   try simp only[Act.put,sA,sB,sC]
   refine readyX 4 rfl (by kernel_rfl) (fun K hK=>?_)
   go_simp
   go_wp2_with fail
   refine RT.mono ?_
   rintro e w8 ⟨u8,c8,rfl,hu8,ko8'⟩
   have ko8:OnlyR w5.heap.size w7 w8:=⟨ko8'.os,ko8'.tape,ko8'.output,ko8'.size,ko8'.block⟩
   have BL8:Below w5.heap.size w7 w8:=ko8.down (Nat.le_refl _) hw7
   have HS8:Hid (ESt w w8 a R B X 74 #[.slice vu es.length vc,.slice none 0 0,.int .i64 0,.int .i64 0,.int .i64 0,.int .i64 0] #[.slice none 0 0,.slice none 0 0,.int .i64 0,.int .i64 0,.int .i64 0,.int .i64 0] r4):=HS7.out.low BL8 hXz
   have ST8:=Still.only ko8 Q7.out
   have HR8:Hid (RowS 92 2 phC w8 (X+1) (.slice vu es.length vc) es):=HR7.out.still ST8 (by decide)
   have HU8:Hid (Sub OwnPhE w8 (X+1) w8.heap.size (es++[(⟨z,l7⟩,u8,c8)])):=Sub.snoc (HU7.out.still fun _ _ _ h=>OwnI.still h ST8 (by decide)) (Nat.le_refl _) ko8.size hu8
   have HM8:Hid (qPhis L1=(qPhis r4).map fun y=>((es++[((⟨z,l7⟩:PhiD),u8,c8)]).map (·.1)++y.1,y.2)):=by
    show _=_
    rw[HM.out,qPhis_go HW.out HX4.out,map_more,List.map_append]
    rfl
   have c4:w8.cell? ⟨X,0,none⟩=some (.slice vu es.length vc):=HS8.out.box.cell 0
   clear RT hu8 ko8 ko8' BL8 HS7 HR7 HU7 ST8 HM HX4 HW Q7 c0
   refine hK.out _ _ (.inr c4) ?_
   clear hK K
   try simp only[sA,sB,sC]
   refine takeX 5 (v:=?_) rfl rfl (by kernel_rfl) (fun _ _ _ h=>h) (yesH (by rfl) ?_) c4 ?_
   rotate_left
   ·intro w9 hS9
    go_simp
    try with_reducible rfl
   try simp only[Act.put,sA,sB,sC]
   refine readyX 6 rfl (by kernel_rfl) (fun K hK=>?_)
   go_simp
   have b9:Below w8.heap.size w8 (w8.alloc (.cells #[.int .i64 z,.slice u8 l7.length c8] 92)):=(Below.refl _ _).alloc (Nat.le_refl _) _
   have HS9:Hid (ESt w (w8.alloc (.cells #[.int .i64 z,.slice u8 l7.length c8] 92)) a R B X 74 #[.slice vu es.length vc,.slice none 0 0,.int .i64 0,.int .i64 0,.int .i64 0,.int .i64 0] #[.slice none 0 0,.slice none 0 0,.int .i64 0,.int .i64 0,.int .i64 0,.int .i64 0] r4):=HS8.out.keep b9
   have ST9:Still 9 w8 (w8.alloc (.cells #[.int .i64 z,.slice u8 l7.length c8] 92)):=Still.below b9
   have HR9:Hid (RowS 92 2 phC (w8.alloc (.cells #[.int .i64 z,.slice u8 l7.length c8] 92)) (X+1) (.slice vu es.length vc) es):=HR8.out.still ST9 (by decide)
   have HU9:Hid (Sub OwnPhE (w8.alloc (.cells #[.int .i64 z,.slice u8 l7.length c8] 92)) (X+1) (w8.alloc (.cells #[.int .i64 z,.slice u8 l7.length c8] 92)).heap.size (es++[(⟨z,l7⟩,u8,c8)])):=(HU8.out.wide (Nat.le_refl _) b9.size).still fun _ _ _ h=>OwnI.still h ST9 (by decide)
   have c5:(w8.alloc (.cells #[.int .i64 z,.slice u8 l7.length c8] 92)).cell? ⟨X,0,none⟩=some (.slice vu es.length vc):=HS9.out.box.cell 0
   have hel:es.length≤20000:=by omega
   obtain⟨g6,cap6,wa,hrun,hown6,hgr6,_,_⟩:=run_append_lies (P:=Tryz.prog) (w8.alloc (.cells #[.int .i64 z,.slice u8 l7.length c8] 92)) 69 69 (X+1) 92 iP (.agg #[.int .i64 0,.slice none 0 0]) 2 32 Tryz.underlying69 hiP zP sP bP rfl (by decide) (.slice vu es.length vc) es.length (es.flatMap phC) HR9.out ⟨w8.heap.size,0,none⟩ 1 1 [.int .i64 z,.slice u8 l7.length c8] rfl (World.news_of_block (At.new w8 #[.int .i64 z,.slice u8 l7.length c8] 92)) (by simp[Value.oneCell']) (by decide) (by unfold maxLen;omega) (by omega) HS9.out.box.lt _ rfl
   have HSa:Hid (ESt w wa a R B X 74 #[.slice vu es.length vc,.slice none 0 0,.int .i64 0,.int .i64 0,.int .i64 0,.int .i64 0] #[.slice none 0 0,.slice none 0 0,.int .i64 0,.int .i64 0,.int .i64 0,.int .i64 0] r4):=HS9.out.grown hgr6 (fun g e=>(HR9.out.ge e).1)
   have STa:Still 1 (w8.alloc (.cells #[.int .i64 z,.slice u8 l7.length c8] 92)) wa:=Still.grown hgr6 (fun g e=>by obtain⟨_,cur,hc⟩:=HR9.out.ge e;exact⟨cur,_,hc,by decide⟩)
   have HRa:Hid (RowS 92 2 phC wa (X+1) (.slice (some ⟨g6,0,none⟩) (es.length+1) cap6) (es++[(⟨z,l7⟩,u8,c8)])):=RowS.push hown6
   have HUa:Hid (Sub OwnPhE wa (X+1) wa.heap.size (es++[(⟨z,l7⟩,u8,c8)])):=(HU9.out.wide (Nat.le_refl _) hgr6.size).still fun _ _ _ h=>OwnI.still h STa (by decide)
   have HSb:Hid (ESt w (wa.setCell ⟨X,0,none⟩ (.slice (some ⟨g6,0,none⟩) (es.length+1) cap6)) a R B X 74 #[(.slice (some ⟨g6,0,none⟩) (es.length+1) cap6),.slice none 0 0,.int .i64 0,.int .i64 0,.int .i64 0,.int .i64 0] #[.slice none 0 0,.slice none 0 0,.int .i64 0,.int .i64 0,.int .i64 0,.int .i64 0] r4):=HSa.out.set 0 _
   have STb:Still 3 wa (wa.setCell ⟨X,0,none⟩ (.slice (some ⟨g6,0,none⟩) (es.length+1) cap6)):=Still.set HSa.out.box (by decide)
   have HRb:Hid (RowS 92 2 phC (wa.setCell ⟨X,0,none⟩ (.slice (some ⟨g6,0,none⟩) (es.length+1) cap6)) (X+1) (.slice (some ⟨g6,0,none⟩) (es.length+1) cap6) (es++[(⟨z,l7⟩,u8,c8)])):=HRa.out.still STb (by decide)
   have HUb:Hid (Sub OwnPhE (wa.setCell ⟨X,0,none⟩ (.slice (some ⟨g6,0,none⟩) (es.length+1) cap6)) (X+1) (wa.setCell ⟨X,0,none⟩ (.slice (some ⟨g6,0,none⟩) (es.length+1) cap6)).heap.size (es++[(⟨z,l7⟩,u8,c8)])):=(HUa.out.wide (Nat.le_refl _) (by simp only[World.size_setCell];exact Nat.le_refl _)).still fun _ _ _ h=>OwnI.still h STb (by decide)
   have c6:wa.cell? ⟨X,0,none⟩=some (.slice vu es.length vc):=HSa.out.box.cell 0
   have f6:wa.frozen? ⟨X,0,none⟩=false:=zfH HSa.out.box
   clear b9 HS9 ST9 HR9 HU9 STa HRa HUa STb HS8 HR8 HU8 hown6 hgr6 HSa
   refine hK.out _ _ (.inr c5) ?_
   clear hK K
   try simp only[sA,sB,sC]
   refine readyX 7 rfl (by kernel_rfl) (fun K hK=>?_)
   refine step_runP rfl _ _ _ rfl rfl rfl hrun ?_
   refine hK.out _ _ (.inr c6) ?_
   clear hK K hrun
   try simp only[sA,sB,sC]
   refine takeX 8 (v:=?_) rfl rfl (by kernel_rfl) (fun _ _ _ h=>h) (yesH (by rfl) ?_) c6 ?_
   rotate_left
   ·intro w9 hS9
    go_simp
    try with_reducible rfl
   try simp only[Act.put,sA,sB,sC]
   refine readyX 9 rfl (by kernel_rfl) (fun K hK=>?_)
   go_simp
   refine hK.out _ _ (.inl rfl) ?_
   clear hK K
   refine doneX (by kernel_rfl) ?_ _
   go_wp2_with fail
   go_roundg (gk-1)
   case measure=>omega
   case rel=>exact⟨_,_,r4,by simp at hLr;omega,(by rw[List.length_append];simp at hes ⊢;omega),HM8.out,HSb.out,HRb.out,HUb.out⟩
  ·have E:=word_ne hw
   have HMe:Hid (qPhis L1=some (es.map (·.1),Lr)):=by
    show _=_
    rw[HM.out,qPhis_end hw]
    simp
   obtain⟨vu,vc,rfl⟩:=HR.out.slice
   have hel:es.length≤20000:=by omega
   have HW:Hid (OwnPhs w4 (X+1) w4.heap.size vu es):=RowS.own (fun _=>rfl) (by omega) HR.out HU.out (Nat.le_refl _) (Nat.le_refl _)
   have hm4:X+1≤w4.heap.size:=HU.out.le
   clear HM HR HU hw
   unfold wPhi at E
   go_wp2_with fail
   refine WT.mono ?_
   rintro e w5 ⟨rfl,h9⟩
   have h8:=h9.symm
   clear h9 WT
   subst h8
   go_wp2_with fail
   clear E
   obtain⟨m,hmm⟩:∃ m,w4.heap.size=m:=⟨_,rfl⟩
   rw[hmm] at HW hm4
   have hmm':m≤w4.heap.size:=by omega
   clear hmm hLr hes
   have hlr2:=HS.out.len
   go_loopg [31] 20001 (fun gk v4 wr=>∃ (v:Value) (is:List InE) (Ls:List Ln),Ls.length<gk∧is.length+Ls.length≤20000∧Hid (qInsts Lr=(qInsts Ls).map fun y=>(is.map (·.1)++y.1,y.2))∧Hid (ESt w wr a R B X 74 #[.slice vu es.length vc,v,.int .i64 0,.int .i64 0,.int .i64 0,.int .i64 0] #[.slice none 0 0,.slice none 0 0,.int .i64 0,.int .i64 0,.int .i64 0,.int .i64 0] Ls)∧Hid (OwnPhs wr (X+1) m vu es)∧Hid (RowS 95 7 inC wr m v is)∧Hid (Sub OwnInE wr m wr.heap.size is))
   case atStart=>exact⟨_,[],Lr,by omega,by simpa using hlr2,(by show _=_;cases qInsts Lr<;>simp),HS.out,HW.out,RowS.nil _ _ _ _ _,hmm'⟩
   case round =>
    clear HS HW hmm' hlr2
    obtain⟨v,is,Ls,hLs,his,HM,HS,HW,HR,HU⟩:=hrel
    obtain⟨w5,hwo⟩:∃ w1,w1=wr:=⟨_,rfl⟩
    subst hwo
    have WT:=wordT B R Ls w5 HS.out.ln
    have OP:=opOfI (bs (wordOf Ls)) w5 HS.out.env.ops
    obtain⟨kk,hkk⟩:∃ kk,opNum (bs (wordOf Ls))=kk:=⟨_,rfl⟩
    rw[hkk] at OP
    have HKK:Hid (opL (wordOf Ls)=kk):=hkk
    clear hkk
    by_cases hk:kk=0
    ·subst hk
     have HQi:Hid (qInsts Lr=some (is.map (·.1),Ls)):=by
      show _=_
      rw[HM.out,qInsts_end HKK.out]
      simp
     obtain⟨iu,ic,rfl⟩:=HR.out.slice
     have hil:is.length≤20000:=by omega
     have HV:Hid (OwnIns w5 m w5.heap.size iu is):=RowS.own (fun _=>rfl) (by omega) HR.out HU.out (Nat.le_refl _) (Nat.le_refl _)
     have hm5:m≤w5.heap.size:=HU.out.le
     have TT:=takeTermT a B R Ls w5 HS.out.ln HS.out.env (by have:=HS.out.leB;have:=HS.out.only.size;omega) hRB
     have HQ5:Hid (qBlock L=(qTerm Ls).map fun t=>(⟨es.map (·.1),is.map (·.1),t.1⟩,t.2)):=by
      show _=_
      rw[HQ3.out]
      unfold qBody
      rw[HMe.out,Option.bind_some]
      dsimp only
      rw[HQi.out,Option.bind_some]
     have hLs2:=HS.out.len
     clear HM HR HU HKK HQi HMe HQ3
     go_wp2_with fail
     refine WT.mono ?_
     rintro e w6 ⟨rfl,h9⟩
     have h8:=h9.symm
     clear h9 WT
     subst h8
     go_wp2_with fail
     refine OP.mono ?_
     rintro e w6 ⟨rfl,h9⟩
     have h8:=h9.symm
     clear h9 OP
     subst h8
     go_wp2_with fail
     refine TT.mono ?_
     rintro e w9 ⟨o9,⟨t,L9,p9,rfl,hl9⟩|⟨p9,rfl⟩⟩
     rotate_left
     ·have HN:Hid (qBlock L=none):=by show _=_;rw[HQ5.out,p9];rfl
      have HO:Hid (OnlyR R w w9):=HS.out.only.trans o9
      clear p9 HQ5 TT
      go_wp2_with fail
      exact⟨rfl,HO.out,.inr ⟨HN.out,rfl⟩⟩
     have HN:Hid (qBlock L=some (⟨es.map (·.1),is.map (·.1),t⟩,L9)):=by show _=_;rw[HQ5.out,p9];rfl
     have hL9:L9.length≤20000:=by
      cases Ls with
      | nil=>cases p9
      | cons y r =>
       obtain⟨t2,_,h2⟩:=map_some p9
       cases h2
       simp at hLs2
       omega
     have HS9:Hid (ESt w w9 a R B X 74 #[.slice vu es.length vc,.slice iu is.length ic,.int .i64 0,.int .i64 0,.int .i64 0,.int .i64 0] #[.slice none 0 0,.slice none 0 0,.int .i64 0,.int .i64 0,.int .i64 0,.int .i64 0] L9):=HS.out.step o9 hl9 hL9
     have ST9:=Still.lns o9 HS.out.ln
     have HW9:Hid (OwnPhs w9 (X+1) m vu es):=OwnPhs.still HW.out ST9 (by decide)
     have HV9:Hid (OwnIns w9 m w5.heap.size iu is):=OwnIns.still HV.out ST9 (by decide)
     have hz9:w5.heap.size≤w9.heap.size:=o9.size
     have hwX:=HS.out.ltX
     have hRw:R<w.heap.size:=by omega
     clear TT o9 p9 hl9 HS HW HV ST9 HQ5
     have HSt:Hid (ESt w ((((w9.setCell ⟨X,2,none⟩ (.int .i64 t.kind)).setCell ⟨X,3,none⟩ (.int .i64 t.a)).setCell ⟨X,4,none⟩ (.int .i64 t.x)).setCell ⟨X,5,none⟩ (.int .i64 t.y)) a R B X 74 #[.slice vu es.length vc,.slice iu is.length ic,.int .i64 t.kind,.int .i64 t.a,.int .i64 t.x,.int .i64 t.y] #[.slice none 0 0,.slice none 0 0,.int .i64 0,.int .i64 0,.int .i64 0,.int .i64 0] L9):=(((HS9.out.set 2 _).set 3 _).set 4 _).set 5 _
     have STt:Still 3 w9 ((((w9.setCell ⟨X,2,none⟩ (.int .i64 t.kind)).setCell ⟨X,3,none⟩ (.int .i64 t.a)).setCell ⟨X,4,none⟩ (.int .i64 t.x)).setCell ⟨X,5,none⟩ (.int .i64 t.y)):=((Still.set (k:=3) (o:=2) HS9.out.box (by decide)).trans (Still.set (k:=3) (o:=3) (zhS (o:=2) HS9.out.box) (by decide))).trans ((Still.set (k:=3) (o:=4) (zhS (o:=3) (zhS (o:=2) HS9.out.box)) (by decide)).trans (Still.set (k:=3) (o:=5) (zhS (o:=4) (zhS (o:=3) (zhS (o:=2) HS9.out.box))) (by decide)))
     have HWt:Hid (OwnPhs ((((w9.setCell ⟨X,2,none⟩ (.int .i64 t.kind)).setCell ⟨X,3,none⟩ (.int .i64 t.a)).setCell ⟨X,4,none⟩ (.int .i64 t.x)).setCell ⟨X,5,none⟩ (.int .i64 t.y)) (X+1) m vu es):=OwnPhs.still HW9.out STt (by decide)
     have HVt:Hid (OwnIns ((((w9.setCell ⟨X,2,none⟩ (.int .i64 t.kind)).setCell ⟨X,3,none⟩ (.int .i64 t.a)).setCell ⟨X,4,none⟩ (.int .i64 t.x)).setCell ⟨X,5,none⟩ (.int .i64 t.y)) m w5.heap.size iu is):=OwnIns.still HV9.out STt (by decide)
     have hzt:w9.heap.size≤((((w9.setCell ⟨X,2,none⟩ (.int .i64 t.kind)).setCell ⟨X,3,none⟩ (.int .i64 t.a)).setCell ⟨X,4,none⟩ (.int .i64 t.x)).setCell ⟨X,5,none⟩ (.int .i64 t.y)).heap.size:=by simp only[World.size_setCell];exact Nat.le_refl _
     have c2:w9.cell? ⟨X,2,none⟩=some (.int .i64 0):=HS9.out.box.cell 2
     have c3:w9.cell? ⟨X,3,none⟩=some (.int .i64 0):=HS9.out.box.cell 3
     have c4:w9.cell? ⟨X,4,none⟩=some (.int .i64 0):=HS9.out.box.cell 4
     have c5:w9.cell? ⟨X,5,none⟩=some (.int .i64 0):=HS9.out.box.cell 5
     have cf:∀ o,w9.frozen? ⟨X,o,none⟩=false:=fun o=>zfH HS9.out.box
     clear HS9 STt HW9 HV9
     go_upto_region 10 with fail
     clear c2 c3 c4 c5 cf
     generalize ((((w9.setCell ⟨X,2,none⟩ (.int .i64 t.kind)).setCell ⟨X,3,none⟩ (.int .i64 t.a)).setCell ⟨X,4,none⟩ (.int .i64 t.x)).setCell ⟨X,5,none⟩ (.int .i64 t.y))=wt at *
     have x0:wt.cell? ⟨X,0,none⟩=some (.slice vu es.length vc):=HSt.out.box.cell 0
     have x1:wt.cell? ⟨X,1,none⟩=some (.slice iu is.length ic):=HSt.out.box.cell 1
     have x2:wt.cell? ⟨X,2,none⟩=some (.int .i64 t.kind):=HSt.out.box.cell 2
     have x3:wt.cell? ⟨X,3,none⟩=some (.int .i64 t.a):=HSt.out.box.cell 3
     have x4:wt.cell? ⟨X,4,none⟩=some (.int .i64 t.x):=HSt.out.box.cell 4
     have x5:wt.cell? ⟨X,5,none⟩=some (.int .i64 t.y):=HSt.out.box.cell 5
     have r0:wt.cell? ⟨w.heap.size,0,none⟩=some (.slice none 0 0):=HSt.out.res.cell 0
     have r1:wt.cell? ⟨w.heap.size,1,none⟩=some (.slice none 0 0):=HSt.out.res.cell 1
     have r2:wt.cell? ⟨w.heap.size,2,none⟩=some (.int .i64 0):=HSt.out.res.cell 2
     have r3:wt.cell? ⟨w.heap.size,3,none⟩=some (.int .i64 0):=HSt.out.res.cell 3
     have r4:wt.cell? ⟨w.heap.size,4,none⟩=some (.int .i64 0):=HSt.out.res.cell 4
     have r5:wt.cell? ⟨w.heap.size,5,none⟩=some (.int .i64 0):=HSt.out.res.cell 5
     have rf:∀ o,wt.frozen? ⟨w.heap.size,o,none⟩=false:=fun o=>zfH HSt.out.res
     go_wp2_with fail
     have hr:=zhS (o:=5) (v:=.int .i64 t.y) (zhS (o:=4) (v:=.int .i64 t.x) (zhS (o:=3) (v:=.int .i64 t.a) (zhS (o:=2) (v:=.int .i64 t.kind) (zhS (o:=1) (v:=.slice iu is.length ic) (zhS (o:=0) (v:=.slice vu es.length vc) HSt.out.res)))))
     have OO:OnlyR R w ((((((wt.setCell ⟨w.heap.size,0,none⟩ (.slice vu es.length vc)).setCell ⟨w.heap.size,1,none⟩ (.slice iu is.length ic)).setCell ⟨w.heap.size,2,none⟩ (.int .i64 t.kind)).setCell ⟨w.heap.size,3,none⟩ (.int .i64 t.a)).setCell ⟨w.heap.size,4,none⟩ (.int .i64 t.x)).setCell ⟨w.heap.size,5,none⟩ (.int .i64 t.y)):=(((((HSt.out.only.fresh (Nat.le_refl _)).fresh (Nat.le_refl _)).fresh (Nat.le_refl _)).fresh (Nat.le_refl _)).fresh (Nat.le_refl _)).fresh (Nat.le_refl _)
     have hst:∀ b,b<w.heap.size→((((((wt.setCell ⟨w.heap.size,0,none⟩ (.slice vu es.length vc)).setCell ⟨w.heap.size,1,none⟩ (.slice iu is.length ic)).setCell ⟨w.heap.size,2,none⟩ (.int .i64 t.kind)).setCell ⟨w.heap.size,3,none⟩ (.int .i64 t.a)).setCell ⟨w.heap.size,4,none⟩ (.int .i64 t.x)).setCell ⟨w.heap.size,5,none⟩ (.int .i64 t.y)).heap[b]?=wt.heap[b]?:=fun b hb=>by
      rw[Below.heap_setCell _ _ _ _ (by dsimp only;omega),Below.heap_setCell _ _ _ _ (by dsimp only;omega),Below.heap_setCell _ _ _ _ (by dsimp only;omega),Below.heap_setCell _ _ _ _ (by dsimp only;omega),Below.heap_setCell _ _ _ _ (by dsimp only;omega),Below.heap_setCell _ _ _ _ (by dsimp only;omega)]
     have hzr:wt.heap.size≤((((((wt.setCell ⟨w.heap.size,0,none⟩ (.slice vu es.length vc)).setCell ⟨w.heap.size,1,none⟩ (.slice iu is.length ic)).setCell ⟨w.heap.size,2,none⟩ (.int .i64 t.kind)).setCell ⟨w.heap.size,3,none⟩ (.int .i64 t.a)).setCell ⟨w.heap.size,4,none⟩ (.int .i64 t.x)).setCell ⟨w.heap.size,5,none⟩ (.int .i64 t.y)).heap.size:=by simp only[World.size_setCell];exact Nat.le_refl _
     have LL:LwIn B R ((((((wt.setCell ⟨w.heap.size,0,none⟩ (.slice vu es.length vc)).setCell ⟨w.heap.size,1,none⟩ (.slice iu is.length ic)).setCell ⟨w.heap.size,2,none⟩ (.int .i64 t.kind)).setCell ⟨w.heap.size,3,none⟩ (.int .i64 t.a)).setCell ⟨w.heap.size,4,none⟩ (.int .i64 t.x)).setCell ⟨w.heap.size,5,none⟩ (.int .i64 t.y)) L9:=HSt.out.ln.lower (N:=w.heap.size) hRw hB hzr hst
     have SS:Still 3 wt ((((((wt.setCell ⟨w.heap.size,0,none⟩ (.slice vu es.length vc)).setCell ⟨w.heap.size,1,none⟩ (.slice iu is.length ic)).setCell ⟨w.heap.size,2,none⟩ (.int .i64 t.kind)).setCell ⟨w.heap.size,3,none⟩ (.int .i64 t.a)).setCell ⟨w.heap.size,4,none⟩ (.int .i64 t.x)).setCell ⟨w.heap.size,5,none⟩ (.int .i64 t.y)):=(Still.set (k:=3) (o:=0) (v:=.slice vu es.length vc) HSt.out.res (by decide)).trans ((Still.set (k:=3) (o:=1) (v:=.slice iu is.length ic) (zhS (o:=0) (v:=.slice vu es.length vc) HSt.out.res) (by decide)).trans ((Still.set (k:=3) (o:=2) (v:=.int .i64 t.kind) (zhS (o:=1) (v:=.slice iu is.length ic) (zhS (o:=0) (v:=.slice vu es.length vc) HSt.out.res)) (by decide)).trans ((Still.set (k:=3) (o:=3) (v:=.int .i64 t.a) (zhS (o:=2) (v:=.int .i64 t.kind) (zhS (o:=1) (v:=.slice iu is.length ic) (zhS (o:=0) (v:=.slice vu es.length vc) HSt.out.res))) (by decide)).trans ((Still.set (k:=3) (o:=4) (v:=.int .i64 t.x) (zhS (o:=3) (v:=.int .i64 t.a) (zhS (o:=2) (v:=.int .i64 t.kind) (zhS (o:=1) (v:=.slice iu is.length ic) (zhS (o:=0) (v:=.slice vu es.length vc) HSt.out.res)))) (by decide)).trans (Still.set (k:=3) (o:=5) (v:=.int .i64 t.y) (zhS (o:=4) (v:=.int .i64 t.x) (zhS (o:=3) (v:=.int .i64 t.a) (zhS (o:=2) (v:=.int .i64 t.kind) (zhS (o:=1) (v:=.slice iu is.length ic) (zhS (o:=0) (v:=.slice vu es.length vc) HSt.out.res))))) (by decide))))))
     generalize ((((((wt.setCell ⟨w.heap.size,0,none⟩ (.slice vu es.length vc)).setCell ⟨w.heap.size,1,none⟩ (.slice iu is.length ic)).setCell ⟨w.heap.size,2,none⟩ (.int .i64 t.kind)).setCell ⟨w.heap.size,3,none⟩ (.int .i64 t.a)).setCell ⟨w.heap.size,4,none⟩ (.int .i64 t.x)).setCell ⟨w.heap.size,5,none⟩ (.int .i64 t.y))=W9 at *
     have UU:OwnBk W9 w.heap.size W9.heap.size ⟨es,vu,vc,is,iu,ic,t⟩:=⟨m,by omega,by omega,(OwnPhs.still HWt.out SS (by decide)).wide (by omega) (Nat.le_refl _),(OwnIns.still HVt.out SS (by decide)).wide (Nat.le_refl _) (by omega)⟩
     exact bodyPost_ret (v:=.agg #[.slice vu es.length vc,.slice iu is.length ic,.int .i64 t.kind,.int .i64 t.a,.int .i64 t.x,.int .i64 t.y]) ((results_cell_row Tryz.results85 _ _ w.heap.size 74 _ (0,0) _ rfl hr Tryz.underlying74 rfl (by kernel_rfl)).trans (by rfl)) rfl ⟨OO,.inl ⟨_,L9,HN.out,⟨⟨es,vu,vc,is,iu,ic,t⟩,rfl,rfl,UU⟩,LL⟩⟩
    ·have E:(kk !=0)=true:=by simpa using hk
     obtain⟨x5,r5,rfl⟩:∃ x r,Ls=x :: r:=by
      cases Ls with
      | nil=>exact absurd (HKK.out.symm.trans (by decide)) hk
      | cons x r=>exact⟨x,r,rfl⟩
     have HK5:Hid (opL x5.1=kk):=HKK.out
     have HKn:Hid (¬kk=0):=hk
     have T5:=takeLnT a B R (x5 :: r5) w5.drew HS.out.ln ⟨HS.out.env.gv.cell,HS.out.env.gv.lt⟩ (by have:=HS.out.leB;have:=HS.out.only.size;show B≤w5.heap.size;omega) hRB
     have c0:w5.cell? ⟨X,1,none⟩=some v:=HS.out.box.cell 1
     obtain⟨iu,ic,rfl⟩:=HR.out.slice
     clear HKK hk
     go_wp2_with fail
     refine WT.mono ?_
     rintro e w6 ⟨rfl,h9⟩
     have h8:=h9.symm
     clear h9 WT
     subst h8
     go_wp2_with fail
     refine OP.mono ?_
     rintro e w6 ⟨rfl,h9⟩
     have h8:=h9.symm
     clear h9 OP
     subst h8
     go_wp2_with fail
     clear E
     refine startX (fun w'=>w'.cell? ⟨X,1,none⟩=some (.slice iu is.length ic)) (fun i=>decide (i=8)) (by kernel_rfl) ?_
     refine takeX 0 (v:=?_) rfl rfl (by kernel_rfl) (fun _ _ _ h=>h) (yesH (by rfl) ?_) c0 ?_
     rotate_left
     ·intro w9 hS9
      go_simp
      try with_reducible rfl
     try simp only[Act.put,sA,sB,sC]
     refine takeX 1 (v:=?_) rfl rfl (by kernel_rfl) (fun _ _ _ h=>h) (yesH (by rfl) ?_) c0 ?_
     rotate_left
     ·intro w9 hS9
      have g0:=hS9
      go_simp
      try with_reducible rfl
     try simp only[Act.put,sA,sB,sC]
     refine takeX 2 (v:=?_) rfl rfl (by kernel_rfl) (fun _ _ _ h=>h) (yesH (by rfl) ?_) c0 ?_
     rotate_left
     ·intro w9 hS9
      go_simp
      try with_reducible rfl
     try simp only[Act.put,sA,sB,sC]
     refine readyX 3 rfl (by kernel_rfl) (fun K hK=>?_)
     go_simp
     go_wp2_with fail
     refine T5.mono ?_
     rintro e w6 ⟨o6',⟨x6,r6,p6,⟨nv,rfl,hnm⟩,hl6⟩|⟨p6,rfl⟩⟩
     rotate_left
     ·cases p6
     cases p6
     have o6:OnlyR R w5 w6:=⟨o6'.os,o6'.tape,o6'.output,o6'.size,o6'.block⟩
     obtain⟨nu,nc,rfl⟩:=hnm.1.slice
     have HS6:Hid (ESt w w6 a R B X 74 #[.slice vu es.length vc,.slice iu is.length ic,.int .i64 0,.int .i64 0,.int .i64 0,.int .i64 0] #[.slice none 0 0,.slice none 0 0,.int .i64 0,.int .i64 0,.int .i64 0,.int .i64 0] r5):=HS.out.step o6 hl6 (by simp at his;omega)
     have ST6:=Still.lns o6 HS.out.ln
     have HW6:Hid (OwnPhs w6 (X+1) m vu es):=OwnPhs.still HW.out ST6 (by decide)
     have HR6:Hid (RowS 95 7 inC w6 m (.slice iu is.length ic) is):=HR.out.still ST6 (by decide)
     have HU6:Hid (Sub OwnInE w6 m w6.heap.size is):=(HU.out.wide (Nat.le_refl _) o6.size).still fun _ _ _ h=>OwnI.still h ST6 (by decide)
     have IL:=instOfLineI a 0 (bs x5.1) nu nc x5.2 w6 hnm.1 (by have:=hnm.2.1;omega) HS6.out.env.ops HS6.out.env.gv
     have hn20:=hnm.2.1
     have c1:w6.cell? ⟨X,1,none⟩=some (.slice iu is.length ic):=HS6.out.box.cell 1
     have hop:opNum (bs x5.1)=kk:=HK5.out
     rw[hop] at IL
     clear T5 o6 o6' hl6 hnm HS HW HR HU ST6 c0 hop
     refine hK.out _ _ (.inr c1) ?_
     clear hK K
     try simp only[sA,sB,sC]
     refine readyX 4 rfl (by kernel_rfl) (fun K hK=>?_)
     go_simp
     go_wp2_with fail
     refine IL.mono ?_
     rintro e w7 ⟨⟨d,hd,⟨u,c,rfl,hrow⟩⟩|⟨hd,rfl⟩,b7⟩
     rotate_left
     ·have HN:Hid (qBlock L=none):=by
       show _=_
       rw[HQ3.out]
       unfold qBody
       rw[HMe.out,Option.bind_some]
       dsimp only
       rw[HM.out,qInsts_no (by rw[HK5.out];exact HKn.out) (by rw[HK5.out];exact hd)]
       rfl
      have HO:Hid (OnlyR R w w7):=(HS6.out.keep b7).only
      clear hK hd HQ3 IL
      go_wp2_with fail
      exact⟨rfl,HO.out,.inr ⟨HN.out,rfl⟩⟩
     have hal:=of_argsE hd
     have HMi:Hid (qInsts Lr=(qInsts r5).map fun y=>((is++[(d,u,c)]).map (·.1)++y.1,y.2)):=by
      show _=_
      rw[HM.out,qInsts_go (by rw[HK5.out];exact HKn.out) (by rw[HK5.out];exact hd),map_more,List.map_append]
      rfl
     have HS7:Hid (ESt w w7 a R B X 74 #[.slice vu es.length vc,.slice iu is.length ic,.int .i64 0,.int .i64 0,.int .i64 0,.int .i64 0] #[.slice none 0 0,.slice none 0 0,.int .i64 0,.int .i64 0,.int .i64 0,.int .i64 0] r5):=HS6.out.keep b7
     have ST7:Still 9 w6 w7:=Still.below b7
     have HW7:Hid (OwnPhs w7 (X+1) m vu es):=OwnPhs.still HW6.out ST7 (by decide)
     have HR7:Hid (RowS 95 7 inC w7 m (.slice iu is.length ic) is):=HR6.out.still ST7 (by decide)
     have hown:OwnI w7 w6.heap.size w7.heap.size u d.args:=OwnI.row (by omega) hrow
     have HU7:Hid (Sub OwnInE w7 m w7.heap.size (is++[(d,u,c)])):=Sub.snoc (HU6.out.still fun _ _ _ h=>OwnI.still h ST7 (by decide)) (Nat.le_refl _) b7.size hown
     have c4:w7.cell? ⟨X,1,none⟩=some (.slice iu is.length ic):=HS7.out.box.cell 1
     have hmz:m≤w7.heap.size:=HU7.out.le
     have hXm:X<m:=by omega
     clear IL hd b7 hown HS6 HW6 HR6 HU6 ST7 HM HK5 HKn hrow c1
     refine hK.out _ _ (.inr c4) ?_
     clear hK K
     try simp only[sA,sB,sC]
     have bb:Below w7.heap.size w7 (w7.alloc (.cells #[.int .i64 d.op,.int .i64 d.w,.int .i64 d.a,.int .i64 d.b,.int .i64 d.c,.int .i64 d.imm,.slice u d.args.length c] 95)):=(Below.refl _ _).alloc (Nat.le_refl _) _
     have HSb:Hid (ESt w (w7.alloc (.cells #[.int .i64 d.op,.int .i64 d.w,.int .i64 d.a,.int .i64 d.b,.int .i64 d.c,.int .i64 d.imm,.slice u d.args.length c] 95)) a R B X 74 #[.slice vu es.length vc,.slice iu is.length ic,.int .i64 0,.int .i64 0,.int .i64 0,.int .i64 0] #[.slice none 0 0,.slice none 0 0,.int .i64 0,.int .i64 0,.int .i64 0,.int .i64 0] r5):=HS7.out.keep bb
     have STb:Still 9 w7 (w7.alloc (.cells #[.int .i64 d.op,.int .i64 d.w,.int .i64 d.a,.int .i64 d.b,.int .i64 d.c,.int .i64 d.imm,.slice u d.args.length c] 95)):=Still.below bb
     have HWb:Hid (OwnPhs (w7.alloc (.cells #[.int .i64 d.op,.int .i64 d.w,.int .i64 d.a,.int .i64 d.b,.int .i64 d.c,.int .i64 d.imm,.slice u d.args.length c] 95)) (X+1) m vu es):=OwnPhs.still HW7.out STb (by decide)
     have HRb:Hid (RowS 95 7 inC (w7.alloc (.cells #[.int .i64 d.op,.int .i64 d.w,.int .i64 d.a,.int .i64 d.b,.int .i64 d.c,.int .i64 d.imm,.slice u d.args.length c] 95)) m (.slice iu is.length ic) is):=HR7.out.still STb (by decide)
     have HUb:Hid (Sub OwnInE (w7.alloc (.cells #[.int .i64 d.op,.int .i64 d.w,.int .i64 d.a,.int .i64 d.b,.int .i64 d.c,.int .i64 d.imm,.slice u d.args.length c] 95)) m (w7.alloc (.cells #[.int .i64 d.op,.int .i64 d.w,.int .i64 d.a,.int .i64 d.b,.int .i64 d.c,.int .i64 d.imm,.slice u d.args.length c] 95)).heap.size (is++[(d,u,c)])):=(HU7.out.wide (Nat.le_refl _) bb.size).still fun _ _ _ h=>OwnI.still h STb (by decide)
     have c5:(w7.alloc (.cells #[.int .i64 d.op,.int .i64 d.w,.int .i64 d.a,.int .i64 d.b,.int .i64 d.c,.int .i64 d.imm,.slice u d.args.length c] 95)).cell? ⟨X,1,none⟩=some (.slice iu is.length ic):=HSb.out.box.cell 1
     have hil:is.length≤20000:=by omega
     obtain⟨g6,cap6,wa,hrun,hown6,hgr6,_,_⟩:=run_append_lies (P:=Tryz.prog) (w7.alloc (.cells #[.int .i64 d.op,.int .i64 d.w,.int .i64 d.a,.int .i64 d.b,.int .i64 d.c,.int .i64 d.imm,.slice u d.args.length c] 95)) 70 70 m 95 iI (.agg #[.int .i64 0,.int .i64 0,.int .i64 0,.int .i64 0,.int .i64 0,.int .i64 0,.slice none 0 0]) 7 72 Tryz.underlying70 hiI zI sI bI rfl (by decide) (.slice iu is.length ic) is.length (is.flatMap inC) HRb.out ⟨w7.heap.size,0,none⟩ 1 1 [.int .i64 d.op,.int .i64 d.w,.int .i64 d.a,.int .i64 d.b,.int .i64 d.c,.int .i64 d.imm,.slice u d.args.length c] rfl (World.news_of_block (At.new w7 #[.int .i64 d.op,.int .i64 d.w,.int .i64 d.a,.int .i64 d.b,.int .i64 d.c,.int .i64 d.imm,.slice u d.args.length c] 95)) (by simp[Value.oneCell']) (by decide) (by unfold maxLen;omega) (by omega) (Nat.le_trans hmz bb.size) _ rfl
     have HSc:Hid (ESt w wa a R B X 74 #[.slice vu es.length vc,.slice iu is.length ic,.int .i64 0,.int .i64 0,.int .i64 0,.int .i64 0] #[.slice none 0 0,.slice none 0 0,.int .i64 0,.int .i64 0,.int .i64 0,.int .i64 0] r5):=HSb.out.grown hgr6 (fun g e=>by have:=(HRb.out.ge e).1;omega)
     have STc:Still 2 (w7.alloc (.cells #[.int .i64 d.op,.int .i64 d.w,.int .i64 d.a,.int .i64 d.b,.int .i64 d.c,.int .i64 d.imm,.slice u d.args.length c] 95)) wa:=Still.grown hgr6 (fun g e=>by obtain⟨_,cur,hc⟩:=HRb.out.ge e;exact⟨cur,_,hc,by decide⟩)
     have HWc:Hid (OwnPhs wa (X+1) m vu es):=OwnPhs.still HWb.out STc (by decide)
     have HRc:Hid (RowS 95 7 inC wa m (.slice (some ⟨g6,0,none⟩) (is.length+1) cap6) (is++[(d,u,c)])):=RowS.push hown6
     have HUc:Hid (Sub OwnInE wa m wa.heap.size (is++[(d,u,c)])):=(HUb.out.wide (Nat.le_refl _) hgr6.size).still fun _ _ _ h=>OwnI.still h STc (by decide)
     have HSd:Hid (ESt w (wa.setCell ⟨X,1,none⟩ (.slice (some ⟨g6,0,none⟩) (is.length+1) cap6)) a R B X 74 #[.slice vu es.length vc,(.slice (some ⟨g6,0,none⟩) (is.length+1) cap6),.int .i64 0,.int .i64 0,.int .i64 0,.int .i64 0] #[.slice none 0 0,.slice none 0 0,.int .i64 0,.int .i64 0,.int .i64 0,.int .i64 0] r5):=HSc.out.set 1 _
     have STd:Still 3 wa (wa.setCell ⟨X,1,none⟩ (.slice (some ⟨g6,0,none⟩) (is.length+1) cap6)):=Still.set HSc.out.box (by decide)
     have HWd:Hid (OwnPhs (wa.setCell ⟨X,1,none⟩ (.slice (some ⟨g6,0,none⟩) (is.length+1) cap6)) (X+1) m vu es):=OwnPhs.still HWc.out STd (by decide)
     have HRd:Hid (RowS 95 7 inC (wa.setCell ⟨X,1,none⟩ (.slice (some ⟨g6,0,none⟩) (is.length+1) cap6)) m (.slice (some ⟨g6,0,none⟩) (is.length+1) cap6) (is++[(d,u,c)])):=HRc.out.still STd (by decide)
     have HUd:Hid (Sub OwnInE (wa.setCell ⟨X,1,none⟩ (.slice (some ⟨g6,0,none⟩) (is.length+1) cap6)) m (wa.setCell ⟨X,1,none⟩ (.slice (some ⟨g6,0,none⟩) (is.length+1) cap6)).heap.size (is++[(d,u,c)])):=(HUc.out.wide (Nat.le_refl _) (by simp only[World.size_setCell];exact Nat.le_refl _)).still fun _ _ _ h=>OwnI.still h STd (by decide)
     have c6:wa.cell? ⟨X,1,none⟩=some (.slice iu is.length ic):=HSc.out.box.cell 1
     have f6:wa.frozen? ⟨X,1,none⟩=false:=zfH HSc.out.box
     clear bb HSb STb HWb HRb HUb STc HWc HRc HUc STd HS7 HW7 HR7 HU7 hown6 hgr6 HSc hmz
     refine readyX 5 rfl (by kernel_rfl) (fun K hK=>?_)
     go_simp
     refine hK.out _ _ (.inr c5) ?_
     clear hK K
     try simp only[Act.put,sA,sB,sC]
     refine readyX 6 rfl (by kernel_rfl) (fun K hK=>?_)
     refine step_runP rfl _ _ _ rfl rfl rfl hrun ?_
     refine hK.out _ _ (.inr c6) ?_
     clear hK K hrun
     try simp only[Act.put,sA,sB,sC]
     refine takeX 7 (v:=?_) rfl rfl (by kernel_rfl) (fun _ _ _ h=>h) (yesH (by rfl) ?_) c6 ?_
     rotate_left
     ·intro w9 hS9
      go_simp
      try with_reducible rfl
     try simp only[Act.put,sA,sB,sC]
     refine readyX 8 rfl (by kernel_rfl) (fun K hK=>?_)
     go_simp
     refine hK.out _ _ (.inl rfl) ?_
     clear hK K
     refine doneX (by kernel_rfl) ?_ _
     go_wp2_with fail
     go_roundg (gk-1)
     case measure=>omega
     case rel=>exact⟨_,_,r5,by simp at hLs;omega,(by rw[List.length_append];simp at his ⊢;omega),HMi.out,HSd.out,HWd.out,HRd.out,HUd.out⟩
end Go.Proofs.YtkpmiikafconmaaGreatDoor
