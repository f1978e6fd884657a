import Derived.Test.YtkpmiikafconmaaGreatDoorReIJp
namespace Go.Proofs.YtkpmiikafconmaaGreatDoor
open Go.RowKit
set_option maxHeartbeats 8000000
set_option maxRecDepth 100000
set_option linter.unusedVariables false
set_option linter.unusedSimpArgs false
theorem piece_sizeN(s:ByteArray):∀ x∈piecesN s,x.size≤s.size:=by
 have h:=join_piecesN s.size s (Nat.le_refl _)
 intro x hx
 have key:∀ (l:List (List UInt8)) (y:List UInt8),y∈l→y.length≤(Lib.join l [10]).length:=by
  intro l
  induction l with
  | nil=>intro y hy;cases hy
  | cons z r ih =>
   intro y hy
   cases r with
   | nil=>rw[List.mem_singleton.1 hy];simp[Lib.join]
   | cons q r =>
    rw[join_moreN]
    rcases List.mem_cons.1 hy with rfl|hy
    ·simp
    ·have:=ih y hy
     simp only[List.length_append,List.length_cons];omega
 have:=key _ _ (List.mem_map_of_mem (f:=fun (b:ByteArray)=>b.data.toList) hx)
 rw[h] at this
 exact this
def MtTold(s:ByteArray)(a:Addr)(lo:Nat)(e:Ending)(w':World):Prop :=
 (∃ (fs:List FnE) (u:Option Addr) (c:Nat),OkT s (fs.map FnE.d)∧e=.returned (.agg #[.slice u fs.length c])∧OwnFns w' lo w'.heap.size u fs)∨((¬∃ l,OkT s l)∧Gone a e)
structure ZSt(w wr:World)(a0:Addr)(R Bp:Nat)(v:Value)(L:List Ln):Prop where
 box:At wr Bp #[v] 26
 res:At wr w.heap.size #[.slice none 0 0] 26
 ln:LwIn Bp R wr L
 env:Env wr a0 R
 below:Below w.heap.size w wr
 len:L.length≤20000
 ltR:w.heap.size<R
 ltB:R<Bp
theorem ZSt.step{w wr w2:World}{a0:Addr}{R Bp:Nat}{v:Value}{L L2:List Ln}(h:ZSt w wr a0 R Bp v L)(ho:OnlyR R wr w2)(hr:LwIn Bp R w2 L2)(hl:L2.length≤20000):ZSt w w2 a0 R Bp v L2 :=
 ⟨(ho.block _ h.box.lt (by have:=h.ltB;omega)).trans h.box,(ho.block _ h.res.lt (by have:=h.ltR;omega)).trans h.res,hr,h.env.only ho h.ln.lt,h.below.trans (ho.down (Nat.le_of_lt h.ltR) h.below.size),hl,h.ltR,h.ltB⟩
theorem ZSt.low{w wr w2:World}{a0:Addr}{R Bp n:Nat}{v:Value}{L:List Ln}(h:ZSt w wr a0 R Bp v L)(k:Below n wr w2)(hn:Bp<n):ZSt w w2 a0 R Bp v L:=by
 have h1:=h.ltR
 have h2:=h.ltB
 exact⟨(k.block _ hn).trans h.box,(k.block _ (by omega)).trans h.res,h.ln.lower (N:=n) (by omega) (by omega) k.size k.block,h.env.below k (by omega),h.below.trans (k.mono (by omega)),h.len,h1,h2⟩
theorem ZSt.keep{w wr w2:World}{a0:Addr}{R Bp:Nat}{v:Value}{L:List Ln}(h:ZSt w wr a0 R Bp v L)(k:Below wr.heap.size wr w2):ZSt w w2 a0 R Bp v L:=h.low k h.box.lt
theorem ZSt.grown{w wr w2:World}{a0:Addr}{R Bp:Nat}{v:Value}{L:List Ln}{r:Option Nat}(h:ZSt w wr a0 R Bp v L)(k:wr.grownBy w2 r)(hr:∀ g,r=some g→Bp<g):ZSt w w2 a0 R Bp v L :=
 h.low (n:=Bp+1) ⟨k.os,k.tape,k.output,k.size,fun b hb=>k.block b (by have:=h.box.lt;omega) (fun e=>by have:=hr b e.symm;omega)⟩ (by omega)
theorem ZSt.set0{w wr:World}{a0:Addr}{R Bp:Nat}{v:Value}{L:List Ln}(h:ZSt w wr a0 R Bp v L)(x:Value):ZSt w (wr.setCell ⟨Bp,0,none⟩ x) a0 R Bp x L:=by
 have h1:=h.ltR
 have h2:=h.ltB
 have hs:∀ b,b<Bp→(wr.setCell ⟨Bp,0,none⟩ x).heap[b]?=wr.heap[b]?:=fun b hb=>Below.heap_setCell _ _ _ _ (by dsimp only;omega)
 have hz:wr.heap.size≤(wr.setCell ⟨Bp,0,none⟩ x).heap.size:=by simp only[World.size_setCell];exact Nat.le_refl _
 exact⟨At.set0 h.box x,h.res.setOther (by omega),h.ln.lower (N:=Bp) h2 (Nat.le_refl _) hz hs,h.env.low (fun b hb=>hs b (by omega)) hz,h.below.setCell (by dsimp only;omega) _,h.len,h1,h2⟩
theorem funcs_go{n:Nat}{L r:List Ln}{f:FuncD}(hL:¬L=[])(h:qFunc L=some (f,r)):qFuncs (n+1) L=(qFuncs n r).map fun y=>f :: y:=by rw[qFuncs,if_neg hL,h];rfl
theorem funcs_no{n:Nat}{L:List Ln}(hL:¬L=[])(h:qFunc L=none):qFuncs (n+1) L=none:=by rw[qFuncs,if_neg hL,h];rfl
theorem map_moreF{α:Type}{o:Option (List α)}(es:List α)(x:α):(o.map fun y=>x :: y).map (fun y=>es++y)=o.map fun y=>(es++[x])++y:=by cases o<;>simp
theorem qBlocks_len:∀ {n:Nat} {L r:List Ln} {bs:List BlockD},qBlocks n L=some (bs,r)→r.length≤L.length
 | 0,L,r,bs,h=>by cases h;exact Nat.le_refl _
 | n+1,L,r,bs,h=>by
  rw[qBlocks] at h
  split at h
  ·obtain⟨b,h1,h⟩:=bind_some h
   obtain⟨y,h2,h⟩:=map_some h
   cases h
   have e1:=qBlock_len (b:=b.1) (r:=b.2) h1
   have e2:=qBlocks_len (bs:=y.1) (r:=y.2) h2
   omega
  ·cases h
   exact Nat.le_refl _
theorem qFunc_len{L r:List Ln}{f:FuncD}(h:qFunc L=some (f,r)):r.length<L.length:=by
 obtain⟨hd,h1,h⟩:=bind_some h
 obtain⟨y,h2,h⟩:=map_some h
 cases h
 have e2:=qBlocks_len (bs:=y.1) (r:=y.2) h2
 cases L with
 | nil=>cases h1
 | cons x L =>
  rw[qHead] at h1
  split at h1
  ·split at h1
   ·cases h1
   ·cases h1
    simp
    dsimp only at e2
    omega
  ·cases h1
theorem lines_none{P:List ByteArray}{j:Nat}(hj:j<P.length)(h:¬∃ x,LineIs (P.getD j ⟨#[]⟩) x):¬∃ L,LinesIs P L:=fun ⟨L,hL⟩=>h ⟨_,hL.2 j hj⟩
theorem take_one{P:List ByteArray}{j:Nat}(hj:j<P.length):P.take (j+1)=P.take j++[P.getD j ⟨#[]⟩]:=by
 rw[List.take_succ_eq_append_getElem hj];simp[List.getD,hj]
theorem modOfTextI(a:Addr)(s:ByteArray)(w:World)(hv:Gv w 1 (errV a))(hE:ErrsAt w)(hP:PowAt w)(hO:OpsAt w)(hT:TmsAt w)(hs1:s.size≤1048576) :
  Calls Tryz.prog 24 #[.string s] w fun e w'=>MtTold s a w.heap.size e w'∧Below w.heap.size w w':=by
 obtain⟨iF,hiF,zF,sF',bF⟩:=info_three infoFnL
 obtain⟨iL,hiL,zL,sL',bL⟩:=info_three infoLnL
 have B1:Below w.heap.size w (w.alloc (.cells #[.slice none 0 0] 26)):=(Below.refl _ _).alloc (Nat.le_refl _) _
 have HB1:Hid (Below w.heap.size w (w.alloc (.cells #[.slice none 0 0] 26))):=B1
 have HA1:Hid (At (w.alloc (.cells #[.slice none 0 0] 26)) w.heap.size #[.slice none 0 0] 26):=At.new _ _ _
 have z1:(w.alloc (.cells #[.slice none 0 0] 26)).heap.size=w.heap.size+1:=by simp
 have HV:Hid (Gv w 1 (errV a)∧ErrsAt w∧PowAt w∧OpsAt w∧TmsAt w):=⟨hv,hE,hP,hO,hT⟩
 have WN:=wantN a _ (hv.keep B1)
 have WY:=wantY (w.alloc (.cells #[.slice none 0 0] 26))
 by_cases hz:s.size≤20000
 rotate_left
 ·have hzI:¬(s.size:Int)≤20000:=by omega
  have HNo:Hid (¬∃ l,OkT s l):=fun ⟨l,hl⟩=>hz hl.2.2
  clear hz hv hE hP hO hT WY B1
  go_enter Tryz.func24,Tryz.ntmps24
  go_wp2_with fail
  refine WN.mono ?_
  rintro e w8 ⟨rfl,h9⟩
  rw[←h9] at HB1
  clear h9 WN
  go_wp2_with fail
  exact⟨rfl,.inr ⟨HNo.out,rfl⟩,HB1.out⟩
 have hzI:(s.size:Int)≤20000:=by omega
 by_cases hsx:1≤s.size∧s.extract (s.size-1) s.size=blankN
 rotate_left
 ·have C:=cutSfxN s (w.alloc (.cells #[.slice none 0 0] 26)) hs1 hsx
  have HNo:Hid (¬∃ l,OkT s l):=okt_end (fun ⟨b,hb⟩=>hsx ⟨(sfx_cut hb).1,(sfx_cut hb).2.2⟩)
  clear hsx hv hE hP hO hT B1
  unfold blankN at C
  go_enter Tryz.func24,Tryz.ntmps24
  go_wp2_with fail
  refine WY.mono ?_
  rintro e w8 ⟨rfl,h9⟩
  have h8:=h9.symm
  clear h9 WY
  subst h8
  go_wp2_with fail
  refine C.mono ?_
  rintro e w8 ⟨rfl,h9⟩
  have h8:=h9.symm
  clear h9 C
  subst h8
  go_wp2_with fail
  refine WN.mono ?_
  rintro e w8 ⟨rfl,h9⟩
  rw[←h9] at HB1
  clear h9 WN
  go_wp2_with fail
  exact⟨rfl,.inr ⟨HNo.out,rfl⟩,HB1.out⟩
 have C:=cutSfxY s (w.alloc (.cells #[.slice none 0 0] 26)) hs1 hsx.1 hsx.2
 have HS:Hid (s.data.toList=(s.extract 0 (s.size-1)).data.toList++[10]):=sfx_back hsx.1 hsx.2
 have hbz:(s.extract 0 (s.size-1)).size=s.size-1:=by rw[ByteArray.size_extract];omega
 obtain⟨b,hb⟩:∃ b,s.extract 0 (s.size-1)=b:=⟨_,rfl⟩
 rw[hb] at C HS hbz
 have hs1':=hsx.1
 clear hb hsx hv hE hP hO hT WN
 have B2:Below (w.alloc (.cells #[.slice none 0 0] 26)).heap.size (w.alloc (.cells #[.slice none 0 0] 26)) ((w.alloc (.cells #[.slice none 0 0] 26)).alloc (.cells #[.slice none 0 0] 83)):=(Below.refl _ _).alloc (Nat.le_refl _) _
 have A2:=At.new (w.alloc (.cells #[.slice none 0 0] 26)) #[.slice none 0 0] 83
 rw[z1] at A2
 have z2:((w.alloc (.cells #[.slice none 0 0] 26)).alloc (.cells #[.slice none 0 0] 83)).heap.size=w.heap.size+2:=by simp
 have SP:=splitIN b ((w.alloc (.cells #[.slice none 0 0] 26)).alloc (.cells #[.slice none 0 0] 83)) (by omega)
 have hpl:=piecesN_few b
 have hps:Hid (∀ x∈piecesN b,x.size≤b.size):=piece_sizeN b
 have HPB:Hid (piecesN b=piecesN b):=rfl
 obtain⟨P,hPP⟩:∃ P,piecesN b=P:=⟨_,rfl⟩
 have HPP:Hid (piecesN b=P):=hPP
 rw[hPP] at SP hps hpl
 rw[z2] at SP
 have B3:Below ((w.alloc (.cells #[.slice none 0 0] 26)).alloc (.cells #[.slice none 0 0] 83)).heap.size ((w.alloc (.cells #[.slice none 0 0] 26)).alloc (.cells #[.slice none 0 0] 83)) (((w.alloc (.cells #[.slice none 0 0] 26)).alloc (.cells #[.slice none 0 0] 83)).alloc (.cells (P.map Value.string).toArray 9)):=(Below.refl _ _).alloc (Nat.le_refl _) _
 have A3:=At.new ((w.alloc (.cells #[.slice none 0 0] 26)).alloc (.cells #[.slice none 0 0] 83)) (P.map Value.string).toArray 9
 rw[z2] at A3
 have z3:(((w.alloc (.cells #[.slice none 0 0] 26)).alloc (.cells #[.slice none 0 0] 83)).alloc (.cells (P.map Value.string).toArray 9)).heap.size=w.heap.size+3:=by simp
 have HB3:Hid (Below w.heap.size w (((w.alloc (.cells #[.slice none 0 0] 26)).alloc (.cells #[.slice none 0 0] 83)).alloc (.cells (P.map Value.string).toArray 9))):=(B1.trans (B2.mono (by omega))).trans (B3.mono (by omega))
 have HA3:Hid (At (((w.alloc (.cells #[.slice none 0 0] 26)).alloc (.cells #[.slice none 0 0] 83)).alloc (.cells (P.map Value.string).toArray 9)) w.heap.size #[.slice none 0 0] 26):=(HA1.out.below B2).below B3
 have HL3:Hid (At (((w.alloc (.cells #[.slice none 0 0] 26)).alloc (.cells #[.slice none 0 0] 83)).alloc (.cells (P.map Value.string).toArray 9)) (w.heap.size+1) #[.slice none 0 0] 83):=A2.below B3
 have HP3:Hid (At (((w.alloc (.cells #[.slice none 0 0] 26)).alloc (.cells #[.slice none 0 0] 83)).alloc (.cells (P.map Value.string).toArray 9)) (w.heap.size+2) (P.map Value.string).toArray 9):=A3
 clear B1 B2 A2 B3 A3 hPP HPB HB1 HA1 z1 z2
 unfold blankN at C SP
 go_enter Tryz.func24,Tryz.ntmps24
 go_wp2_with fail
 refine WY.mono ?_
 rintro e w8 ⟨rfl,h9⟩
 have h8:=h9.symm
 clear h9 WY
 subst h8
 go_wp2_with fail
 refine C.mono ?_
 rintro e w8 ⟨rfl,h9⟩
 have h8:=h9.symm
 clear h9 C
 subst h8
 go_wp2_with fail
 refine (wantY _).mono ?_
 rintro e w8 ⟨rfl,h9⟩
 have h8:=h9.symm
 clear h9
 subst h8
 go_wp2_with fail
 refine SP.mono ?_
 rintro e w3 ⟨rfl,h9⟩
 rw[←h9] at HB3 HA3 HL3 HP3 z3
 clear h9 SP
 go_wp2_with fail
 have hRR:w.heap.size+1=w.heap.size+1:=rfl
 obtain⟨R,hR⟩:∃ R,w.heap.size+1=R:=⟨_,rfl⟩
 have hR2:w.heap.size+2=R+1:=by omega
 rw[hR2] at HP3 ⊢
 rw[hR] at HL3 ⊢
 have hwR:w.heap.size<R:=by omega
 have hz3:R+2≤w3.heap.size:=by omega
 clear hRR hR hR2 z3
 go_loopg [25] (P.length+1) (fun gk i wr=>∃ (j:Nat) (v:Value) (es:List LnE),i=.int .i64 (j:Int)∧j≤P.length∧P.length-j<gk∧Hid (es.length=j)∧Hid (LinesIs (P.take j) (es.map (·.1)))∧Hid (LnsW wr (R+2) v es)∧Hid (At wr R #[v] 83)∧Hid (At wr (R+1) (P.map Value.string).toArray 9)∧Hid (At wr w.heap.size #[.slice none 0 0] 26)∧Hid (Below w.heap.size w wr)∧R+2≤wr.heap.size)
 case atStart=>exact⟨0,_,[],rfl,by omega,by omega,rfl,LinesIs.nil,⟨RowS.nil _ _ _ _ _,fun e he=>by cases he⟩,HL3.out,HP3.out,HA3.out,HB3.out,hz3⟩
 case round =>
  clear HB3 HA3 HL3 HP3 hz3
  obtain⟨j,v,es,rfl,hj,hgk,hej,HLi,HW,HL,HP,HA,HB,hzr⟩:=hrel
  obtain⟨w4,hwo⟩:∃ w1,w1=wr:=⟨_,rfl⟩
  subst hwo
  by_cases hjn:j<P.length
  ·have hjI:(j:Int)<(P.length:Int):=by omega
   have hpj:(P.getD j ⟨#[]⟩).size≤20000:=by
    have:=hps.out (P.getD j ⟨#[]⟩) (getD_mem _ P j hjn)
    omega
   have c1:w4.cell? ⟨R+1,j,none⟩=some (.string (P.getD j ⟨#[]⟩)):=by
    rw[HP.out.cell j]
    simp[List.getD,hjn]
   have HPj:Hid (P.take (j+1)=P.take j++[P.getD j ⟨#[]⟩]):=take_one hjn
   have HNone:Hid ((¬∃ x,LineIs (P.getD j ⟨#[]⟩) x)→¬∃ l,OkT s l):=fun h=>okt_no HS.out (by rw[HPP.out];exact lines_none hjn h)
   obtain⟨t,ht⟩:∃ t,P.getD j ⟨#[]⟩=t:=⟨_,rfl⟩
   rw[ht] at hpj c1 HPj HNone
   have LI:=lineI2 a t w4.drew (by omega) (HV.out.1.keep HB.out.drew) (HV.out.2.1.keep HB.out.drew) (HV.out.2.2.1.keep HB.out.drew)
   have c0:w4.cell? ⟨R,0,none⟩=some v:=HL.out.cell 0
   have HPC:Hid (pieces t=pieces t):=rfl
   have hfew:=pieces_few t
   have hjP:(0:Int)≤(j:Int):=by omega
   obtain⟨vu,vc,rfl⟩:=HW.out.1.slice
   clear ht hps
   go_wp2_with fail
   refine startX (fun w'=>w'.cell? ⟨R,0,none⟩=some (.slice vu es.length vc)) (fun i=>decide (i=11)) (by kernel_rfl) ?_
   refine takeX 0 (v:=?_) rfl rfl (by kernel_rfl) (fun _ _ _ h=>h) (yesH (by rfl) ?_) c0 ?_
   rotate_left
   ·intro w9 hS9
    go_simp
    try with_reducible rfl
   try simp only[Act.put,sA,sB,sC]
   refine takeX 1 (v:=?_) rfl rfl (by kernel_rfl) (fun _ _ _ h=>h) (yesH (by rfl) ?_) c0 ?_
   rotate_left
   ·intro w9 hS9
    go_simp
    try with_reducible rfl
   try simp only[Act.put,sA,sB,sC]
   refine takeX 2 (v:=?_) rfl rfl (by kernel_rfl) (fun _ _ _ h=>h) (yesH (by rfl) ?_) c0 ?_
   rotate_left
   ·intro w9 hS9
    go_simp
    try with_reducible rfl
   try simp only[Act.put,sA,sB,sC]
   refine takeX 3 (v:=?_) rfl rfl (by kernel_rfl) (fun _ _ _ h=>h) (yesH (by rfl) ?_) c0 ?_
   rotate_left
   ·intro w9 hS9
    go_simp
    try with_reducible rfl
   try simp only[Act.put,sA,sB,sC]
   refine takeX 4 (v:=?_) rfl rfl (by kernel_rfl) (fun _ _ _ h=>h) (yesH (by rfl) ?_) c0 ?_
   rotate_left
   ·intro w9 hS9
    have g0:=hS9
    go_simp
    try with_reducible rfl
   try simp only[Act.put,sA,sB,sC]
   refine takeX 5 (v:=?_) rfl rfl (by kernel_rfl) (fun _ _ _ h=>h) (yesH (by rfl) ?_) c0 ?_
   rotate_left
   ·intro w9 hS9
    go_simp
    try with_reducible rfl
   try simp only[Act.put,sA,sB,sC]
   refine readyX 6 rfl (by kernel_rfl) (fun K hK=>?_)
   go_simp
   go_wp2_with fail
   refine LI.mono ?_
   rintro e w5 ⟨HLX,b5⟩
   have b5':Below w4.heap.size w4 w5:=⟨b5.os,b5.tape,b5.output,b5.size,b5.block⟩
   rcases HLX with⟨w0,ws,nums,nv,hp,hn,rfl,hrow⟩|⟨hno,rfl⟩
   rotate_left
   ·have HNo:Hid (¬∃ l,OkT s l):=HNone.out (fun ⟨x,q0,qs,h1,h2,h3⟩=>hno q0 qs h1 ⟨_,h3⟩)
    have HBB:Hid (Below w.heap.size w w5):=HB.out.trans (b5'.mono HB.out.size)
    clear hK hno LI
    go_wp2_with fail
    exact⟨rfl,.inr ⟨HNo.out,rfl⟩,HBB.out⟩
   obtain⟨nu,nc,rfl⟩:=hrow.slice
   have hl20:nums.length≤20000:=by
    have h1:=hn.1
    have h2:=congrArg List.length hp
    rw[List.length_cons] at h2
    omega
   have hLine:LineIs t (w0.data.toList,nums):=⟨w0,ws,hp,(bs_back w0).symm,hn⟩
   have HLi5:Hid (LinesIs (P.take (j+1)) ((es++[((w0.data.toList,nums),(Value.slice nu nums.length nc))]).map (·.1))):=by
    show LinesIs _ _
    rw[HPj.out,List.map_append]
    exact HLi.out.snoc hLine
   have HW5:Hid (LnsW w5 (R+2) (.slice vu es.length vc) es):=HW.out.keep b5'
   have HL5:Hid (At w5 R #[.slice vu es.length vc] 83):=HL.out.below b5'
   have HP5:Hid (At w5 (R+1) (P.map Value.string).toArray 9):=HP.out.below b5'
   have HA5:Hid (At w5 w.heap.size #[.slice none 0 0] 26):=HA.out.below b5'
   have HB5:Hid (Below w.heap.size w w5):=HB.out.trans (b5'.mono HB.out.size)
   have HO5:Hid (LnO w5 (R+2) ((w0.data.toList,nums),(Value.slice nu nums.length nc))):=⟨Row.low hrow hzr,hl20,nums_pos hn⟩
   have hz5:R+2≤w5.heap.size:=by have:=b5'.size;omega
   have c4:w5.cell? ⟨R,0,none⟩=some (.slice vu es.length vc):=HL5.out.cell 0
   clear LI hp hn hrow b5 b5' hLine HW HL HP HA HB HLi HNone HPj c0 c1 hl20 hfew HPC
   refine hK.out _ _ (.inr c4) ?_
   clear hK K
   try simp only[sA,sB,sC]
   refine readyX 7 rfl (by kernel_rfl) (fun K hK=>?_)
   go_simp
   have b6:Below w5.heap.size w5 (w5.alloc (.cells #[.string w0,(Value.slice nu nums.length nc)] 43)):=(Below.refl _ _).alloc (Nat.le_refl _) _
   have HW6:Hid (LnsW (w5.alloc (.cells #[.string w0,(Value.slice nu nums.length nc)] 43)) (R+2) (.slice vu es.length vc) es):=HW5.out.keep b6
   have HL6:Hid (At (w5.alloc (.cells #[.string w0,(Value.slice nu nums.length nc)] 43)) R #[.slice vu es.length vc] 83):=HL5.out.below b6
   have HP6:Hid (At (w5.alloc (.cells #[.string w0,(Value.slice nu nums.length nc)] 43)) (R+1) (P.map Value.string).toArray 9):=HP5.out.below b6
   have HA6:Hid (At (w5.alloc (.cells #[.string w0,(Value.slice nu nums.length nc)] 43)) w.heap.size #[.slice none 0 0] 26):=HA5.out.below b6
   have HB6:Hid (Below w.heap.size w (w5.alloc (.cells #[.string w0,(Value.slice nu nums.length nc)] 43))):=HB5.out.trans (b6.mono HB5.out.size)
   have HO6:Hid (LnO (w5.alloc (.cells #[.string w0,(Value.slice nu nums.length nc)] 43)) (R+2) ((w0.data.toList,nums),(Value.slice nu nums.length nc))):=⟨HO5.out.1.keep b6,HO5.out.2⟩
   have c5:(w5.alloc (.cells #[.string w0,(Value.slice nu nums.length nc)] 43)).cell? ⟨R,0,none⟩=some (.slice vu es.length vc):=HL6.out.cell 0
   have hel:es.length≤20000:=by have:=hej.out;omega
   obtain⟨g6,cap6,wa,hrun,hown6,hgr6,_,_⟩:=run_append_lies (P:=Tryz.prog) (w5.alloc (.cells #[.string w0,.slice nu nums.length nc] 43)) 39 39 (R+2) 43 iL (.agg #[.string ⟨#[]⟩,.slice none 0 0]) 2 40 Tryz.underlying39 hiL zL sL' bL rfl (by decide) (.slice vu es.length vc) es.length (es.flatMap lnC) HW6.out.1 ⟨w5.heap.size,0,none⟩ 1 1 [.string w0,.slice nu nums.length nc] rfl (World.news_of_block (At.new w5 #[.string w0,.slice nu nums.length nc] 43)) (by simp[Value.oneCell']) (by decide) (by have:=hej.out;unfold maxLen;omega) (by have:=hej.out;omega) (Nat.le_trans hz5 b6.size) _ rfl
   have STa:Still 9 (w5.alloc (.cells #[.string w0,.slice nu nums.length nc] 43)) wa:=Still.grown hgr6 (fun g e=>by obtain⟨_,cur,hc⟩:=HW6.out.1.ge e;exact⟨cur,_,hc,by decide⟩)
   have hne:∀ g,(Value.slice vu es.length vc).ownBlock=some g→R+2≤g:=fun g e=>(HW6.out.1.ge e).1
   have lowa:∀ b,b<R+2→wa.heap[b]?=(w5.alloc (.cells #[.string w0,.slice nu nums.length nc] 43)).heap[b]?:=fun b hb=>hgr6.block b (by have:=b6.size;omega) (fun e=>by have:=hne b e.symm;omega)
   have HRa:Hid (RowS 43 2 lnC wa (R+2) (.slice (some ⟨g6,0,none⟩) (es.length+1) cap6) (es++[((w0.data.toList,nums),.slice nu nums.length nc)])):=RowS.push (by
    show World.ownsRow _ _ _ _ _ _ _
    have e:lnC ((w0.data.toList,nums),.slice nu nums.length nc)=[.string w0,.slice nu nums.length nc]:=by show [Value.string (bs w0.data.toList),_]=_;rw[bs_back]
    rw[e]
    exact hown6)
   have HEa:Hid (∀ e∈es++[((w0.data.toList,nums),(Value.slice nu nums.length nc))],LnO wa (R+2) e):=fun e he=>by
    rcases List.mem_append.1 he with he|he
    ·have:=HW6.out.2 e he
     exact⟨this.1.stillE STa (by decide),this.2⟩
    ·obtain rfl:=List.mem_singleton.1 he
     exact⟨HO6.out.1.stillE STa (by decide),HO6.out.2⟩
   have HLa:Hid (At wa R #[.slice vu es.length vc] 83):=(lowa _ (by omega)).trans HL6.out
   have HPa:Hid (At wa (R+1) (P.map Value.string).toArray 9):=(lowa _ (by omega)).trans HP6.out
   have HAa:Hid (At wa w.heap.size #[.slice none 0 0] 26):=(lowa _ (by omega)).trans HA6.out
   have HBa:Hid (Below w.heap.size w wa):=⟨hgr6.os.trans HB6.out.os,hgr6.tape.trans HB6.out.tape,hgr6.output.trans HB6.out.output,Nat.le_trans HB6.out.size hgr6.size,fun i hi=>(lowa i (by omega)).trans (HB6.out.block i hi)⟩
   have c6:wa.cell? ⟨R,0,none⟩=some (.slice vu es.length vc):=HLa.out.cell 0
   have f6:wa.frozen? ⟨R,0,none⟩=false:=zfH HLa.out
   have sto:∀ b,b≠R→(wa.setCell ⟨R,0,none⟩ (.slice (some ⟨g6,0,none⟩) (es.length+1) cap6)).heap[b]?=wa.heap[b]?:=fun b hb=>Below.heap_setCell _ _ _ _ hb
   have HWb:Hid (LnsW (wa.setCell ⟨R,0,none⟩ (.slice (some ⟨g6,0,none⟩) (es.length+1) cap6)) (R+2) (.slice (some ⟨g6,0,none⟩) (es.length+1) cap6) (es++[((w0.data.toList,nums),.slice nu nums.length nc)])):=⟨HRa.out.blk fun g hg=>sto g (by have:=(HRa.out.ge hg).1;omega),fun e he=>⟨(HEa.out e he).1.block fun g hg _=>sto g (by have:=((HEa.out e he).1.ge hg).1;omega),(HEa.out e he).2⟩⟩
   have HLb:Hid (At (wa.setCell ⟨R,0,none⟩ (.slice (some ⟨g6,0,none⟩) (es.length+1) cap6)) R #[(.slice (some ⟨g6,0,none⟩) (es.length+1) cap6)] 83):=At.set0 HLa.out _
   have HPb:Hid (At (wa.setCell ⟨R,0,none⟩ (.slice (some ⟨g6,0,none⟩) (es.length+1) cap6)) (R+1) (P.map Value.string).toArray 9):=HPa.out.setOther (by omega)
   have HAb:Hid (At (wa.setCell ⟨R,0,none⟩ (.slice (some ⟨g6,0,none⟩) (es.length+1) cap6)) w.heap.size #[.slice none 0 0] 26):=HAa.out.setOther (by omega)
   have HBb:Hid (Below w.heap.size w (wa.setCell ⟨R,0,none⟩ (.slice (some ⟨g6,0,none⟩) (es.length+1) cap6))):=HBa.out.setCell (by dsimp only;omega) _
   have hzb:R+2≤(wa.setCell ⟨R,0,none⟩ (.slice (some ⟨g6,0,none⟩) (es.length+1) cap6)).heap.size:=by
    have h1:=b6.size
    have h2:=hgr6.size
    simp only[World.size_setCell]
    omega
   clear b6 HW6 HL6 HP6 HA6 HB6 HO6 STa hne lowa HRa HEa HLa HPa HAa HBa sto HW5 HL5 HP5 HA5 HB5 HO5 hown6 hgr6
   refine hK.out _ _ (.inr c5) ?_
   clear hK K
   try simp only[sA,sB,sC]
   refine readyX 8 rfl (by kernel_rfl) (fun K hK=>?_)
   refine step_runP rfl _ _ _ rfl rfl rfl hrun ?_
   refine hK.out _ _ (.inr c6) ?_
   clear hK K hrun
   try simp only[sA,sB,sC]
   refine readyX 9 rfl (by kernel_rfl) (fun K hK=>?_)
   go_simp
   refine hK.out _ _ (.inr c6) ?_
   clear hK K
   try simp only[sA,sB,sC]
   refine readyX 10 rfl (by kernel_rfl) (fun K hK=>?_)
   go_simp
   refine hK.out _ _ (.inr c6) ?_
   clear hK K
   try simp only[sA,sB,sC]
   refine readyX 11 rfl (by kernel_rfl) (fun K hK=>?_)
   go_simp
   refine hK.out _ _ (.inl rfl) ?_
   clear hK K
   refine doneX (by kernel_rfl) ?_ _
   go_wp2_with fail
   go_roundg (gk-1)
   case measure=>omega
   case rel=>exact⟨j+1,_,_,by go_num,by omega,by omega,(by show _=_;have:=hej.out;rw[List.length_append];simp;omega),HLi5.out,HWb.out,HLb.out,HPb.out,HAb.out,HBb.out,hzb⟩
  ·have hjI:¬(j:Int)<(P.length:Int):=by omega
   have HLs:Hid (LinesIs (piecesN b) (es.map (·.1))):=by
    show LinesIs _ _
    rw[HPP.out]
    have:=HLi.out
    rwa [List.take_of_length_le (by omega)] at this
   have hLen:(es.map (·.1)).length≤20000:=by have:=hej.out;rw[List.length_map];omega
   have HK:Hid (∀ l,OkT s l↔qMod (es.map (·.1))=some l∧modB l=true):=fun l=>okt_iff hz HS.out HLs.out l
   have HLw:Hid (LwIn w4.heap.size R w4 (es.map (·.1))):=HW.out.wait (by omega) HL.out
   have b5:Below w4.heap.size w4 (w4.alloc (.cells #[.slice none 0 0] 26)):=(Below.refl _ _).alloc (Nat.le_refl _) _
   have HEn:Env w4 a R:=⟨HV.out.1.keep HB.out,HV.out.2.2.2.1.keep HB.out,HV.out.2.2.2.2.keep HB.out,by have:=HV.out.1.lt;omega,by have:=HV.out.2.2.2.1.1;omega,by have:=HV.out.2.2.2.2.1;omega⟩
   have HZ5:Hid (ZSt w (w4.alloc (.cells #[.slice none 0 0] 26)) a R w4.heap.size (.slice none 0 0) (es.map (·.1))):=⟨At.new _ _ _,HA.out.below b5,HLw.out.keep (Nat.le_refl _) b5,HEn.below b5 (by omega),HB.out.trans (b5.mono HB.out.size),hLen,hwR,by omega⟩
   generalize es.map (·.1)=L at *
   clear HLs HLw HLi HW HL HP HA HB HEn b5 hej hps HPP
   go_wp2_with fail
   generalize hW5:(w4.alloc (.cells #[.slice none 0 0] 26))=W5 at *
   clear hW5
   have hX1:w4.heap.size+1≤W5.heap.size:=HZ5.out.box.lt
   generalize w4.heap.size=Bp at *
   clear w4
   go_loopg [41] 20001 (fun gk v4 wr=>∃ (v:Value) (fs:List FnE) (Lr:List Ln),Lr.length<gk∧fs.length+Lr.length≤20000∧Hid (qFuncs 20001 L=(qFuncs gk Lr).map fun y=>fs.map FnE.d++y)∧Hid (ZSt w wr a R Bp v Lr)∧Hid (RowS 55 3 fnC wr (Bp+1) v fs)∧Hid (Sub OwnFn wr (Bp+1) wr.heap.size fs))
   case atStart=>exact⟨_,[],L,by omega,by simpa using hLen,(by show _=_;cases qFuncs 20001 L<;>simp),HZ5.out,RowS.nil _ _ _ _ _,hX1⟩
   case round =>
    clear HZ5 hX1
    obtain⟨v,fs,Lr,hLr,hfs,HM,HS5,HR,HU⟩:=hrel
    obtain⟨w4,hwo⟩:∃ w1,w1=wr:=⟨_,rfl⟩
    subst hwo
    obtain⟨vu,vc,rfl⟩:=HR.out.slice
    obtain⟨lu,lc,cR⟩:∃ u c,w4.cell? ⟨R,0,none⟩=some (.slice u Lr.length c):=by
     rcases HS5.out.ln with⟨rfl,h⟩|⟨b,off,c,h,_⟩
     ·exact⟨none,0,h.cell 0⟩
     ·exact⟨_,_,h.cell 0⟩
    have hfl:fs.length≤20000:=by omega
    by_cases hLr0:Lr=[]
    ·subst hLr0
     have hlI:¬(0:Int)<(([]:List Ln).length:Int):=by simp
     have HQ:Hid (qMod L=some (fs.map FnE.d)):=by
      show _=_
      unfold qMod
      rw[HM.out]
      obtain⟨n,rfl⟩:∃ n,gk=n+1:=⟨gk-1,by omega⟩
      rw[qFuncs,if_pos rfl]
      simp
     have HX:Hid (OwnFns w4 (Bp+1) w4.heap.size vu fs):=RowS.own (fun _=>rfl) (by omega) HR.out HU.out (Nat.le_refl _) (Nat.le_refl _)
     clear HM HR HU
     have MI:=modShI (Bp+1) (fs.map FnE.d) vu vc w4 (OwnFns.sm HX.out) (OwnFns.at_ HX.out)
     rw[List.length_map] at MI
     have c0:w4.cell? ⟨Bp,0,none⟩=some (.slice vu fs.length vc):=HS5.out.box.cell 0
     go_wp2_with fail
     refine MI.mono ?_
     rintro e w9 ⟨rfl,b9⟩
     have HS9:Hid (ZSt w w9 a R Bp (.slice vu fs.length vc) []):=HS5.out.keep b9
     have HX9:Hid (OwnFns w9 (Bp+1) w4.heap.size vu fs):=OwnFns.still HX.out (Still.below (k:=9) b9) (by decide)
     have hz9:w4.heap.size≤w9.heap.size:=b9.size
     clear MI HS5 HX b9 c0 cR
     cases hmb:modB (fs.map FnE.d)
     ·have HNo:Hid (¬∃ l,OkT s l):=fun ⟨l,hl⟩=>by
       obtain⟨h1,h2⟩:=(HK.out l).1 hl
       rw[HQ.out] at h1
       cases h1
       rw[hmb] at h2
       cases h2
      have Wn:=wantN a w9 HS9.out.env.gv
      have HO:Hid (Below w.heap.size w w9):=HS9.out.below
      clear hmb
      go_wp2_with fail
      refine Wn.mono ?_
      rintro e w8 ⟨rfl,h9⟩
      rw[←h9] at HO
      clear h9 Wn
      go_wp2_with fail
      exact⟨rfl,.inr ⟨HNo.out,rfl⟩,HO.out⟩
     ·have HOk:Hid (OkT s (fs.map FnE.d)):=(HK.out _).2 ⟨HQ.out,hmb⟩
      have Wy:=wantY w9
      have c0:w9.cell? ⟨Bp,0,none⟩=some (.slice vu fs.length vc):=HS9.out.box.cell 0
      have y0:w9.cell? ⟨w.heap.size,0,none⟩=some (.slice none 0 0):=HS9.out.res.cell 0
      have yf:w9.frozen? ⟨w.heap.size,0,none⟩=false:=zfH HS9.out.res
      have hlR:=HS9.out.ltR
      have hlB:=HS9.out.ltB
      clear hmb
      go_wp2_with fail
      refine Wy.mono ?_
      rintro e w8 ⟨rfl,h9⟩
      have h8:=h9.symm
      clear h9 Wy
      subst h8
      go_wp2_with fail
      have hr:=At.set0 HS9.out.res (.slice vu fs.length vc)
      have BW:Below w.heap.size w (w9.setCell ⟨w.heap.size,0,none⟩ (.slice vu fs.length vc)):=HS9.out.below.setCell (Nat.le_refl _) _
      have OW:OwnFns (w9.setCell ⟨w.heap.size,0,none⟩ (.slice vu fs.length vc)) w.heap.size (w9.setCell ⟨w.heap.size,0,none⟩ (.slice vu fs.length vc)).heap.size vu fs:=(OwnFns.still HX9.out (Still.set (k:=9) HS9.out.res (by decide)) (by decide)).wide (by omega) (by simp only[World.size_setCell];exact hz9)
      exact bodyPost_ret (v:=.agg #[(.slice vu fs.length vc)]) ((results_cell_row Tryz.results24 _ _ w.heap.size 26 _ (0,0) _ rfl hr Tryz.underlying26 rfl (by kernel_rfl)).trans (by rfl)) rfl ⟨.inl ⟨fs,vu,vc,HOk.out,rfl,OW⟩,BW⟩
    ·have hlI:(0:Int)<(Lr.length:Int):=by have:=List.length_pos_iff.2 hLr0;omega
     have TF:=takeFnT a Bp R Lr w4.drew HS5.out.ln HS5.out.len (HS5.out.env.low (fun _ _=>rfl) (Nat.le_refl _)) (Nat.le_of_lt HS5.out.box.lt) HS5.out.ltB
     have c0:w4.cell? ⟨Bp,0,none⟩=some (.slice vu fs.length vc):=HS5.out.box.cell 0
     obtain⟨n,rfl⟩:∃ n,gk=n+1:=⟨gk-1,by omega⟩
     have HL0:Hid (¬Lr=[]):=hLr0
     clear hLr0
     go_wp2_with fail
     refine startX (fun w'=>w'.cell? ⟨Bp,0,none⟩=some (.slice vu fs.length vc)) (fun i=>decide (i=7)) (by kernel_rfl) ?_
     refine takeX 0 (v:=?_) rfl rfl (by kernel_rfl) (fun _ _ _ h=>h) (yesH (by rfl) ?_) c0 ?_
     rotate_left
     ·intro w9 hS9
      go_simp
      try with_reducible rfl
     try simp only[Act.put,sA,sB,sC]
     refine takeX 1 (v:=?_) rfl rfl (by kernel_rfl) (fun _ _ _ h=>h) (yesH (by rfl) ?_) c0 ?_
     rotate_left
     ·intro w9 hS9
      have g0:=hS9
      go_simp
      try with_reducible rfl
     try simp only[Act.put,sA,sB,sC]
     refine takeX 2 (v:=?_) rfl rfl (by kernel_rfl) (fun _ _ _ h=>h) (yesH (by rfl) ?_) c0 ?_
     rotate_left
     ·intro w9 hS9
      go_simp
      try with_reducible rfl
     try simp only[Act.put,sA,sB,sC]
     refine readyX 3 rfl (by kernel_rfl) (fun K hK=>?_)
     go_simp
     go_wp2_with fail
     refine TF.mono ?_
     rintro e w6 ⟨o2,⟨d,L6,p2,⟨f,hfd,rfl,hu⟩,q2⟩|⟨p2,rfl⟩⟩
     rotate_left
     ·have o3:OnlyR R w4 w6:=⟨o2.os,o2.tape,o2.output,o2.size,o2.block⟩
      have HNo:Hid (¬∃ l,OkT s l):=fun ⟨l,hl⟩=>by
       have h1:=((HK.out l).1 hl).1
       unfold qMod at h1
       rw[HM.out,funcs_no HL0.out p2] at h1
       cases h1
      have HO:Hid (Below w.heap.size w w6):=HS5.out.below.trans (o3.down (by have:=HS5.out.ltR;omega) HS5.out.below.size)
      clear hK p2 TF
      go_wp2_with fail
      exact⟨rfl,.inr ⟨HNo.out,rfl⟩,HO.out⟩
     subst hfd
     have o3:OnlyR R w4 w6:=⟨o2.os,o2.tape,o2.output,o2.size,o2.block⟩
     have hlen6:=qFunc_len p2
     have HM6:Hid (qFuncs 20001 L=(qFuncs n L6).map fun y=>(fs++[f]).map FnE.d++y):=by
      show _=_
      rw[HM.out,funcs_go HL0.out p2,map_moreF,List.map_append]
      rfl
     have HS6:Hid (ZSt w w6 a R Bp (.slice vu fs.length vc) L6):=HS5.out.step o3 q2 (by omega)
     have ST6:=Still.lns o3 HS5.out.ln
     have HR6:Hid (RowS 55 3 fnC w6 (Bp+1) (.slice vu fs.length vc) fs):=HR.out.still ST6 (by decide)
     have HU6:Hid (Sub OwnFn w6 (Bp+1) w6.heap.size (fs++[f])):=Sub.snoc (HU.out.still fun _ _ _ h=>OwnFn.still h ST6 (by decide)) (Nat.le_refl _) o3.size hu
     have c4:w6.cell? ⟨Bp,0,none⟩=some (.slice vu fs.length vc):=HS6.out.box.cell 0
     have hb6:Bp+1≤w6.heap.size:=HU6.out.le
     clear TF o2 o3 p2 q2 hu HS5 HR HU HM ST6 c0 HL0 cR
     have b7:Below w6.heap.size w6 (w6.alloc (.cells #[.slice f.pu f.pars.length f.pc,.int .i64 f.ret,.slice f.bu f.bs.length f.bc] 55)):=(Below.refl _ _).alloc (Nat.le_refl _) _
     have HS7:Hid (ZSt w (w6.alloc (.cells #[.slice f.pu f.pars.length f.pc,.int .i64 f.ret,.slice f.bu f.bs.length f.bc] 55)) a R Bp (.slice vu fs.length vc) L6):=HS6.out.keep b7
     have ST7:Still 9 w6 (w6.alloc (.cells #[.slice f.pu f.pars.length f.pc,.int .i64 f.ret,.slice f.bu f.bs.length f.bc] 55)):=Still.below b7
     have HR7:Hid (RowS 55 3 fnC (w6.alloc (.cells #[.slice f.pu f.pars.length f.pc,.int .i64 f.ret,.slice f.bu f.bs.length f.bc] 55)) (Bp+1) (.slice vu fs.length vc) fs):=HR6.out.still ST7 (by decide)
     have HU7:Hid (Sub OwnFn (w6.alloc (.cells #[.slice f.pu f.pars.length f.pc,.int .i64 f.ret,.slice f.bu f.bs.length f.bc] 55)) (Bp+1) (w6.alloc (.cells #[.slice f.pu f.pars.length f.pc,.int .i64 f.ret,.slice f.bu f.bs.length f.bc] 55)).heap.size (fs++[f])):=(HU6.out.wide (Nat.le_refl _) b7.size).still fun _ _ _ h=>OwnFn.still h ST7 (by decide)
     have c5:(w6.alloc (.cells #[.slice f.pu f.pars.length f.pc,.int .i64 f.ret,.slice f.bu f.bs.length f.bc] 55)).cell? ⟨Bp,0,none⟩=some (.slice vu fs.length vc):=HS7.out.box.cell 0
     obtain⟨g6,cap6,wa,hrun,hown6,hgr6,_,_⟩:=run_append_lies (P:=Tryz.prog) (w6.alloc (.cells #[.slice f.pu f.pars.length f.pc,.int .i64 f.ret,.slice f.bu f.bs.length f.bc] 55)) 24 24 (Bp+1) 55 iF (.agg #[.slice none 0 0,.int .i64 0,.slice none 0 0]) 3 56 Tryz.underlying24 hiF zF sF' bF rfl (by decide) (.slice vu fs.length vc) fs.length (fs.flatMap fnC) HR7.out ⟨w6.heap.size,0,none⟩ 1 1 [.slice f.pu f.pars.length f.pc,.int .i64 f.ret,.slice f.bu f.bs.length f.bc] rfl (World.news_of_block (At.new w6 #[.slice f.pu f.pars.length f.pc,.int .i64 f.ret,.slice f.bu f.bs.length f.bc] 55)) (by simp[Value.oneCell']) (by decide) (by unfold maxLen;omega) (by omega) (Nat.le_trans hb6 b7.size) _ rfl
     have HS8:Hid (ZSt w wa a R Bp (.slice vu fs.length vc) L6):=HS7.out.grown hgr6 (fun g e=>(HR7.out.ge e).1)
     have ST8:Still 4 (w6.alloc (.cells #[.slice f.pu f.pars.length f.pc,.int .i64 f.ret,.slice f.bu f.bs.length f.bc] 55)) wa:=Still.grown hgr6 (fun g e=>by obtain⟨_,cur,hc⟩:=HR7.out.ge e;exact⟨cur,_,hc,by decide⟩)
     have HR8:Hid (RowS 55 3 fnC wa (Bp+1) (.slice (some ⟨g6,0,none⟩) (fs.length+1) cap6) (fs++[f])):=RowS.push hown6
     have HU8:Hid (Sub OwnFn wa (Bp+1) wa.heap.size (fs++[f])):=(HU7.out.wide (Nat.le_refl _) hgr6.size).still fun _ _ _ h=>OwnFn.still h ST8 (by decide)
     have HS9:Hid (ZSt w (wa.setCell ⟨Bp,0,none⟩ (.slice (some ⟨g6,0,none⟩) (fs.length+1) cap6)) a R Bp (.slice (some ⟨g6,0,none⟩) (fs.length+1) cap6) L6):=HS8.out.set0 _
     have ST9:Still 9 wa (wa.setCell ⟨Bp,0,none⟩ (.slice (some ⟨g6,0,none⟩) (fs.length+1) cap6)):=Still.set HS8.out.box (by decide)
     have HR9:Hid (RowS 55 3 fnC (wa.setCell ⟨Bp,0,none⟩ (.slice (some ⟨g6,0,none⟩) (fs.length+1) cap6)) (Bp+1) (.slice (some ⟨g6,0,none⟩) (fs.length+1) cap6) (fs++[f])):=HR8.out.still ST9 (by decide)
     have HU9:Hid (Sub OwnFn (wa.setCell ⟨Bp,0,none⟩ (.slice (some ⟨g6,0,none⟩) (fs.length+1) cap6)) (Bp+1) (wa.setCell ⟨Bp,0,none⟩ (.slice (some ⟨g6,0,none⟩) (fs.length+1) cap6)).heap.size (fs++[f])):=(HU8.out.wide (Nat.le_refl _) (by simp only[World.size_setCell];exact Nat.le_refl _)).still fun _ _ _ h=>OwnFn.still h ST9 (by decide)
     have c6:wa.cell? ⟨Bp,0,none⟩=some (.slice vu fs.length vc):=HS8.out.box.cell 0
     have f6:wa.frozen? ⟨Bp,0,none⟩=false:=zfH HS8.out.box
     clear b7 HS7 ST7 HR7 HU7 ST8 HR8 HU8 ST9 HS6 HR6 HU6 hown6 hgr6 HS8 hb6
     refine hK.out _ _ (.inr c4) ?_
     clear hK K
     try simp only[Act.put,sA,sB,sC]
     refine readyX 4 rfl (by kernel_rfl) (fun K hK=>?_)
     go_simp
     refine hK.out _ _ (.inr c5) ?_
     clear hK K
     try simp only[Act.put,sA,sB,sC]
     refine readyX 5 rfl (by kernel_rfl) (fun K hK=>?_)
     refine step_runP rfl _ _ _ rfl rfl rfl hrun ?_
     refine hK.out _ _ (.inr c6) ?_
     clear hK K hrun
     try simp only[Act.put,sA,sB,sC]
     refine takeX 6 (v:=?_) rfl rfl (by kernel_rfl) (fun _ _ _ h=>h) (yesH (by rfl) ?_) c6 ?_
     rotate_left
     ·intro w9 hS9
      go_simp
      try with_reducible rfl
     try simp only[Act.put,sA,sB,sC]
     refine readyX 7 rfl (by kernel_rfl) (fun K hK=>?_)
     go_simp
     refine hK.out _ _ (.inl rfl) ?_
     clear hK K
     refine doneX (by kernel_rfl) ?_ _
     go_wp2_with fail
     go_roundg n
     case measure=>omega
     case rel=>exact⟨_,_,L6,by omega,(by rw[List.length_append];simp;omega),HM6.out,HS9.out,HR9.out,HU9.out⟩
end Go.Proofs.YtkpmiikafconmaaGreatDoor
