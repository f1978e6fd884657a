import Derived.Test.YtkpmiikafconmaaGreatDoorTxJJp
namespace Go.Proofs.YtkpmiikafconmaaGreatDoor
open Go.RowKit
set_option maxHeartbeats 8000000
set_option maxRecDepth 100000
set_option linter.unusedVariables false
set_option linter.unusedSimpArgs false
def TmsAt(w:World):Prop:=0<w.heap.size∧∀ j,j<5→w.cell? ⟨0,j,none⟩=some (.string (tmW j))
theorem TmsAt.keep{w w':World}(h:TmsAt w)(k:Below w.heap.size w w'):TmsAt w' :=
 ⟨Nat.lt_of_lt_of_le h.1 k.size,fun j hj=>(zcB (k.block _ h.1)).trans (h.2 j hj)⟩
theorem ints_off{w W:World}{n:Nat}{a:Option Addr}{l:List Int}{own:Option Nat}(h:IntsAt w n a l)(ho:∀ g,own=some g→g<n):l≠[]→∀ ad,a=some ad→some ad.block≠own:=by
 intro hl ad e he
 rcases h.2 with k|⟨b,off,ha,hlo,_,_⟩
 ·exact hl k
 ·rw[ha] at e;cases e
  have:=ho _ he.symm
  dsimp only at this;omega
theorem blockLinesI(lo:Nat)(b:BlockD)(v0:Option Addr)(r0:Nat)(v1:Option Addr)(r1:Nat)(w:World)(hb:BkOk b)(hp:b.phis.length≤1000)(hi:b.insts.length≤1000)(m0:PhisAt w lo v0 b.phis)(m1:InstsAt w lo v1 b.insts)(hO:OpsAt w)(hT:TmsAt w) :
  Calls Tryz.prog 40 #[.agg #[.slice v0 b.phis.length r0,.slice v1 b.insts.length r1,.int .i64 b.term.kind,.int .i64 b.term.a,.int .i64 b.term.x,.int .i64 b.term.y]] w fun e w'=>LinesTold w' w.heap.size (blkL b) e∧Below w.heap.size w w':=by
 obtain⟨k,hk5,hk⟩:∃ k:Nat,k<5∧b.term.kind=k:=by
  rcases hb.t.k with h|h|h|h
  ·exact⟨1,by omega,h⟩
  ·exact⟨2,by omega,h⟩
  ·exact⟨3,by omega,h⟩
  ·exact⟨4,by omega,h⟩
 have TN:∀ W,Calls Tryz.prog 75 #[.agg #[.int .i64 (k:Int),.int .i64 b.term.a,.int .i64 b.term.x,.int .i64 b.term.y]] W fun e w'=>∃ v r,e=.returned (.slice v (termNs b.term).length r)∧OwnAt w' W.heap.size v (termNs b.term)∧Below W.heap.size W w':=fun W=>by
  have:=termNsI b.term W
  rw[hk] at this
  exact this
 rw[hk]
 obtain⟨TL,hTL⟩:∃ TL,termNs b.term=TL:=⟨_,rfl⟩
 rw[hTL] at TN
 have HTL:Hid (trmL b.term=(tmWL.getD k [],TL)):=by show _=_;unfold trmL;rw[hk,hTL];rfl
 have HB:Hid (BkOk b):=hb
 have M0:Hid (PhisAt w lo v0 b.phis):=m0
 have M1:Hid (InstsAt w lo v1 b.insts):=m1
 have HO:Hid (OpsAt w):=hO
 have HT:Hid (TmsAt w):=hT
 have A0:=At.new w #[.slice v0 b.phis.length r0,.slice v1 b.insts.length r1,.int .i64 (k:Int),.int .i64 b.term.a,.int .i64 b.term.x,.int .i64 b.term.y] 74
 have B0:Below w.heap.size w (w.alloc (.cells #[.slice v0 b.phis.length r0,.slice v1 b.insts.length r1,.int .i64 (k:Int),.int .i64 b.term.a,.int .i64 b.term.x,.int .i64 b.term.y] 74)):=(Below.refl _ _).alloc (Nat.le_refl _) _
 have e0:(w.alloc (.cells #[.slice v0 b.phis.length r0,.slice v1 b.insts.length r1,.int .i64 (k:Int),.int .i64 b.term.a,.int .i64 b.term.x,.int .i64 b.term.y] 74)).heap.size=w.heap.size+1:=by simp
 have L0:Lns ((w.alloc (.cells #[.slice v0 b.phis.length r0,.slice v1 b.insts.length r1,.int .i64 (k:Int),.int .i64 b.term.a,.int .i64 b.term.x,.int .i64 b.term.y] 74)).alloc (.cells #[.string (bs [98,108,111,99,107]),.slice none 0 0] 43)) (w.heap.size+1) (.slice (some ⟨w.heap.size+1,0,none⟩) 1 1) [([98,108,111,99,107],[])] [.string (bs [98,108,111,99,107]),.slice none 0 0] :=
  Lns.one (x:=([98,108,111,99,107],[])) (a:=none) (c:=0) e0 (Nat.le_refl _) ⟨by simp,.inl rfl⟩
 clear hb m0 m1 hO hT hk hTL
 go_enter Tryz.func40,Tryz.ntmps40
 go_wp2_with fail
 have B1:Below (w.heap.size+1) (w.alloc (.cells #[.slice v0 b.phis.length r0,.slice v1 b.insts.length r1,.int .i64 (k:Int),.int .i64 b.term.a,.int .i64 b.term.x,.int .i64 b.term.y] 74)) ((w.alloc (.cells #[.slice v0 b.phis.length r0,.slice v1 b.insts.length r1,.int .i64 (k:Int),.int .i64 b.term.a,.int .i64 b.term.x,.int .i64 b.term.y] 74)).alloc (.cells #[.string (bs [98,108,111,99,107]),.slice none 0 0] 43)):=(Below.refl _ _).alloc (by rw[e0];omega) _
 have L1:Hid (Lns _ _ _ _ _):=L0
 change Hid (Lns ((w.alloc (.cells #[.slice v0 b.phis.length r0,.slice v1 b.insts.length r1,.int .i64 (k:Int),.int .i64 b.term.a,.int .i64 b.term.x,.int .i64 b.term.y] 74)).alloc (.cells #[.string ⟨#[98,108,111,99,107]⟩,.slice none 0 0] 43)) _ _ _ _) at L1
 change Below _ _ ((w.alloc (.cells #[.slice v0 b.phis.length r0,.slice v1 b.insts.length r1,.int .i64 (k:Int),.int .i64 b.term.a,.int .i64 b.term.x,.int .i64 b.term.y] 74)).alloc (.cells #[.string ⟨#[98,108,111,99,107]⟩,.slice none 0 0] 43)) at B1
 clear L0
 generalize ((w.alloc (.cells #[.slice v0 b.phis.length r0,.slice v1 b.insts.length r1,.int .i64 (k:Int),.int .i64 b.term.a,.int .i64 b.term.x,.int .i64 b.term.y] 74)).alloc (.cells #[.string ⟨#[98,108,111,99,107]⟩,.slice none 0 0] 43))=W1 at B1 L1 ⊢
 generalize (w.alloc (.cells #[.slice v0 b.phis.length r0,.slice v1 b.insts.length r1,.int .i64 (k:Int),.int .i64 b.term.a,.int .i64 b.term.x,.int .i64 b.term.y] 74))=W0 at A0 B0 B1 e0 ⊢
 have HA0:Hid (At W0 w.heap.size #[.slice v0 b.phis.length r0,.slice v1 b.insts.length r1,.int .i64 (k:Int),.int .i64 b.term.a,.int .i64 b.term.x,.int .i64 b.term.y] 74):=A0
 have HB0:Hid (Below w.heap.size w W0):=B0
 have HB1:Hid (Below (w.heap.size+1) W0 W1):=B1
 clear A0 B0 B1
 go_loopw [3,13] (fun q i wr=>∃ (n g c:Nat) (xs:List Value),n≤b.phis.length∧i=.int .i64 n∧q=.slice (some ⟨g,0,none⟩) (n+1) c∧Hid (Lns wr (w.heap.size+1) (.slice (some ⟨g,0,none⟩) (n+1) c) (([98,108,111,99,107],[]) :: (b.phis.take n).map phiL:List Ln) xs)∧Hid (Below (w.heap.size+1) W0 wr)) (fun _ i _=>b.phis.length-(intOf i).toNat)
 case atStart=>exact⟨0,_,_,_,by omega,rfl,rfl,L1,HB1⟩
 case round =>
  obtain⟨n,g,c,xs,hn,rfl,rfl,HL,HW⟩:=hrel
  clear L1 HB1
  obtain⟨wr',hwr⟩:∃ wr',wr'=wr:=⟨_,rfl⟩
  subst hwr
  have hA:=At.below' HA0.out HW.out (by omega)
  have hBw:Below w.heap.size w wr':=HB0.out.trans (HW.out.mono (by omega))
  have x0:wr'.cell? ⟨w.heap.size,0,none⟩=some (.slice v0 b.phis.length r0):=hA.cell 0
  have x1:wr'.cell? ⟨w.heap.size,1,none⟩=some (.slice v1 b.insts.length r1):=hA.cell 1
  by_cases hlt:n<b.phis.length
  ·rcases (M0.out.keep (zaB hBw lo)).2 with hz|⟨bp,op,rfl,hlop,hbp,hcell⟩
   ·simp[hz] at hlt
   obtain⟨e0p,⟨i0,j0,e1p,mi⟩⟩:=hcell n hlt
   have hpb:=HB.out.p _ (getD_mem phi0 b.phis n hlt)
   have HN:Hid ((b.phis.take (n+1)).map phiL=(b.phis.take n).map phiL++[phiL (b.phis.getD n phi0)]):=by show _=_;rw[take_snocX (z:=phi0) hlt,List.map_append];rfl
   generalize hy:b.phis.getD n phi0=y at e0p e1p mi hpb HN
   have hyl:y.ins.length≤1000:=by have:=hpb.n;simp[phiL] at this;omega
   clear hcell hpb hy
   have bx:Below wr'.heap.size wr' (wr'.alloc (.cells #[.int .i64 y.w,.slice i0 y.ins.length j0] 92)):=(Below.refl _ _).alloc (Nat.le_refl _) _
   have ex:(wr'.alloc (.cells #[.int .i64 y.w,.slice i0 y.ins.length j0] 92)).heap.size=wr'.heap.size+1:=by simp
   have P1:=headedI lo i0 j0 y.w y.ins _ (mi.keep (zaB bx lo)) hyl
   have HLx:Hid (Lns (wr'.alloc (.cells #[.int .i64 y.w,.slice i0 y.ins.length j0] 92)) _ _ _ xs):=HL.out.keep bx
   have HWx:Hid (Below (w.heap.size+1) W0 (wr'.alloc (.cells #[.int .i64 y.w,.slice i0 y.ins.length j0] 92))):=HW.out.trans (bx.mono (by have:=HW.out.size;omega))
   have hg:g<wr'.heap.size:=(HL.out.row.lt g rfl).2
   obtain⟨NL,hNL⟩:∃ NL,y.w :: y.ins=NL:=⟨_,rfl⟩
   have HY:Hid (phiL y=([112,104,105],NL)):=by show _=_;rw[←hNL];rfl
   rw[hNL] at P1
   clear hNL
   clear HL HW bx mi hA hBw
   go_wp2_with fail
   generalize (wr'.alloc (.cells #[.int .i64 y.w,.slice i0 y.ins.length j0] 92))=wx at P1 HLx HWx ex ⊢
   clear x0 x1 e0p e1p
   refine P1.mono ?_
   rintro e w2 ⟨v,r,rfl,hI,b2⟩
   have HL2:Hid (Lns w2 _ _ _ xs):=HLx.out.keep b2
   have HW2:Hid (Below (w.heap.size+1) W0 w2):=HWx.out.trans (b2.mono (by have:=HWx.out.size;omega))
   have hoff:=ints_off (W:=w2) (own:=some g) hI (fun g' e=>by cases e;omega)
   have HI:Hid (IntsAt w2 (w.heap.size+1) v NL):=hI.low (by have:=HWx.out.size;omega)
   have HF:Hid (NL≠[]→∀ ad,v=some ad→some ad.block≠some g):=hoff
   have z2:w.heap.size+1≤w2.heap.size:=by have:=HW2.out.size;omega
   have hll:(([98,108,111,99,107],[]) :: (b.phis.take n).map phiL:List Ln).length=n+1:=by simp<;>omega
   generalize hLe:(([98,108,111,99,107],[]) :: (b.phis.take n).map phiL:List Ln)=L at HL2 hll
   have HLe:Hid ((([98,108,111,99,107],[]) :: (b.phis.take n).map phiL:List Ln)=L):=hLe
   clear hLe hI b2 hoff P1 HLx HWx
   have hln:L.length≤4194304:=by omega
   go_wp2_with (at_builtin;refine push_line (y:=([112,104,105],NL)) rfl _ _ rfl (w.heap.size+1) (.slice (some ⟨g,0,none⟩) (n+1) c) L xs rfl HL2.out v r _ rfl rfl HI.out HF.out hln z2 ?_;intro g3 c3 w3 hL3 hb3)
   have HL3:Hid (Lns w3 (w.heap.size+1) (.slice (some ⟨g3,0,none⟩) (L.length+1) c3) (L++[([112,104,105],NL)]) _):=hL3
   have HW3:Hid (Below (w.heap.size+1) W0 w3):=HW2.out.trans hb3
   clear hL3 hb3 HL2 HW2 HI HF
   go_wp2_with fail
   go_roundw
   case rel=>exact⟨n+1,g3,c3,_,by omega,by go_num,by first|rfl|rw[hll],by have h:=HL3.out;rw[hll,←HLe.out,←HY.out] at h;show Lns _ _ _ _ _;rw[HN.out];exact h,HW3⟩
   case measure=>simp[intOf];omega
  ·have hne:n=b.phis.length:=by omega
   subst hne
   have HL1:Hid (Lns wr' (w.heap.size+1) (.slice (some ⟨g,0,none⟩) (b.phis.length+1) c) (([98,108,111,99,107],[]) :: b.phis.map phiL:List Ln) xs):=by have h:=HL.out;rw[List.take_length] at h;exact h
   have HWA:Hid (Below (w.heap.size+1) W0 wr'):=HW
   have hLA:(([98,108,111,99,107],[]) :: b.phis.map phiL:List Ln).length=b.phis.length+1:=by simp
   generalize hLe:(([98,108,111,99,107],[]) :: b.phis.map phiL:List Ln)=L2 at HL1 hLA
   have HLA:Hid ((([98,108,111,99,107],[]) :: b.phis.map phiL:List Ln)=L2):=hLe
   obtain⟨N,hN⟩:∃ N,b.phis.length+1=N:=⟨_,rfl⟩
   rw[hN] at HL1 hLA ⊢
   have hN1:N≤1001:=by omega
   clear hLe hN HL HW hA hBw
   go_wp2_with fail
   clear x0 x1
   go_loopw [3,30] (fun q i wr=>∃ (n g c:Nat) (xs:List Value),n≤b.insts.length∧i=.int .i64 n∧q=.slice (some ⟨g,0,none⟩) (N+n) c∧Hid (Lns wr (w.heap.size+1) (.slice (some ⟨g,0,none⟩) (N+n) c) (L2++(b.insts.take n).map insL) xs)∧Hid (Below (w.heap.size+1) W0 wr)) (fun _ i _=>b.insts.length-(intOf i).toNat)
   case atStart=>exact⟨0,g,c,xs,by omega,rfl,rfl,by show Lns _ _ _ _ _;simpa using HL1.out,HWA⟩
   case round =>
    obtain⟨n,g,c,xs,hn,rfl,rfl,HL,HW⟩:=hrel
    clear HL1 HWA
    obtain⟨wr',hwr⟩:∃ wr',wr'=wr:=⟨_,rfl⟩
    subst hwr
    have hA:=At.below' HA0.out HW.out (by omega)
    have hBw:Below w.heap.size w wr':=HB0.out.trans (HW.out.mono (by omega))
    have x0:wr'.cell? ⟨w.heap.size,0,none⟩=some (.slice v0 b.phis.length r0):=hA.cell 0
    have x1:wr'.cell? ⟨w.heap.size,1,none⟩=some (.slice v1 b.insts.length r1):=hA.cell 1
    by_cases hlt:n<b.insts.length
    ·rcases (M1.out.keep (zaB hBw lo)).2 with hz|⟨bp,op,rfl,hlop,hbp,hcell⟩
     ·simp[hz] at hlt
     obtain⟨e0p,e1p,e2p,e3p,e4p,e5p,⟨i0,j0,e6p,mi⟩⟩:=hcell n hlt
     have hpb:=HB.out.i _ (getD_mem inst0 b.insts n hlt)
     have HN:Hid ((b.insts.take (n+1)).map insL=(b.insts.take n).map insL++[insL (b.insts.getD n inst0)]):=by show _=_;rw[take_snocX (z:=inst0) hlt,List.map_append];rfl
     generalize hy:b.insts.getD n inst0=y at e0p e1p e2p e3p e4p e5p e6p mi hpb HN
     have hIF:=instB_inF hpb
     clear hcell hpb hy
     have bx:Below wr'.heap.size wr' (wr'.alloc (.cells #[.int .i64 y.op,.int .i64 y.w,.int .i64 y.a,.int .i64 y.b,.int .i64 y.c,.int .i64 y.imm,.slice i0 y.args.length j0] 95)):=(Below.refl _ _).alloc (Nat.le_refl _) _
     have ex:(wr'.alloc (.cells #[.int .i64 y.op,.int .i64 y.w,.int .i64 y.a,.int .i64 y.b,.int .i64 y.c,.int .i64 y.imm,.slice i0 y.args.length j0] 95)).heap.size=wr'.heap.size+1:=by simp
     have P1:=lineI lo y i0 j0 _ hIF (mi.keep (zaB bx lo)) (HO.out.keep (hBw.trans (bx.mono hBw.size)))
     have HLx:Hid (Lns (wr'.alloc (.cells #[.int .i64 y.op,.int .i64 y.w,.int .i64 y.a,.int .i64 y.b,.int .i64 y.c,.int .i64 y.imm,.slice i0 y.args.length j0] 95)) _ _ _ xs):=HL.out.keep bx
     have HWx:Hid (Below (w.heap.size+1) W0 (wr'.alloc (.cells #[.int .i64 y.op,.int .i64 y.w,.int .i64 y.a,.int .i64 y.b,.int .i64 y.c,.int .i64 y.imm,.slice i0 y.args.length j0] 95))):=HW.out.trans (bx.mono (by have:=HW.out.size;omega))
     have hg:g<wr'.heap.size:=(HL.out.row.lt g rfl).2
     obtain⟨NL,hNL⟩:∃ NL,instN y=NL:=⟨_,rfl⟩
     obtain⟨WD,hWD⟩:∃ WD,opWL.getD y.op.toNat []=WD:=⟨_,rfl⟩
     have HY:Hid (insL y=(WD,NL)):=by show _=_;rw[←hNL,←hWD];rfl
     have hW2:opW y.op.toNat=bs WD:=by rw[←hWD];rfl
     rw[hNL,hW2] at P1
     clear hNL hWD hW2 hIF
     clear HL HW bx mi hA hBw
     go_wp2_with fail
     generalize (wr'.alloc (.cells #[.int .i64 y.op,.int .i64 y.w,.int .i64 y.a,.int .i64 y.b,.int .i64 y.c,.int .i64 y.imm,.slice i0 y.args.length j0] 95))=wx at P1 HLx HWx ex ⊢
     clear x0 x1 e0p e1p e2p e3p e4p e5p e6p
     refine P1.mono ?_
     rintro e w2 ⟨v,r,rfl,hI,b2⟩
     have HL2:Hid (Lns w2 _ _ _ xs):=HLx.out.keep b2
     have HW2:Hid (Below (w.heap.size+1) W0 w2):=HWx.out.trans (b2.mono (by have:=HWx.out.size;omega))
     have hoff:=ints_off (W:=w2) (own:=some g) hI (fun g' e=>by cases e;omega)
     have HI:Hid (IntsAt w2 (w.heap.size+1) v NL):=hI.low (by have:=HWx.out.size;omega)
     have HF:Hid (NL≠[]→∀ ad,v=some ad→some ad.block≠some g):=hoff
     have z2:w.heap.size+1≤w2.heap.size:=by have:=HW2.out.size;omega
     have hll:(L2++(b.insts.take n).map insL).length=N+n:=by simp<;>omega
     generalize hLe:(L2++(b.insts.take n).map insL)=L at HL2 hll
     have HLe:Hid ((L2++(b.insts.take n).map insL)=L):=hLe
     clear hLe hI b2 hoff P1 HLx HWx
     have hln:L.length≤4194304:=by omega
     go_wp2_with (at_builtin;refine push_line (y:=(WD,NL)) rfl _ _ rfl (w.heap.size+1) (.slice (some ⟨g,0,none⟩) (N+n) c) L xs rfl HL2.out v r _ rfl rfl HI.out HF.out hln z2 ?_;intro g3 c3 w3 hL3 hb3)
     have HL3:Hid (Lns w3 (w.heap.size+1) (.slice (some ⟨g3,0,none⟩) (L.length+1) c3) (L++[(WD,NL)]) _):=hL3
     have HW3:Hid (Below (w.heap.size+1) W0 w3):=HW2.out.trans hb3
     clear hL3 hb3 HL2 HW2 HI HF
     go_wp2_with fail
     go_roundw
     case rel=>exact⟨n+1,g3,c3,_,by omega,by go_num,by first|rfl|(rw[hll];rfl),by have h:=HL3.out;rw[hll,←HLe.out,←HY.out,List.append_assoc] at h;show Lns _ _ _ _ _;rw[HN.out];exact h,HW3⟩
     case measure=>simp[intOf];omega
    ·have hne2:n=b.insts.length:=by omega
     subst hne2
     have HL5:Hid (Lns wr'.drew (w.heap.size+1) (.slice (some ⟨g,0,none⟩) (N+b.insts.length) c) (L2++b.insts.map insL) xs):=by have h:=HL.out;rw[List.take_length] at h;exact h.keep ((Below.refl _ _).drew)
     have hl5:(L2++b.insts.map insL).length=N+b.insts.length:=by simp[hLA]
     generalize hLe:L2++b.insts.map insL=L3 at HL5 hl5
     have HL3e:Hid (L2++b.insts.map insL=L3):=hLe
     have hg:g<wr'.heap.size:=(HL.out.row.lt g rfl).2
     clear hLe HL hA hBw x0 x1
     have hGT:=fun (w9:World) (hS:Below (w.heap.size+1) W0 w9)=>(HT.out.keep (HB0.out.trans (hS.mono (by omega)))).2 k hk5
     have hk0:¬(k:Int)<0:=by omega
     have hk4:(k:Int)<5:=by omega
     have zD:wr'.heap.size≤wr'.drew.heap.size:=Nat.le_refl _
     go_wp2_with fail
     refine wp_region_held_drew (S:=fun w'=>Below (w.heap.size+1) W0 w') (by kernel_rfl) (HW.out.drew) (fun hHeld=>?_)
     refine wpAnyH_take (i:=0) (v:=?_) rfl (by kernel_rfl) (by kernel_rfl) (by kernel_rfl) (fun _ _ _ h=>h) (Or.inl ⟨by rfl,?_⟩) hHeld ?_
     rotate_left
     ·intro w9 hS9
      go_simp
      try with_reducible rfl
     show wpAnyH _ _ _ _ _ _ _ (Act.put _ (some _) _) _
     simp only[Act.put,List.setIfInBounds_toArray,List.set_cons_zero,List.set_cons_succ]
     refine wpAnyH_take (i:=1) (v:=?_) rfl (by kernel_rfl) (by kernel_rfl) (by kernel_rfl) (fun _ _ _ h=>h) (Or.inl ⟨by rfl,?_⟩) hHeld ?_
     rotate_left
     ·intro w9 hS9
      go_simp
      try with_reducible rfl
     show wpAnyH _ _ _ _ _ _ _ (Act.put _ (some _) _) _
     simp only[Act.put,List.setIfInBounds_toArray,List.set_cons_zero,List.set_cons_succ]
     refine wpAnyH_take (i:=2) (v:=?_) rfl (by kernel_rfl) (by kernel_rfl) (by kernel_rfl) (fun _ _ _ h=>h) (Or.inl ⟨by rfl,?_⟩) hHeld ?_
     rotate_left
     ·intro w9 hS9
      go_simp
      try with_reducible rfl
     show wpAnyH _ _ _ _ _ _ _ (Act.put _ (some _) _) _
     simp only[Act.put,List.setIfInBounds_toArray,List.set_cons_zero,List.set_cons_succ]
     refine wpAnyH_take (i:=3) (v:=?_) rfl (by kernel_rfl) (by kernel_rfl) (by kernel_rfl) (fun _ _ _ h=>h) (Or.inl ⟨by rfl,?_⟩) hHeld ?_
     rotate_left
     ·intro w9 hS9
      have g0:=(show w9.cell? ⟨w.heap.size,2,none⟩=some (.int .i64 (k:Int)) from (At.below' HA0.out hS9 (by omega)).cell 2)
      go_simp
      try with_reducible rfl
     show wpAnyH _ _ _ _ _ _ _ (Act.put _ (some _) _) _
     simp only[Act.put,List.setIfInBounds_toArray,List.set_cons_zero,List.set_cons_succ]
     refine wpAnyH_take (i:=4) (v:=?_) rfl (by kernel_rfl) (by kernel_rfl) (by kernel_rfl) (fun _ _ _ h=>h) (Or.inl ⟨by rfl,?_⟩) hHeld ?_
     rotate_left
     ·intro w9 hS9
      go_simp
      try with_reducible rfl
     show wpAnyH _ _ _ _ _ _ _ (Act.put _ (some _) _) _
     simp only[Act.put,List.setIfInBounds_toArray,List.set_cons_zero,List.set_cons_succ]
     refine wpAnyH_take (i:=5) (v:=?_) rfl (by kernel_rfl) (by kernel_rfl) (by kernel_rfl) (fun _ _ _ h=>h) (Or.inl ⟨by rfl,?_⟩) hHeld ?_
     rotate_left
     ·intro w9 hS9
      have g0:=hGT w9 hS9
      go_simp
      try with_reducible rfl
     show wpAnyH _ _ _ _ _ _ _ (Act.put _ (some _) _) _
     simp only[Act.put,List.setIfInBounds_toArray,List.set_cons_zero,List.set_cons_succ]
     refine wpAnyH_take (i:=6) (v:=?_) rfl (by kernel_rfl) (by kernel_rfl) (by kernel_rfl) (fun _ _ _ h=>h) (Or.inl ⟨by rfl,?_⟩) hHeld ?_
     rotate_left
     ·intro w9 hS9
      go_simp
      try with_reducible rfl
     show wpAnyH _ _ _ _ _ _ _ (Act.put _ (some _) _) _
     simp only[Act.put,List.setIfInBounds_toArray,List.set_cons_zero,List.set_cons_succ]
     refine wpAnyH_take (i:=7) (v:=?_) rfl (by kernel_rfl) (by kernel_rfl) (by kernel_rfl) (fun _ _ _ h=>h) (Or.inl ⟨by rfl,?_⟩) hHeld ?_
     rotate_left
     ·intro w9 hS9
      have g0:=(show w9.cell? ⟨w.heap.size,2,none⟩=some (.int .i64 (k:Int)) from (At.below' HA0.out hS9 (by omega)).cell 2)
      have g1:=(show w9.cell? ⟨w.heap.size,3,none⟩=some (.int .i64 b.term.a) from (At.below' HA0.out hS9 (by omega)).cell 3)
      have g2:=(show w9.cell? ⟨w.heap.size,4,none⟩=some (.int .i64 b.term.x) from (At.below' HA0.out hS9 (by omega)).cell 4)
      have g3:=(show w9.cell? ⟨w.heap.size,5,none⟩=some (.int .i64 b.term.y) from (At.below' HA0.out hS9 (by omega)).cell 5)
      go_simp
      try with_reducible rfl
     show wpAnyH _ _ _ _ _ _ _ (Act.put _ (some _) _) _
     simp only[Act.put,List.setIfInBounds_toArray,List.set_cons_zero,List.set_cons_succ]
     generalize World.drew wr'=W5 at *
     have hz5:wr'.heap.size≤W5.heap.size:=zD
     refine wpAnyH_ready (rs:=[8]) (by kernel_rfl) (by simp) ?_
     refine AllReadyH.cons rfl (fun K hK=>?_) AllReadyH.nil
     go_simp
     go_wp2_with (go_at_call 75;refine (TN _).mono ?_;rintro e w4 ⟨v,r,rfl,hv,b4⟩)
     refine hK.out _ _ ?_ (fun hHeld2=>?_)
     ·exact hHeld.trans (b4.mono (by have:=hHeld.size;omega))
     clear hK K
     have zc:=hHeld.size
     clear hHeld
     have hHeld:=hHeld2
     clear hHeld2
     try simp only[Act.put,List.setIfInBounds_toArray,List.set_cons_zero,List.set_cons_succ]
     have HL6:Hid (Lns w4 (w.heap.size+1) (.slice (some ⟨g,0,none⟩) (N+b.insts.length) c) L3 xs):=HL5.out.keep b4
     have hI:=hv.ints
     have hoff:=ints_off (W:=w4) (own:=some g) hI (fun g' e=>by cases e;omega)
     have HI:Hid (IntsAt w4 (w.heap.size+1) v TL):=hI.low (by omega)
     have HF:Hid (TL≠[]→∀ ad,v=some ad→some ad.block≠some g):=hoff
     have z4:w.heap.size+1≤w4.heap.size:=by have:=hHeld.size;omega
     clear hv hI hoff b4 HL5
     refine wpAnyH_take (i:=9) (v:=?_) rfl (by kernel_rfl) (by kernel_rfl) (by kernel_rfl) (fun _ _ _ h=>h) (Or.inl ⟨by rfl,?_⟩) hHeld ?_
     rotate_left
     ·intro w9 hS9
      go_simp
      try with_reducible rfl
     show wpAnyH _ _ _ _ _ _ _ (Act.put _ (some _) _) _
     simp only[Act.put,List.setIfInBounds_toArray,List.set_cons_zero,List.set_cons_succ]
     refine wpAnyH_ready (rs:=[10]) (by kernel_rfl) (by simp) ?_
     refine AllReadyH.cons rfl (fun K hK=>?_) AllReadyH.nil
     go_simp
     go_wp2_with fail
     refine hK.out _ _ ?_ (fun hHeld2=>?_)
     ·exact hHeld.alloc z4 _
     clear hK K
     have hH4:Hid (Below (w.heap.size+1) W0 w4):=hHeld
     clear hHeld
     have hHeld:=hHeld2
     clear hHeld2
     try simp only[Act.put,List.setIfInBounds_toArray,List.set_cons_zero,List.set_cons_succ]
     refine wpAnyH_ready (rs:=[11]) (by kernel_rfl) (by simp) ?_
     refine AllReadyH.cons rfl (fun K hK=>?_) AllReadyH.nil
     refine step_line (y:=(tmWL.getD k [],TL)) rfl _ _ rfl (w.heap.size+1) (.slice (some ⟨g,0,none⟩) (N+b.insts.length) c) L3 xs rfl HL6.out v r _ rfl rfl HI.out HF.out (by omega) z4 ?_
     intro g3 c3 w5 hL3 hb3
     refine hK.out _ _ ?_ (fun hHeld2=>?_)
     ·exact hH4.out.trans hb3
     clear hK K hHeld
     have hHeld:=hHeld2
     clear hHeld2
     have HL7:Hid (Lns w5 (w.heap.size+1) (.slice (some ⟨g3,0,none⟩) (L3.length+1) c3) (L3++[(tmWL.getD k [],TL)]) _):=hL3
     clear hL3 hb3 HL6 HI HF
     try simp only[Act.put,List.setIfInBounds_toArray,List.set_cons_zero,List.set_cons_succ]
     refine wpAnyH_take (i:=12) (v:=?_) rfl (by kernel_rfl) (by kernel_rfl) (by kernel_rfl) (fun _ _ _ h=>h) (Or.inl ⟨by rfl,?_⟩) hHeld ?_
     rotate_left
     ·intro w9 hS9
      go_simp
      try with_reducible rfl
     show wpAnyH _ _ _ _ _ _ _ (Act.put _ (some _) _) _
     simp only[Act.put,List.setIfInBounds_toArray,List.set_cons_zero,List.set_cons_succ]
     refine wpAnyH_done (by kernel_rfl) ?_ _
     have HE:Hid (L3++[(tmWL.getD k [],TL)]=blkL b):=by
      show _=_
      rw[←HTL.out,←HL3e.out,←HLA.out]
      simp[blkL]
     have hLn:(blkL b).length=L3.length+1:=by rw[←HE.out];simp
     go_wp2_with fail
     go_ret
     have h:=HL7.out.low (base':=w.heap.size) (by omega)
     rw[HE.out,←hLn] at h
     exact⟨⟨g3,c3,_,by rw[hLn];first|rfl|(rw[hl5];rfl),h⟩,HB0.out.trans (hHeld.mono (by omega))⟩
end Go.Proofs.YtkpmiikafconmaaGreatDoor
