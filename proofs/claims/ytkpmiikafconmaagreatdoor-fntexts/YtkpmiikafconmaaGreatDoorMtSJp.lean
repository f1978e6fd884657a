import Derived.Test.YtkpmiikafconmaaGreatDoorMtRJp
import Derived.Test.YtkpmiikafconmaaGreatDoorFmKJp
namespace Go.Proofs.YtkpmiikafconmaaGreatDoor
open Go.RowKit
set_option maxHeartbeats 8000000
set_option maxRecDepth 100000
set_option linter.unusedVariables false
set_option linter.unusedSimpArgs false
theorem push_lines{ops:Array Oper}{rest:List Oper}{o:Oper}{a:Act}{Q:Exit→Act→World→Prop}{w:World}(hgd:o.guard=none)(s x:Operand)
  (ho:o.op=.call { callee:=.builtin .append,args:=#[s,x],argTypes:=#[39,39] })
  (base:Nat) (v:Value) (l:List Ln) (xs:List Value) (hs:a.eval s=v) (hown:Lns w base v l xs) (news:List Ln) (ns:List Value) (h c B2:Nat)
  (hx:a.eval x=.slice (some ⟨h,0,none⟩) news.length c) (hn:Lns w B2 (.slice (some ⟨h,0,none⟩) news.length c) news ns) (hB2:base≤B2) (hv:∀ k,v.ownBlock=some k→k<B2) (hm:0<news.length) (hl:l.length+news.length≤4194304) (hbase:base≤w.heap.size)
  (hK:∀ g cap w',Lns w' base (.slice (some ⟨g,0,none⟩) (l.length+news.length) cap) (l++news) (xs++ns)→Below base w w'→wpList Tryz.prog ops Q rest (a.put o.dst (.slice (some ⟨g,0,none⟩) (l.length+news.length) cap)) w') :
  wpList Tryz.prog ops Q (o :: rest) a w:=by
 obtain⟨i0,hi,hz0,hz1,hz2⟩:=info_parts infoLn
 have hnl:=hn.len
 refine wpList_append_lies w hgd s x 39 ho base 43 i0 (.agg #[.string ⟨#[]⟩,.slice none 0 0]) 2 40 Tryz.underlying39 hi hz0 hz1 hz2 rfl (by decide) v l.length xs hs hown.row ⟨h,0,none⟩ news.length c ns hx hnl ?_ ?_ hm (by unfold maxLen;omega) (by omega) hbase _ rfl ?_
 ·intro j u hj
  exact hn.row.cells (g:=h) rfl j u hj
 ·intro u hu
  obtain⟨j,hj,hju⟩:=List.getElem_of_mem hu
  have hj2:j/2<news.length:=by omega
  obtain⟨a',c',h1,h2,_⟩:=hn.cells (j/2) hj2
  have he:ns[j]?=some u:=by rw[List.getElem?_eq_getElem hj,hju]
  rcases Nat.mod_two_eq_zero_or_one j with hm2|hm2
  ·rw[show j/2*2=j by omega,he] at h1
   cases h1;rfl
  ·rw[show j/2*2+1=j by omega,he] at h2
   cases h2;rfl
 ·intro g cap w' h1 h2 h3 h4
  refine hK g cap w' (hown.push (news:=news) hnl (fun j hj=>?_) h1 h2 h3) ?_
  ·obtain⟨a',c',e1,e2,e3⟩:=hn.cells j hj
   refine⟨a',c',e1,e2,⟨e3.ints.low hB2,fun hne ad e he=>?_⟩⟩
   rcases e3.ints.2 with k|⟨b,off,ha,hlo,_,_⟩
   ·exact hne k
   ·rw[ha] at e;cases e
    have:=hv _ he.symm
    dsimp only at this;omega
  ·exact (Below.refl base w).grown h2 hbase (fun k hk=>(hown.row.lt k hk).1)
theorem blkL_pos(b:BlockD):0<(blkL b).length:=by simp[blkL]
theorem blkL_len{b:BlockD}:(blkL b).length=2+cntB b:=by simp[blkL,cntB];omega
theorem blks_len:∀ l:List BlockD,(l.flatMap blkL).length=2*l.length+cntL l
 | []=>by simp[cntL]
 | b :: l=>by rw[List.flatMap_cons,List.length_append,blkL_len,blks_len l,List.length_cons];simp[cntL];omega
theorem funL_len{f:FuncD}(h:FnOk f):(funL f).length≤81:=by
 have h1:=blks_len f.blocks
 have h2:=h.b10
 have h3:=h.c60
 have h6:cntL f.blocks≤60:=by unfold cntF at h3;omega
 unfold funL
 rw[List.length_cons];omega
theorem modL_len{l:List FuncD}(h:modB l=true):(modL l).length≤243:=by
 obtain⟨h1,h2⟩:=mod_ok h
 have:=flat_boundX funL 81 l (fun f hf=>funL_len (h2 f hf))
 unfold modL
 omega
theorem mod_lnok{l:List FuncD}(h:modB l=true):∀ x∈modL l,LnOk x:=by
 obtain⟨h1,h2⟩:=mod_ok h
 intro x hx
 obtain⟨f,hf,hx⟩:=List.mem_flatMap.1 hx
 have hF:=h2 f hf
 unfold funL at hx
 rcases List.mem_cons.1 hx with rfl|hx
 ·exact hF.h
 ·obtain⟨b,hb,hx⟩:=List.mem_flatMap.1 hx
  have hB:=hF.b b hb
  unfold blkL at hx
  rcases List.mem_cons.1 hx with rfl|hx
  ·exact⟨by show 5≤6;omega,by show 0≤20;omega,sm_nil⟩
  ·rcases List.mem_append.1 hx with hx|hx
   ·rcases List.mem_append.1 hx with hx|hx
    ·obtain⟨p,hp,rfl⟩:=List.mem_map.1 hx;exact hB.p p hp
    ·obtain⟨i,hi,rfl⟩:=List.mem_map.1 hx;exact hB.ins i hi
   ·rw[List.mem_singleton.1 hx];exact trm_ok hB.t
def SlVm(q:Value)(n:Nat):Prop:=∃ u c,q=.slice u n c
theorem moduleLinesI(lo:Nat)(l:List FuncD)(u:Option Addr)(c:Nat)(w:World)(hs:SmMod l)(hm:modB l=true)(k0:zFA w lo u l)(hO:OpsAt w)(hT:TmsAt w) :
  Calls Tryz.prog 18 #[.agg #[.slice u l.length c]] w fun e w'=>LinesTold w' w.heap.size (modL l) e∧Below w.heap.size w w':=by
 have hlen:=modL_len hm
 have hpos:1≤l.length:=by simp only[modB,Bool.and_eq_true,decide_eq_true_eq] at hm;exact hm.1.1
 obtain⟨hl3,hf3⟩:=mod_ok hm
 have HF:Hid (∀ d∈l,FnOk d):=hf3
 have HS:Hid (∀ d∈l,SmFunc d):=hs.2
 have K0:Hid (zFA w lo u l):=k0
 have HO:Hid (OpsAt w):=hO
 have HT:Hid (TmsAt w):=hT
 have hM:(modL l).length=(l.flatMap funL).length:=rfl
 clear hm hf3 hs k0 hO hT
 have A0:=At.new w #[.slice u l.length c] 26
 have B0:Below w.heap.size w (w.alloc (.cells #[.slice u l.length c] 26)):=(Below.refl _ w).alloc (Nat.le_refl _) _
 have e0:(w.alloc (.cells #[.slice u l.length c] 26)).heap.size=w.heap.size+1:=by simp
 go_enter Tryz.func18,Tryz.ntmps18
 go_wp2_with fail
 generalize (w.alloc (.cells #[.slice u l.length c] 26))=W0 at A0 B0 e0 ⊢
 have HA0:Hid (At W0 w.heap.size #[.slice u l.length c] 26):=A0
 have HB0:Hid (Below w.heap.size w W0):=B0
 clear A0 B0
 go_loopw [3,11] (fun q i wr=>∃ (k:Nat) (xs:List Value),k≤l.length∧i=.int .i64 k∧SlVm q ((l.take k).flatMap funL).length∧Hid (Lns wr (w.heap.size+1) q ((l.take k).flatMap funL) xs)∧Hid (Below (w.heap.size+1) W0 wr)) (fun _ i _=>l.length-(intOf i).toNat)
 case atStart=>exact⟨0,[],by omega,rfl,⟨none,0,rfl⟩,Lns.nil _ _,Below.refl _ _⟩
 case round =>
  obtain⟨k,xs,hk,rfl,⟨qu,qc,rfl⟩,HL,HW⟩:=hrel
  obtain⟨wo,hwo⟩:∃ wo,wo=wr:=⟨_,rfl⟩
  subst hwo
  have hA:=At.below' HA0.out HW.out (by omega)
  have hBw:Below w.heap.size w wo:=HB0.out.trans (HW.out.mono (by omega))
  have y0:wo.cell? ⟨w.heap.size,0,none⟩=some (.slice u l.length c):=hA.cell 0
  by_cases hlt:k<l.length
  ·rcases K0.out.2 with hn|⟨bb,off,rfl,hlo,hbb,hcell⟩
   ·simp[hn] at hlt
   obtain⟨⟨p0,q0,e0q,m0⟩,e1q,⟨p2,q2,e2q,m2⟩⟩:=hcell k hlt
   have e0p:=(bcell hBw bb _ hbb).trans e0q
   have e1p:=(bcell hBw bb _ hbb).trans e1q
   have e2p:=(bcell hBw bb _ hbb).trans e2q
   clear e0q e1q e2q
   have hfb:=HF.out _ (getD_mem func0 l k hlt)
   have hsm:=HS.out _ (getD_mem func0 l k hlt)
   have hfs:=flat_snocX (z:=func0) funL hlt
   have hfl:=flat_leX l funL (k+1)
   rw[hfs,List.length_append] at hfl
   have HN:Hid ((l.take (k+1)).flatMap funL=(l.take k).flatMap funL++funL (l.getD k func0)):=hfs
   generalize hP:(l.take k).flatMap funL=P at hfl HN HL ⊢
   generalize l.getD k func0=f at e0p e1p e2p m0 m2 hfb hsm HN hfl
   have HFB:Hid (FnOk f):=hfb
   have hb10:=hfb.b10
   have hp4:=hfb.p4
   have HSB:Hid (∀ x∈f.blocks,SmBlock x):=hsm.2.2
   have hFM:(funL f).length=1+(f.blocks.flatMap blkL).length:=by unfold funL;rw[List.length_cons];omega
   clear hP hfs hcell hfb hsm
   have bx:Below wo.heap.size wo (wo.alloc (.cells #[.slice p0 f.params.length q0,.int .i64 f.ret,.slice p2 f.blocks.length q2] 55)):=(Below.refl _ _).alloc (Nat.le_refl _) _
   have ex:(wo.alloc (.cells #[.slice p0 f.params.length q0,.int .i64 f.ret,.slice p2 f.blocks.length q2] 55)).heap.size=wo.heap.size+1:=by simp
   have AF:=At.new wo #[.slice p0 f.params.length q0,.int .i64 f.ret,.slice p2 f.blocks.length q2] 55
   have P1:=headedI lo p0 q0 f.ret f.params _ (m0.keep (zaB (hBw.trans (bx.mono hBw.size)) lo)) (by omega)
   have M2:Hid (zBA w lo p2 f.blocks):=m2
   have HLx:Hid (Lns (wo.alloc (.cells #[.slice p0 f.params.length q0,.int .i64 f.ret,.slice p2 f.blocks.length q2] 55)) _ _ P xs):=HL.out.keep bx
   have HWx:Hid (Below (w.heap.size+1) W0 (wo.alloc (.cells #[.slice p0 f.params.length q0,.int .i64 f.ret,.slice p2 f.blocks.length q2] 55))):=HW.out.trans (bx.mono (by have:=HW.out.size;omega))
   have hg:∀ g,(Value.slice qu P.length qc).ownBlock=some g→g<wo.heap.size:=fun g e=>(HL.out.row.lt g e).2
   have HNo:Hid (some wo.heap.size≠(Value.slice qu P.length qc).ownBlock):=fun e=>by have:=hg _ e.symm;omega
   obtain⟨NL,hNL⟩:∃ NL,f.ret :: f.params=NL:=⟨_,rfl⟩
   have HY:Hid (funL f=([102,117,110,99],NL) :: f.blocks.flatMap blkL):=by show _=_;rw[←hNL];rfl
   rw[hNL] at P1
   clear hNL HL HW hA hBw m0 m2
   go_wp2_with fail
   generalize (wo.alloc (.cells #[.slice p0 f.params.length q0,.int .i64 f.ret,.slice p2 f.blocks.length q2] 55))=wx at P1 HLx HWx ex AF ⊢
   clear e0p e1p e2p
   refine P1.mono ?_
   rintro e w2 ⟨v,r,rfl,hI,b2⟩
   have HL2:Hid (Lns w2 _ _ P xs):=HLx.out.keep b2
   have HW2:Hid (Below (w.heap.size+1) W0 w2):=HWx.out.trans (b2.mono (by have:=HWx.out.size;omega))
   have hoff:=ints_off (W:=w2) (own:=(Value.slice qu P.length qc).ownBlock) hI (fun g' e=>by have:=hg g' e;omega)
   have HI:Hid (IntsAt w2 (w.heap.size+1) v NL):=hI.low (by have:=HWx.out.size;omega)
   have HFo:Hid (NL≠[]→∀ ad,v=some ad→some ad.block≠(Value.slice qu P.length qc).ownBlock):=hoff
   have z2:w.heap.size+1≤w2.heap.size:=by have:=HW2.out.size;omega
   have z3:wo.heap.size+1≤w2.heap.size:=by have:=b2.size;omega
   have HAF:Hid (At w2 wo.heap.size #[.slice p0 f.params.length q0,.int .i64 f.ret,.slice p2 f.blocks.length q2] 55):=AF.below b2
   clear hI b2 hoff P1 HLx HWx AF hg y0
   go_wp2_with (at_builtin;refine push_line2 (y:=([102,117,110,99],NL)) rfl _ _ rfl (w.heap.size+1) (.slice qu P.length qc) P xs rfl HL2.out v r _ rfl rfl HI.out HFo.out (by omega) z2 ?_;intro g3 c3 w3 hL3 hb3 hk3;have AF3:At w3 wo.heap.size #[.slice p0 f.params.length q0,.int .i64 f.ret,.slice p2 f.blocks.length q2] 55:=(hk3 _ (by omega) HNo.out).trans HAF.out;have y2:w3.cell? ⟨wo.heap.size,2,none⟩=some (.slice p2 f.blocks.length q2):=AF3.cell 2)
   have HL3:Hid (Lns w3 (w.heap.size+1) (.slice (some ⟨g3,0,none⟩) (P.length+1) c3) (P++[([102,117,110,99],NL)]) _):=hL3
   have HW3:Hid (Below (w.heap.size+1) W0 w3):=HW2.out.trans hb3
   have hPl:(P++[([102,117,110,99],NL)]:List Ln).length=P.length+1:=by simp
   clear hL3 hb3 HL2 HI HFo hk3 HNo HAF HW2
   generalize hQ:(P++[([102,117,110,99],NL)]:List Ln)=Q at HL3 hPl
   have HQ:Hid ((P++[([102,117,110,99],NL)]:List Ln)=Q):=hQ
   obtain⟨N,hN⟩:∃ N,P.length+1=N:=⟨_,rfl⟩
   rw[hN] at HL3 hPl ⊢
   have hN2:N=P.length+1:=hN.symm
   have HN2:Hid (N=P.length+1):=hN2
   clear hQ hN hN2 y2
   go_loopw [3,27] (fun q i wr=>∃ (j g c n:Nat) (xs:List Value),j≤f.blocks.length∧i=.int .i64 j∧q=.slice (some ⟨g,0,none⟩) n c∧Hid ((Q++(f.blocks.take j).flatMap blkL).length=n)∧Hid (Lns wr (w.heap.size+1) (.slice (some ⟨g,0,none⟩) n c) (Q++(f.blocks.take j).flatMap blkL) xs)∧Hid (Below (w.heap.size+1) W0 wr)) (fun _ i _=>f.blocks.length-(intOf i).toNat)
   case atStart=>exact⟨0,g3,c3,N,_,by omega,rfl,rfl,by show _=_;simpa using hPl,by show Lns _ _ _ _ _;simpa using HL3.out,HW3⟩
   case round =>
    obtain⟨j,g,c,n,xs,hj,rfl,rfl,Hn,HL,HW⟩:=hrel
    obtain⟨wb,hwb⟩:∃ wb,wb=wr:=⟨_,rfl⟩
    subst hwb
    clear HL3 HW3 AF3
    have hBw:Below w.heap.size w wb:=HB0.out.trans (HW.out.mono (by omega))
    by_cases hjl:j<f.blocks.length
    ·rcases M2.out.2 with hn|⟨bc,of2,rfl,hlo2,hbc,hcell⟩
     ·simp[hn] at hjl
     obtain⟨⟨v0,r0,e0q,m0⟩,⟨v1,r1,e1q,m1⟩,e2q,e3q,e4q,e5q⟩:=hcell j hjl
     have e0p:=(bcell hBw bc _ hbc).trans e0q
     have e1p:=(bcell hBw bc _ hbc).trans e1q
     have e2p:=(bcell hBw bc _ hbc).trans e2q
     have e3p:=(bcell hBw bc _ hbc).trans e3q
     have e4p:=(bcell hBw bc _ hbc).trans e4q
     have e5p:=(bcell hBw bc _ hbc).trans e5q
     clear e0q e1q e2q e3q e4q e5q
     have hxb:=HFB.out.b _ (getD_mem block0 f.blocks j hjl)
     have hfs:=flat_snocX (z:=block0) blkL hjl
     have hfl2:=flat_leX f.blocks blkL (j+1)
     rw[hfs,List.length_append] at hfl2
     have HNb:Hid ((f.blocks.take (j+1)).flatMap blkL=(f.blocks.take j).flatMap blkL++blkL (f.blocks.getD j block0)):=hfs
     generalize hR:(f.blocks.take j).flatMap blkL=R at hfl2 HNb HL Hn
     generalize f.blocks.getD j block0=x at e0p e1p e2p e3p e4p e5p m0 m1 hxb HNb hfl2
     have hcb:(blkL x).length=2+(x.phis.length+x.insts.length):=blkL_len
     have hnn:n=N+R.length:=by rw[←Hn.out,List.length_append,hPl]
     have hNN:=HN2.out
     have bx:Below wb.heap.size wb (wb.alloc (.cells #[.slice v0 x.phis.length r0,.slice v1 x.insts.length r1,.int .i64 x.term.kind,.int .i64 x.term.a,.int .i64 x.term.x,.int .i64 x.term.y] 74)):=(Below.refl _ _).alloc (Nat.le_refl _) _
     have ex:(wb.alloc (.cells #[.slice v0 x.phis.length r0,.slice v1 x.insts.length r1,.int .i64 x.term.kind,.int .i64 x.term.a,.int .i64 x.term.x,.int .i64 x.term.y] 74)).heap.size=wb.heap.size+1:=by simp
     have bw2:=hBw.trans (bx.mono hBw.size)
     have P1:=blockLinesI lo x v0 r0 v1 r1 _ hxb (by omega) (by omega) (m0.keep (zaB bw2 lo)) (m1.keep (zaB bw2 lo)) (HO.out.keep bw2) (HT.out.keep bw2)
     have HLx:Hid (Lns (wb.alloc (.cells #[.slice v0 x.phis.length r0,.slice v1 x.insts.length r1,.int .i64 x.term.kind,.int .i64 x.term.a,.int .i64 x.term.x,.int .i64 x.term.y] 74)) _ _ (Q++R) xs):=HL.out.keep bx
     have HWx:Hid (Below (w.heap.size+1) W0 (wb.alloc (.cells #[.slice v0 x.phis.length r0,.slice v1 x.insts.length r1,.int .i64 x.term.kind,.int .i64 x.term.a,.int .i64 x.term.x,.int .i64 x.term.y] 74))):=HW.out.trans (bx.mono (by have:=HW.out.size;omega))
     have hg:g<wb.heap.size:=(HL.out.row.lt g rfl).2
     have hbp:=blkL_pos x
     have hbl:n+(blkL x).length≤4194304:=by omega
     clear hR hfs hcell hxb hnn hNN hcb HL HW hBw bw2 bx m0 m1
     go_wp2_with fail
     generalize (wb.alloc (.cells #[.slice v0 x.phis.length r0,.slice v1 x.insts.length r1,.int .i64 x.term.kind,.int .i64 x.term.a,.int .i64 x.term.x,.int .i64 x.term.y] 74))=wx at P1 HLx HWx ex ⊢
     clear e0p e1p e2p e3p e4p e5p
     refine P1.mono ?_
     rintro e w2 ⟨⟨g2,c2,ns,rfl,hL2⟩,b2⟩
     have HL2:Hid (Lns w2 _ _ (Q++R) xs):=HLx.out.keep b2
     have HW2:Hid (Below (w.heap.size+1) W0 w2):=HWx.out.trans (b2.mono (by have:=HWx.out.size;omega))
     have HLn:Hid (Lns w2 wx.heap.size (.slice (some ⟨g2,0,none⟩) (blkL x).length c2) (blkL x) ns):=hL2
     have z2:w.heap.size+1≤w2.heap.size:=by have:=HW2.out.size;omega
     have z3:w.heap.size+1≤wx.heap.size:=by have:=HWx.out.size;omega
     generalize blkL x=BL at HLn HNb hbp hbl hfl2 ⊢
     generalize hLe:Q++R=L at HL2 Hn
     have HLe:Hid (Q++R=L):=hLe
     have hLl:L.length+BL.length≤4194304:=by rw[Hn.out];exact hbl
     have HV:Hid (∀ k,(Value.slice (some ⟨g,0,none⟩) n c).ownBlock=some k→k<wx.heap.size):=fun k e=>by have e':some g=some k:=e;cases e';omega
     clear hLe hL2 b2 P1 HLx HWx
     go_wp2_with (at_builtin;refine push_lines rfl _ _ rfl (w.heap.size+1) (.slice (some ⟨g,0,none⟩) n c) L xs rfl HL2.out BL ns g2 c2 wx.heap.size rfl HLn.out z3 HV.out hbp hLl z2 ?_;intro g4 c4 w4 hL4 hb4)
     have HL4:Hid (Lns w4 (w.heap.size+1) (.slice (some ⟨g4,0,none⟩) (L.length+BL.length) c4) (L++BL) _):=hL4
     have HW4:Hid (Below (w.heap.size+1) W0 w4):=HW2.out.trans hb4
     have HE4:Hid (L++BL=Q++(f.blocks.take (j+1)).flatMap blkL):=by show _=_;rw[HNb.out,←HLe.out,List.append_assoc]
     clear hL4 hb4 HL2 HLn HW2
     go_wp2_with fail
     go_roundw
     case rel=>exact⟨j+1,g4,c4,L.length+BL.length,_,by omega,by go_num,rfl,by show _=_;rw[←HE4.out,List.length_append],by show Lns _ _ _ _ _;rw[←HE4.out];exact HL4.out,HW4⟩
     case measure=>simp[intOf];omega
    ·have HE:Hid (Q++(f.blocks.take j).flatMap blkL=(l.take (k+1)).flatMap funL):=by
      show _=_
      rw[flat_allX f.blocks blkL hjl,HN.out,HY.out,←HQ.out,List.append_assoc]
      rfl
     have HnE:Hid (((l.take (k+1)).flatMap funL).length=n):=by show _=_;rw[←HE.out];exact Hn.out
     have HLE:Hid (Lns wb (w.heap.size+1) (.slice (some ⟨g,0,none⟩) n c) ((l.take (k+1)).flatMap funL) xs):=by show Lns _ _ _ _ _;rw[←HE.out];exact HL.out
     clear HE HL Hn hBw
     go_wp2_with fail
     go_roundw
     case rel=>exact⟨k+1,xs,by omega,by go_num,⟨some ⟨g,0,none⟩,c,by rw[HnE.out]⟩,HLE,HW⟩
     case measure=>simp[intOf];omega
  ·have hkl:k=l.length:=by omega
   have HLm:Hid (Lns wo (w.heap.size+1) (.slice qu (modL l).length qc) (modL l) xs):=by
    have h:=HL.out
    rw[flat_allX l funL hlt] at h
    exact h
   have hE:((l.take k).flatMap funL).length=(modL l).length:=by rw[flat_allX l funL hlt];rfl
   have hmp:0<(modL l).length:=by
    obtain⟨f,r,rfl⟩:∃ f r,l=f :: r:=by cases l with|nil=>simp at hpos|cons f r=>exact⟨f,r,rfl⟩
    unfold modL funL
    simp
   obtain⟨g,hqu⟩:∃ g,qu=some ⟨g,0,none⟩:=by
    rcases HLm.out.row.2 with⟨_,hz⟩|⟨g,cap,cur,hv,_⟩
    ·omega
    ·cases hv;exact⟨g,rfl⟩
   subst hqu
   have HBk:Hid (Below w.heap.size w wo):=hBw
   rw[hE]
   clear HL hA hBw y0 hE hkl
   go_wp2_with fail
   go_ret
   exact⟨⟨g,qc,xs,rfl,HLm.out.low (by omega)⟩,HBk.out⟩
end Go.Proofs.YtkpmiikafconmaaGreatDoor
