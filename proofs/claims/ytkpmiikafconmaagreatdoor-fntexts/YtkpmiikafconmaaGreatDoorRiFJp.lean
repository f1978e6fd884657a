import Derived.Test.YtkpmiikafconmaaGreatDoorRiDJp
namespace Go.Proofs.YtkpmiikafconmaaGreatDoor
open Go.RowKit
set_option maxHeartbeats 4000000
set_option maxRecDepth 100000
set_option linter.unusedVariables false
set_option linter.unusedSimpArgs false
theorem ints_nilR{w:World}{base:Nat}{u:Option Addr}:IntsAt w base u []:=⟨by simp,.inl rfl⟩
theorem heap_two2(w:World)(o p:Obj):((w.alloc o).alloc p).heap[w.heap.size+1]?=some p:=by
 have h:=zhL (w.alloc o) p
 have e:(w.alloc o).heap.size=w.heap.size+1:=by simp
 rw[e] at h
 exact h
theorem drew_heap(w:World)(i:Nat):w.drew.heap[i]?=w.heap[i]?:=rfl
def mkD(op w imm:Int)(l:List Int):InstD:=if op=26 then ⟨op,w,0,0,0,imm,l⟩ else ⟨op,w,l.getD 0 0,l.getD 1 0,l.getD 2 0,imm,[]⟩
theorem size64F:(Tryz.prog.info? 2).map (·.size)=some 1:=by kernel_rfl
theorem src_ofF{w2:World}{la:Nat}{ul:Option Addr}{l:List Int}{o:Obj}(kl:IntsAt w2 la ul l):0<(l.map (Value.int .i64)).length→∃ ad,ul=some ad∧∀ j v,(l.map (Value.int .i64))[j]?=some v→(w2.alloc o).cell? (ad.add j)=some v:=fun hp=>by
 rcases kl.2 with hn|⟨g,off,rfl,_,hg,hcl⟩
 ·rw[hn] at hp;simp at hp
 ·refine⟨_,rfl,fun j v hj=>?_⟩
  rw[List.getElem?_map] at hj
  have hjl:j<l.length:=by
   rcases Nat.lt_or_ge j l.length with h|h
   ·exact h
   ·rw[List.getElem?_eq_none h] at hj;cases hj
  have hadd:(⟨g,off,none⟩:Addr).add j=⟨g,off+j,none⟩:=by unfold Addr.add;split<;>simp_all
  rw[hadd]
  refine (zcB (((Below.refl w2.heap.size w2).alloc (Nat.le_refl _) o).block g hg)).trans ((hcl j hjl).trans ?_)
  rw[←hj]
  simp[List.getD,hjl]
theorem three_row{l:List Int}(hl:l.length≤3):splice [Value.int .i64 0,.int .i64 0,.int .i64 0] 0 (l.map (Value.int .i64))=[.int .i64 (l.getD 0 0),.int .i64 (l.getD 1 0),.int .i64 (l.getD 2 0)]:=by
 match l,hl with
 | [],_=>rfl
 | [a],_=>rfl
 | [a,b],_=>rfl
 | [a,b,c],_=>rfl
 | _ :: _ :: _ :: _ :: _,h=>simp at h
theorem run_copyG{w2:World}{la cl g:Nat}{ul:Option Addr}{l:List Int}(kl:IntsAt w2 la ul l)(hg2:w2.heap.size=g) :
  ∃ w3,(Builtin.copy_ #[41,41] 3 #[.slice (some ⟨g,0,none⟩) 3 3,.slice ul l.length cl]).run Tryz.prog (w2.alloc (.cells #[.int .i64 0,.int .i64 0,.int .i64 0] 211))=.ok (goInt (l.take 3).length) w3 ∧
   Hid (w3.heap[g]?=some (.cells #[.int .i64 (l.getD 0 0),.int .i64 (l.getD 1 0),.int .i64 (l.getD 2 0)] 211 (0,0)))∧Below w2.heap.size w2 w3:=by
 subst hg2
 have hg:=zhL w2 (.cells #[.int .i64 0,.int .i64 0,.int .i64 0] 211)
 have b1:Below w2.heap.size w2 (w2.alloc (.cells #[.int .i64 0,.int .i64 0,.int .i64 0] 211)):=(Below.refl _ _).alloc (Nat.le_refl _) _
 by_cases h0:l.length=0
 ·have hn:l=[]:=List.length_eq_zero_iff.1 h0
  subst hn
  exact⟨_,run_copy_none _ _ _ _ 2 _ _ _ _ _ _ Tryz.underlying41 size64F (by simp),hg,b1⟩
 ·obtain⟨ad,rfl,hs⟩:=src_ofF (o:=.cells #[.int .i64 0,.int .i64 0,.int .i64 0] 211) kl (by simp;omega)
  have hs2:∀ j v,((l.take 3).map (Value.int .i64))[j]?=some v→(w2.alloc (.cells #[.int .i64 0,.int .i64 0,.int .i64 0] 211)).cell? (ad.add j)=some v:=fun j v hj=>by
   refine hs j v ?_
   rw[List.map_take,List.getElem?_take] at hj
   split at hj
   ·exact hj
   ·cases hj
  have hr:=run_copy_row (P:=Tryz.prog) _ 41 41 3 2 w2.heap.size 0 3 3 ad l.length cl _ _ ((l.take 3).map (Value.int .i64)) Tryz.underlying41 size64F hg (by simp only[List.length_map,List.length_take,Nat.min_def];split<;>split<;>omega) hs2 (by simp;omega) (by intro v hv;obtain⟨x,_,rfl⟩:=List.mem_map.1 hv;rfl)
  rw[List.length_map] at hr
  refine⟨_,hr,?_,b1.trans ⟨rfl,rfl,rfl,by simp,fun b hb=>setRow_other _ _ _ _ (by omega)⟩⟩
  have h2:=setRow_heap _ w2.heap.size _ ((#[Value.int .i64 0,.int .i64 0,.int .i64 0]:Array Value).toList.take 0++(l.take 3).map (Value.int .i64)++(#[Value.int .i64 0,.int .i64 0,.int .i64 0]:Array Value).toList.drop (0+(l.take 3).length)).toArray 211 (0,0) hg
  show _=_
  rw[h2]
  have h3:=three_row (l:=l.take 3) (by rw[List.length_take];omega)
  have e0:(l.take 3).getD 0 0=l.getD 0 0:=by simp[List.getD,List.getElem?_take]
  have e1:(l.take 3).getD 1 0=l.getD 1 0:=by simp[List.getD,List.getElem?_take]
  have e2:(l.take 3).getD 2 0=l.getD 2 0:=by simp[List.getD,List.getElem?_take]
  rw[e0,e1,e2] at h3
  unfold splice at h3
  rw[List.length_map] at h3
  congr 2
  rw[List.append_assoc]
  show (List.take 0 [Value.int .i64 0,.int .i64 0,.int .i64 0]++((l.take 3).map (Value.int .i64)++List.drop (0+(l.take 3).length) [Value.int .i64 0,.int .i64 0,.int .i64 0])).toArray=_
  rw[h3]
theorem instOf26(w0 imm:Int)(u:Option Addr)(q:Nat)(l:List Int)(w:World) :
  Calls Tryz.prog 155 #[.int .i64 26,.int .i64 w0,.int .i64 imm,.slice u l.length q] w fun e w'=>e=.returned (.agg #[.int .i64 26,.int .i64 w0,.int .i64 0,.int .i64 0,.int .i64 0,.int .i64 imm,.slice u l.length q])∧Below w.heap.size w w':=by
 go_enter Tryz.func155,Tryz.ntmps155
 go_wp2_with fail
 have hr:((w.alloc (.cells #[.int .i64 26,.int .i64 w0,.int .i64 0,.int .i64 0,.int .i64 0,.int .i64 imm,.slice u l.length q] 95)).alloc (.cells #[.int .i64 26,.int .i64 w0,.int .i64 0,.int .i64 0,.int .i64 0,.int .i64 imm,.slice u l.length q] 95)).heap[w.heap.size]?=some (.cells #[.int .i64 26,.int .i64 w0,.int .i64 0,.int .i64 0,.int .i64 0,.int .i64 imm,.slice u l.length q] 95 (0,0)):=(Below.heap_alloc _ _ _ (by simp)).trans (zhL _ _)
 refine bodyPost_ret (v:=.agg #[.int .i64 26,.int .i64 w0,.int .i64 0,.int .i64 0,.int .i64 0,.int .i64 imm,.slice u l.length q]) ((results_cell_row Tryz.results155 _ _ w.heap.size 95 _ (0,0) _ rfl hr Tryz.underlying95 rfl (by kernel_rfl)).trans (by rfl)) rfl ⟨rfl,?_⟩
 exact ((Below.refl _ _).alloc (Nat.le_refl _) _).alloc (by simp) _
theorem instOfG(op w0 imm:Int)(lo:Nat)(u:Option Addr)(q:Nat)(l:List Int)(w:World)(a:Addr)(ho:¬op=26)(hl:l.length≤1048576)(hv:IntsAt w lo u l)(hgv:Gv w 1 (errV a)) :
  Calls Tryz.prog 155 #[.int .i64 op,.int .i64 w0,.int .i64 imm,.slice u l.length q] w fun e w'=>((opsD (mkD op w0 imm l)=l∧e=.returned (.agg #[.int .i64 op,.int .i64 w0,.int .i64 (l.getD 0 0),.int .i64 (l.getD 1 0),.int .i64 (l.getD 2 0),.int .i64 imm,.slice none 0 0]))∨(¬opsD (mkD op w0 imm l)=l∧e=.panicked [{ v:=errV a,recovered:=false }]))∧Below w.heap.size w w':=by
 have qo:(op==26)=false:=by simpa using ho
 have b2:Below w.heap.size w ((w.alloc (.cells #[.int .i64 0,.int .i64 0,.int .i64 0,.int .i64 0,.int .i64 0,.int .i64 0,.slice none 0 0] 95)).alloc (.cells #[.int .i64 op,.int .i64 w0,.int .i64 0,.int .i64 0,.int .i64 0,.int .i64 imm,.slice none 0 0] 95)):=((Below.refl _ _).alloc (Nat.le_refl _) _).alloc (by simp) _
 have HB2:Hid (Below w.heap.size w _):=b2
 have hi2:((w.alloc (.cells #[.int .i64 0,.int .i64 0,.int .i64 0,.int .i64 0,.int .i64 0,.int .i64 0,.slice none 0 0] 95)).alloc (.cells #[.int .i64 op,.int .i64 w0,.int .i64 0,.int .i64 0,.int .i64 0,.int .i64 imm,.slice none 0 0] 95)).heap[w.heap.size+1]?=some (.cells #[.int .i64 op,.int .i64 w0,.int .i64 0,.int .i64 0,.int .i64 0,.int .i64 imm,.slice none 0 0] 95 (0,0)):=heap_two2 _ _ _
 have hr2:((w.alloc (.cells #[.int .i64 0,.int .i64 0,.int .i64 0,.int .i64 0,.int .i64 0,.int .i64 0,.slice none 0 0] 95)).alloc (.cells #[.int .i64 op,.int .i64 w0,.int .i64 0,.int .i64 0,.int .i64 0,.int .i64 imm,.slice none 0 0] 95)).heap[w.heap.size]?=some (.cells #[.int .i64 0,.int .i64 0,.int .i64 0,.int .i64 0,.int .i64 0,.int .i64 0,.slice none 0 0] 95 (0,0)):=(Below.heap_alloc _ _ _ (by simp)).trans (zhL _ _)
 obtain⟨w3,hcp,HC3,b3⟩:=run_copyG (g:=w.heap.size+1+1) (cl:=q) (hv.keep (zaB b2 lo)) (by simp)
 have hz2:((w.alloc (.cells #[.int .i64 0,.int .i64 0,.int .i64 0,.int .i64 0,.int .i64 0,.int .i64 0,.slice none 0 0] 95)).alloc (.cells #[.int .i64 op,.int .i64 w0,.int .i64 0,.int .i64 0,.int .i64 0,.int .i64 imm,.slice none 0 0] 95)).heap.size=w.heap.size+2:=by simp
 rw[hz2] at b3
 have hi3:=(b3.block (w.heap.size+1) (by omega)).trans hi2
 have hr3:=(b3.block w.heap.size (by omega)).trans hr2
 have HB3:Hid (Below w.heap.size w w3):=b2.trans (b3.mono (by omega))
 have MK:Hid (mkD op w0 imm l=⟨op,w0,l.getD 0 0,l.getD 1 0,l.getD 2 0,imm,[]⟩):=by show _=_;unfold mkD;rw[if_neg ho]
 have HGV:Hid (Gv w 1 (errV a)):=hgv
 have HV:Hid (IntsAt w lo u l):=hv
 clear b2 b3 hi2 hr2 hz2 hv ho hgv
 go_enter Tryz.func155,Tryz.ntmps155
 go_wp2_with fail
 clear hcp
 have f0:w3.cell? ⟨w.heap.size+1+1,0,none⟩=some (.int .i64 (l.getD 0 0)):=(zcH HC3.out).trans rfl
 have f1:w3.cell? ⟨w.heap.size+1+1,1,none⟩=some (.int .i64 (l.getD 1 0)):=(zcH HC3.out).trans rfl
 have f2:w3.cell? ⟨w.heap.size+1+1,2,none⟩=some (.int .i64 (l.getD 2 0)):=(zcH HC3.out).trans rfl
 have i0:w3.cell? ⟨w.heap.size+1,0,none⟩=some (.int .i64 op):=(zcH hi3).trans rfl
 have i1:w3.cell? ⟨w.heap.size+1,1,none⟩=some (.int .i64 w0):=(zcH hi3).trans rfl
 have i2:w3.cell? ⟨w.heap.size+1,2,none⟩=some (.int .i64 0):=(zcH hi3).trans rfl
 have i3:w3.cell? ⟨w.heap.size+1,3,none⟩=some (.int .i64 0):=(zcH hi3).trans rfl
 have i4:w3.cell? ⟨w.heap.size+1,4,none⟩=some (.int .i64 0):=(zcH hi3).trans rfl
 have i5:w3.cell? ⟨w.heap.size+1,5,none⟩=some (.int .i64 imm):=(zcH hi3).trans rfl
 have i6:w3.cell? ⟨w.heap.size+1,6,none⟩=some (.slice none 0 0):=(zcH hi3).trans rfl
 have fi:∀ o,w3.frozen? ⟨w.heap.size+1,o,none⟩=false:=fun o=>zfH hi3
 generalize hx0:l.getD 0 0=x0 at *
 have HX0:Hid (l.getD 0 0=x0):=hx0
 clear hx0
 generalize hx1:l.getD 1 0=x1 at *
 have HX1:Hid (l.getD 1 0=x1):=hx1
 clear hx1
 generalize hx2:l.getD 2 0=x2 at *
 have HX2:Hid (l.getD 2 0=x2):=hx2
 clear hx2
 go_region
 have hi4:(((w3.setCell ⟨w.heap.size+1,2,none⟩ (.int .i64 x0)).setCell ⟨w.heap.size+1,3,none⟩ (.int .i64 x1)).setCell ⟨w.heap.size+1,4,none⟩ (.int .i64 x2)).drew.heap[w.heap.size+1]?=some (.cells #[.int .i64 op,.int .i64 w0,.int .i64 x0,.int .i64 x1,.int .i64 x2,.int .i64 imm,.slice none 0 0] 95 (0,0)):=by
  have k:=zhS (o:=4) (v:=.int .i64 x2) (zhS (o:=3) (v:=.int .i64 x1) (zhS (o:=2) (v:=.int .i64 x0) hi3))
  rw[drew_heap]
  simpa using k
 have hr4:(((w3.setCell ⟨w.heap.size+1,2,none⟩ (.int .i64 x0)).setCell ⟨w.heap.size+1,3,none⟩ (.int .i64 x1)).setCell ⟨w.heap.size+1,4,none⟩ (.int .i64 x2)).drew.heap[w.heap.size]?=some (.cells #[.int .i64 0,.int .i64 0,.int .i64 0,.int .i64 0,.int .i64 0,.int .i64 0,.slice none 0 0] 95 (0,0)) :=
  (Below.heap_setCell _ _ _ _ (by show w.heap.size≠w.heap.size+1;omega)).trans ((Below.heap_setCell _ _ _ _ (by show w.heap.size≠w.heap.size+1;omega)).trans ((Below.heap_setCell _ _ _ _ (by show w.heap.size≠w.heap.size+1;omega)).trans hr3))
 have HB4:Hid (Below w.heap.size w (((w3.setCell ⟨w.heap.size+1,2,none⟩ (.int .i64 x0)).setCell ⟨w.heap.size+1,3,none⟩ (.int .i64 x1)).setCell ⟨w.heap.size+1,4,none⟩ (.int .i64 x2)).drew):=(((HB3.out.setCell (by dsimp only;omega) _).setCell (by dsimp only;omega) _).setCell (by dsimp only;omega) _).drew
 clear hi3 hr3 HC3 HB3 f0 f1 f2 i0 i1 i2 i3 i4 i5 i6 fi HB2
 generalize (((w3.setCell ⟨w.heap.size+1,2,none⟩ (.int .i64 x0)).setCell ⟨w.heap.size+1,3,none⟩ (.int .i64 x1)).setCell ⟨w.heap.size+1,4,none⟩ (.int .i64 x2)).drew=W4 at *
 have j0:W4.cell? ⟨w.heap.size+1,0,none⟩=some (.int .i64 op):=(zcH hi4).trans rfl
 have j1:W4.cell? ⟨w.heap.size+1,1,none⟩=some (.int .i64 w0):=(zcH hi4).trans rfl
 have j2:W4.cell? ⟨w.heap.size+1,2,none⟩=some (.int .i64 x0):=(zcH hi4).trans rfl
 have j3:W4.cell? ⟨w.heap.size+1,3,none⟩=some (.int .i64 x1):=(zcH hi4).trans rfl
 have j4:W4.cell? ⟨w.heap.size+1,4,none⟩=some (.int .i64 x2):=(zcH hi4).trans rfl
 have j5:W4.cell? ⟨w.heap.size+1,5,none⟩=some (.int .i64 imm):=(zcH hi4).trans rfl
 have j6:W4.cell? ⟨w.heap.size+1,6,none⟩=some (.slice none 0 0):=(zcH hi4).trans rfl
 have P:=operI 0 ⟨op,w0,x0,x1,x2,imm,[]⟩ none 0 W4 (by simp) ints_nilR
 have hMl:=opsD_len ⟨op,w0,x0,x1,x2,imm,[]⟩ (by simp)
 generalize hM:opsD ⟨op,w0,x0,x1,x2,imm,[]⟩=M at P hMl
 have HMe:Hid (opsD (mkD op w0 imm l)=M):=by show _=_;rw[MK.out];exact hM
 clear hM MK
 go_wp2_with fail
 refine P.mono ?_
 rintro e w5 ⟨v5,q5,rfl,o5,b5⟩
 have HB5:Hid (Below w.heap.size w w5):=HB4.out.trans (b5.mono HB4.out.size)
 have E:=equalB _ lo v5 u q5 q M l w5 o5.ints (HV.out.keep (zaB HB5.out lo)) hMl hl
 have hi5:=(b5.block _ (Array.getElem?_eq_some_iff.1 hi4).1).trans hi4
 have hr5:=(b5.block _ (Array.getElem?_eq_some_iff.1 hr4).1).trans hr4
 clear P o5 b5 hi4 hr4 j0 j1 j2 j3 j4 j5 j6
 go_wp2_with fail
 refine E.mono ?_
 rintro e w6 ⟨rfl,b6⟩
 have HB6:Hid (Below w.heap.size w w6):=HB5.out.trans (b6.mono HB5.out.size)
 have hi6:=(b6.block _ (Array.getElem?_eq_some_iff.1 hi5).1).trans hi5
 have hr6:=(b6.block _ (Array.getElem?_eq_some_iff.1 hr5).1).trans hr5
 clear E b6 hi5 hr5
 by_cases hML:M=l
 ·have HYes:Hid (opsD (mkD op w0 imm l)=l):=HMe.out.trans hML
  rw[decide_eq_true hML]
  clear hML
  go_wp2_with fail
  refine (wantY w6).mono ?_
  rintro e w7 ⟨rfl,hw7⟩
  rw[hw7]
  clear hw7
  have j0:w6.cell? ⟨w.heap.size+1,0,none⟩=some (.int .i64 op):=(zcH hi6).trans rfl
  have j1:w6.cell? ⟨w.heap.size+1,1,none⟩=some (.int .i64 w0):=(zcH hi6).trans rfl
  have j2:w6.cell? ⟨w.heap.size+1,2,none⟩=some (.int .i64 x0):=(zcH hi6).trans rfl
  have j3:w6.cell? ⟨w.heap.size+1,3,none⟩=some (.int .i64 x1):=(zcH hi6).trans rfl
  have j4:w6.cell? ⟨w.heap.size+1,4,none⟩=some (.int .i64 x2):=(zcH hi6).trans rfl
  have j5:w6.cell? ⟨w.heap.size+1,5,none⟩=some (.int .i64 imm):=(zcH hi6).trans rfl
  have j6:w6.cell? ⟨w.heap.size+1,6,none⟩=some (.slice none 0 0):=(zcH hi6).trans rfl
  have r0:w6.cell? ⟨w.heap.size,0,none⟩=some (.int .i64 0):=(zcH hr6).trans rfl
  have r1:w6.cell? ⟨w.heap.size,1,none⟩=some (.int .i64 0):=(zcH hr6).trans rfl
  have r2:w6.cell? ⟨w.heap.size,2,none⟩=some (.int .i64 0):=(zcH hr6).trans rfl
  have r3:w6.cell? ⟨w.heap.size,3,none⟩=some (.int .i64 0):=(zcH hr6).trans rfl
  have r4:w6.cell? ⟨w.heap.size,4,none⟩=some (.int .i64 0):=(zcH hr6).trans rfl
  have r5:w6.cell? ⟨w.heap.size,5,none⟩=some (.int .i64 0):=(zcH hr6).trans rfl
  have r6:w6.cell? ⟨w.heap.size,6,none⟩=some (.slice none 0 0):=(zcH hr6).trans rfl
  have rf:∀ o,w6.frozen? ⟨w.heap.size,o,none⟩=false:=fun o=>zfH hr6
  go_wp2_with fail
  have hr:=(zhS (o:=6) (v:=.slice none 0 0) (zhS (o:=5) (v:=.int .i64 imm) (zhS (o:=4) (v:=.int .i64 x2) (zhS (o:=3) (v:=.int .i64 x1) (zhS (o:=2) (v:=.int .i64 x0) (zhS (o:=1) (v:=.int .i64 w0) (zhS (o:=0) (v:=.int .i64 op) hr6)))))))
  refine bodyPost_ret (v:=.agg #[.int .i64 op,.int .i64 w0,.int .i64 x0,.int .i64 x1,.int .i64 x2,.int .i64 imm,.slice none 0 0]) ((results_cell_row Tryz.results155 _ _ w.heap.size 95 _ (0,0) _ rfl hr Tryz.underlying95 rfl (by kernel_rfl)).trans (by rfl)) rfl ⟨.inl ⟨HYes.out,by rw[HX0.out,HX1.out,HX2.out]⟩,?_⟩
  exact (by repeat (first|refine Below.setCell ?_ (by dsimp only;omega) _|exact HB6.out))
 ·have HNo:Hid (¬opsD (mkD op w0 imm l)=l):=by show ¬_;rw[HMe.out];exact hML
  rw[decide_eq_false hML]
  clear hML
  have WN:=wantN a w6 (HGV.out.keep HB6.out)
  go_wp2_with fail
  refine WN.mono ?_
  rintro e w7 ⟨rfl,hw7⟩
  rw[hw7]
  clear hw7
  go_wp2_with fail
  exact⟨rfl,.inr ⟨HNo.out,rfl⟩,HB6.out⟩
def InstNew(w:World)(base:Nat)(r:InstD)(e:Ending):Prop:=∃ (ru:Option Addr) (rq:Nat),e=.returned (.agg #[.int .i64 r.op,.int .i64 r.w,.int .i64 r.a,.int .i64 r.b,.int .i64 r.c,.int .i64 r.imm,.slice ru r.args.length rq])∧Row w base (.slice ru r.args.length rq) r.args
structure OkR(r:InstD):Prop where
 back:mkD r.op r.w r.imm (opsD r)=r
 three:r.op=26∨(opsD r).length≤3
 args:r.args.length≤1000
 ops:(opsD r).length≤1000
 rng:∀ x∈opsD r,0≤x∧x≤100000
theorem ok_inst{i:InstD}{ids:Int}(hids:ids≤100000)(h:zIn i ids 3=true):OkR i:=by
 unfold zIn at h
 simp only[Bool.and_eq_true] at h
 obtain⟨⟨⟨_,_⟩,hf⟩,hall⟩:=h
 have hr:∀ x∈opsD i,0≤x∧x≤100000:=by
  intro x hx
  have:=List.all_eq_true.1 hall x hx
  simp[zBw] at this
  omega
 unfold fB at hf
 by_cases ho:i.op=26
 ·rw[if_pos ho] at hf
  simp only[Bool.and_eq_true,decide_eq_true_eq,beq_iff_eq] at hf
  obtain⟨⟨⟨hl,ha⟩,hb⟩,hc⟩:=hf
  have e:opsD i=i.args:=by simp[opsD,opB,ho]
  refine⟨?_,Or.inl ho,by omega,by rw[e];omega,hr⟩
  rw[e];unfold mkD;rw[if_pos ho]
  rcases i with⟨op,w,a,b,c,imm,args⟩
  dsimp only at ha hb hc ⊢
  rw[ha,hb,hc]
 ·rw[if_neg ho] at hf
  simp only[Bool.and_eq_true,Bool.or_eq_true,decide_eq_true_eq,beq_iff_eq] at hf
  obtain⟨⟨⟨hl,ha⟩,hb⟩,hc⟩:=hf
  have hargs:i.args=[]:=List.length_eq_zero_iff.1 hl
  have hle:(opsD i).length≤3∧mkD i.op i.w i.imm (opsD i)=i:=by
   unfold mkD
   rw[if_neg ho]
   rcases i with⟨op,w,a,b,c,imm,args⟩
   dsimp only at ha hb hc hargs ho ⊢
   subst hargs
   unfold opsD at *
   dsimp only at *
   split at ha<;>rename_i h1
   ·simp[h1] at hb hc ⊢;exact hc.symm
   ·split at ha<;>rename_i h2
    ·simp[h1,h2] at hb hc ⊢;exact⟨hb.symm,hc.symm⟩
    ·split at ha<;>rename_i h3
     ·rw[if_neg h1,if_neg h2,if_pos h3];simp
     ·simp[h1,h2,h3,ho] at ha hb hc ⊢;exact⟨ha.symm,hb.symm,hc.symm⟩
  exact⟨hle.2,Or.inr hle.1,by rw[hargs];simp,by omega,hr⟩
def finN(op x m:Int)(l:List Int):Option InstD:=if op=26∨opsD (mkD op x m l)=l then some (mkD op x m l) else none
def ofNums(op:Int):List Int→Option InstD
 | []=>none
 | x :: r=>if immB op=true then (match r with
  | []=>none
  | m :: r'=>finN op x m r') else finN op x 0 r
theorem fin_ops{op x m:Int}{l:List Int}{i:InstD}(h:finN op x m l=some i):i=mkD op x m l∧opsD i=l:=by
 unfold finN at h
 split at h
 ·rename_i hc
  cases h
  refine⟨rfl,?_⟩
  rcases hc with hc|hc
  ·unfold mkD;rw[if_pos hc];simp[opsD,opB,hc]
  ·exact hc
 ·cases h
theorem mk_fields(op x m:Int)(l:List Int):(mkD op x m l).op=op∧(mkD op x m l).w=x∧(mkD op x m l).imm=m:=by unfold mkD;split<;>exact⟨rfl,rfl,rfl⟩
theorem nums_inst{op:Int}{nums:List Int}{i:InstD}(h:ofNums op nums=some i):i.op=op∧instN i=nums:=by
 unfold ofNums at h
 split at h
 ·cases h
 ·rename_i x r
  split at h
  ·rename_i him
   split at h
   ·cases h
   ·rename_i m r'
    obtain⟨h1,h2⟩:=fin_ops h
    obtain⟨f1,f2,f3⟩:=mk_fields op x m r'
    rw[←h1] at f1 f2 f3
    refine⟨f1,?_⟩
    unfold instN
    rw[f1,if_pos him,f2,f3,h2]
    rfl
  ·rename_i him
   obtain⟨h1,h2⟩:=fin_ops h
   obtain⟨f1,f2,f3⟩:=mk_fields op x 0 r
   rw[←h1] at f1 f2 f3
   refine⟨f1,?_⟩
   unfold instN
   rw[f1,if_neg him,f2,h2]
   rfl
theorem inst_nums{i:InstD}(h:zIn i 60 3=true):ofNums i.op (instN i)=some i:=by
 have ok:=ok_inst (ids:=60) (by omega) h
 have fin:∀ m,i.imm=m→finN i.op i.w m (opsD i)=some i:=fun m hm=>by
  unfold finN
  rw[←hm,ok.back]
  rw[if_pos (.inr rfl)]
 unfold instN ofNums
 by_cases him:immB i.op=true
 ·rw[if_pos him]
  simp only[List.cons_append,List.nil_append]
  rw[if_pos him]
  exact fin _ rfl
 ·rw[if_neg him]
  simp only[List.cons_append,List.nil_append]
  rw[if_neg him]
  refine fin 0 ?_
  simp only[zIn,Bool.and_eq_true] at h
  have hi:=h.1.1.2
  unfold iB at hi
  have h21:¬i.op=21:=fun e=>him (by simp[immB,e])
  have h26:¬i.op=26:=fun e=>him (by simp[immB,e])
  rw[if_neg h21,if_neg h26] at hi
  simpa using hi
theorem read_iff{s:ByteArray}{b0:ByteArray}{ws:List ByteArray}{nums:List Int}(hp:pieces s=b0 :: ws)(hn:NumsIs ws nums)(i:InstD):ReadOk s i↔(ofNums (opNum b0) nums=some i∧zIn i 60 3=true):=by
 constructor
 ·intro h
  obtain⟨h1,h2⟩:=read_nums h hp
  have hF:=instB_inF h.1
  have e:nums=instN i:=hn.one h2
  have ho:opNum b0=i.op:=by
   rw[h1]
   have:=opNum_word (k:=i.op.toNat) (by have:=hF.op1;omega) (by have:=hF.op27;omega)
   rw[this]
   have:=hF.op1
   omega
  rw[ho,e]
  exact⟨inst_nums h.1,h.1⟩
 ·rintro ⟨h1,h2⟩
  obtain⟨e1,e2⟩:=nums_inst h1
  have hF:=instB_inF h2
  refine read_back hp ?_ (by rw[e2];exact hn) h2
  rcases opNum_some b0 with h0|⟨j,hj,h3,h4⟩
  ·have:=hF.op1;omega
  ·rw[e1,h3]
   exact h4.symm
theorem read_one{s:ByteArray}{i j:InstD}(h:ReadOk s i)(k:ReadOk s j):i=j:=by
 have hp:=read_pieces h
 obtain⟨_,hn⟩:=read_nums h hp
 have h1:=((read_iff hp hn i).1 h).1
 have h2:=((read_iff hp hn j).1 k).1
 rw[h1] at h2
 cases h2
 rfl
end Go.Proofs.YtkpmiikafconmaaGreatDoor
