import Derived.Test.YtkpmiikafconmaaGreatDoorFmFJp
import Derived.Lib.ParseIntB
namespace Go.Proofs.YtkpmiikafconmaaGreatDoor
open Go.RowKit
set_option maxHeartbeats 4000000
set_option maxRecDepth 100000
set_option linter.unusedVariables false
theorem step_ints{w:World}{ops:Array Oper}{o:Oper}{a:Act}{K:Act→World→Prop}{Q:Exit→Act→World→Prop}{E:Prop}(hgd:o.guard=none)(s x:Operand)
  (ho:o.op=.call { callee:=.builtin .append,args:=#[s,x],argTypes:=#[41,41] })
  (base:Nat) (v:Value) (l:List Int) (hs:a.eval s=v) (hown:Row w base v l) (b:Nat) (l2:List Int) (c:Nat) (hx:a.eval x=.slice (some ⟨b,0,none⟩) l2.length c) (hc:∀ j,j<l2.length→w.cell? ⟨b,j,none⟩=some (.int .i64 (l2.getD j 0)))
  (hm:0<l2.length) (hl:l.length+l2.length≤4194304) (hbase:base≤w.heap.size) (H:Nat) (hH:w.heap.size=H)
  (h:∀ g cap w',Row w' base (.slice (some ⟨g,0,none⟩) (l.length+l2.length) cap) (l++l2)→w.grownBy w' v.ownBlock→(v.ownBlock=some g∨g=H)→g<w'.heap.size→K (a.put o.dst (.slice (some ⟨g,0,none⟩) (l.length+l2.length) cap)) w') :
  if Region.wanted o (yielded ops a.tmps)=true then Oper.wp Tryz.prog o a w K Q else E:=by
 obtain⟨i0,hi,hz0,hz1,hz2⟩:=info_parts infoI
 refine step_append_lies w hgd s x 41 ho base 2 i0 (.int .i64 0) 1 8 Tryz.underlying41 hi hz0 hz1 hz2 rfl (by decide) v l.length (l.map (Value.int .i64)) hs hown ⟨b,0,none⟩ l2.length c (l2.map (Value.int .i64)) hx (by simp) ?_ (by simp[Value.oneCell']) hm (by unfold maxLen;omega) (by omega) hbase H hH ?_
 ·intro j y hj
  have hjl:j<l2.length:=by have:=(List.getElem?_eq_some_iff.1 hj).1;simpa using this
  rw[Addr.add_lit,Nat.zero_add,hc j hjl]
  simp[hjl] at hj
  rw[←hj]
  simp[List.getD,hjl]
 ·intro g cap w' h1 h2 h3 h4
  refine h g cap w' ?_ h2 h3 h4
  unfold Row
  rw[List.length_append,List.map_append]
  exact h1
theorem IBox.conj{d:InstD}{u:Option Addr}{q:Nat}{w w1:World}{n:Nat}(h:IBox d u q w w1)(hg:w1.cell? ⟨2,n,none⟩=some (.string (opW n))) :
  w1.cell? ⟨w.heap.size,0,none⟩=some (.int .i64 d.op)∧w1.cell? ⟨w.heap.size,1,none⟩=some (.int .i64 d.w)∧w1.cell? ⟨w.heap.size,2,none⟩=some (.int .i64 d.a)∧w1.cell? ⟨w.heap.size,3,none⟩=some (.int .i64 d.b)∧w1.cell? ⟨w.heap.size,4,none⟩=some (.int .i64 d.c)∧w1.cell? ⟨w.heap.size,5,none⟩=some (.int .i64 d.imm)∧w1.cell? ⟨w.heap.size,6,none⟩=some (.slice u d.args.length q)∧w1.cell? ⟨2,n,none⟩=some (.string (opW n)) :=
 ⟨h.c0,h.c1,h.c2,h.c3,h.c4,h.c5,h.c6,hg⟩
def ResB(w w1:World):Prop:=w1.heap[w.heap.size+1]?=some (.cells #[.string ⟨#[]⟩,.slice none 0 0] 43 (0,0))
theorem ResB.keep{w w1 w2:World}(h:ResB w w1)(k:Below (w.heap.size+2) w1 w2):ResB w w2:=(k.block _ (by omega)).trans h
theorem ResB.c0{w w1:World}(h:ResB w w1):w1.cell? ⟨w.heap.size+1,0,none⟩=some (.string ⟨#[]⟩):=(zcH h).trans rfl
theorem ResB.c1{w w1:World}(h:ResB w w1):w1.cell? ⟨w.heap.size+1,1,none⟩=some (.slice none 0 0):=(zcH h).trans rfl
theorem ResB.f{w w1:World}(h:ResB w w1)(o:Nat):w1.frozen? ⟨w.heap.size+1,o,none⟩=false:=by
 unfold World.frozen?
 rw[show w1.heap[w.heap.size+1]?=_ from h]
 simp
theorem below_two(w:World)(o p:Obj):Below (w.heap.size+1) (w.alloc o) ((w.alloc o).alloc p):=(Below.refl _ _).alloc (by simp) _
structure LSt(d:InstD)(u:Option Addr)(q:Nat)(n:Nat)(g c:Nat)(L:List Int)(w W:World):Prop where
 box:IBox d u q w W
 res:ResB w W
 row:Row W (w.heap.size+2) (.slice (some ⟨g,0,none⟩) L.length c) L
 cap:L.length≤c
 glo:W.cell? ⟨2,n,none⟩=some (.string (opW n))
 size:w.heap.size+2≤W.heap.size
theorem row_cap{w:World}{base g c:Nat}{L:List Int}(h:Row w base (.slice (some ⟨g,0,none⟩) L.length c) L):L.length≤c:=by
 rcases h.2 with⟨hv,hn⟩|⟨g',cap,cur,hv,hb,hg,hnc,_⟩
 ·simp at hv
 ·simp at hv
  rw[hv.2];exact hnc
theorem row_oneT{W:World}{x:Int}{base s:Nat}(hs:W.heap.size=s)(hb:base≤s):Row (W.alloc (.cells #[.int .i64 x] 2)) base (.slice (some ⟨s,0,none⟩) 1 1) [x]:=by
 subst hs
 exact World.ownsRow_lit W #[.int .i64 x] 1 hb (by decide) (by simp)
theorem below_al2{B:Nat}(W:World)(o p:Obj)(h:B≤W.heap.size):Below B W ((W.alloc o).alloc p):=((Below.refl _ _).alloc h _).alloc (by simp<;>omega) _
theorem below_grownT{B:Nat}{w w':World}{row:Option Nat}(hg:w.grownBy w' row)(hB:B≤w.heap.size)(hr:∀ k,row=some k→B≤k):Below B w w':=(Below.refl B w).grown hg hB hr
theorem drop_drewT{w w2:World}(h:Below w.drew.heap.size w.drew w2):Below w.heap.size w w2:=((Below.refl _ w).drew).trans h
theorem zcF{w:World}{g o h p:Nat}{v:Value}{x:Option Value}(hn:h≠g)(hx:w.cell? ⟨h,p,none⟩=x):(w.setCell ⟨g,o,none⟩ v).cell? ⟨h,p,none⟩=x:=(zcB (Below.heap_setCell _ _ _ _ (by show h≠g;exact hn))).trans hx
theorem glo_below{w w1:World}{n:Nat}(h:OpsAt w)(hn:n<28)(k:Below w.heap.size w w1):w1.cell? ⟨2,n,none⟩=some (.string (opW n)):=(zcB (k.block _ h.1)).trans (h.2 n hn)
theorem lst_grown{d:InstD}{u:Option Addr}{q n g c:Nat}{l:List Int}{w W w5:World}{row:Option Nat}(hb:IBox d u q w W)(hr:ResB w W)(ho:Row w5 (w.heap.size+2) (.slice (some ⟨g,0,none⟩) l.length c) l)(hg:W.grownBy w5 row)(hrow:∀ k,row=some k→w.heap.size+2≤k)(hO:OpsAt w)(hn:n<28)(hz:w.heap.size+2≤W.heap.size):LSt d u q n g c l w w5:=by
 have k:=below_grownT hg hz hrow
 have hb5:=hb.keep (k.mono (by omega))
 exact⟨hb5,hr.keep k,ho,row_cap ho,glo_below hO hn hb5.below,Nat.le_trans hz k.size⟩
theorem line_end{d:InstD}{u:Option Addr}{q:Nat}{w w2:World}{g c:Nat}{L:List Int}{t:ByteArray}(hI:IBox d u q w w2)(hO:Row w2 (w.heap.size+2) (.slice (some ⟨g,0,none⟩) L.length c) L)(hL:L.length≤1000){v1:Value} :
  IntsAt ((w2.setCell ⟨w.heap.size+1,0,none⟩ (.string t)).setCell ⟨w.heap.size+1,1,none⟩ v1) w.heap.size (some ⟨g,0,none⟩) L∧Below w.heap.size w ((w2.setCell ⟨w.heap.size+1,0,none⟩ (.string t)).setCell ⟨w.heap.size+1,1,none⟩ v1):=by
 obtain⟨u',c',hv,hi⟩:=hO.ints (by omega)
 simp at hv
 obtain⟨rfl,_⟩:=hv
 refine⟨(hi.keep ((agree_setCell _ _ _ _ _ (by omega)).trans (agree_setCell _ _ _ _ _ (by omega)))).low (by omega),?_⟩
 exact (hI.below.setCell (by show w.heap.size≤w.heap.size+1;omega) _).setCell (by show w.heap.size≤w.heap.size+1;omega) _
theorem lineI(lo:Nat)(d:InstD)(u:Option Addr)(q:Nat)(w:World)(hF:InF d)(hk:IntsAt w lo u d.args)(hO:OpsAt w) :
  Calls Tryz.prog 74 #[.agg #[.int .i64 d.op,.int .i64 d.w,.int .i64 d.a,.int .i64 d.b,.int .i64 d.c,.int .i64 d.imm,.slice u d.args.length q]] w fun e w'=>∃ v c,e=.returned (.agg #[.string (opW d.op.toNat),.slice v (instN d).length c])∧IntsAt w' w.heap.size v (instN d)∧Below w.heap.size w w':=by
 obtain⟨i0,hi,_,_,_⟩:=info_parts infoI
 obtain⟨n,hn⟩:∃ n:Nat,d.op=n:=⟨d.op.toNat,by have:=hF.op1;omega⟩
 have hn28:n<28:=by have:=hF.op27;omega
 have hn28':(n:Int)<28:=by omega
 have HOP:Hid (d.op=n):=hn
 have HTN:Hid (d.op.toNat=n):=by show _=_;omega
 clear hn
 have B0:IBox d u q w _:=IBox.start (T:=95)
 have B1:IBox d u q w ((w.alloc (.cells #[.int .i64 d.op,.int .i64 d.w,.int .i64 d.a,.int .i64 d.b,.int .i64 d.c,.int .i64 d.imm,.slice u d.args.length q] 95)).alloc (.cells #[.string ⟨#[]⟩,.slice none 0 0] 43)):=B0.keep (below_two _ _ _)
 have R1:ResB w ((w.alloc (.cells #[.int .i64 d.op,.int .i64 d.w,.int .i64 d.a,.int .i64 d.b,.int .i64 d.c,.int .i64 d.imm,.slice u d.args.length q] 95)).alloc (.cells #[.string ⟨#[]⟩,.slice none 0 0] 43)):=by
  have h:=zhL (w.alloc (.cells #[.int .i64 d.op,.int .i64 d.w,.int .i64 d.a,.int .i64 d.b,.int .i64 d.c,.int .i64 d.imm,.slice u d.args.length q] 95)) (.cells #[.string ⟨#[]⟩,.slice none 0 0] 43)
  have hz:(w.alloc (.cells #[.int .i64 d.op,.int .i64 d.w,.int .i64 d.a,.int .i64 d.b,.int .i64 d.c,.int .i64 d.imm,.slice u d.args.length q] 95)).heap.size=w.heap.size+1:=by simp
  rw[hz] at h
  exact h
 have Z1:((w.alloc (.cells #[.int .i64 d.op,.int .i64 d.w,.int .i64 d.a,.int .i64 d.b,.int .i64 d.c,.int .i64 d.imm,.slice u d.args.length q] 95)).alloc (.cells #[.string ⟨#[]⟩,.slice none 0 0] 43)).heap.size=w.heap.size+2:=by simp
 have HI:Hid (Tryz.prog.info? 2=some i0):=hi
 have hol:=hF.len
 have HC0:Hid (opsD d=[]→∀ w1,IntsAt w1 lo u d.args→Calls Tryz.prog 112 #[.agg #[.int .i64 d.op,.int .i64 d.w,.int .i64 d.a,.int .i64 d.b,.int .i64 d.c,.int .i64 d.imm,.slice u d.args.length q]] w1 fun e w'=>∃ v r,e=.returned (.slice v 0 r)∧True∧Below w1.heap.size w1 w'):=fun he w1 h1=>(operI lo d u q w1 (by have:=hF.args;omega) h1).mono fun e w' ⟨v,r,h2,h3,h4⟩=>⟨v,r,by rw[h2,he];rfl,trivial,h4⟩
 have HC1:Hid (opsD d≠[]→∀ w1,IntsAt w1 lo u d.args→Calls Tryz.prog 112 #[.agg #[.int .i64 d.op,.int .i64 d.w,.int .i64 d.a,.int .i64 d.b,.int .i64 d.c,.int .i64 d.imm,.slice u d.args.length q]] w1 fun e w'=>∃ g r,e=.returned (.slice (some ⟨g,0,none⟩) (opsD d).length r)∧(∀ j,j<(opsD d).length→w'.cell? ⟨g,j,none⟩=some (.int .i64 ((opsD d).getD j 0)))∧Below w1.heap.size w1 w'):=fun he w1 h1=>(operI lo d u q w1 (by have:=hF.args;omega) h1).mono fun e w' ⟨v,r,h2,h3,h4⟩=>by
  rcases h3.2 with h5|⟨g,cur,rfl,_,hb,hc⟩
  ·exact absurd h5 he
  ·exact⟨g,r,h2,fun j hj=>by rw[zcH hb];exact hc j hj,h4⟩
 have HH:=fun w=>hasImmI d.op w
 have hGw:=hO.1
 clear hi
 cases himm:immB d.op with
 | true =>
  rw[himm] at HH
  have HNN:Hid (instN d=[d.w,d.imm]++opsD d):=by show _=_;unfold instN;rw[if_pos himm];rfl
  have RW:=row_oneT (W:=_) (x:=d.w) (base:=w.heap.size+2) Z1 (Nat.le_refl _)
  go_enter Tryz.func74,Tryz.ntmps74
  go_wp2_with (first|(go_at_call 111;refine (HH _).mono ?_;rintro e w8 ⟨rfl,h9⟩;subst h9)|(at_builtin;go_loud (refine push_at rfl _ _ rfl (w.heap.size+2) (.slice (some ⟨w.heap.size+2,0,none⟩) 1 1) [d.w] rfl (RW.alloc _) d.imm _ 1 rfl (by exact one_cell_at (by simp)) (by simp) (by simp<;>omega) _ rfl ?_);intro g c w5 ho5 hg5 hat5 hlt5;go_loud (have LS:LSt d u q n g c [d.w,d.imm] w w5:=lst_grown (B1.keep (below_al2 _ _ _ (by omega))) (R1.keep (below_al2 _ _ _ (by omega))) ho5 hg5 (fun k hk=>(RW.ge hk).1) hO hn28 (by simp<;>omega));clear ho5 hg5 hat5))
  clear B0 B1 R1 Z1 RW HH himm
  generalize w5=W at LS ⊢
  have hGW:2<W.heap.size:=by have:=LS.box.below.size;omega
  have I0:=LS.box.keep (w2:=W.drew) ((Below.refl _ _).drew)
  have s0:=I0.conj (n:=n) LS.glo
  rw[HOP.out] at s0
  have K0:IntsAt W.drew lo u d.args:=hk.keep (zaB I0.below lo)
  have zW:=LS.size
  by_cases hE:opsD d=[]
  ·have C:=HC0.out hE
   rw[HOP.out] at C
   have HNE:Hid (instN d=[d.w,d.imm]):=by show _=_;rw[HNN.out,hE,List.append_nil]
   clear hE HC0 HC1 HNN
   go_region_held2 (fun w'=>w'.cell? ⟨w.heap.size,0,none⟩=some (.int .i64 (n:Int))∧w'.cell? ⟨w.heap.size,1,none⟩=some (.int .i64 d.w)∧w'.cell? ⟨w.heap.size,2,none⟩=some (.int .i64 d.a)∧w'.cell? ⟨w.heap.size,3,none⟩=some (.int .i64 d.b)∧w'.cell? ⟨w.heap.size,4,none⟩=some (.int .i64 d.c)∧w'.cell? ⟨w.heap.size,5,none⟩=some (.int .i64 d.imm)∧w'.cell? ⟨w.heap.size,6,none⟩=some (.slice u d.args.length q)∧w'.cell? ⟨2,n,none⟩=some (.string (opW n))) (first|with_reducible exact s0|with_reducible exact s2|with_reducible exact⟨zcF (by omega) (zcF (by omega) sF.1),zcF (by omega) (zcF (by omega) sF.2.1),zcF (by omega) (zcF (by omega) sF.2.2.1),zcF (by omega) (zcF (by omega) sF.2.2.2.1),zcF (by omega) (zcF (by omega) sF.2.2.2.2.1),zcF (by omega) (zcF (by omega) sF.2.2.2.2.2.1),zcF (by omega) (zcF (by omega) sF.2.2.2.2.2.2.1),zcF (by omega) (zcF (by omega) sF.2.2.2.2.2.2.2)⟩) (first|(go_at_call 112;refine (C _ (by exact K0)).mono ?_;rintro e w2 ⟨v2,r2,rfl,o2,b2⟩;have b2:=drop_drewT b2;have I2:=LS.box.keep (b2.mono (by omega));have g2:=(zcB (o:=n) (b2.block _ (by exact hGW))).trans LS.glo;have s2:=I2.conj g2;rw[HOP.out] at s2;have R2:=LS.res.keep (b2.mono (by omega));have O2:=LS.row.keep b2;have z2:=b2.size;have c0:=R2.c0;have c1:=R2.c1;have f0:=R2.f 0;have f1:=R2.f 1;have sF:=s2)|(have hv2:=o2;refine step_sameT rfl (.tmp 19) (.tmp 21) 41 rfl rfl rfl (fun ty=>append_zero g 2 c LS.cap v2 r2 _ i0 Tryz.underlying41 HI.out) ?_)|fail)
   all_goals
    obtain⟨e1,e2⟩:=line_end (t:=opW n) (v1:=.slice (some ⟨g,0,none⟩) 2 c) I2 O2 (by simp)
    have hr:=zhS (o:=1) (v:=.slice (some ⟨g,0,none⟩) 2 c) (zhS (o:=0) (v:=.string (opW n)) R2)
    clear s0 s2 sF I2 O2 c0 c1 f0 f1 g2
    go_wp2_with fail
    refine bodyPost_ret (v:=.agg #[.string (opW n),.slice (some ⟨g,0,none⟩) 2 c]) ((results_cell_row Tryz.results74 _ _ (w.heap.size+1) 43 _ (0,0) _ rfl hr Tryz.underlying43 rfl (by kernel_rfl)).trans (by rfl)) rfl ⟨some ⟨g,0,none⟩,c,?_,?_,e2⟩
    ·rw[HTN.out,HNE.out];rfl
    ·rw[HNE.out];exact e1
  ·have C:=HC1.out hE
   rw[HOP.out] at C
   have hopl:0<(opsD d).length:=List.length_pos_iff.2 hE
   have HNE:Hid (instN d=[d.w,d.imm]++opsD d):=HNN.out
   clear hE HC0 HC1 HNN
   go_region_held2 (fun w'=>w'.cell? ⟨w.heap.size,0,none⟩=some (.int .i64 (n:Int))∧w'.cell? ⟨w.heap.size,1,none⟩=some (.int .i64 d.w)∧w'.cell? ⟨w.heap.size,2,none⟩=some (.int .i64 d.a)∧w'.cell? ⟨w.heap.size,3,none⟩=some (.int .i64 d.b)∧w'.cell? ⟨w.heap.size,4,none⟩=some (.int .i64 d.c)∧w'.cell? ⟨w.heap.size,5,none⟩=some (.int .i64 d.imm)∧w'.cell? ⟨w.heap.size,6,none⟩=some (.slice u d.args.length q)∧w'.cell? ⟨2,n,none⟩=some (.string (opW n))) (first|with_reducible exact s0|with_reducible exact s2|with_reducible exact s3|with_reducible exact⟨zcF (by omega) (zcF (by omega) sF.1),zcF (by omega) (zcF (by omega) sF.2.1),zcF (by omega) (zcF (by omega) sF.2.2.1),zcF (by omega) (zcF (by omega) sF.2.2.2.1),zcF (by omega) (zcF (by omega) sF.2.2.2.2.1),zcF (by omega) (zcF (by omega) sF.2.2.2.2.2.1),zcF (by omega) (zcF (by omega) sF.2.2.2.2.2.2.1),zcF (by omega) (zcF (by omega) sF.2.2.2.2.2.2.2)⟩) (first|(go_at_call 112;refine (C _ (by exact K0)).mono ?_;rintro e w2 ⟨h2,r2,rfl,o2,b2⟩;have b2:=drop_drewT b2;have I2:=LS.box.keep (b2.mono (by omega));have g2:=(zcB (o:=n) (b2.block _ (by exact hGW))).trans LS.glo;have s2:=I2.conj g2;rw[HOP.out] at s2;have R2:=LS.res.keep (b2.mono (by omega));have O2:=LS.row.keep b2;have z2:=b2.size)|(have hv2:=o2;refine step_ints rfl (.tmp 19) (.tmp 21) rfl (w.heap.size+2) (.slice (some ⟨g,0,none⟩) 2 c) [d.w,d.imm] rfl O2 h2 (opsD d) r2 rfl o2 hopl (by simp;omega) (by omega) _ rfl ?_;intro g3 c3 w3 ho3 hg3 hat3 hlt3;have b3:Below (w.heap.size+2) w2 w3:=below_grownT hg3 (by omega) (fun k hk=>(O2.ge hk).1);have I3:=I2.keep (b3.mono (by omega));have g3g:=(zcB (o:=n) (b3.block _ (by omega))).trans g2;have s3:=I3.conj g3g;rw[HOP.out] at s3;have R3:=R2.keep b3;have c0:=R3.c0;have c1:=R3.c1;have f0:=R3.f 0;have f1:=R3.f 1;have sF:=s3)|fail)
   all_goals
    obtain⟨e1,e2⟩:=line_end (t:=opW n) (v1:=.slice (some ⟨g3,0,none⟩) (2+(opsD d).length) c3) I3 (by rw[show ([d.w,d.imm]++opsD d).length=2+(opsD d).length by simp;omega];exact ho3) (by simp;omega)
    have hr:=zhS (o:=1) (v:=.slice (some ⟨g3,0,none⟩) (2+(opsD d).length) c3) (zhS (o:=0) (v:=.string (opW n)) R3)
    clear s0 s2 s3 sF I2 I3 O2 c0 c1 f0 f1 g2 g3g ho3 hg3 hat3
    go_wp2_with fail
    refine bodyPost_ret (v:=.agg #[.string (opW n),.slice (some ⟨g3,0,none⟩) (2+(opsD d).length) c3]) ((results_cell_row Tryz.results74 _ _ (w.heap.size+1) 43 _ (0,0) _ rfl hr Tryz.underlying43 rfl (by kernel_rfl)).trans (by rfl)) rfl ⟨some ⟨g3,0,none⟩,c3,?_,?_,e2⟩
    ·rw[HTN.out,HNE.out,List.length_append];rfl
    ·rw[HNE.out];exact e1
 | false =>
  rw[himm] at HH
  have HNN:Hid (instN d=[d.w]++opsD d):=by show _=_;unfold instN;rw[if_neg (by rw[himm];decide)];rfl
  have RW:=row_oneT (W:=((w.alloc (.cells #[.int .i64 d.op,.int .i64 d.w,.int .i64 d.a,.int .i64 d.b,.int .i64 d.c,.int .i64 d.imm,.slice u d.args.length q] 95)).alloc (.cells #[.string ⟨#[]⟩,.slice none 0 0] 43))) (x:=d.w) (base:=w.heap.size+2) Z1 (Nat.le_refl _)
  have k1:Below (w.heap.size+2) ((w.alloc (.cells #[.int .i64 d.op,.int .i64 d.w,.int .i64 d.a,.int .i64 d.b,.int .i64 d.c,.int .i64 d.imm,.slice u d.args.length q] 95)).alloc (.cells #[.string ⟨#[]⟩,.slice none 0 0] 43)) (((w.alloc (.cells #[.int .i64 d.op,.int .i64 d.w,.int .i64 d.a,.int .i64 d.b,.int .i64 d.c,.int .i64 d.imm,.slice u d.args.length q] 95)).alloc (.cells #[.string ⟨#[]⟩,.slice none 0 0] 43)).alloc (.cells #[.int .i64 d.w] 2)):=(Below.refl _ _).alloc (by omega) _
  have B2:=B1.keep (k1.mono (by omega))
  have LS:LSt d u q n (w.heap.size+1+1) 1 [d.w] w (((w.alloc (.cells #[.int .i64 d.op,.int .i64 d.w,.int .i64 d.a,.int .i64 d.b,.int .i64 d.c,.int .i64 d.imm,.slice u d.args.length q] 95)).alloc (.cells #[.string ⟨#[]⟩,.slice none 0 0] 43)).alloc (.cells #[.int .i64 d.w] 2)):=⟨B2,R1.keep k1,RW,by simp,glo_below hO hn28 B2.below,by have:=k1.size;omega⟩
  go_enter Tryz.func74,Tryz.ntmps74
  go_wp2_with (first|(go_at_call 111;refine (HH _).mono ?_;rintro e w8 ⟨rfl,h9⟩;subst h9))
  clear B0 B1 B2 R1 Z1 RW HH himm k1
  generalize ((w.alloc (.cells #[.int .i64 d.op,.int .i64 d.w,.int .i64 d.a,.int .i64 d.b,.int .i64 d.c,.int .i64 d.imm,.slice u d.args.length q] 95)).alloc (.cells #[.string ⟨#[]⟩,.slice none 0 0] 43)).alloc (.cells #[.int .i64 d.w] 2)=W at LS ⊢
  generalize w.heap.size+1+1=g at LS ⊢
  have hGW:2<W.heap.size:=by have:=LS.box.below.size;omega
  have I0:=LS.box.keep (w2:=W.drew) ((Below.refl _ _).drew)
  have s0:=I0.conj (n:=n) LS.glo
  rw[HOP.out] at s0
  have K0:IntsAt W.drew lo u d.args:=hk.keep (zaB I0.below lo)
  have zW:=LS.size
  by_cases hE:opsD d=[]
  ·have C:=HC0.out hE
   rw[HOP.out] at C
   have HNE:Hid (instN d=[d.w]):=by show _=_;rw[HNN.out,hE,List.append_nil]
   clear hE HC0 HC1 HNN
   go_region_held2 (fun w'=>w'.cell? ⟨w.heap.size,0,none⟩=some (.int .i64 (n:Int))∧w'.cell? ⟨w.heap.size,1,none⟩=some (.int .i64 d.w)∧w'.cell? ⟨w.heap.size,2,none⟩=some (.int .i64 d.a)∧w'.cell? ⟨w.heap.size,3,none⟩=some (.int .i64 d.b)∧w'.cell? ⟨w.heap.size,4,none⟩=some (.int .i64 d.c)∧w'.cell? ⟨w.heap.size,5,none⟩=some (.int .i64 d.imm)∧w'.cell? ⟨w.heap.size,6,none⟩=some (.slice u d.args.length q)∧w'.cell? ⟨2,n,none⟩=some (.string (opW n))) (first|with_reducible exact s0|with_reducible exact s2|with_reducible exact⟨zcF (by omega) (zcF (by omega) sF.1),zcF (by omega) (zcF (by omega) sF.2.1),zcF (by omega) (zcF (by omega) sF.2.2.1),zcF (by omega) (zcF (by omega) sF.2.2.2.1),zcF (by omega) (zcF (by omega) sF.2.2.2.2.1),zcF (by omega) (zcF (by omega) sF.2.2.2.2.2.1),zcF (by omega) (zcF (by omega) sF.2.2.2.2.2.2.1),zcF (by omega) (zcF (by omega) sF.2.2.2.2.2.2.2)⟩) (first|(go_at_call 112;refine (C _ (by exact K0)).mono ?_;rintro e w2 ⟨v2,r2,rfl,o2,b2⟩;have b2:=drop_drewT b2;have I2:=LS.box.keep (b2.mono (by omega));have g2:=(zcB (o:=n) (b2.block _ (by exact hGW))).trans LS.glo;have s2:=I2.conj g2;rw[HOP.out] at s2;have R2:=LS.res.keep (b2.mono (by omega));have O2:=LS.row.keep b2;have z2:=b2.size;have c0:=R2.c0;have c1:=R2.c1;have f0:=R2.f 0;have f1:=R2.f 1;have sF:=s2)|(have hv2:=o2;refine step_sameT rfl (.tmp 19) (.tmp 21) 41 rfl rfl rfl (fun ty=>append_zero g 1 1 LS.cap v2 r2 _ i0 Tryz.underlying41 HI.out) ?_)|fail)
   all_goals
    obtain⟨e1,e2⟩:=line_end (t:=opW n) (v1:=.slice (some ⟨g,0,none⟩) 1 1) I2 O2 (by simp)
    have hr:=zhS (o:=1) (v:=.slice (some ⟨g,0,none⟩) 1 1) (zhS (o:=0) (v:=.string (opW n)) R2)
    clear s0 s2 sF I2 O2 c0 c1 f0 f1 g2
    go_wp2_with fail
    refine bodyPost_ret (v:=.agg #[.string (opW n),.slice (some ⟨g,0,none⟩) 1 1]) ((results_cell_row Tryz.results74 _ _ (w.heap.size+1) 43 _ (0,0) _ rfl hr Tryz.underlying43 rfl (by kernel_rfl)).trans (by rfl)) rfl ⟨some ⟨g,0,none⟩,1,?_,?_,e2⟩
    ·rw[HTN.out,HNE.out];rfl
    ·rw[HNE.out];exact e1
  ·have C:=HC1.out hE
   rw[HOP.out] at C
   have hopl:0<(opsD d).length:=List.length_pos_iff.2 hE
   have HNE:Hid (instN d=[d.w]++opsD d):=HNN.out
   clear hE HC0 HC1 HNN
   go_region_held2 (fun w'=>w'.cell? ⟨w.heap.size,0,none⟩=some (.int .i64 (n:Int))∧w'.cell? ⟨w.heap.size,1,none⟩=some (.int .i64 d.w)∧w'.cell? ⟨w.heap.size,2,none⟩=some (.int .i64 d.a)∧w'.cell? ⟨w.heap.size,3,none⟩=some (.int .i64 d.b)∧w'.cell? ⟨w.heap.size,4,none⟩=some (.int .i64 d.c)∧w'.cell? ⟨w.heap.size,5,none⟩=some (.int .i64 d.imm)∧w'.cell? ⟨w.heap.size,6,none⟩=some (.slice u d.args.length q)∧w'.cell? ⟨2,n,none⟩=some (.string (opW n))) (first|with_reducible exact s0|with_reducible exact s2|with_reducible exact s3|with_reducible exact⟨zcF (by omega) (zcF (by omega) sF.1),zcF (by omega) (zcF (by omega) sF.2.1),zcF (by omega) (zcF (by omega) sF.2.2.1),zcF (by omega) (zcF (by omega) sF.2.2.2.1),zcF (by omega) (zcF (by omega) sF.2.2.2.2.1),zcF (by omega) (zcF (by omega) sF.2.2.2.2.2.1),zcF (by omega) (zcF (by omega) sF.2.2.2.2.2.2.1),zcF (by omega) (zcF (by omega) sF.2.2.2.2.2.2.2)⟩) (first|(go_at_call 112;refine (C _ (by exact K0)).mono ?_;rintro e w2 ⟨h2,r2,rfl,o2,b2⟩;have b2:=drop_drewT b2;have I2:=LS.box.keep (b2.mono (by omega));have g2:=(zcB (o:=n) (b2.block _ (by exact hGW))).trans LS.glo;have s2:=I2.conj g2;rw[HOP.out] at s2;have R2:=LS.res.keep (b2.mono (by omega));have O2:=LS.row.keep b2;have z2:=b2.size)|(have hv2:=o2;refine step_ints rfl (.tmp 19) (.tmp 21) rfl (w.heap.size+2) (.slice (some ⟨g,0,none⟩) 1 1) [d.w] rfl O2 h2 (opsD d) r2 rfl o2 hopl (by simp;omega) (by omega) _ rfl ?_;intro g3 c3 w3 ho3 hg3 hat3 hlt3;have b3:Below (w.heap.size+2) w2 w3:=below_grownT hg3 (by omega) (fun k hk=>(O2.ge hk).1);have I3:=I2.keep (b3.mono (by omega));have g3g:=(zcB (o:=n) (b3.block _ (by omega))).trans g2;have s3:=I3.conj g3g;rw[HOP.out] at s3;have R3:=R2.keep b3;have c0:=R3.c0;have c1:=R3.c1;have f0:=R3.f 0;have f1:=R3.f 1;have sF:=s3)|fail)
   all_goals
    obtain⟨e1,e2⟩:=line_end (t:=opW n) (v1:=.slice (some ⟨g3,0,none⟩) (1+(opsD d).length) c3) I3 (by rw[show ([d.w]++opsD d).length=1+(opsD d).length by simp;omega];exact ho3) (by simp;omega)
    have hr:=zhS (o:=1) (v:=.slice (some ⟨g3,0,none⟩) (1+(opsD d).length) c3) (zhS (o:=0) (v:=.string (opW n)) R3)
    clear s0 s2 s3 sF I2 I3 O2 c0 c1 f0 f1 g2 g3g ho3 hg3 hat3
    go_wp2_with fail
    refine bodyPost_ret (v:=.agg #[.string (opW n),.slice (some ⟨g3,0,none⟩) (1+(opsD d).length) c3]) ((results_cell_row Tryz.results74 _ _ (w.heap.size+1) 43 _ (0,0) _ rfl hr Tryz.underlying43 rfl (by kernel_rfl)).trans (by rfl)) rfl ⟨some ⟨g3,0,none⟩,c3,?_,?_,e2⟩
    ·rw[HTN.out,HNE.out,List.length_append];rfl
    ·rw[HNE.out];exact e1
theorem opW_size(k:Nat):(opW k).size≤6:=by unfold opW;rw[bs_size];exact opWL_len k
structure NumsAt(w:World)(base:Nat)(own:Option Nat)(a:Option Addr)(l:List Int):Prop where
 ints:IntsAt w base a l
 off:l≠[]→∀ ad,a=some ad→some ad.block≠own
theorem NumsAt.moved{w w':World}{base:Nat}{own own':Option Nat}{a:Option Addr}{l:List Int}(h:NumsAt w base own a l)(hz:w.heap.size≤w'.heap.size)(hb:∀ k,k<w.heap.size→base≤k→some k≠own→w'.heap[k]?=w.heap[k]?)(hs:own'=own∨∃ g,own'=some g∧w.heap.size≤g):NumsAt w' base own' a l:=by
 by_cases hl:l=[]
 ·exact⟨⟨h.ints.1,.inl hl⟩,fun k=>absurd hl k⟩
 ·rcases h.ints.2 with he|⟨b,off,ha,hlo,hlt,hc⟩
  ·exact absurd he hl
  ·have ho:=h.off hl _ ha
   refine⟨⟨h.ints.1,.inr ⟨b,off,ha,hlo,by omega,fun i hi=>(zcB (hb b hlt hlo ho)).trans (hc i hi)⟩⟩,fun _ ad e=>?_⟩
   rw[ha] at e
   cases e
   rcases hs with rfl|⟨g,rfl,hg⟩
   ·exact ho
   ·intro e;have e3:b=g:=Option.some.inj e;omega
theorem At.below'{w w':World}{g n:Nat}{cs:Array Value}{T:TypeId}(h:At w g cs T)(k:Below n w w')(hg:g<n):At w' g cs T:=(k.block g hg).trans h
def ln0:Ln:=([],[])
def LnCell(w:World)(base:Nat)(own:Option Nat)(xs:List Value)(j:Nat)(x:Ln):Prop :=
 ∃ a c,xs[j*2]?=some (.string (bs x.1))∧xs[j*2+1]?=some (.slice a x.2.length c)∧NumsAt w base own a x.2
structure Lns(w:World)(base:Nat)(v:Value)(l:List Ln)(xs:List Value):Prop where
 row:w.ownsRow base 43 2 v l.length xs
 cells:∀ j,j<l.length→LnCell w base v.ownBlock xs j (l.getD j ln0)
theorem Lns.len{w:World}{base:Nat}{v:Value}{l:List Ln}{xs:List Value}(h:Lns w base v l xs):xs.length=l.length*2:=h.row.1
theorem Lns.nil(w:World)(base:Nat):Lns w base (.slice none 0 0) [] []:=⟨World.ownsRow_nil _ _ _ _,fun j hj=>by simp at hj⟩
theorem Lns.keep{w w':World}{base:Nat}{v:Value}{l:List Ln}{xs:List Value}(h:Lns w base v l xs)(k:Below w.heap.size w w'):Lns w' base v l xs:=by
 refine⟨h.row.kept (row:=none) ⟨k.os,k.tape,k.output,k.size,fun i hi _=>k.block i hi⟩ (by cases e:v.ownBlock<;>simp),fun j hj=>?_⟩
 obtain⟨a,c,h1,h2,h3⟩:=h.cells j hj
 exact⟨a,c,h1,h2,h3.moved k.size (fun i hi _ _=>k.block i hi) (.inl rfl)⟩
theorem Lns.push{w w':World}{base g cap:Nat}{v:Value}{l news:List Ln}{xs ns:List Value}(h:Lns w base v l xs)(hn:ns.length=news.length*2)(hc:∀ j,j<news.length→LnCell w base v.ownBlock ns j (news.getD j ln0))
  (ho:w'.ownsRow base 43 2 (.slice (some ⟨g,0,none⟩) (l.length+news.length) cap) (l.length+news.length) (xs++ns)) (hg:w.grownBy w' v.ownBlock) (hs:v.ownBlock=some g∨g=w.heap.size) :
  Lns w' base (.slice (some ⟨g,0,none⟩) (l.length+news.length) cap) (l++news) (xs++ns):=by
 have hxl:=h.len
 have hs':(Value.slice (some ⟨g,0,none⟩) (l.length+news.length) cap).ownBlock=v.ownBlock∨∃ k,(Value.slice (some ⟨g,0,none⟩) (l.length+news.length) cap).ownBlock=some k∧w.heap.size≤k:=by
  rcases hs with hs|hs
  ·exact .inl hs.symm
  ·exact .inr ⟨g,rfl,by omega⟩
 have mv:∀ {a:Option Addr} {r:List Int},NumsAt w base v.ownBlock a r→NumsAt w' base (Value.slice (some ⟨g,0,none⟩) (l.length+news.length) cap).ownBlock a r:=fun k=>k.moved hg.size (fun i hi _ hne=>hg.block i hi hne) hs'
 refine⟨by rw[List.length_append];exact ho,fun j hj=>?_⟩
 rw[List.length_append] at hj
 by_cases hjl:j<l.length
 ·obtain⟨a,c,h1,h2,h3⟩:=h.cells j hjl
  have e:(l++news).getD j ln0=l.getD j ln0:=by simp[List.getD,List.getElem?_append_left hjl]
  rw[e]
  exact⟨a,c,by rw[List.getElem?_append_left (by omega)];exact h1,by rw[List.getElem?_append_left (by omega)];exact h2,mv h3⟩
 ·obtain⟨a,c,h1,h2,h3⟩:=hc (j-l.length) (by omega)
  have e:(l++news).getD j ln0=news.getD (j-l.length) ln0:=by simp[List.getD,List.getElem?_append_right (Nat.le_of_not_lt hjl)]
  rw[e]
  refine⟨a,c,?_,?_,mv h3⟩
  ·rw[List.getElem?_append_right (by omega),hxl,show j*2-l.length*2=(j-l.length)*2 by omega];exact h1
  ·rw[List.getElem?_append_right (by omega),hxl,show j*2+1-l.length*2=(j-l.length)*2+1 by omega];exact h2
theorem infoLn:(Tryz.prog.info? 43).map (fun i=>(i.zero,i.size,i.bytes))=some (some (.agg #[.string ⟨#[]⟩,.slice none 0 0]),2,40):=by kernel_rfl
theorem lit_two{w:World}{x y:Value}{t:TypeId}{s:Nat}(h:w.heap.size=s):∀ j u,[x,y][j]?=some u→(w.alloc (.cells #[x,y] t)).cell? ((⟨s,0,none⟩:Addr).add j)=some u:=by
 subst h
 intro j u hj
 have hb:=zhL w (.cells #[x,y] t)
 match j,hj with
 | 0,hj=>rw[Addr.add_lit];simp at hj;rw[←hj];exact (zcH hb).trans rfl
 | 1,hj=>rw[Addr.add_lit];simp at hj;rw[←hj];exact (zcH hb).trans rfl
theorem Lns.one{W:World}{x:Ln}{a:Option Addr}{c s base:Nat}(hs:W.heap.size=s)(hb:base≤s)(hk:IntsAt W base a x.2) :
  Lns (W.alloc (.cells #[.string (bs x.1),.slice a x.2.length c] 43)) base (.slice (some ⟨s,0,none⟩) 1 1) [x] [.string (bs x.1),.slice a x.2.length c]:=by
 subst hs
 refine⟨World.ownsRow_lit W #[.string (bs x.1),.slice a x.2.length c] 1 hb (by decide) (by simp),fun j hj=>?_⟩
 have hj0:j=0:=by simp at hj;omega
 subst hj0
 refine⟨a,c,rfl,rfl,⟨hk.keep (zaA _ _ _),fun hne ad e=>?_⟩⟩
 show some ad.block≠some W.heap.size
 rcases hk.2 with h|⟨b,off,ha,_,hlt,_⟩
 ·exact absurd h hne
 ·rw[ha] at e;cases e;intro e2;have e3:b=W.heap.size:=Option.some.inj e2;omega
theorem push_line2{ops:Array Oper}{rest:List Oper}{o:Oper}{a:Act}{Q:Exit→Act→World→Prop}{w:World}(hgd:o.guard=none)(s x:Operand)
  (ho:o.op=.call { callee:=.builtin .append,args:=#[s,x],argTypes:=#[39,39] })
  (base:Nat) (v:Value) (l:List Ln) (xs:List Value) (hs:a.eval s=v) (hown:Lns w base v l xs) (y:Ln) (u:Option Addr) (c H:Nat) (hH:w.heap.size=H)
  (hx:a.eval x=.slice (some ⟨H,0,none⟩) 1 1) (hu:IntsAt w base u y.2) (hu2:y.2≠[]→∀ ad,u=some ad→some ad.block≠v.ownBlock) (hl:l.length≤4194304) (hbase:base≤w.heap.size)
  (h:∀ g cap w',Lns w' base (.slice (some ⟨g,0,none⟩) (l.length+1) cap) (l++[y]) (xs++[.string (bs y.1),.slice u y.2.length c])→Below base w w'→(∀ k,k<w.heap.size→some k≠v.ownBlock→w'.heap[k]?=w.heap[k]?)→wpList Tryz.prog ops Q rest (a.put o.dst (.slice (some ⟨g,0,none⟩) (l.length+1) cap)) w') :
  wpList Tryz.prog ops Q (o :: rest) a (w.alloc (.cells #[.string (bs y.1),.slice u y.2.length c] 43)):=by
 subst hH
 obtain⟨i0,hi,hz0,hz1,hz2⟩:=info_parts infoLn
 have k1:Below w.heap.size w (w.alloc (.cells #[.string (bs y.1),.slice u y.2.length c] 43)):=(Below.refl _ _).alloc (Nat.le_refl _) _
 have hown1:=hown.keep k1
 refine wpList_append_lies (w.alloc (.cells #[.string (bs y.1),.slice u y.2.length c] 43)) hgd s x 39 ho base 43 i0 (.agg #[.string ⟨#[]⟩,.slice none 0 0]) 2 40 Tryz.underlying39 hi hz0 hz1 hz2 rfl (by decide) v l.length xs hs hown1.row ⟨w.heap.size,0,none⟩ 1 1 [.string (bs y.1),.slice u y.2.length c] hx (by simp) (lit_two rfl) (by simp[Value.oneCell']) (by decide) (by unfold maxLen;omega) (by omega) (by have:=k1.size;omega) _ rfl ?_
 intro g cap w' h1 h2 h3 h4
 refine h g cap w' (hown1.push (news:=[y]) (by simp) (fun j hj=>?_) h1 h2 h3) ?_ (fun k hk hne=>(h2.block k (by have:=k1.size;omega) hne).trans (k1.block k hk))
 ·have hj0:j=0:=by simp at hj;omega
  subst hj0
  exact⟨u,c,rfl,rfl,⟨hu.keep (zaB k1 _),hu2⟩⟩
 ·exact ((Below.refl base w).alloc hbase _).grown h2 (by have:=k1.size;omega) (fun k hk=>(hown1.row.lt k hk).1)
theorem push_line{ops:Array Oper}{rest:List Oper}{o:Oper}{a:Act}{Q:Exit→Act→World→Prop}{w:World}(hgd:o.guard=none)(s x:Operand)
  (ho:o.op=.call { callee:=.builtin .append,args:=#[s,x],argTypes:=#[39,39] })
  (base:Nat) (v:Value) (l:List Ln) (xs:List Value) (hs:a.eval s=v) (hown:Lns w base v l xs) (y:Ln) (u:Option Addr) (c H:Nat) (hH:w.heap.size=H)
  (hx:a.eval x=.slice (some ⟨H,0,none⟩) 1 1) (hu:IntsAt w base u y.2) (hu2:y.2≠[]→∀ ad,u=some ad→some ad.block≠v.ownBlock) (hl:l.length≤4194304) (hbase:base≤w.heap.size)
  (h:∀ g cap w',Lns w' base (.slice (some ⟨g,0,none⟩) (l.length+1) cap) (l++[y]) (xs++[.string (bs y.1),.slice u y.2.length c])→Below base w w'→wpList Tryz.prog ops Q rest (a.put o.dst (.slice (some ⟨g,0,none⟩) (l.length+1) cap)) w') :
  wpList Tryz.prog ops Q (o :: rest) a (w.alloc (.cells #[.string (bs y.1),.slice u y.2.length c] 43)) :=
 push_line2 hgd s x ho base v l xs hs hown y u c H hH hx hu hu2 hl hbase (fun g cap w' a1 a2 _=>h g cap w' a1 a2)
theorem step_line{ops:Array Oper}{o:Oper}{a:Act}{K:Act→World→Prop}{E:Prop}{Q:Exit→Act→World→Prop}{w:World}(hgd:o.guard=none)(s x:Operand)
  (ho:o.op=.call { callee:=.builtin .append,args:=#[s,x],argTypes:=#[39,39] })
  (base:Nat) (v:Value) (l:List Ln) (xs:List Value) (hs:a.eval s=v) (hown:Lns w base v l xs) (y:Ln) (u:Option Addr) (c H:Nat) (hH:w.heap.size=H)
  (hx:a.eval x=.slice (some ⟨H,0,none⟩) 1 1) (hu:IntsAt w base u y.2) (hu2:y.2≠[]→∀ ad,u=some ad→some ad.block≠v.ownBlock) (hl:l.length≤4194304) (hbase:base≤w.heap.size)
  (h:∀ g cap w',Lns w' base (.slice (some ⟨g,0,none⟩) (l.length+1) cap) (l++[y]) (xs++[.string (bs y.1),.slice u y.2.length c])→Below base w w'→K (a.put o.dst (.slice (some ⟨g,0,none⟩) (l.length+1) cap)) w') :
  if Region.wanted o (yielded ops a.tmps)=true then Oper.wp Tryz.prog o a (w.alloc (.cells #[.string (bs y.1),.slice u y.2.length c] 43)) K Q else E:=by
 subst hH
 obtain⟨i0,hi,hz0,hz1,hz2⟩:=info_parts infoLn
 have k1:Below w.heap.size w (w.alloc (.cells #[.string (bs y.1),.slice u y.2.length c] 43)):=(Below.refl _ _).alloc (Nat.le_refl _) _
 have hown1:=hown.keep k1
 refine step_append_lies (w.alloc (.cells #[.string (bs y.1),.slice u y.2.length c] 43)) hgd s x 39 ho base 43 i0 (.agg #[.string ⟨#[]⟩,.slice none 0 0]) 2 40 Tryz.underlying39 hi hz0 hz1 hz2 rfl (by decide) v l.length xs hs hown1.row ⟨w.heap.size,0,none⟩ 1 1 [.string (bs y.1),.slice u y.2.length c] hx (by simp) (lit_two rfl) (by simp[Value.oneCell']) (by decide) (by unfold maxLen;omega) (by omega) (by have:=k1.size;omega) _ rfl ?_
 intro g cap w' h1 h2 h3 h4
 refine h g cap w' (hown1.push (news:=[y]) (by simp) (fun j hj=>?_) h1 h2 h3) ?_
 ·have hj0:j=0:=by simp at hj;omega
  subst hj0
  exact⟨u,c,rfl,rfl,⟨hu.keep (zaB k1 _),hu2⟩⟩
 ·exact ((Below.refl base w).alloc hbase _).grown h2 (by have:=k1.size;omega) (fun k hk=>(hown1.row.lt k hk).1)
theorem Lns.low{w:World}{base base':Nat}{v:Value}{l:List Ln}{xs:List Value}(h:Lns w base v l xs)(hb:base'≤base):Lns w base' v l xs:=by
 refine⟨⟨h.row.1,?_⟩,fun j hj=>?_⟩
 ·rcases h.row.2 with k|⟨g,cap,cur,h1,h2,r⟩
  ·exact .inl k
  ·exact .inr ⟨g,cap,cur,h1,by omega,r⟩
 ·obtain⟨a,c,h1,h2,h3⟩:=h.cells j hj
  exact⟨a,c,h1,h2,⟨h3.ints.low hb,h3.off⟩⟩
def LinesTold(w:World)(base:Nat)(l:List Ln)(e:Ending):Prop:=∃ g c xs,e=.returned (.slice (some ⟨g,0,none⟩) l.length c)∧Lns w base (.slice (some ⟨g,0,none⟩) l.length c) l xs
set_option maxHeartbeats 1000000
theorem wpList_sameT{ops:Array Oper}{rest:List Oper}{o:Oper}{a:Act}{Q:Exit→Act→World→Prop}{w:World}(hgd:o.guard=none)(s x:Operand)(t:TypeId)(ho:o.op=.call { callee:=.builtin .append,args:=#[s,x],argTypes:=#[t,t] })
  {sv xv:Value} (hs:a.eval s=sv) (hx:a.eval x=xv) (hr:∀ ty,(Builtin.append_ #[t,t] ty #[sv,xv]).run Tryz.prog w=.ok sv w) (h:wpList Tryz.prog ops Q rest (a.put o.dst sv) w):wpList Tryz.prog ops Q (o :: rest) a w :=
 wpList_plain hgd fun K hK=>by
  have:=step_sameT (ops:=ops) (E:=True) (Q:=Q) hgd s x t ho hs hx hr (K:=K) (hK _ _ h)
  simpa [Region.wanted,hgd] using this
theorem wpList_intsX{ops:Array Oper}{rest:List Oper}{o:Oper}{a:Act}{Q:Exit→Act→World→Prop}{w:World}(hgd:o.guard=none)(s x:Operand)
  (ho:o.op=.call { callee:=.builtin .append,args:=#[s,x],argTypes:=#[41,41] })
  (base:Nat) (v:Value) (l:List Int) (hs:a.eval s=v) (hown:Row w base v l) (b off:Nat) (l2:List Int) (c:Nat) (hx:a.eval x=.slice (some ⟨b,off,none⟩) l2.length c) (hc:∀ j,j<l2.length→w.cell? ⟨b,off+j,none⟩=some (.int .i64 (l2.getD j 0)))
  (hm:0<l2.length) (hl:l.length+l2.length≤4194304) (hbase:base≤w.heap.size)
  (h:∀ v' w',Row w' base v' (l++l2)→w.grownBy w' v.ownBlock→wpList Tryz.prog ops Q rest (a.put o.dst v') w'):wpList Tryz.prog ops Q (o :: rest) a w:=by
 obtain⟨i0,hi,hz0,hz1,hz2⟩:=info_parts infoI
 refine wpList_append_own w hgd s x 41 ho base 2 i0 (.int .i64 0) 1 8 Tryz.underlying41 hi hz0 hz1 hz2 rfl (by decide) v l.length (l.map (Value.int .i64)) hs hown ⟨b,off,none⟩ l2.length c (l2.map (Value.int .i64)) hx (by simp) ?_ (by simp[Value.oneCell']) (by unfold maxLen;omega) (by omega) hbase ?_
 ·intro j y hj
  have hjl:j<l2.length:=by have:=(List.getElem?_eq_some_iff.1 hj).1;simpa using this
  rw[Addr.add_lit,hc j hjl]
  simp[hjl] at hj
  rw[←hj]
  simp[List.getD,hjl]
 ·intro v' w' h1 h2 _
  refine h v' w' ?_ h2
  unfold Row
  rw[List.length_append,List.map_append]
  exact h1
theorem headedI(lo:Nat)(a:Option Addr)(c:Nat)(n:Int)(l:List Int)(w:World)(hk:IntsAt w lo a l)(hl:l.length≤1000) :
  Calls Tryz.prog 39 #[.int .i64 n,.slice a l.length c] w fun e w'=>∃ v r,e=.returned (.slice v (n :: l).length r)∧IntsAt w' w.heap.size v (n :: l)∧Below w.heap.size w w':=by
 obtain⟨i0,hi,_,_,_⟩:=info_parts infoI
 have b1:Below w.heap.size w (w.alloc (.cells #[.int .i64 n] 2)):=(Below.refl _ _).alloc (Nat.le_refl _) _
 have R1:Row (w.alloc (.cells #[.int .i64 n] 2)) w.heap.size (.slice (some ⟨w.heap.size,0,none⟩) 1 1) [n]:=row_oneT rfl (Nat.le_refl _)
 rcases hk.2 with he|⟨b,off,rfl,hlo,hlt,hc⟩
 ·subst he
  go_enter Tryz.func39,Tryz.ntmps39
  go_wp2_with (at_builtin;refine wpList_sameT rfl _ _ 41 rfl rfl rfl (fun ty=>append_zero _ 1 1 (Nat.le_refl _) _ _ _ i0 Tryz.underlying41 hi) ?_)
  go_ret
  obtain⟨u,c',hu,hI⟩:=R1.ints (by simp)
  cases hu
  exact⟨_,_,rfl,hI,b1⟩
 ·by_cases h0:l=[]
  ·subst h0
   go_enter Tryz.func39,Tryz.ntmps39
   go_wp2_with (at_builtin;refine wpList_sameT rfl _ _ 41 rfl rfl rfl (fun ty=>append_zero _ 1 1 (Nat.le_refl _) _ _ _ i0 Tryz.underlying41 hi) ?_)
   go_ret
   obtain⟨u,c',hu,hI⟩:=R1.ints (by simp)
   cases hu
   exact⟨_,_,rfl,hI,b1⟩
  ·have hp:0<l.length:=List.length_pos_iff.2 h0
   have hc1:∀ j,j<l.length→(w.alloc (.cells #[.int .i64 n] 2)).cell? ⟨b,off+j,none⟩=some (.int .i64 (l.getD j 0)):=fun j hj=>(bcell b1 _ _ hlt).trans (hc j hj)
   go_enter Tryz.func39,Tryz.ntmps39
   go_wp2_with (at_builtin;refine wpList_intsX rfl _ _ rfl w.heap.size _ [n] rfl R1 b off l _ rfl hc1 hp (by simp;omega) (by have:=b1.size;omega) ?_;intro v2 w2 hR2 hg2)
   obtain⟨u,c',rfl,hI⟩:=hR2.ints (by simp;omega)
   go_wp2_with fail
   go_ret
   refine⟨u,c',rfl,hI,b1.grown hg2 (by have:=b1.size;omega) (fun k hk=>?_)⟩
   cases hk
   exact Nat.le_refl _
theorem termNsI(d:TermD)(w:World) :
  Calls Tryz.prog 75 #[.agg #[.int .i64 d.kind,.int .i64 d.a,.int .i64 d.x,.int .i64 d.y]] w fun e w'=>∃ v r,e=.returned (.slice v (termNs d).length r)∧OwnAt w' w.heap.size v (termNs d)∧Below w.heap.size w w':=by
 obtain⟨k,a,x,y⟩:=d
 dsimp only
 by_cases h1:k=1
 ·subst h1
  have E:termNs ⟨1,a,x,y⟩=[a]:=by simp[termNs]
  rw[E]
  go_enter Tryz.func75,Tryz.ntmps75
  go_wp2_with fail
  go_ret
  exact⟨_,_,rfl,own_mk2 rfl (by simp) (one_cells a),((Below.refl _ _).alloc (Nat.le_refl _) _).alloc (by simp) _⟩
 by_cases h2:k=2
 ·subst h2
  have E:termNs ⟨2,a,x,y⟩=[x]:=by simp[termNs]
  rw[E]
  go_enter Tryz.func75,Tryz.ntmps75
  go_wp2_with fail
  go_ret
  exact⟨_,_,rfl,own_mk2 rfl (by simp) (one_cells x),((Below.refl _ _).alloc (Nat.le_refl _) _).alloc (by simp) _⟩
 by_cases h3:k=3
 ·subst h3
  have E:termNs ⟨3,a,x,y⟩=[a,x,y]:=by simp[termNs]
  rw[E]
  go_enter Tryz.func75,Tryz.ntmps75
  go_wp2_with fail
  go_ret
  exact⟨_,_,rfl,own_mk2 rfl (by simp) (three_cells a x y),((Below.refl _ _).alloc (Nat.le_refl _) _).alloc (by simp) _⟩
 have E:termNs ⟨k,a,x,y⟩=[]:=by simp[termNs,h1,h2,h3]
 rw[E]
 have n1:(k==1)=false:=by simpa using h1
 have n2:(k==2)=false:=by simpa using h2
 have n3:(k==3)=false:=by simpa using h3
 go_enter Tryz.func75,Tryz.ntmps75
 go_wp2_with fail
 go_ret
 exact⟨_,_,rfl,⟨by simp,.inl rfl⟩,(Below.refl _ _).alloc (Nat.le_refl _) _⟩
set_option linter.unusedSimpArgs false
def DecIs(b:ByteArray)(n:Int):Prop:=∃ k:Nat,n=k∧k≤9223372036854775807∧b=bs (Lib.decDigits k)
theorem digit_nat{u:Nat}(h:u<10):(UInt8.ofNat (48+u)).toNat=48+u:=by simp[UInt8.toNat_ofNat'];omega
theorem parse_digits:∀ (u:Nat) (r:List UInt8),u≤9223372036854775807→Lib.parseUintM 18446744073709551615 0 (Lib.decDigits u++r)=Lib.parseUintM 18446744073709551615 u r:=by
 intro u
 induction u using Nat.strongRecOn with
 | ind u ih =>
  intro r hu
  rw[Lib.decDigits]
  by_cases h:u<10
  ·rw[dif_pos h]
   show Lib.parseUintM _ 0 (UInt8.ofNat (48+u) :: r)=_
   rw[Lib.parseUintM,digit_nat h,if_pos (by omega),if_neg (by omega),if_neg (by omega)]
   congr 1
   omega
  ·rw[dif_neg h,List.append_assoc,ih (u/10) (by omega) _ (by omega)]
   have hd:u%10<10:=by omega
   show Lib.parseUintM _ (u/10) (UInt8.ofNat (48+u%10) :: r)=_
   rw[Lib.parseUintM,digit_nat hd,if_pos (by omega),if_neg (by omega),if_neg (by omega)]
   congr 1
   omega
theorem digits_cons(u:Nat):∃ c r,Lib.decDigits u=c :: r∧48≤c.toNat∧c.toNat≤57:=by
 induction u using Nat.strongRecOn with
 | ind u ih =>
  rw[Lib.decDigits]
  by_cases h:u<10
  ·rw[dif_pos h]
   exact⟨_,_,rfl,by rw[digit_nat h];omega,by rw[digit_nat h];omega⟩
  ·rw[dif_neg h]
   obtain⟨c,r,e,h1,h2⟩:=ih (u/10) (by omega)
   rw[e]
   exact⟨c,r++_,rfl,h1,h2⟩
theorem digits_all:∀ (u:Nat),∀ c∈Lib.decDigits u,48≤c.toNat∧c.toNat≤57:=by
 intro u
 induction u using Nat.strongRecOn with
 | ind u ih =>
  rw[Lib.decDigits]
  intro c hc
  by_cases h:u<10
  ·rw[dif_pos h] at hc
   rw[List.mem_singleton.1 hc,digit_nat h];omega
  ·rw[dif_neg h] at hc
   rcases List.mem_append.1 hc with hc|hc
   ·exact ih (u/10) (by omega) c hc
   ·rw[List.mem_singleton.1 hc,digit_nat (by omega:u%10<10)];omega
theorem digits_blank(u:Nat):(32:UInt8) ∉ Lib.decDigits u:=fun h=>by
 have:=digits_all u 32 h
 have e:(32:UInt8).toNat=32:=rfl
 omega
theorem dec_parse{b:ByteArray}{n:Int}(h:DecIs b n):Lib.parseIntB 64 b.data.toList=.ok n:=by
 obtain⟨k,rfl,hk,rfl⟩:=h
 show Lib.parseIntB 64 (Lib.decDigits k)=.ok (k:Int)
 have hp:=parse_digits k [] hk
 rw[List.append_nil] at hp
 obtain⟨c,r,e,h1,h2⟩:=digits_cons k
 rw[e] at hp ⊢
 have hm:¬(c.toNat=43∨c.toNat=45):=by omega
 have hn:¬c.toNat=45:=by omega
 unfold Lib.parseIntB
 simp only[if_neg hm]
 have hu:Lib.parseUintB 64 (c :: r)=.ok k:=by
  unfold Lib.parseUintB
  rw[if_neg (by simp)]
  exact hp
 rw[hu]
 simp only[hn,not_false_eq_true,true_and,false_and,if_false]
 rw[if_neg (by omega)]
theorem dec_one{b:ByteArray}{n m:Int}(h:DecIs b n)(k:DecIs b m):n=m:=by
 have h1:=dec_parse h
 rw[dec_parse k] at h1
 cases h1
 rfl
def NumsIs(ws:List ByteArray)(l:List Int):Prop:=ws.length=l.length∧∀ j,j<l.length→DecIs (ws.getD j ⟨#[]⟩) (l.getD j 0)
theorem NumsIs.one{ws:List ByteArray}{l m:List Int}(h:NumsIs ws l)(k:NumsIs ws m):l=m:=by
 have hl:l.length=m.length:=h.1.symm.trans k.1
 refine List.ext_getElem hl fun j h1 h2=>?_
 have:=dec_one (h.2 j h1) (k.2 j h2)
 simpa [List.getD,h1,h2] using this
theorem NumsIs.map{ws:List ByteArray}{l:List Int}(h:NumsIs ws l):ws=l.map fun n=>bs (Lib.itoa n):=by
 refine List.ext_getElem (by simpa using h.1) fun j h1 h2=>?_
 have hj:j<l.length:=by simpa using h2
 obtain⟨k,e1,_,e2⟩:=h.2 j hj
 have e3:ws.getD j ⟨#[]⟩=ws[j]:=by simp[List.getD,h1]
 have e4:l.getD j 0=l[j]:=by simp[List.getD,hj]
 rw[e3] at e2
 rw[e4] at e1
 rw[List.getElem_map,e2,e1,itoa_nat]
theorem nums_is{l:List Int}(h:SmN l):NumsIs (l.map fun n=>bs (Lib.itoa n)) l:=by
 refine⟨by simp,fun j hj=>?_⟩
 have e:(l.map fun n=>bs (Lib.itoa n)).getD j ⟨#[]⟩=bs (Lib.itoa (l.getD j 0)):=by simp[List.getD,hj]
 rw[e]
 obtain⟨k,e1,e2⟩:=h _ (getD_mem 0 l j hj)
 exact⟨k,e1,by omega,by rw[e1,itoa_nat]⟩
theorem nums_join(w:List UInt8):∀ l:List Int,Lib.join (w :: l.map Lib.itoa) [32]=w++numsL l
 | []=>by simp[Lib.join,numsL]
 | n :: l=>by
  rw[List.map_cons,join_more,nums_join (Lib.itoa n) l]
  simp[numsL]
def ReadOk(s:ByteArray)(i:InstD):Prop:=zIn i 60 3=true∧s=instTx i
theorem tx_data(i:InstD):(instTx i).data.toList=Lib.join (opWL.getD i.op.toNat [] :: (instN i).map Lib.itoa) [32]:=by
 rw[nums_join]
 unfold instTx opW
 rw[bs_append]
 rfl
theorem opWL_blank(k:Nat):(32:UInt8) ∉ opWL.getD k []:=by
 rcases Nat.lt_or_ge k 28 with h|h
 ·have:∀ k:Fin 28,(32:UInt8) ∉ opWL.getD k.1 []:=by decide
  exact this ⟨k,h⟩
 ·rw[List.getD,List.getElem?_eq_none (by simpa [opWL] using h)]
  decide
theorem read_pieces{s:ByteArray}{i:InstD}(h:ReadOk s i):pieces s=opW i.op.toNat :: (instN i).map fun n=>bs (Lib.itoa n):=by
 have hF:=instB_inF h.1
 refine pieces_join _ (by simp) (fun x hx=>?_) s ?_
 ·rcases List.mem_cons.1 hx with rfl|hx
  ·exact opWL_blank _
  ·obtain⟨n,hn,rfl⟩:=List.mem_map.1 hx
   obtain⟨k,e,_⟩:=instN_sm hF n hn
   rw[e,itoa_nat]
   exact digits_blank k
 ·rw[h.2,tx_data,List.map_cons,List.map_map]
  rfl
theorem read_nums{s:ByteArray}{i:InstD}{w0:ByteArray}{ws:List ByteArray}(h:ReadOk s i)(hp:pieces s=w0 :: ws):w0=opW i.op.toNat∧NumsIs ws (instN i):=by
 have e:=read_pieces h
 rw[hp] at e
 obtain⟨e1,e2⟩:=List.cons.inj e
 exact⟨e1,by rw[e2];exact nums_is (instN_sm (instB_inF h.1))⟩
theorem read_back{s:ByteArray}{i:InstD}{w0:ByteArray}{ws:List ByteArray}(hp:pieces s=w0 :: ws)(h0:w0=opW i.op.toNat)(hn:NumsIs ws (instN i))(hB:zIn i 60 3=true):ReadOk s i:=by
 refine⟨hB,ba_ext ?_⟩
 rw[tx_data,←join_pieces s.size s (Nat.le_refl _),hp,h0,hn.map,List.map_cons,List.map_map]
 rfl
def opNumL(b:ByteArray):List (List UInt8)→Nat→Int
 | [],_=>0
 | x :: r,k=>if bs x=b then (k:Int) else opNumL b r (k+1)
def opNum(b:ByteArray):Int:=opNumL b opWL 0
theorem opNum_hit{b:ByteArray}{k:Nat}(hk:k<28)(h:opW k=b):opNumL b (opWL.drop k) k=k:=by
 rw[List.drop_eq_getElem_cons (show k<opWL.length from hk),opNumL,if_pos]
 have:opWL.getD k []=opWL[k]'(show k<opWL.length from hk):=by rw[List.getD,List.getElem?_eq_getElem (show k<opWL.length from hk)];rfl
 rw[←this];exact h
theorem opNum_miss{b:ByteArray}{k:Nat}(hk:k<28)(h:¬opW k=b):opNumL b (opWL.drop k) k=opNumL b (opWL.drop (k+1)) (k+1):=by
 rw[List.drop_eq_getElem_cons (show k<opWL.length from hk),opNumL,if_neg]
 have:opWL.getD k []=opWL[k]'(show k<opWL.length from hk):=by rw[List.getD,List.getElem?_eq_getElem (show k<opWL.length from hk)];rfl
 rw[←this];exact h
theorem opNum_word{k:Nat}(h1:1≤k)(h2:k≤27):opNum (opW k)=k:=by
 have:∀ k:Fin 28,opNum (opW k.1)=(k.1:Int):=by decide
 exact this ⟨k,by omega⟩
theorem opNumL_some(b:ByteArray):∀ (n k:Nat),k+n=28→opNumL b (opWL.drop k) k=0∨∃ j:Nat,j<28∧opNumL b (opWL.drop k) k=j∧opW j=b
 | 0,k,h=>by
  have:k=28:=by omega
  subst this
  exact .inl rfl
 | n+1,k,h=>by
  by_cases hw:opW k=b
  ·exact .inr ⟨k,by omega,opNum_hit (by omega) hw,hw⟩
  ·rw[opNum_miss (by omega) hw]
   exact opNumL_some b n (k+1) (by omega)
theorem opNum_some(b:ByteArray):opNum b=0∨∃ j:Nat,j<28∧opNum b=j∧opW j=b:=opNumL_some b 28 0 rfl
end Go.Proofs.YtkpmiikafconmaaGreatDoor
