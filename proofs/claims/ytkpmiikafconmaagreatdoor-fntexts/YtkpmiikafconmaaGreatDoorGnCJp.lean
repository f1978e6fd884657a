import Derived.Test.YtkpmiikafconmaaGreatDoorGnBJp
import Derived.Test.YtkpmiikafconmaaGreatDoorKndJp
namespace Go.Proofs.YtkpmiikafconmaaGreatDoor
open Go.RowKit Go.Deep
set_option maxHeartbeats 2000000
set_option maxRecDepth 100000
set_option linter.unusedVariables false
theorem wpList_same{w:World}{ops:Array Oper}{rest:List Oper}{o:Oper}{a:Act}{Q:Exit→Act→World→Prop}(hgd:o.guard=none)(s x:Operand)(t:TypeId)(ho:o.op=.call { callee:=.builtin .append,args:=#[s,x],argTypes:=#[t,t] })
  {sv xv:Value} (hs:a.eval s=sv) (hx:a.eval x=xv) (hr:∀ ty,(Builtin.append_ #[t,t] ty #[sv,xv]).run Tryz.prog w=.ok sv w) (h:wpList Tryz.prog ops Q rest (a.put o.dst sv) w):wpList Tryz.prog ops Q (o :: rest) a w :=
 wpList_plain hgd fun _ hK=>by
  have hr:=hr o.type
  unfold Oper.wp execOp
  simp only[ho,resolve,invoke,builtin,Sem.run_bind,Sem.run_pure,Result.andThen_ok,List.map_toArray,List.map_cons,List.map_nil,hs,hx,hr]
  exact hK _ _ h
theorem add_none(base g G:Nat)(a0:Option Addr)(len cap:Nat)(M:Tmap)(N:Nat)(S:GRec)(x:Int)(v:World)(h:Gok base g G a0 len cap M N S v)(hNN:N<10000)(eI:S.idv=.slice none 0 0)(eW:S.wsv=.slice none 0 0)(hnid:S.nid=0) :
  Calls Tryz.prog 94 #[.pointer (some ⟨G,0,none⟩),.int .i64 x] v fun e v'=>∃ n:Int,e=.returned (.int .i64 n)∧∃ M' S',Gok base g G a0 len cap M' (N+1) S' v'∧S'={ S with idv:=S'.idv,wsv:=S'.wsv,nid:=S.nid+1,nx:=S.nx+1 }∧Mov g G M M' v v':=by
 obtain⟨i0,hi,hz0,hz1,hz2⟩:=info_parts infoI
 have HI:Hid (Tryz.prog.info? 2=some i0):=hi
 have HZ0:Hid (i0.zero=some (.int .i64 0)):=hz0
 have HZ1:Hid (i0.size=1):=hz1
 have HZ2:Hid (i0.bytes=8):=hz2
 clear hi hz0 hz1 hz2
 have hbn:=h.bn
 have hGl:=(Array.getElem?_eq_some_iff.1 h.cells).1
 have c10:v.cell? ⟨G,10,none⟩=some (.int .i64 S.nx):=(zgc h.cells 10).1.trans rfl
 have c11:v.cell? ⟨G,11,none⟩=some (.slice none 0 0):=(zgc h.cells 11).1.trans (by rw[←eI];rfl)
 have d10:v.drew.cell? ⟨G,10,none⟩=some (.int .i64 S.nx):=c10
 have d11:v.drew.cell? ⟨G,11,none⟩=some (.slice none 0 0):=c11
 have c12:v.cell? ⟨G,12,none⟩=some (.slice none 0 0):=(zgc h.cells 12).1.trans (by rw[←eW];rfl)
 have f10:=(zgc h.cells 10).2
 have f12:=(zgc h.cells 12).2
 have hB0:Below v.heap.size v v.drew:=(Below.refl _ _).drew
 have b1:Below v.heap.size v (v.drew.alloc (.cells #[] 2)):=hB0.alloc (Nat.le_refl _) _
 have b2:Below v.heap.size v ((v.drew.alloc (.cells #[] 2)).alloc (.cells #[.int .i64 S.nx] 2)):=b1.alloc b1.size _
 have b3:Below v.heap.size v (v.drew.alloc (.cells #[.int .i64 S.nx] 2)):=hB0.alloc (Nat.le_refl _) _
 have b4:Below v.heap.size v ((v.drew.alloc (.cells #[.int .i64 S.nx] 2)).alloc (.cells #[] 2)):=b3.alloc b3.size _
 have l1:=zhL v.drew (.cells #[] 2)
 have l2:=(Below.heap_alloc (v.drew.alloc (.cells #[] 2)) (.cells #[.int .i64 S.nx] 2) v.heap.size (by simp)).trans l1
 have q2:=heap_next v.drew (.cells #[] 2) (.cells #[.int .i64 S.nx] 2)
 have l4:=heap_next v.drew (.cells #[.int .i64 S.nx] 2) (.cells #[] 2)
 have q4:=(Below.heap_alloc (v.drew.alloc (.cells #[.int .i64 S.nx] 2)) (.cells #[] 2) v.heap.size (by simp)).trans (zhL v.drew (.cells #[.int .i64 S.nx] 2))
 have f11:=(zgc h.cells 11).2
 have x1:=(zcB (o:=11) (b1.block G hGl)).trans c11
 have x2:=(zcB (o:=11) (b2.block G hGl)).trans c11
 have x3:=(zcB (o:=11) (b3.block G hGl)).trans c11
 have x4:=(zcB (o:=11) (b4.block G hGl)).trans c11
 have y1:=(zcB (o:=10) (b1.block G hGl)).trans c10
 have y2:=(zcB (o:=10) (b2.block G hGl)).trans c10
 have y3:=(zcB (o:=10) (b3.block G hGl)).trans c10
 have y4:=(zcB (o:=10) (b4.block G hGl)).trans c10
 go_enter Tryz.func94,Tryz.ntmps94
 go_wp2_with fail
 go_cut [4] (fun s4 wx=>s4=.int .i64 0∧∃ w2 s2,Fresh v w2 s2 (0+1)∧wx=w2.setCell ⟨G,11,none⟩ s2)
 case first =>
  go_region_law (first|(refine step_same rfl (.tmp 6) (.tmp 10) 41 rfl rfl rfl (fun ty=>append_none _ (.inr ⟨_,rfl⟩) 0 _ i0 Tryz.underlying41 HI.out) ?_)|(refine step_append_lies _ rfl (.tmp 11) (.tmp 16) 41 rfl v.heap.size 2 i0 (.int .i64 0) 1 8 Tryz.underlying41 HI.out HZ0.out HZ1.out HZ2.out rfl (by decide) (.slice (some ⟨v.heap.size,0,none⟩) 0 0) 0 [] rfl (by exact lit_own l2 (by omega)) ⟨v.heap.size+1,0,none⟩ 1 1 [.int .i64 S.nx] rfl (by simp) (by exact one_of q2) (by simp[Value.oneCell']) (by omega) (by unfold maxLen;omega) (by omega) (by exact b2.size) _ rfl ?_;intro g2 cap2 w2 hown2 hgrow2 hat2 hlt2;simp only[Nat.zero_add,List.nil_append] at hown2 ⊢;have B2:Below v.heap.size v w2:=bel_grown b2 hgrow2 (by exact Nat.le_refl _);have n10:=(zcB (B2.block G hGl)).trans c10;have n11:=(zcB (B2.block G hGl)).trans c11;have n11f:=(frozen_block (B2.block G hGl)).trans f11)|(refine step_append_lies _ rfl (.tmp 11) (.tmp 16) 41 rfl v.heap.size 2 i0 (.int .i64 0) 1 8 Tryz.underlying41 HI.out HZ0.out HZ1.out HZ2.out rfl (by decide) (.slice (some ⟨v.heap.size+1,0,none⟩) 0 0) 0 [] rfl (by exact lit_own l4 (by omega)) ⟨v.heap.size,0,none⟩ 1 1 [.int .i64 S.nx] rfl (by simp) (by exact one_of q4) (by simp[Value.oneCell']) (by omega) (by unfold maxLen;omega) (by omega) (by exact b4.size) _ rfl ?_;intro g2 cap2 w2 hown2 hgrow2 hat2 hlt2;simp only[Nat.zero_add,List.nil_append] at hown2 ⊢;have B2:Below v.heap.size v w2:=bel_grown b4 hgrow2 (by show v.heap.size≤v.heap.size+1;omega);have n10:=(zcB (B2.block G hGl)).trans c10;have n11:=(zcB (B2.block G hGl)).trans c11;have n11f:=(frozen_block (B2.block G hGl)).trans f11))
  all_goals
   go_wp2_with fail
   go_meet
   case rel=>exact⟨rfl,w2,_,fresh_of (zs:=[]) B2 (by simpa using hown2) rfl,rfl⟩
 case rest =>
  obtain⟨rfl,w2,s2,hF,rfl⟩:=hcut
  clear x1 x2 x3 x4 y1 y2 y3 y4 b1 b2 b3 b4 l1 l2 l4 q2 q4 d10 d11 hB0
  have hB2:=hF.below
  have hz2:v.heap.size≤(w2.setCell ⟨G,11,none⟩ s2).heap.size:=by have:=hB2.size;simpa [World.setCell] using this
  have e10:(w2.setCell ⟨G,11,none⟩ s2).cell? ⟨G,10,none⟩=some (.int .i64 S.nx):=cell_off ((zcB (hB2.block G hGl)).trans c10) (by decide)
  have e12:(w2.setCell ⟨G,11,none⟩ s2).cell? ⟨G,12,none⟩=some (.slice none 0 0):=cell_off ((zcB (hB2.block G hGl)).trans c12) (by decide)
  have g10:(w2.setCell ⟨G,11,none⟩ s2).frozen? ⟨G,10,none⟩=false:=(frozen_set (frozen_block (hB2.block G hGl))).trans f10
  have g12:(w2.setCell ⟨G,11,none⟩ s2).frozen? ⟨G,12,none⟩=false:=(frozen_set (frozen_block (hB2.block G hGl))).trans f12
  have HG:Hid ((w2.setCell ⟨G,11,none⟩ s2).heap[G]?=some (.cells (gcells g { S with idv:=s2 }) 141 (0,0))):=(zhS ((hB2.block G hGl).trans h.cells)).trans rfl
  have HO:Hid (∀ b,b<v.heap.size→b≠G→(w2.setCell ⟨G,11,none⟩ s2).heap[b]?=v.heap[b]?):=fun b hb hn=>(Below.heap_setCell _ _ _ _ hn).trans (hB2.block b hb)
  generalize hwx:w2.setCell ⟨G,11,none⟩ s2=wx at hz2 e10 e12 g10 g12 HG HO ⊢
  have HF:Hid (Fresh v w2 s2 (0+1)):=hF
  have HX:Hid (w2.setCell ⟨G,11,none⟩ s2=wx):=hwx
  have hGx:G<wx.heap.size:=Nat.lt_of_lt_of_le hGl hz2
  have hBx:Below v.heap.size wx wx:=Below.refl _ _
  have hAx:Below v.heap.size wx (wx.alloc (.cells #[] 2)):=hBx.alloc hz2 _
  clear hF hwx hB2
  go_wp2_with (first|(at_builtin;refine wpList_same rfl (.tmp 21) (.tmp 25) 41 rfl rfl rfl (fun ty=>append_none _ (.inr ⟨_,rfl⟩) 0 _ i0 Tryz.underlying41 HI.out) ?_)|(at_builtin;refine wpList_append_lies _ rfl (.tmp 26) (.tmp 28) 41 rfl wx.heap.size 2 i0 (.int .i64 0) 1 8 Tryz.underlying41 HI.out HZ0.out HZ1.out HZ2.out rfl (by decide) (.slice (some ⟨wx.heap.size,0,none⟩) 0 0) 0 [] rfl (lit_own ((Below.heap_alloc _ _ _ (by simp)).trans (zhL wx _)) (Nat.le_refl _)) ⟨wx.heap.size+1,0,none⟩ 1 1 [.int .i64 x] rfl (by simp) (one_of (heap_next wx _ _)) (by simp[Value.oneCell']) (by omega) (by unfold maxLen;omega) (by omega) (by simp;omega) _ rfl ?_;intro g4 cap4 w4 hown4 hgrow4 hat4 hlt4;simp only[Nat.zero_add,List.nil_append] at hown4 ⊢;have B4:Below wx.heap.size wx w4:=bel_grown (((Below.refl _ wx).alloc (Nat.le_refl _) _).alloc (by simp) _) hgrow4 (by exact Nat.le_refl _);have m10:=(zcB (B4.block G hGx)).trans e10;have m12:=(zcB (B4.block G hGx)).trans e12;have r10:=(frozen_block (B4.block G hGx)).trans g10;have r12:=(frozen_block (B4.block G hGx)).trans g12))
  go_ret
  have hF:=HF.out
  obtain⟨g2',cap2',cur2,e2',hg2',hc2',hi2'⟩:=hF.new
  obtain⟨_,g4',cap4',cur4,e4',hg4',hc4',hi4'⟩:=fresh_of (zs:=[]) B4 (by simpa using hown4) rfl
  cases e4'
  have hx2:wx.heap.size=w2.heap.size:=by rw[←HX.out];simp[World.setCell]
  have hg2l:g2'<wx.heap.size:=by rw[hx2];exact (Array.getElem?_eq_some_iff.1 hc2').1
  have hg2G:g2'≠G:=by omega
  have hc2x:wx.heap[g2']?=some (.cells cur2 2 (0,0)):=by rw[←HX.out];exact (Below.heap_setCell _ _ _ _ hg2G).trans hc2'
  have hg4G:g4≠G:=by omega
  have hd:∀ b,b≠G→((w4.setCell ⟨G,12,none⟩ (.slice (some ⟨g4,0,none⟩) 1 cap4)).setCell ⟨G,10,none⟩ (.int .i64 (S.nx+1))).heap[b]?=w4.heap[b]?:=fun b hb=>(Below.heap_setCell _ _ _ _ hb).trans (Below.heap_setCell _ _ _ _ hb)
  have hgr:=h.grew (N':=N+1) (M':=put (put M g2' 2 1) g4 2 1) (S':={ S with idv:=s2,wsv:=.slice (some ⟨g4,0,none⟩) 1 cap4,nid:=S.nid+1,nx:=S.nx+1 }) (v':=(w4.setCell ⟨G,12,none⟩ (.slice (some ⟨g4,0,none⟩) 1 cap4)).setCell ⟨G,10,none⟩ (.int .i64 (S.nx+1))) (by omega)
   (fun b hb hn=>(hd b hn).trans ((B4.block b (by omega)).trans (HO.out b hb hn))) (by have:=B4.size;simp[World.setCell];omega) ?_ ?_ ?_ ?_ ?_ ?_ ⟨rfl,rfl,rfl,rfl,rfl,rfl,rfl,rfl,rfl,rfl,rfl⟩ ?_ (by dsimp only;omega)
  ·exact⟨_,rfl,_,_,hgr.1,rfl,hgr.2⟩
  ·exact B4.os.trans (by rw[←HX.out];exact hF.below.os)
  ·exact B4.tape.trans (by rw[←HX.out];exact hF.below.tape)
  ·exact B4.output.trans (by rw[←HX.out];exact hF.below.output)
  ·intro b hb
   unfold put
   rw[if_neg (by omega),if_neg (by omega)]
  ·intro b T m hb hbm
   unfold put at hbm
   by_cases q:b=g4
   ·subst q
    rw[if_pos rfl] at hbm
    cases hbm
    exact⟨rfl,cur4,(hd _ hg4G).trans hc4',hi4'⟩
   ·rw[if_neg q] at hbm
    by_cases q2:b=g2'
    ·subst q2
     rw[if_pos rfl] at hbm
     cases hbm
     exact⟨rfl,cur2,(hd _ hg2G).trans ((B4.block _ hg2l).trans hc2x),hi2'⟩
    ·rw[if_neg q2] at hbm
     rw[h.th.none hb] at hbm;cases hbm
  ·exact (zhS (zhS ((B4.block G hGx).trans HG.out))).trans rfl
  ·refine .inr ⟨by dsimp only;omega,by dsimp only;rw[hnid];exact⟨_,cap2',e2',.inr ⟨g2',1,rfl,by simp[put,show g2'≠g4 by omega],Nat.le_refl _⟩⟩,by dsimp only;rw[hnid];exact⟨_,cap4,rfl,.inr ⟨g4,1,rfl,by simp[put],Nat.le_refl _⟩⟩⟩
def Same(S S':GRec):Prop:=S'.pv=S.pv∧S'.np=S.np∧S'.bv=S.bv∧S'.nb=S.nb∧S'.phv=S.phv∧S'.nph=S.nph∧S'.rv=S.rv∧S'.nr=S.nr∧S'.sv=S.sv∧S'.ret=S.ret
theorem Same.refl(S:GRec):Same S S:=⟨rfl,rfl,rfl,rfl,rfl,rfl,rfl,rfl,rfl,rfl⟩
theorem Same.trans{A B C:GRec}(h:Same A B)(k:Same B C):Same A C :=
 ⟨k.1.trans h.1,k.2.1.trans h.2.1,k.2.2.1.trans h.2.2.1,k.2.2.2.1.trans h.2.2.2.1,k.2.2.2.2.1.trans h.2.2.2.2.1,k.2.2.2.2.2.1.trans h.2.2.2.2.2.1,k.2.2.2.2.2.2.1.trans h.2.2.2.2.2.2.1,k.2.2.2.2.2.2.2.1.trans h.2.2.2.2.2.2.2.1,k.2.2.2.2.2.2.2.2.1.trans h.2.2.2.2.2.2.2.2.1,k.2.2.2.2.2.2.2.2.2.trans h.2.2.2.2.2.2.2.2.2⟩
theorem Gok.mono{base g G len cap N N':Nat}{a0:Option Addr}{M:Tmap}{S:GRec}{v:World}(h:Gok base g G a0 len cap M N S v)(hN:N≤N')(hm:N'≤10000):Gok base g G a0 len cap M N' S v :=
 ⟨h.rd,h.gb,h.bv,h.mG,h.nG,h.cells,h.th.keep hN fun _ _=>rfl,h.p,h.b,h.ph,h.i,h.ids,h.rets,h.pars,by have:=h.bn;omega⟩
theorem Gok.below{base g G len cap N:Nat}{a0:Option Addr}{M:Tmap}{S:GRec}{v v':World}(h:Gok base g G a0 len cap M N S v)(k:Below v.heap.size v v'):Gok base g G a0 len cap M N S v'∧Mov g G M M v v':=by
 have hG:=(Array.getElem?_eq_some_iff.1 h.cells).1
 have hk:∀ b,(∃ p,M b=some p)→v'.heap[b]?=v.heap[b]?:=fun b hb=>k.block b (h.th.lt hb).2
 exact⟨⟨rd_keep h.rd k.size fun b hb=>k.block b (by have:=h.rd.lt;omega),h.gb,Nat.le_trans h.bv k.size,h.mG,h.nG,(k.block G hG).trans h.cells,h.th.keep (Nat.le_refl _) hk,h.p.keep hk,h.b.keep hk,h.ph.keep hk,h.i.keep hk,h.ids,h.rets,h.pars,h.bn⟩,⟨Ext.refl _,fun b hb _ _ h3=>⟨k.block b hb,h3⟩,fun b T m hb _=>⟨hk b ⟨_,hb⟩,hb⟩,k.os,k.tape,k.output,k.size⟩⟩
theorem Gok.pushI{base g G len cap N:Nat}{a0:Option Addr}{M M':Tmap}{S:GRec}{v w2:World}{s':Value}(h:Gok base g G a0 len cap M N S v)(hN:N<10000)(k:Pushed base M M' (N+1) 95 S.ni v w2 s') :
  Gok base g G a0 len cap M' (N+1) { S with iv:=s',ni:=S.ni+1 } (w2.setCell ⟨G,5,none⟩ s')∧Mov g G M M' v (w2.setCell ⟨G,5,none⟩ s'):=by
 have hGl:=(Array.getElem?_eq_some_iff.1 h.cells).1
 obtain⟨o1,o2⟩:=k.out G hGl h.mG
 have hbn:=h.bn
 have hset:∀ b,b≠G→(w2.setCell ⟨G,5,none⟩ s').heap[b]?=w2.heap[b]?:=fun b hb=>Below.heap_setCell _ _ _ _ hb
 have hne:∀ b,(∃ p,M' b=some p)→b≠G:=fun b hb e=>by
  obtain⟨p,hb⟩:=hb
  rw[e,o2] at hb;cases hb
 have hk:∀ b,(∃ p,M' b=some p)→(w2.setCell ⟨G,5,none⟩ s').heap[b]?=w2.heap[b]?:=fun b hb=>hset b (hne b hb)
 have hsz:(w2.setCell ⟨G,5,none⟩ s').heap.size=w2.heap.size:=by simp[World.setCell]
 refine⟨⟨rd_keep h.rd (by rw[hsz];exact k.size) fun b hb=>?_,h.gb,by rw[hsz];exact Nat.le_trans h.bv k.size,o2,h.nG,(zhS (o1.trans h.cells)).trans rfl,k.th.keep (Nat.le_refl _) hk,(k.row2 h.p (by decide)).keep hk,(k.row2 h.b (by decide)).keep hk,(k.row2 h.ph (by decide)).keep hk,k.row.keep hk,?_,h.rets.ext k.ext,h.pars.ext k.ext,by dsimp only;omega⟩,⟨k.ext,fun b hb h1 h2 h3=>?_,fun b T m hb hT=>?_,k.os,k.tape,k.output,by rw[hsz];exact k.size⟩⟩
 ·have hbg:b<base:=Nat.lt_of_le_of_lt hb h.gb
  have hn:M b=none:=by
   cases e:M b with
   | none=>rfl
   | some p=>have:=(h.th.lt ⟨p,e⟩).1;omega
  exact (hset b (by have:=h.nG;omega)).trans (k.out b (by have:=h.bv;omega) hn).1
 ·rcases h.ids with hi|⟨h1,h2,h3⟩
  ·exact .inl hi
  ·exact .inr ⟨h1,h2.ext k.ext,h3.ext k.ext⟩
 ·obtain⟨e1,e2⟩:=k.out b hb h3
  exact⟨(hset b h2).trans e1,e2⟩
 ·obtain⟨e1,e2⟩:=k.other b T m hb hT
  exact⟨(hset b (fun e=>by rw[e,h.mG] at hb;cases hb)).trans e1,e2⟩
theorem add_any(base g G:Nat)(a0:Option Addr)(len cap:Nat)(M:Tmap)(N:Nat)(S:GRec)(x:Int)(v:World)(h:Gok base g G a0 len cap M N S v)(hN:N<10000) :
  Calls Tryz.prog 94 #[.pointer (some ⟨G,0,none⟩),.int .i64 x] v fun e v'=>∃ n:Int,e=.returned (.int .i64 n)∧∃ M' S',Gok base g G a0 len cap M' (N+1) S' v'∧S'={ S with idv:=S'.idv,wsv:=S'.wsv,nid:=S.nid+1,nx:=S.nx+1 }∧Mov g G M M' v v':=by
 rcases h.ids with⟨e1,e2,e3⟩|⟨h1,h2,h3⟩
 ·exact add_none base g G a0 len cap M N S x v h hN e1 e2 e3
 ·exact add_some base g G a0 len cap M N S x v h hN h1 h2 h3
end Go.Proofs.YtkpmiikafconmaaGreatDoor
