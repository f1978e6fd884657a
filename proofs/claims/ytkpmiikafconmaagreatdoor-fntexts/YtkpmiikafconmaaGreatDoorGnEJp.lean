import Derived.Test.YtkpmiikafconmaaGreatDoorGnCJp
namespace Go.Proofs.YtkpmiikafconmaaGreatDoor
open Go.RowKit Go.Deep
set_option maxHeartbeats 2000000
set_option maxRecDepth 100000
set_option linter.unusedVariables false
theorem infoN:(Tryz.prog.info? 95).map (fun i=>(i.zero,i.size,i.bytes))=some (some (.agg #[.int .i64 0,.int .i64 0,.int .i64 0,.int .i64 0,.int .i64 0,.int .i64 0,.slice none 0 0]),7,72):=by kernel_rfl
theorem seven_of{w:World}{L:Nat}{x0 x1 x2 x3 x4 x5 x6:Value}{T:TypeId}(hL:w.heap[L]?=some (.cells #[x0,x1,x2,x3,x4,x5,x6] T (0,0))):∀ j u,[x0,x1,x2,x3,x4,x5,x6][j]?=some u→w.cell? ((⟨L,0,none⟩:Addr).add j)=some u:=fun j u hj=>by
 rw[Addr.add_lit,zcH hL,Nat.zero_add,←hj]
 rcases j with _|_|_|_|_|_|_|j<;>rfl
theorem heap_next_drew(w:World)(o p:Obj):((w.alloc o).drew.alloc p).heap[w.heap.size+1]?=some p:=by
 have h:=zhL (w.alloc o).drew p
 have e:(w.alloc o).drew.heap.size=w.heap.size+1:=by
  show (w.alloc o).heap.size=_
  simp
 rw[e] at h
 exact h
theorem RowT.form{base n:Nat}{M:Tmap}{T:TypeId}{s:Value}{v:World}(h:RowT base M T s (n+1) v):∃ g c,s=.slice (some ⟨g,0,none⟩) (n+1) c:=by
 rcases h with⟨_,h0⟩|⟨g,c,cur,hv,_⟩
 ·omega
 ·exact⟨g,c,hv⟩
theorem el_inst{M:Tmap}{N:Nat}{op iw a b c imm:Int}{s:Value}(h:SlV M N 2 s):∀ M',Ext M M'→ElOk M' (N+1) 95 (fun j=>[.int .i64 op,.int .i64 iw,.int .i64 a,.int .i64 b,.int .i64 c,.int .i64 imm,s][j]?):=fun M' he=>by
 refine⟨fun q=>absurd q (by decide),fun q=>absurd q (by decide),fun q=>absurd q (by decide),fun _=>⟨fun j hj=>?_,s,rfl,h.ext he (by omega)⟩,fun q=>absurd q (by decide)⟩
 match j,hj with
 | 0,_=>exact⟨_,rfl⟩
 | 1,_=>exact⟨_,rfl⟩
 | 2,_=>exact⟨_,rfl⟩
 | 3,_=>exact⟨_,rfl⟩
 | 4,_=>exact⟨_,rfl⟩
 | 5,_=>exact⟨_,rfl⟩
theorem Gok.setNext{base g G len cap N:Nat}{a0:Option Addr}{M:Tmap}{S:GRec}{v:World}(h:Gok base g G a0 len cap M N S v)(hN:N<10000):Gok base g G a0 len cap M (N+1) { S with nx:=S.nx+1 } (v.setCell ⟨G,10,none⟩ (.int .i64 (S.nx+1)))∧Mov g G M M v (v.setCell ⟨G,10,none⟩ (.int .i64 (S.nx+1))) :=
 h.grew (by omega) (fun b hb hn=>Below.heap_setCell _ _ _ _ hn) (by simp[World.setCell]) rfl rfl rfl (fun _ _=>rfl) (fun b T m hb hm=>by rw[h.th.none hb] at hm;cases hm) ((zhS h.cells).trans rfl) ⟨rfl,rfl,rfl,rfl,rfl,rfl,rfl,rfl,rfl,rfl,rfl⟩ h.ids (by have:=h.bn;dsimp only;omega)
theorem put_any(base g G:Nat)(a0:Option Addr)(len cap:Nat)(M:Tmap)(N:Nat)(S:GRec)(op iw a b c imm:Int)(u:Option Addr)(na q:Nat)(v:World)(h:Gok base g G a0 len cap M N S v)(hN:N+2≤10000)(hav:SlN M 2 (.slice u na q) na)(hna:na≤N) :
  Calls Tryz.prog 128 #[.pointer (some ⟨G,0,none⟩),.agg #[.int .i64 op,.int .i64 iw,.int .i64 a,.int .i64 b,.int .i64 c,.int .i64 imm,.slice u na q]] v fun e v'=>∃ n:Int,e=.returned (.int .i64 n)∧∃ M' S',Gok base g G a0 len cap M' (N+2) S' v'∧Same S S'∧S'.ni=S.ni+1∧Mov g G M M' v v':=by
 obtain⟨i0,hi,hz0,hz1,hz2⟩:=info_parts infoN
 have hbn:=h.bn
 have hGl:=(Array.getElem?_eq_some_iff.1 h.cells).1
 have B1:Below v.heap.size v (v.alloc (.cells #[.int .i64 op,.int .i64 iw,.int .i64 a,.int .i64 b,.int .i64 c,.int .i64 imm,.slice u na q] 95)):=(Below.refl _ _).alloc (Nat.le_refl _) _
 have B2:Below v.heap.size v ((v.alloc (.cells #[.int .i64 op,.int .i64 iw,.int .i64 a,.int .i64 b,.int .i64 c,.int .i64 imm,.slice u na q] 95)).drew.alloc (.cells #[.int .i64 op,.int .i64 iw,.int .i64 a,.int .i64 b,.int .i64 c,.int .i64 imm,.slice u na q] 95)):=B1.drew.alloc B1.size _
 have HH:Hid (Gok base g G a0 len cap M N S ((v.alloc (.cells #[.int .i64 op,.int .i64 iw,.int .i64 a,.int .i64 b,.int .i64 c,.int .i64 imm,.slice u na q] 95)).drew.alloc (.cells #[.int .i64 op,.int .i64 iw,.int .i64 a,.int .i64 b,.int .i64 c,.int .i64 imm,.slice u na q] 95))∧Mov g G M M v ((v.alloc (.cells #[.int .i64 op,.int .i64 iw,.int .i64 a,.int .i64 b,.int .i64 c,.int .i64 imm,.slice u na q] 95)).drew.alloc (.cells #[.int .i64 op,.int .i64 iw,.int .i64 a,.int .i64 b,.int .i64 c,.int .i64 imm,.slice u na q] 95))):=h.below B2
 have LAW:Hid (∀ ty,∃ s' w' M',(Builtin.append_ #[70,70] ty #[S.iv,.slice (some ⟨v.heap.size+1,0,none⟩) 1 1]).run Tryz.prog ((v.alloc (.cells #[.int .i64 op,.int .i64 iw,.int .i64 a,.int .i64 b,.int .i64 c,.int .i64 imm,.slice u na q] 95)).drew.alloc (.cells #[.int .i64 op,.int .i64 iw,.int .i64 a,.int .i64 b,.int .i64 c,.int .i64 imm,.slice u na q] 95))=.ok s' w'∧Pushed base M M' (N+1) 95 S.ni ((v.alloc (.cells #[.int .i64 op,.int .i64 iw,.int .i64 a,.int .i64 b,.int .i64 c,.int .i64 imm,.slice u na q] 95)).drew.alloc (.cells #[.int .i64 op,.int .i64 iw,.int .i64 a,.int .i64 b,.int .i64 c,.int .i64 imm,.slice u na q] 95)) w' s'):=fun ty =>
  run_row i0 _ 72 Tryz.underlying70 hi hz0 hz1 hz2 (by decide) (by omega) HH.out.1.i HH.out.1.th (by omega) (.inr (.inr (.inr (.inl rfl)))) HH.out.1.bv (by omega) ⟨v.heap.size+1,0,none⟩ 1 [.int .i64 op,.int .i64 iw,.int .i64 a,.int .i64 b,.int .i64 c,.int .i64 imm,.slice u na q] rfl (seven_of (heap_next_drew v _ _)) (by simp[Value.oneCell']) (el_inst ⟨na,hna,hav⟩)
 have c5:v.cell? ⟨G,5,none⟩=some S.iv:=(zgc h.cells 5).1.trans rfl
 have x1:(v.alloc (.cells #[.int .i64 op,.int .i64 iw,.int .i64 a,.int .i64 b,.int .i64 c,.int .i64 imm,.slice u na q] 95)).cell? ⟨G,5,none⟩=some S.iv:=(zcB (B1.block G hGl)).trans c5
 have x2:=(zcB (o:=5) (B2.block G hGl)).trans c5
 clear hi hz0 hz1 hz2 c5
 go_enter Tryz.func128,Tryz.ntmps128
 go_wp2_with fail
 go_cut [4] (fun s4 wx=>s4=.int .i64 0∧∃ w2 s' M',Pushed base M M' (N+1) 95 S.ni ((v.alloc (.cells #[.int .i64 op,.int .i64 iw,.int .i64 a,.int .i64 b,.int .i64 c,.int .i64 imm,.slice u na q] 95)).drew.alloc (.cells #[.int .i64 op,.int .i64 iw,.int .i64 a,.int .i64 b,.int .i64 c,.int .i64 imm,.slice u na q] 95)) w2 s'∧wx=w2.setCell ⟨G,5,none⟩ s')
 case first =>
  go_region_law (refine step_row rfl (.tmp 11) (.tmp 13) 70 rfl rfl rfl LAW.out ?_;intro s' w2 M' hP;obtain⟨gs,qs,rfl⟩:=hP.row.form;have y0:=(hP.out G (by exact Nat.lt_of_lt_of_le hGl B2.size) h.mG).1.trans ((B2.block G hGl).trans h.cells);have y5:w2.cell? ⟨G,5,none⟩=some S.iv:=(zgc y0 5).1.trans rfl;have z5:=(zgc y0 5).2;clear y0)
  all_goals
   go_wp2_with fail
   go_meet
   case rel=>exact⟨rfl,w2,_,M',hP,rfl⟩
 case rest =>
  obtain⟨rfl,w2,s',M',hP,rfl⟩:=hcut
  obtain⟨H1,V1⟩:=HH.out
  obtain⟨H2,V2⟩:=H1.pushI (by omega) hP
  have hbox:(w2.setCell ⟨G,5,none⟩ s').heap[v.heap.size]?=some (.cells #[.int .i64 op,.int .i64 iw,.int .i64 a,.int .i64 b,.int .i64 c,.int .i64 imm,.slice u na q] 95 (0,0)):=(V2.out v.heap.size (by show v.heap.size<((v.alloc _).heap.push _).size;simp;omega) (by have:=h.gb;have:=h.bv;omega) (by omega) (h.th.none (Nat.le_refl _))).1.trans ((Below.heap_alloc (v.alloc (.cells #[.int .i64 op,.int .i64 iw,.int .i64 a,.int .i64 b,.int .i64 c,.int .i64 imm,.slice u na q] 95)).drew _ _ (by show v.heap.size<(v.alloc _).heap.size;simp)).trans (zhL v _))
  have W:=fun w=>instS_any ⟨op,iw,a,b,c,imm,List.replicate na 0⟩ u q w
  simp only[List.length_replicate] at W
  generalize instW ⟨op,iw,a,b,c,imm,List.replicate na 0⟩=rw at W
  generalize w2.setCell ⟨G,5,none⟩ s'=wx at H2 V2 hbox ⊢
  have k0:wx.cell? ⟨v.heap.size,0,none⟩=some (.int .i64 op):=(zcH hbox).trans rfl
  have k1:wx.cell? ⟨v.heap.size,1,none⟩=some (.int .i64 iw):=(zcH hbox).trans rfl
  have k2:wx.cell? ⟨v.heap.size,2,none⟩=some (.int .i64 a):=(zcH hbox).trans rfl
  have k3:wx.cell? ⟨v.heap.size,3,none⟩=some (.int .i64 b):=(zcH hbox).trans rfl
  have k4:wx.cell? ⟨v.heap.size,4,none⟩=some (.int .i64 c):=(zcH hbox).trans rfl
  have k5:wx.cell? ⟨v.heap.size,5,none⟩=some (.int .i64 imm):=(zcH hbox).trans rfl
  have k6:wx.cell? ⟨v.heap.size,6,none⟩=some (.slice u na q):=(zcH hbox).trans rfl
  clear hbox x1 x2 LAW hP
  go_wp2_with fail
  refine (W _).mono ?_
  rintro e w3 ⟨rfl,hb3⟩
  obtain⟨H3,V3⟩:=H2.below hb3
  have V13:=V1.trans (V2.trans V3)
  clear k0 k1 k2 k3 k4 k5 k6 H1 H2 V1 V2 V3 W HH hb3
  by_cases hw:rw=0
  ·have m10:w3.cell? ⟨G,10,none⟩=some (.int .i64 S.nx):=(zgc H3.cells 10).1.trans rfl
   have n10:=(zgc H3.cells 10).2
   obtain⟨H4,V4⟩:=H3.setNext (by omega)
   have b1:=H3.bn
   go_wp2_with fail
   go_ret
   exact⟨_,rfl,_,_,H4.mono (by omega) hN,⟨rfl,rfl,rfl,rfl,rfl,rfl,rfl,rfl,rfl,rfl⟩,rfl,V13.trans V4⟩
  ·go_wp2_with (go_at_call 94;refine (add_any base g G a0 len cap _ _ _ _ _ H3 (by omega)).mono ?_;rintro e w4 ⟨n,rfl,M4,S4,H4,hS4,V4⟩)
   go_ret
   refine⟨n,rfl,M4,S4,H4,?_,?_,V13.trans V4⟩
   ·rw[hS4];exact⟨rfl,rfl,rfl,rfl,rfl,rfl,rfl,rfl,rfl,rfl⟩
   ·rw[hS4]
end Go.Proofs.YtkpmiikafconmaaGreatDoor
