import Derived.Test.YtkpmiikafconmaaGreatDoorFmFJp
namespace Go.Proofs.YtkpmiikafconmaaGreatDoor
open Go.RowKit Go.Deep
set_option maxHeartbeats 2000000
set_option maxRecDepth 100000
set_option linter.unusedVariables false
theorem own_M{base n q:Nat}{M:Tmap}{T:TypeId}{s:Value}{v:World}(h:RowT base M T s n v)(hq:s.ownBlock=some q):∃ p,M q=some (T,p):=by
 rcases h with⟨rfl,_⟩|⟨g,cap,cur,rfl,hg,hM,_⟩
 ·simp[Value.ownBlock] at hq
 ·simp[Value.ownBlock] at hq
  subst hq
  exact⟨n,hM⟩
theorem own_lt{base n N q:Nat}{M:Tmap}{T:TypeId}{s:Value}{v:World}(th:TH base M N v)(h:RowT base M T s n v)(hq:s.ownBlock=some q):q<v.heap.size:=by
 obtain⟨p,hp⟩:=own_M h hq
 exact (th.lt ⟨_,hp⟩).2
theorem phi_two(base g G:Nat)(a0:Option Addr)(len cap:Nat)(M:Tmap)(N:Nat)(S:GRec)(x:Int)(u:Option Addr)(na q:Nat)(v:World)(h:Gok base g G a0 len cap M N S v)(hN:N+2≤10000)(hav:SlN M 2 (.slice u na q) na)(hna:na≤N)(h1a:1≤na) :
  Calls Tryz.prog 133 #[.pointer (some ⟨G,0,none⟩),.int .i64 x,.slice u na q] v fun e v'=>∃ n:Int,e=.returned (.int .i64 n)∧∃ M' S',Gok base g G a0 len cap M' (N+2) S' v'∧(∃ s',S'={ S with phv:=s',nph:=S.nph+1,idv:=S'.idv,wsv:=S'.wsv,nid:=S.nid+1,nx:=S.nx+1 })∧Mv g G M M' v v'∧∃ xs,v.ownsRow base 92 (szT 92) S.phv S.nph xs∧v'.ownsRow base 92 (szT 92) S'.phv (S.nph+1) (xs++[.int .i64 x,.slice u na q]):=by
 obtain⟨i0,hi,hz0,hz1,hz2⟩:=info_parts infoP
 have hbn:=h.bn
 have hGl:=(Array.getElem?_eq_some_iff.1 h.cells).1
 have B1:Below v.heap.size v (v.alloc (.cells #[.int .i64 x,.slice u na q] 92)):=(Below.refl _ _).alloc (Nat.le_refl _) _
 have HH:Hid (Gok base g G a0 len cap M N S (v.alloc (.cells #[.int .i64 x,.slice u na q] 92))∧Mov g G M M v (v.alloc (.cells #[.int .i64 x,.slice u na q] 92))):=h.below B1
 have LAW:Hid (∀ ty,∃ s' w' M',(Builtin.append_ #[69,69] ty #[S.phv,.slice (some ⟨v.heap.size,0,none⟩) 1 1]).run Tryz.prog (v.alloc (.cells #[.int .i64 x,.slice u na q] 92))=.ok s' w'∧(Pushed base M M' (N+1) 92 S.nph (v.alloc (.cells #[.int .i64 x,.slice u na q] 92)) w' s'∧∃ xs,(v.alloc (.cells #[.int .i64 x,.slice u na q] 92)).ownsRow base 92 (szT 92) S.phv S.nph xs∧w'.ownsRow base 92 (szT 92) s' (S.nph+1) (xs++[.int .i64 x,.slice u na q]))):=fun ty =>
  run_row2 i0 _ 32 Tryz.underlying69 hi hz0 hz1 hz2 (by decide) (by omega) HH.out.1.ph HH.out.1.th (by omega) (.inr (.inr (.inl rfl))) HH.out.1.bv (by omega) ⟨v.heap.size,0,none⟩ 1 [.int .i64 x,.slice u na q] rfl (two_of (zhL v _)) (by simp[Value.oneCell']) (el_phi ⟨na,h1a,hna,hav⟩)
 have c4:v.cell? ⟨G,4,none⟩=some S.phv:=(zgc h.cells 4).1.trans rfl
 clear hi hz0 hz1 hz2
 go_enter Tryz.func133,Tryz.ntmps133
 go_wp2_with (first|(at_builtin;refine wpList_row rfl (.tmp 12) (.tmp 16) 69 rfl rfl rfl LAW.out ?_;intro s' w2 M' hPC;obtain⟨hP,xs,hC1,hC2⟩:=hPC;obtain⟨gs,qs,rfl⟩:=hP.row.form;have y0:=(hP.out G (by exact Nat.lt_of_lt_of_le hGl B1.size) h.mG).1.trans ((B1.block G hGl).trans h.cells);have y4:w2.cell? ⟨G,4,none⟩=some S.phv:=(zgc y0 4).1.trans rfl;have z4:=(zgc y0 4).2;clear y0;obtain⟨H2,V2⟩:=HH.out.1.pushP (by omega) hP;have A:=add_any base g G a0 len cap M' (N+1) _ x _ H2 (by omega))|(go_at_call 94;refine A.mono ?_;rintro e w4 ⟨n,rfl,M4,S4,H4,hS4,V4⟩))
 go_ret
 refine⟨n,rfl,M4,S4,H4,⟨_,hS4⟩,(HH.out.2.mv.trans V2).trans V4.mv,xs,own_stay hC1 fun q hq=>(B1.block q (own_lt h.th h.ph hq)).symm,?_⟩
 have e4:S4.phv=.slice (some ⟨gs,0,none⟩) (S.nph+1) qs:=by rw[hS4]
 rw[e4]
 refine own_stay hC2 fun q hq=>?_
 have hMq:=own_M H2.ph hq
 obtain⟨p,hMq⟩:=hMq
 refine (V4.hold q _ _ hMq (by decide)).1.trans (Below.heap_setCell _ _ _ _ fun e=>?_)
 have e':q=G:=e
 have:=H2.mG
 rw[←e',hMq] at this
 cases this
theorem close_two(base g G:Nat)(a0:Option Addr)(len cap:Nat)(M:Tmap)(N:Nat)(S:GRec)(kd ta tx ty:Int)(v:World)(h:Gok base g G a0 len cap M N S v)(hN:N+1≤10000) :
  Calls Tryz.prog 132 #[.pointer (some ⟨G,0,none⟩),.agg #[.int .i64 kd,.int .i64 ta,.int .i64 tx,.int .i64 ty]] v fun e v'=>(∃ r,e=.returned r)∧∃ M' s',Gok base g G a0 len cap M' (N+1) (Closed S s') v'∧Mv g G M M' v v'∧(∀ b T m,M b=some (T,m)→T≠74→T≠95→v'.heap[b]?=v.heap[b]?∧M' b=some (T,m))∧∃ xs,v.ownsRow base 74 (szT 74) S.bv S.nb xs∧v'.ownsRow base 74 (szT 74) s' (S.nb+1) (xs++[S.phv,S.iv,.int .i64 kd,.int .i64 ta,.int .i64 tx,.int .i64 ty]):=by
 have hGl:=(Array.getElem?_eq_some_iff.1 h.cells).1
 have B1:Below v.heap.size v (v.alloc (.cells #[.int .i64 kd,.int .i64 ta,.int .i64 tx,.int .i64 ty] 72)):=(Below.refl _ _).alloc (Nat.le_refl _) _
 have HH:Hid (Gok base g G a0 len cap M N S (v.alloc (.cells #[.int .i64 kd,.int .i64 ta,.int .i64 tx,.int .i64 ty] 72))∧Mov g G M M v (v.alloc (.cells #[.int .i64 kd,.int .i64 ta,.int .i64 tx,.int .i64 ty] 72))):=h.below B1
 have q0:v.heap[G]?=some (.cells (gcells g S) 141 (0,0)):=h.cells
 have q1:(v.setCell ⟨G,6,none⟩ (.int .i64 kd)).heap[G]?=some (.cells (gcells g { S with kd:=kd }) 141 (0,0)):=(zhS q0).trans rfl
 have q2:((v.setCell ⟨G,6,none⟩ (.int .i64 kd)).setCell ⟨G,7,none⟩ (.int .i64 ta)).heap[G]?=some (.cells (gcells g { S with kd:=kd,ta:=ta }) 141 (0,0)):=(zhS q1).trans rfl
 have q3:(((v.setCell ⟨G,6,none⟩ (.int .i64 kd)).setCell ⟨G,7,none⟩ (.int .i64 ta)).setCell ⟨G,8,none⟩ (.int .i64 tx)).heap[G]?=some (.cells (gcells g { S with kd:=kd,ta:=ta,tx:=tx }) 141 (0,0)):=(zhS q2).trans rfl
 have q4:((((v.setCell ⟨G,6,none⟩ (.int .i64 kd)).setCell ⟨G,7,none⟩ (.int .i64 ta)).setCell ⟨G,8,none⟩ (.int .i64 tx)).setCell ⟨G,9,none⟩ (.int .i64 ty)).heap[G]?=some (.cells (gcells g { S with kd:=kd,ta:=ta,tx:=tx,ty:=ty }) 141 (0,0)):=(zhS q3).trans rfl
 have p0:(v.alloc (.cells #[.int .i64 kd,.int .i64 ta,.int .i64 tx,.int .i64 ty] 72)).heap[G]?=some (.cells (gcells g S) 141 (0,0)):=(Below.heap_alloc _ _ _ (by simpa [World.setCell] using hGl)).trans q0
 have p1:((v.setCell ⟨G,6,none⟩ (.int .i64 kd)).alloc (.cells #[.int .i64 kd,.int .i64 ta,.int .i64 tx,.int .i64 ty] 72)).heap[G]?=some (.cells (gcells g { S with kd:=kd }) 141 (0,0)):=(Below.heap_alloc _ _ _ (by simpa [World.setCell] using hGl)).trans q1
 have p2:(((v.setCell ⟨G,6,none⟩ (.int .i64 kd)).setCell ⟨G,7,none⟩ (.int .i64 ta)).alloc (.cells #[.int .i64 kd,.int .i64 ta,.int .i64 tx,.int .i64 ty] 72)).heap[G]?=some (.cells (gcells g { S with kd:=kd,ta:=ta }) 141 (0,0)):=(Below.heap_alloc _ _ _ (by simpa [World.setCell] using hGl)).trans q2
 have p3:((((v.setCell ⟨G,6,none⟩ (.int .i64 kd)).setCell ⟨G,7,none⟩ (.int .i64 ta)).setCell ⟨G,8,none⟩ (.int .i64 tx)).alloc (.cells #[.int .i64 kd,.int .i64 ta,.int .i64 tx,.int .i64 ty] 72)).heap[G]?=some (.cells (gcells g { S with kd:=kd,ta:=ta,tx:=tx }) 141 (0,0)):=(Below.heap_alloc _ _ _ (by simpa [World.setCell] using hGl)).trans q3
 have p4:(((((v.setCell ⟨G,6,none⟩ (.int .i64 kd)).setCell ⟨G,7,none⟩ (.int .i64 ta)).setCell ⟨G,8,none⟩ (.int .i64 tx)).setCell ⟨G,9,none⟩ (.int .i64 ty)).alloc (.cells #[.int .i64 kd,.int .i64 ta,.int .i64 tx,.int .i64 ty] 72)).heap[G]?=some (.cells (gcells g { S with kd:=kd,ta:=ta,tx:=tx,ty:=ty }) 141 (0,0)):=(Below.heap_alloc _ _ _ (by simpa [World.setCell] using hGl)).trans q4
 have c0:(v.alloc (.cells #[.int .i64 kd,.int .i64 ta,.int .i64 tx,.int .i64 ty] 72)).cell? ⟨G,6,none⟩=some (.int .i64 S.kd):=(zgc p0 6).1.trans rfl
 have z0:(v.alloc (.cells #[.int .i64 kd,.int .i64 ta,.int .i64 tx,.int .i64 ty] 72)).frozen? ⟨G,6,none⟩=false:=(zgc p0 6).2
 have c1:((v.setCell ⟨G,6,none⟩ (.int .i64 kd)).alloc (.cells #[.int .i64 kd,.int .i64 ta,.int .i64 tx,.int .i64 ty] 72)).cell? ⟨G,7,none⟩=some (.int .i64 S.ta):=(zgc p1 7).1.trans rfl
 have z1:((v.setCell ⟨G,6,none⟩ (.int .i64 kd)).alloc (.cells #[.int .i64 kd,.int .i64 ta,.int .i64 tx,.int .i64 ty] 72)).frozen? ⟨G,7,none⟩=false:=(zgc p1 7).2
 have c2:(((v.setCell ⟨G,6,none⟩ (.int .i64 kd)).setCell ⟨G,7,none⟩ (.int .i64 ta)).alloc (.cells #[.int .i64 kd,.int .i64 ta,.int .i64 tx,.int .i64 ty] 72)).cell? ⟨G,8,none⟩=some (.int .i64 S.tx):=(zgc p2 8).1.trans rfl
 have z2:(((v.setCell ⟨G,6,none⟩ (.int .i64 kd)).setCell ⟨G,7,none⟩ (.int .i64 ta)).alloc (.cells #[.int .i64 kd,.int .i64 ta,.int .i64 tx,.int .i64 ty] 72)).frozen? ⟨G,8,none⟩=false:=(zgc p2 8).2
 have c3:((((v.setCell ⟨G,6,none⟩ (.int .i64 kd)).setCell ⟨G,7,none⟩ (.int .i64 ta)).setCell ⟨G,8,none⟩ (.int .i64 tx)).alloc (.cells #[.int .i64 kd,.int .i64 ta,.int .i64 tx,.int .i64 ty] 72)).cell? ⟨G,9,none⟩=some (.int .i64 S.ty):=(zgc p3 9).1.trans rfl
 have z3:((((v.setCell ⟨G,6,none⟩ (.int .i64 kd)).setCell ⟨G,7,none⟩ (.int .i64 ta)).setCell ⟨G,8,none⟩ (.int .i64 tx)).alloc (.cells #[.int .i64 kd,.int .i64 ta,.int .i64 tx,.int .i64 ty] 72)).frozen? ⟨G,9,none⟩=false:=(zgc p3 9).2
 clear q0 q1 q2 q3 q4 p0 p1 p2 p3
 go_enter Tryz.func132,Tryz.ntmps132
 obtain⟨i0,hi,hz0,hz1,hz2⟩:=info_parts infoB
 have HX:Gok base g G a0 len cap M N { S with kd:=kd,ta:=ta,tx:=tx,ty:=ty } (((((v.setCell ⟨G,6,none⟩ (.int .i64 kd)).setCell ⟨G,7,none⟩ (.int .i64 ta)).setCell ⟨G,8,none⟩ (.int .i64 tx)).setCell ⟨G,9,none⟩ (.int .i64 ty)).alloc (.cells #[.int .i64 kd,.int .i64 ta,.int .i64 tx,.int .i64 ty] 72))∧Mov g G M M v (((((v.setCell ⟨G,6,none⟩ (.int .i64 kd)).setCell ⟨G,7,none⟩ (.int .i64 ta)).setCell ⟨G,8,none⟩ (.int .i64 tx)).setCell ⟨G,9,none⟩ (.int .i64 ty)).alloc (.cells #[.int .i64 kd,.int .i64 ta,.int .i64 tx,.int .i64 ty] 72)):=h.grew (Nat.le_refl _) (fun b hb hn=>(Below.heap_alloc _ _ _ (by simpa [World.setCell] using hb)).trans (by rw[Below.heap_setCell _ _ _ _ hn,Below.heap_setCell _ _ _ _ hn,Below.heap_setCell _ _ _ _ hn,Below.heap_setCell _ _ _ _ hn])) (by simp[World.setCell]) rfl rfl rfl (fun _ _=>rfl) (fun b T m hb hm=>by rw[h.th.none hb] at hm;cases hm) p4 ⟨rfl,rfl,rfl,rfl,rfl,rfl,rfl,rfl,rfl,rfl,rfl⟩ h.ids (by have:=h.bn;dsimp only;omega)
 go_wp2_with fail
 clear c0 c1 c2 c3 z0 z1 z2 z3
 generalize (((((v.setCell ⟨G,6,none⟩ (.int .i64 kd)).setCell ⟨G,7,none⟩ (.int .i64 ta)).setCell ⟨G,8,none⟩ (.int .i64 tx)).setCell ⟨G,9,none⟩ (.int .i64 ty)).alloc (.cells #[.int .i64 kd,.int .i64 ta,.int .i64 tx,.int .i64 ty] 72))=wx at p4 HX ⊢
 obtain⟨HX,VX⟩:=HX
 have hbn:=HX.bn
 dsimp only at hbn
 have hGx:=(Array.getElem?_eq_some_iff.1 p4).1
 have B2:Below wx.heap.size wx (wx.drew.alloc (.cells #[S.phv,S.iv,.int .i64 kd,.int .i64 ta,.int .i64 tx,.int .i64 ty] 74)):=(Below.refl _ _).drew.alloc (Nat.le_refl _) _
 have HH2:Hid (Gok base g G a0 len cap M N { S with kd:=kd,ta:=ta,tx:=tx,ty:=ty } (wx.drew.alloc (.cells #[S.phv,S.iv,.int .i64 kd,.int .i64 ta,.int .i64 tx,.int .i64 ty] 74))∧Mov g G M M wx (wx.drew.alloc (.cells #[S.phv,S.iv,.int .i64 kd,.int .i64 ta,.int .i64 tx,.int .i64 ty] 74))):=HX.below B2
 have LAW:Hid (∀ ty',∃ s' w' M',(Builtin.append_ #[53,53] ty' #[S.bv,.slice (some ⟨wx.heap.size,0,none⟩) 1 1]).run Tryz.prog (wx.drew.alloc (.cells #[S.phv,S.iv,.int .i64 kd,.int .i64 ta,.int .i64 tx,.int .i64 ty] 74))=.ok s' w'∧(Pushed base M M' (N+1) 74 S.nb (wx.drew.alloc (.cells #[S.phv,S.iv,.int .i64 kd,.int .i64 ta,.int .i64 tx,.int .i64 ty] 74)) w' s'∧∃ xs,(wx.drew.alloc (.cells #[S.phv,S.iv,.int .i64 kd,.int .i64 ta,.int .i64 tx,.int .i64 ty] 74)).ownsRow base 74 (szT 74) S.bv S.nb xs∧w'.ownsRow base 74 (szT 74) s' (S.nb+1) (xs++[S.phv,S.iv,.int .i64 kd,.int .i64 ta,.int .i64 tx,.int .i64 ty]))):=fun ty' =>
  run_row2 i0 _ 80 Tryz.underlying53 hi hz0 hz1 hz2 (by decide) (by omega) HH2.out.1.b HH2.out.1.th (by omega) (.inr (.inr (.inr (.inr rfl)))) HH2.out.1.bv (by dsimp only;omega) ⟨wx.heap.size,0,none⟩ 1 [S.phv,S.iv,.int .i64 kd,.int .i64 ta,.int .i64 tx,.int .i64 ty] rfl (six_of (zhL wx.drew _)) (by
   have o1:=HX.ph.sl
   have o2:=HX.i.sl
   obtain⟨_,_,e1,_⟩:=o1
   obtain⟨_,_,e2,_⟩:=o2
   dsimp only at e1 e2
   simp[Value.oneCell',e1,e2]) (el_block ⟨S.nph,by omega,HX.ph.sl⟩ ⟨S.ni,by omega,HX.i.sl⟩)
 clear hi hz0 hz1 hz2
 have k3:wx.cell? ⟨G,3,none⟩=some S.bv:=(zgc p4 3).1.trans rfl
 have k4:wx.cell? ⟨G,4,none⟩=some S.phv:=(zgc p4 4).1.trans rfl
 have k5:wx.cell? ⟨G,5,none⟩=some S.iv:=(zgc p4 5).1.trans rfl
 have k6:wx.cell? ⟨G,6,none⟩=some (.int .i64 kd):=(zgc p4 6).1.trans rfl
 have k7:wx.cell? ⟨G,7,none⟩=some (.int .i64 ta):=(zgc p4 7).1.trans rfl
 have k8:wx.cell? ⟨G,8,none⟩=some (.int .i64 tx):=(zgc p4 8).1.trans rfl
 have k9:wx.cell? ⟨G,9,none⟩=some (.int .i64 ty):=(zgc p4 9).1.trans rfl
 have x3:=(zcB (o:=3) (B2.block G hGx)).trans k3
 go_cut [0] (fun s0 wz=>s0=.pointer (some ⟨G,0,none⟩)∧∃ w2 s' M',Pushed base M M' (N+1) 74 S.nb (wx.drew.alloc (.cells #[S.phv,S.iv,.int .i64 kd,.int .i64 ta,.int .i64 tx,.int .i64 ty] 74)) w2 s'∧(∃ xs,(wx.drew.alloc (.cells #[S.phv,S.iv,.int .i64 kd,.int .i64 ta,.int .i64 tx,.int .i64 ty] 74)).ownsRow base 74 (szT 74) S.bv S.nb xs∧w2.ownsRow base 74 (szT 74) s' (S.nb+1) (xs++[S.phv,S.iv,.int .i64 kd,.int .i64 ta,.int .i64 tx,.int .i64 ty]))∧wz=w2.setCell ⟨G,3,none⟩ s')
 case first =>
  go_region_law (refine step_row rfl (.tmp 14) (.tmp 19) 53 rfl rfl rfl LAW.out ?_;intro s' w2 M' hPC;obtain⟨hP,hC⟩:=hPC;obtain⟨gs,qs,rfl⟩:=hP.row.form;have y0:=(hP.out G (by exact Nat.lt_of_lt_of_le hGx B2.size) h.mG).1.trans ((B2.block G hGx).trans p4);have y3:w2.cell? ⟨G,3,none⟩=some S.bv:=(zgc y0 3).1.trans rfl;have z3:=(zgc y0 3).2;clear y0)
  all_goals
   go_wp2_with fail
   go_meet
   case rel=>exact⟨rfl,w2,_,M',hP,hC,rfl⟩
 case rest =>
  obtain⟨rfl,w2,s',M',hP,⟨xs,hC1,hC2⟩,rfl⟩:=hcut
  obtain⟨H1,V1⟩:=HH2.out
  obtain⟨H2,V2⟩:=H1.pushB (by omega) hP
  clear k3 k4 k5 k6 k7 k8 k9 x3 LAW HH2 B2
  have hGn:∀ q,(∃ p,M' q=some p)→q≠G:=fun q hq e=>by
   obtain⟨p,hq⟩:=hq
   have:=H2.mG
   rw[←e,hq] at this
   cases this
  have D1:v.ownsRow base 74 (szT 74) S.bv S.nb xs:=own_stay hC1 fun q hq=>by
   obtain⟨p,hMq⟩:=own_M h.b hq
   exact (VX.hold q _ _ hMq (by decide)).1.symm.trans (V1.hold q _ _ hMq (by decide)).1.symm
  have D2:(w2.setCell ⟨G,3,none⟩ s').ownsRow base 74 (szT 74) s' (S.nb+1) (xs++[S.phv,S.iv,.int .i64 kd,.int .i64 ta,.int .i64 tx,.int .i64 ty]):=own_stay hC2 fun q hq=>Below.heap_setCell _ _ _ _ (by
   obtain⟨p,hMq⟩:=own_M hP.row hq
   exact hGn q ⟨_,hMq⟩)
  have D3:∀ b T m,M b=some (T,m)→T≠74→T≠95→(w2.setCell ⟨G,3,none⟩ s').heap[b]?=v.heap[b]?∧M' b=some (T,m):=fun b T m hb hT hI=>by
   obtain⟨e1,e2⟩:=hP.other b T m hb hT
   exact⟨(Below.heap_setCell _ _ _ _ (hGn b ⟨_,e2⟩)).trans (e1.trans ((V1.hold b T m hb hI).1.trans (VX.hold b T m hb hI).1)),e2⟩
  clear hC1 hC2
  generalize w2.setCell ⟨G,3,none⟩ s'=wy at H2 V2 D2 D3 ⊢
  have q0:wy.heap[G]?=some (.cells (gcells g { S with bv:=s',nb:=S.nb+1,kd:=kd,ta:=ta,tx:=tx,ty:=ty }) 141 (0,0)):=H2.cells
  have q1:(wy.setCell ⟨G,4,none⟩ (.slice none 0 0)).heap[G]?=some (.cells (gcells g { S with bv:=s',nb:=S.nb+1,kd:=kd,ta:=ta,tx:=tx,ty:=ty,phv:=.slice none 0 0 }) 141 (0,0)):=(zhS q0).trans rfl
  have q2:((wy.setCell ⟨G,4,none⟩ (.slice none 0 0)).setCell ⟨G,5,none⟩ (.slice none 0 0)).heap[G]?=some (.cells (gcells g { S with bv:=s',nb:=S.nb+1,kd:=kd,ta:=ta,tx:=tx,ty:=ty,phv:=.slice none 0 0,iv:=.slice none 0 0 }) 141 (0,0)):=(zhS q1).trans rfl
  have q3:(((wy.setCell ⟨G,4,none⟩ (.slice none 0 0)).setCell ⟨G,5,none⟩ (.slice none 0 0)).setCell ⟨G,6,none⟩ (.int .i64 0)).heap[G]?=some (.cells (gcells g { S with bv:=s',nb:=S.nb+1,kd:=0,ta:=ta,tx:=tx,ty:=ty,phv:=.slice none 0 0,iv:=.slice none 0 0 }) 141 (0,0)):=(zhS q2).trans rfl
  have q4:((((wy.setCell ⟨G,4,none⟩ (.slice none 0 0)).setCell ⟨G,5,none⟩ (.slice none 0 0)).setCell ⟨G,6,none⟩ (.int .i64 0)).setCell ⟨G,7,none⟩ (.int .i64 0)).heap[G]?=some (.cells (gcells g { S with bv:=s',nb:=S.nb+1,kd:=0,ta:=0,tx:=tx,ty:=ty,phv:=.slice none 0 0,iv:=.slice none 0 0 }) 141 (0,0)):=(zhS q3).trans rfl
  have q5:(((((wy.setCell ⟨G,4,none⟩ (.slice none 0 0)).setCell ⟨G,5,none⟩ (.slice none 0 0)).setCell ⟨G,6,none⟩ (.int .i64 0)).setCell ⟨G,7,none⟩ (.int .i64 0)).setCell ⟨G,8,none⟩ (.int .i64 0)).heap[G]?=some (.cells (gcells g { S with bv:=s',nb:=S.nb+1,kd:=0,ta:=0,tx:=0,ty:=ty,phv:=.slice none 0 0,iv:=.slice none 0 0 }) 141 (0,0)):=(zhS q4).trans rfl
  have q6:((((((wy.setCell ⟨G,4,none⟩ (.slice none 0 0)).setCell ⟨G,5,none⟩ (.slice none 0 0)).setCell ⟨G,6,none⟩ (.int .i64 0)).setCell ⟨G,7,none⟩ (.int .i64 0)).setCell ⟨G,8,none⟩ (.int .i64 0)).setCell ⟨G,9,none⟩ (.int .i64 0)).heap[G]?=some (.cells (gcells g { S with bv:=s',nb:=S.nb+1,kd:=0,ta:=0,tx:=0,ty:=0,phv:=.slice none 0 0,iv:=.slice none 0 0 }) 141 (0,0)):=(zhS q5).trans rfl
  have c0:wy.cell? ⟨G,4,none⟩=some S.phv:=(zgc q0 4).1.trans rfl
  have z0:wy.frozen? ⟨G,4,none⟩=false:=(zgc q0 4).2
  have c1:(wy.setCell ⟨G,4,none⟩ (.slice none 0 0)).cell? ⟨G,5,none⟩=some S.iv:=(zgc q1 5).1.trans rfl
  have z1:(wy.setCell ⟨G,4,none⟩ (.slice none 0 0)).frozen? ⟨G,5,none⟩=false:=(zgc q1 5).2
  have c2:((wy.setCell ⟨G,4,none⟩ (.slice none 0 0)).setCell ⟨G,5,none⟩ (.slice none 0 0)).cell? ⟨G,6,none⟩=some (.int .i64 kd):=(zgc q2 6).1.trans rfl
  have z2:((wy.setCell ⟨G,4,none⟩ (.slice none 0 0)).setCell ⟨G,5,none⟩ (.slice none 0 0)).frozen? ⟨G,6,none⟩=false:=(zgc q2 6).2
  have c3:(((wy.setCell ⟨G,4,none⟩ (.slice none 0 0)).setCell ⟨G,5,none⟩ (.slice none 0 0)).setCell ⟨G,6,none⟩ (.int .i64 0)).cell? ⟨G,7,none⟩=some (.int .i64 ta):=(zgc q3 7).1.trans rfl
  have z3:(((wy.setCell ⟨G,4,none⟩ (.slice none 0 0)).setCell ⟨G,5,none⟩ (.slice none 0 0)).setCell ⟨G,6,none⟩ (.int .i64 0)).frozen? ⟨G,7,none⟩=false:=(zgc q3 7).2
  have c4:((((wy.setCell ⟨G,4,none⟩ (.slice none 0 0)).setCell ⟨G,5,none⟩ (.slice none 0 0)).setCell ⟨G,6,none⟩ (.int .i64 0)).setCell ⟨G,7,none⟩ (.int .i64 0)).cell? ⟨G,8,none⟩=some (.int .i64 tx):=(zgc q4 8).1.trans rfl
  have z4:((((wy.setCell ⟨G,4,none⟩ (.slice none 0 0)).setCell ⟨G,5,none⟩ (.slice none 0 0)).setCell ⟨G,6,none⟩ (.int .i64 0)).setCell ⟨G,7,none⟩ (.int .i64 0)).frozen? ⟨G,8,none⟩=false:=(zgc q4 8).2
  have c5:(((((wy.setCell ⟨G,4,none⟩ (.slice none 0 0)).setCell ⟨G,5,none⟩ (.slice none 0 0)).setCell ⟨G,6,none⟩ (.int .i64 0)).setCell ⟨G,7,none⟩ (.int .i64 0)).setCell ⟨G,8,none⟩ (.int .i64 0)).cell? ⟨G,9,none⟩=some (.int .i64 ty):=(zgc q5 9).1.trans rfl
  have z5:(((((wy.setCell ⟨G,4,none⟩ (.slice none 0 0)).setCell ⟨G,5,none⟩ (.slice none 0 0)).setCell ⟨G,6,none⟩ (.int .i64 0)).setCell ⟨G,7,none⟩ (.int .i64 0)).setCell ⟨G,8,none⟩ (.int .i64 0)).frozen? ⟨G,9,none⟩=false:=(zgc q5 9).2
  clear q0 q1 q2 q3 q4 q5
  have R:=H2.reset (v':=((((((wy.setCell ⟨G,4,none⟩ (.slice none 0 0)).setCell ⟨G,5,none⟩ (.slice none 0 0)).setCell ⟨G,6,none⟩ (.int .i64 0)).setCell ⟨G,7,none⟩ (.int .i64 0)).setCell ⟨G,8,none⟩ (.int .i64 0)).setCell ⟨G,9,none⟩ (.int .i64 0))) (fun b hn=>by rw[Below.heap_setCell _ _ _ _ hn,Below.heap_setCell _ _ _ _ hn,Below.heap_setCell _ _ _ _ hn,Below.heap_setCell _ _ _ _ hn,Below.heap_setCell _ _ _ _ hn,Below.heap_setCell _ _ _ _ hn]) (by simp only[World.size_setCell]) (by simp only[set_os]) (by simp only[set_tape]) (by simp only[set_output]) (q6.trans (by unfold gcells;rfl))
  have hset:∀ b,b≠G→((((((wy.setCell ⟨G,4,none⟩ (.slice none 0 0)).setCell ⟨G,5,none⟩ (.slice none 0 0)).setCell ⟨G,6,none⟩ (.int .i64 0)).setCell ⟨G,7,none⟩ (.int .i64 0)).setCell ⟨G,8,none⟩ (.int .i64 0)).setCell ⟨G,9,none⟩ (.int .i64 0)).heap[b]?=wy.heap[b]?:=fun b hn=>by rw[Below.heap_setCell _ _ _ _ hn,Below.heap_setCell _ _ _ _ hn,Below.heap_setCell _ _ _ _ hn,Below.heap_setCell _ _ _ _ hn,Below.heap_setCell _ _ _ _ hn,Below.heap_setCell _ _ _ _ hn]
  have D2':=own_stay (w':=((((((wy.setCell ⟨G,4,none⟩ (.slice none 0 0)).setCell ⟨G,5,none⟩ (.slice none 0 0)).setCell ⟨G,6,none⟩ (.int .i64 0)).setCell ⟨G,7,none⟩ (.int .i64 0)).setCell ⟨G,8,none⟩ (.int .i64 0)).setCell ⟨G,9,none⟩ (.int .i64 0))) D2 fun q hq=>hset q (by
   obtain⟨p,hMq⟩:=own_M hP.row hq
   exact hGn q ⟨_,hMq⟩)
  have HD:Hid ((∀ b T m,M b=some (T,m)→T≠74→T≠95→((((((wy.setCell ⟨G,4,none⟩ (.slice none 0 0)).setCell ⟨G,5,none⟩ (.slice none 0 0)).setCell ⟨G,6,none⟩ (.int .i64 0)).setCell ⟨G,7,none⟩ (.int .i64 0)).setCell ⟨G,8,none⟩ (.int .i64 0)).setCell ⟨G,9,none⟩ (.int .i64 0)).heap[b]?=v.heap[b]?∧M' b=some (T,m))∧∃ xs,v.ownsRow base 74 (szT 74) S.bv S.nb xs∧((((((wy.setCell ⟨G,4,none⟩ (.slice none 0 0)).setCell ⟨G,5,none⟩ (.slice none 0 0)).setCell ⟨G,6,none⟩ (.int .i64 0)).setCell ⟨G,7,none⟩ (.int .i64 0)).setCell ⟨G,8,none⟩ (.int .i64 0)).setCell ⟨G,9,none⟩ (.int .i64 0)).ownsRow base 74 (szT 74) s' (S.nb+1) (xs++[S.phv,S.iv,.int .i64 kd,.int .i64 ta,.int .i64 tx,.int .i64 ty])) :=
   ⟨fun b T m hb hT hI=>⟨(hset b (hGn b ⟨_,(D3 b T m hb hT hI).2⟩)).trans (D3 b T m hb hT hI).1,(D3 b T m hb hT hI).2⟩,xs,D1,D2'⟩
  clear hset D1 D2 D2' D3 hGn
  go_wp2_with fail
  exact bodyPost_end (results_none Tryz.results132 _ _ _) rfl ⟨⟨_,rfl⟩,M',s',R.1,((VX.mv.trans V1.mv).trans V2).trans R.2,HD.out⟩
end Go.Proofs.YtkpmiikafconmaaGreatDoor
namespace Go.Proofs.YtkpmiikafconmaaGreatDoor
open Go.RowKit
set_option maxHeartbeats 2000000
set_option linter.unusedVariables false
set_option linter.unusedSimpArgs false
theorem decZ(x:Int)(w:World)(h:∃ n:Nat,x=n∧n≤4294967295):Calls Tryz.prog 51 #[.int .i64 x] w fun e w'=>e=.returned (.string (bs (Lib.itoa x)))∧Below w.heap.size w w':=by
 obtain⟨n,rfl,hn⟩:=h
 exact decS n w hn
theorem dec_gives(a:Int)(W:World)(h:∃ n:Nat,a=n∧n≤4294967295)(x:Abv (fun v=>Below W.heap.size W v)):Calls Tryz.prog 51 #[.int .i64 a] x.v fun e w''=>e=.returned (.string (bs (Lib.itoa a)))∧∃ y:Abv (fun v=>Below W.heap.size W v),w''=y.v:=abv_call x (decZ a x.v h)
theorem nums_gives(lo:Nat)(a:Option Addr)(c:Nat)(l:List Int)(W:World)(hl:l.length≤20)(hs:SmN l)(hk:IntsAt W lo a l)(x:Abv (fun v=>Below W.heap.size W v)):Calls Tryz.prog 52 #[.slice a l.length c] x.v fun e w''=>e=.returned (.string (bs (numsL l)))∧∃ y:Abv (fun v=>Below W.heap.size W v),w''=y.v :=
 abv_call x (numsS lo a c l x.v (hk.keep (zaB x.ok lo)) hl hs)
def trmT(t:TermD):List UInt8:=tmWL.getD t.kind.toNat []++numsL (termNs t)
theorem trmT_len{t:TermD}(h:TmOk t):(trmT t).length≤60:=by
 have h1:=tmWL_len t.kind.toNat
 have h2:=nums_len (termNs t) h.nums
 have h3:=termNs_len t
 unfold trmT
 rw[List.length_append];omega
theorem itoa_sz{x:Int}(h:∃ n:Nat,x=n∧n≤4294967295):(bs (Lib.itoa x)).size≤10:=by rw[bs_size];exact itoa_len h
theorem l5term_1(t:TermD)(w:World)(h:TmOk t)(hk:t.kind=1) :
  Calls Tryz.prog 54 #[.agg #[.int .i64 t.kind,.int .i64 t.a,.int .i64 t.x,.int .i64 t.y]] w fun e w'=>e=.returned (.string (bs (trmT t)))∧Below w.heap.size w w':=by
 have HE:Hid ((⟨#[114,101,116,32]⟩:ByteArray)++bs (Lib.itoa t.a)=bs (trmT t)):=by
  show _=_
  have e:trmT t=[114,101,116,32]++Lib.itoa t.a:=by unfold trmT termNs;rw[hk];simp[tmWL,numsL]
  rw[e]
  simp[bs,ByteArray.mk_append_mk]
 generalize bs (trmT t)=R at HE ⊢
 have A0:=At.new w #[.int .i64 1,.int .i64 t.a,.int .i64 t.x,.int .i64 t.y] 72
 have B0:Below w.heap.size w (w.alloc (.cells #[.int .i64 1,.int .i64 t.a,.int .i64 t.x,.int .i64 t.y] 72)):=(Below.refl _ _).alloc (Nat.le_refl _) _
 rw[hk]
 have qa:=itoa_sz h.a
 have hT:Hid (TmOk t):=h
 clear h hk
 go_enter Tryz.func54,Tryz.ntmps54
 go_wp2_with fail
 generalize w.alloc (.cells #[.int .i64 1,.int .i64 t.a,.int .i64 t.x,.int .i64 t.y] 72)=W at A0 B0 ⊢
 refine (decZ t.a _ hT.out.a).mono ?_
 rintro e w1 ⟨rfl,b1⟩
 generalize bs (Lib.itoa t.a)=A at HE qa ⊢
 have z1:((⟨#[114,101,116,32]⟩:ByteArray)++A).size≤40:=by rw[ByteArray.size_append];have:(⟨#[114,101,116,32]⟩:ByteArray).size=4:=rfl;omega
 go_wp2_with fail
 go_ret
 exact⟨by rw[←HE.out];rfl,B0.trans (b1.mono B0.size)⟩
theorem l5term_2(t:TermD)(w:World)(h:TmOk t)(hk:t.kind=2) :
  Calls Tryz.prog 54 #[.agg #[.int .i64 t.kind,.int .i64 t.a,.int .i64 t.x,.int .i64 t.y]] w fun e w'=>e=.returned (.string (bs (trmT t)))∧Below w.heap.size w w':=by
 have HE:Hid ((⟨#[106,117,109,112,32]⟩:ByteArray)++bs (Lib.itoa t.x)=bs (trmT t)):=by
  show _=_
  have e:trmT t=[106,117,109,112,32]++Lib.itoa t.x:=by unfold trmT termNs;rw[hk];simp[tmWL,numsL]
  rw[e]
  simp[bs,ByteArray.mk_append_mk]
 generalize bs (trmT t)=R at HE ⊢
 have A0:=At.new w #[.int .i64 2,.int .i64 t.a,.int .i64 t.x,.int .i64 t.y] 72
 have B0:Below w.heap.size w (w.alloc (.cells #[.int .i64 2,.int .i64 t.a,.int .i64 t.x,.int .i64 t.y] 72)):=(Below.refl _ _).alloc (Nat.le_refl _) _
 rw[hk]
 have qx:=itoa_sz h.x
 have hT:Hid (TmOk t):=h
 clear h hk
 go_enter Tryz.func54,Tryz.ntmps54
 go_wp2_with fail
 generalize w.alloc (.cells #[.int .i64 2,.int .i64 t.a,.int .i64 t.x,.int .i64 t.y] 72)=W at A0 B0 ⊢
 refine (decZ t.x _ hT.out.x).mono ?_
 rintro e w1 ⟨rfl,b1⟩
 generalize bs (Lib.itoa t.x)=A at HE qx ⊢
 have z1:((⟨#[106,117,109,112,32]⟩:ByteArray)++A).size≤40:=by rw[ByteArray.size_append];have:(⟨#[106,117,109,112,32]⟩:ByteArray).size=5:=rfl;omega
 go_wp2_with fail
 go_ret
 exact⟨by rw[←HE.out];rfl,B0.trans (b1.mono B0.size)⟩
theorem l5term_3(t:TermD)(w:World)(h:TmOk t)(hk:t.kind=3) :
  Calls Tryz.prog 54 #[.agg #[.int .i64 t.kind,.int .i64 t.a,.int .i64 t.x,.int .i64 t.y]] w fun e w'=>e=.returned (.string (bs (trmT t)))∧Below w.heap.size w w':=by
 have HE:Hid ((⟨#[98,114,97,110,99,104,32]⟩:ByteArray)++bs (Lib.itoa t.a)++(⟨#[32]⟩:ByteArray)++bs (Lib.itoa t.x)++(⟨#[32]⟩:ByteArray)++bs (Lib.itoa t.y)=bs (trmT t)):=by
  show _=_
  have e:trmT t=[98,114,97,110,99,104,32]++Lib.itoa t.a++[32]++Lib.itoa t.x++[32]++Lib.itoa t.y:=by unfold trmT termNs;rw[hk];simp[tmWL,numsL]
  rw[e]
  simp[bs,ByteArray.mk_append_mk]
 generalize bs (trmT t)=R at HE ⊢
 have A0:=At.new w #[.int .i64 3,.int .i64 t.a,.int .i64 t.x,.int .i64 t.y] 72
 have B0:Below w.heap.size w (w.alloc (.cells #[.int .i64 3,.int .i64 t.a,.int .i64 t.x,.int .i64 t.y] 72)):=(Below.refl _ _).alloc (Nat.le_refl _) _
 rw[hk]
 have qa:=itoa_sz h.a
 have qx:=itoa_sz h.x
 have qy:=itoa_sz h.y
 have hT:Hid (TmOk t):=h
 clear h hk
 go_enter Tryz.func54,Tryz.ntmps54
 go_wp2_with fail
 generalize w.alloc (.cells #[.int .i64 3,.int .i64 t.a,.int .i64 t.x,.int .i64 t.y] 72)=W at A0 B0 ⊢
 have V0:=fun xx=>dec_gives t.a W hT.out.a xx
 have V1:=fun xx=>dec_gives t.x W hT.out.x xx
 have V2:=fun xx=>dec_gives t.y W hT.out.y xx
 generalize bs (Lib.itoa t.a)=C0 at *
 generalize bs (Lib.itoa t.x)=C1 at *
 generalize bs (Lib.itoa t.y)=C2 at *
 have l0:(⟨#[98,114,97,110,99,104,32]⟩:ByteArray).size=7:=rfl
 have l1:(⟨#[32]⟩:ByteArray).size=1:=rfl
 have z0:((⟨#[98,114,97,110,99,104,32]⟩:ByteArray)++C0).size≤100:=by rw[ByteArray.size_append];omega
 have z1:((⟨#[98,114,97,110,99,104,32]⟩:ByteArray)++C0++(⟨#[32]⟩:ByteArray)).size≤200:=by rw[ByteArray.size_append];omega
 have z2:((⟨#[98,114,97,110,99,104,32]⟩:ByteArray)++C0++(⟨#[32]⟩:ByteArray)++C1).size≤300:=by rw[ByteArray.size_append];omega
 have z3:((⟨#[98,114,97,110,99,104,32]⟩:ByteArray)++C0++(⟨#[32]⟩:ByteArray)++C1++(⟨#[32]⟩:ByteArray)).size≤400:=by rw[ByteArray.size_append];omega
 have z4:((⟨#[98,114,97,110,99,104,32]⟩:ByteArray)++C0++(⟨#[32]⟩:ByteArray)++C1++(⟨#[32]⟩:ByteArray)++C2).size≤500:=by rw[ByteArray.size_append];omega
 have lf:=A0.lt
 have hne:Nonempty (Abv (fun v=>Below W.heap.size W v)):=abv_ne (Below.refl _ _)
 have t0:=fun xx:Abv (fun v=>Below W.heap.size W v)=>(show xx.v.cell? ⟨w.heap.size,0,none⟩=some (.int .i64 3) from (A0.below xx.ok).cell 0)
 have t1:=fun xx:Abv (fun v=>Below W.heap.size W v)=>(show xx.v.cell? ⟨w.heap.size,1,none⟩=some (.int .i64 t.a) from (A0.below xx.ok).cell 1)
 have t2:=fun xx:Abv (fun v=>Below W.heap.size W v)=>(show xx.v.cell? ⟨w.heap.size,2,none⟩=some (.int .i64 t.x) from (A0.below xx.ok).cell 2)
 have t3:=fun xx:Abv (fun v=>Below W.heap.size W v)=>(show xx.v.cell? ⟨w.heap.size,3,none⟩=some (.int .i64 t.y) from (A0.below xx.ok).cell 3)
 refine wp_region_abv (fun v=>Below W.heap.size W v) (by kernel_rfl) (by kernel_rfl) (drew_below (Below.refl _ _)) ?_
 repeat (go_big_quiet_step (first|(go_at_call 51;first|with_reducible exact V0 _|with_reducible exact V1 _|with_reducible exact V2 _)))
 refine wpQuiet_nil ?_
 rintro w9 ⟨⟨w9,h9⟩,rfl⟩
 go_wp2_with fail
 go_ret
 exact⟨by rw[←HE.out];rfl,B0.trans (h9.mono B0.size)⟩
theorem l5term_4(t:TermD)(w:World)(h:TmOk t)(hk:t.kind=4) :
  Calls Tryz.prog 54 #[.agg #[.int .i64 t.kind,.int .i64 t.a,.int .i64 t.x,.int .i64 t.y]] w fun e w'=>e=.returned (.string (bs (trmT t)))∧Below w.heap.size w w':=by
 have HE:Hid ((⟨#[116,114,97,112]⟩:ByteArray)=bs (trmT t)):=by
  show _=_
  have e:trmT t=[116,114,97,112]:=by unfold trmT termNs;rw[hk];simp[tmWL,numsL]
  rw[e]
  simp[bs,ByteArray.mk_append_mk]
 generalize bs (trmT t)=R at HE ⊢
 have A0:=At.new w #[.int .i64 4,.int .i64 t.a,.int .i64 t.x,.int .i64 t.y] 72
 have B0:Below w.heap.size w (w.alloc (.cells #[.int .i64 4,.int .i64 t.a,.int .i64 t.x,.int .i64 t.y] 72)):=(Below.refl _ _).alloc (Nat.le_refl _) _
 rw[hk]
 have hT:Hid (TmOk t):=h
 clear h hk
 go_enter Tryz.func54,Tryz.ntmps54
 go_wp2_with fail
 go_ret
 exact⟨by rw[←HE.out];rfl,B0⟩
theorem l5termS(t:TermD)(w:World)(h:TmOk t) :
  Calls Tryz.prog 54 #[.agg #[.int .i64 t.kind,.int .i64 t.a,.int .i64 t.x,.int .i64 t.y]] w fun e w'=>e=.returned (.string (bs (trmT t)))∧Below w.heap.size w w':=by
 rcases h.k with hk|hk|hk|hk
 ·exact l5term_1 t w h hk
 ·exact l5term_2 t w h hk
 ·exact l5term_3 t w h hk
 ·exact l5term_4 t w h hk
end Go.Proofs.YtkpmiikafconmaaGreatDoor
