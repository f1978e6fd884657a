/- A module in its form comes back from its text, and what is read, written again, has just its bytes, whatever bytes the module and the text are drawn from: in worlds in which the words and errors of the program, and the tables and errors of strconv, math/bits and unicode/utf8 on its road, hold what the program's own text lays there. -/
import Derived.Test.YtkpmiikafconmaaGreatDoorCards
import Derived.Test.YtkpmiikafconmaaGreatDoorTie
import Derived.ShutString
import Derived.ChangeOld
import Derived.JoinedOf
import Derived.Test.YtkpmiikafconmaaGreatDoorGnZJp
import Derived.Test.YtkpmiikafconmaaGreatDoorReNJp
namespace Go.Proofs.YtkpmiikafconmaaGreatDoor
open Go.RowKit Go.Deep
set_option maxHeartbeats 8000000
set_option maxRecDepth 100000
set_option linter.unusedVariables false
set_option linter.unusedSimpArgs false
theorem grown_drw{w w1:World}{r:Option Nat}(k:w.grownBy w1 r):w.grownBy w1.drew r:=⟨k.os,k.tape,k.output,k.size,k.block⟩
theorem rd_drw{g:Nat}{a0:Option Addr}{len cap:Nat}{w:World}(h:Rd g a0 len cap w):Rd g a0 len cap w.drew:=h
theorem at_grown{V V':World}{R G:Nat}{cs:Array Value}{T:TypeId}(h:At V R cs T)(k:V.grownBy V' (some G))(hn:R≠G):At V' R cs T :=
 (k.block R h.lt (by intro e;exact hn (Option.some.inj e))).trans h
theorem at_off{V:World}{R b o:Nat}{x:Value}{cs:Array Value}{T:TypeId}(h:At V R cs T)(hn:R≠b):At (V.setCell ⟨b,o,none⟩ x) R cs T :=
 (Below.heap_setCell _ _ _ _ hn).trans h
theorem ty_block{w:World}{lo q:Nat}{d:FuncD}{up ub:Option Addr}(h:Ty2 w lo d up ub)(hq:q<d.blocks.length):∃ (M:Tmap) (m bb:Nat) (pu:Option Addr) (pn pc:Nat) (iu:Option Addr) (jn ic:Nat) (k2 k3 k4 k5:Int),ub=some ⟨bb,0,none⟩∧TH lo M 400 w∧M bb=some (74,m)∧d.blocks.length≤m∧w.cell? ⟨bb,q*6,none⟩=some (.slice pu pn pc)∧w.cell? ⟨bb,q*6+1,none⟩=some (.slice iu jn ic)∧w.cell? ⟨bb,q*6+2,none⟩=some (.int .i64 k2)∧w.cell? ⟨bb,q*6+3,none⟩=some (.int .i64 k3)∧w.cell? ⟨bb,q*6+4,none⟩=some (.int .i64 k4)∧w.cell? ⟨bb,q*6+5,none⟩=some (.int .i64 k5)∧SlN M 92 (.slice pu pn pc) pn∧SlN M 95 (.slice iu jn ic) jn∧pn≤400∧jn≤400:=by
 obtain⟨M,th,_,h2,_⟩:=h
 obtain⟨u,c,e,h3⟩:=h2
 cases e
 rcases h3 with h3|⟨bb,m,rfl,hM,hm⟩
 ·omega
 obtain⟨_,cur,hc,hel⟩:=th bb _ m hM
 have hs:szT 74=6:=by decide
 obtain⟨⟨v1,e1,s1⟩,⟨v2,e2,s2⟩,hz⟩:=(hel q (by omega)).2.2.2.2 rfl
 obtain⟨pu,pn,pc,rfl,hp,sp⟩:=slv_form s1
 obtain⟨iu,jn,ic,rfl,hj,sj⟩:=slv_form s2
 obtain⟨k2,z2⟩:=hz 2 (by omega) (by omega)
 obtain⟨k3,z3⟩:=hz 3 (by omega) (by omega)
 obtain⟨k4,z4⟩:=hz 4 (by omega) (by omega)
 obtain⟨k5,z5⟩:=hz 5 (by omega) (by omega)
 simp only[hs] at e1 e2 z2 z3 z4 z5
 exact⟨M,m,bb,pu,pn,pc,iu,jn,ic,k2,k3,k4,k5,rfl,th,hM,hm,(zcH hc).trans e1,(zcH hc).trans e2,(zcH hc).trans z2,(zcH hc).trans z3,(zcH hc).trans z4,(zcH hc).trans z5,sp,sj,hp,hj⟩
def BrTold(g:Nat)(a0:Option Addr)(len cap:Nat)(v:World)(e:Ending)(w:World):Prop:=∃ gm n cm,e=.returned (.agg #[.slice (some ⟨gm,0,none⟩) n cm])∧1≤n∧n≤2∧v.heap.size≤gm∧ModR v.heap.size gm n w∧Rd g a0 len cap w∧(∀ b,b<v.heap.size→b≠g→w.heap[b]?=v.heap[b]?)∧v.heap.size≤w.heap.size∧w.os=v.os∧w.tape=v.tape∧w.output=v.output
structure BrS(W4:World)(R g ms Fx bb gm n:Nat)(a0:Option Addr)(len cap:Nat)(V:World):Prop where
 rd:Rd g a0 len cap V
 mr:ModR (R+1) gm n V
 keep:∀ b,(b<R∧b≠g)∨b=R∨b=ms∨b=Fx∨b=bb→b<W4.heap.size→V.heap[b]?=W4.heap[b]?
 os:V.os=W4.os
 tape:V.tape=W4.tape
 output:V.output=W4.output
 size:W4.heap.size≤V.heap.size
variable {W4 V V':World} {R g ms Fx bb gm n len cap t o:Nat} {a0:Option Addr} {x y:Value}
theorem BrS.start(hr:Rd g a0 len cap W4)(hm:ModR (R+1) gm n W4):BrS W4 R g ms Fx bb gm n a0 len cap W4:=⟨hr,hm,fun _ _ _=>rfl,rfl,rfl,rfl,Nat.le_refl _⟩
theorem BrS.grown(h:BrS W4 R g ms Fx bb gm n a0 len cap V)(k:V.grownBy V' (some g))(hr:Rd g a0 len cap V')(hn:g<R∧R+1≤gm∧R≤ms∧R≤Fx∧R≤bb):BrS W4 R g ms Fx bb gm n a0 len cap V' :=
 ⟨hr,h.mr.same hn.2.1 fun b h1 h2=>k.block b h2 (by intro e;have:=Option.some.inj e;omega),fun b h1 h2=>(k.block b (by have:=h.size;omega) (by intro e;have:=Option.some.inj e;omega)).trans (h.keep b h1 h2),k.os.trans h.os,k.tape.trans h.tape,k.output.trans h.output,Nat.le_trans h.size k.size⟩
theorem BrS.set(h:BrS W4 R g ms Fx bb gm n a0 len cap V)(n1:R<t)(n2:t≠ms)(n3:t≠Fx)(n4:t≠bb)(n5:t≠gm)(hy:V.cell? ⟨t,o,none⟩=some y)(hx:((∃ z:Int,y=.int .i64 z)∧∃ z:Int,x=.int .i64 z)∨x=y∨((∃ cur,V.heap[t]?=some (.cells cur 92 (0,0)))∧o%2=1∧∀ M,SlW M 400 y→SlW M 400 x))(hg:g<R):BrS W4 R g ms Fx bb gm n a0 len cap (V.setCell ⟨t,o,none⟩ x):=by
 have hs:∀ c,c≠t→(V.setCell ⟨t,o,none⟩ x).heap[c]?=V.heap[c]?:=fun c hc=>Below.heap_setCell _ _ _ _ hc
 exact⟨rd_keep h.rd (by simp only[World.size_setCell];exact Nat.le_refl _) fun b hb=>hs b (by omega),h.mr.set n5 hy hx,fun b h1 h2=>(hs b (by omega)).trans (h.keep b h1 h2),(set_os _ _ _).trans h.os,(set_tape _ _ _).trans h.tape,(set_output _ _ _).trans h.output,by simp only[World.size_setCell];exact h.size⟩
theorem inst_cell{w:World}{lo ig mi i:Nat}{M:Tmap}(th:TH lo M 400 w)(hM:M ig=some (95,mi))(hi:i<mi)(F:Nat)(hF:F<6):(∃ z:Int,w.cell? ⟨ig,i*7+F,none⟩=some (.int .i64 z))∧∃ cur,w.heap[ig]?=some (.cells cur 95 (0,0)):=by
 obtain⟨_,cur,hc,hel⟩:=th ig _ mi hM
 have hs:szT 95=7:=by decide
 obtain⟨z,hz⟩:=((hel i hi).2.2.2.1 rfl).1 F hF
 simp only[hs] at hz
 exact⟨⟨z,(zcH hc).trans hz⟩,cur,hc⟩
theorem phi_cell{w:World}{lo pg mp:Nat}{M:Tmap}(th:TH lo M 400 w)(hM:M pg=some (92,mp))(hi:0<mp):∃ cur,w.heap[pg]?=some (.cells cur 92 (0,0))∧∃ sg sn sc ms,w.cell? ⟨pg,1,none⟩=some (.slice (some ⟨sg,0,none⟩) sn sc)∧1≤sn∧M sg=some (2,ms)∧sn≤ms:=by
 obtain⟨_,cur,hc,hel⟩:=th pg _ mp hM
 have hs:szT 92=2:=by decide
 obtain⟨_,v,hv,n,h1,h2,u,c,rfl,h3⟩:=(hel 0 hi).2.2.1 rfl
 simp only[hs] at hv
 rcases h3 with h3|⟨sg,ms,rfl,h4,h5⟩
 ·omega
 ·exact⟨cur,hc,sg,n,c,ms,(zcH hc).trans hv,h1,h4,h5⟩
theorem int_cell{w:World}{lo sg ms:Nat}{M:Tmap}(th:TH lo M 400 w)(hM:M sg=some (2,ms))(hi:0<ms):∃ (z:Int) (cur:Array Value),w.cell? ⟨sg,0,none⟩=some (.int .i64 z)∧w.heap[sg]?=some (.cells cur 2 (0,0)):=by
 obtain⟨_,cur,hc,hel⟩:=th sg _ ms hM
 have hs:szT 2=1:=by decide
 obtain⟨z,hz⟩:=(hel 0 hi).1 rfl
 simp only[hs] at hz
 exact⟨z,cur,(zcH hc).trans hz,hc⟩
theorem ModR.row{lo gm n bb k:Nat}{w:World}{p i:Value}{a b c d a' b' c' d':Int}(h:ModR lo gm n w)(hb:bb≠gm)(h0:w.cell? ⟨bb,k,none⟩=some p)(h1:w.cell? ⟨bb,k+1,none⟩=some i)(h2:w.cell? ⟨bb,k+2,none⟩=some (.int .i64 a))(h3:w.cell? ⟨bb,k+3,none⟩=some (.int .i64 b))(h4:w.cell? ⟨bb,k+4,none⟩=some (.int .i64 c))(h5:w.cell? ⟨bb,k+5,none⟩=some (.int .i64 d)) :
  ModR lo gm n ((((((w.setCell ⟨bb,k,none⟩ p).setCell ⟨bb,k+1,none⟩ i).setCell ⟨bb,k+2,none⟩ (.int .i64 a')).setCell ⟨bb,k+3,none⟩ (.int .i64 b')).setCell ⟨bb,k+4,none⟩ (.int .i64 c')).setCell ⟨bb,k+5,none⟩ (.int .i64 d')):=by
 have s0:=h.set hb h0 (x:=p) (.inr (.inl rfl))
 have s1:=s0.set hb (cell_off h1 (by omega)) (x:=i) (.inr (.inl rfl))
 have s2:=s1.set hb (cell_off (cell_off h2 (by omega)) (by omega)) (x:=.int .i64 a') (.inl ⟨⟨_,rfl⟩,⟨_,rfl⟩⟩)
 have s3:=s2.set hb (cell_off (cell_off (cell_off h3 (by omega)) (by omega)) (by omega)) (x:=.int .i64 b') (.inl ⟨⟨_,rfl⟩,⟨_,rfl⟩⟩)
 have s4:=s3.set hb (cell_off (cell_off (cell_off (cell_off h4 (by omega)) (by omega)) (by omega)) (by omega)) (x:=.int .i64 c') (.inl ⟨⟨_,rfl⟩,⟨_,rfl⟩⟩)
 exact s4.set hb (cell_off (cell_off (cell_off (cell_off (cell_off h5 (by omega)) (by omega)) (by omega)) (by omega)) (by omega)) (.inl ⟨⟨_,rfl⟩,⟨_,rfl⟩⟩)
theorem slw_tail0{M:Tmap}{sg sn sc:Nat}(h:SlW M 400 (.slice (some ⟨sg,0,none⟩) sn sc))(h1:1≤sn):SlW M 400 (.slice (some ⟨sg,0,none⟩) (sn-1) 0):=by
 obtain⟨u,n,c,e,h2,h3⟩:=h
 cases e
 refine⟨_,_,_,rfl,by omega,?_⟩
 rcases h3 with h3|⟨g,o,m,e,h4,h5⟩
 ·omega
 ·cases e
  exact .inr ⟨sg,0,m,rfl,h4,by omega⟩
theorem slw_tail{M:Tmap}{sg sn sc:Nat}(h:SlW M 400 (.slice (some ⟨sg,0,none⟩) sn sc))(h1:1≤sn):SlW M 400 (.slice (some ⟨sg,1,none⟩) (sn-1) (sc-1)):=by
 obtain⟨u,n,c,e,h2,h3⟩:=h
 cases e
 refine⟨_,_,_,rfl,by omega,?_⟩
 rcases h3 with h3|⟨g,o,m,e,h4,h5⟩
 ·omega
 ·cases e
  exact .inr ⟨sg,1,m,rfl,h4,by omega⟩
theorem broken_any(g:Nat)(a0:Option Addr)(len cap:Nat)(v:World)(h:Rd g a0 len cap v):Calls Tryz.prog 37 #[.pointer (some ⟨g,0,none⟩)] v fun e w=>BrTold g a0 len cap v e w:=by
 have hgR:g<v.heap.size:=h.lt
 have PM:=module_all g a0 len cap _ (h.alloc (.cells #[.slice none 0 0] 26))
 have hsz:(v.alloc (.cells #[.slice none 0 0] 26)).heap.size=v.heap.size+1:=by simp
 have hR0:(v.alloc (.cells #[.slice none 0 0] 26)).heap[v.heap.size]?=some (.cells #[.slice none 0 0] 26 (0,0)):=zhL _ _
 have hv1:∀ b,b<v.heap.size→(v.alloc (.cells #[.slice none 0 0] 26)).heap[b]?=v.heap[b]?:=fun b hb=>Below.heap_alloc _ _ _ hb
 unfold ModAll at PM
 rw[hsz] at PM
 go_enter Tryz.func37,Tryz.ntmps37
 go_wp2_with (first|(go_at_call 29;refine PM.mono ?_;rintro e w2 ⟨gm,n,cm,rfl,hn1,hn2,hgm,hcur,hfs,hrd2,hold,hs2,o1,o2,o3⟩))
 have hR2:w2.heap[v.heap.size]?=some (.cells #[.slice none 0 0] 26 (0,0)):=(hold v.heap.size (by omega) (by omega)).trans hR0
 have hW2:∀ b,b<v.heap.size→b≠g→w2.heap[b]?=v.heap[b]?:=fun b hb hn=>(hold b (by omega) hn).trans (hv1 b hb)
 obtain⟨wT,hwT⟩:∃ wT,wT=w2.alloc (.cells #[.slice (some ⟨gm,0,none⟩) n cm] 26):=⟨_,rfl⟩
 have hT:At wT w2.heap.size #[.slice (some ⟨gm,0,none⟩) n cm] 26:=by rw[hwT];exact zhL _ _
 have hBT:Below w2.heap.size w2 wT:=by rw[hwT];exact (Below.refl _ _).alloc (Nat.le_refl _) _
 have hrdT:Rd g a0 len cap wT:=rd_keep hrd2 hBT.size fun b hb=>hBT.block b (by omega)
 have hgl:gm<w2.heap.size:=by obtain⟨cur,hc⟩:=hcur;exact (Array.getElem?_eq_some_iff.1 hc).1
 have hmrT:ModR (v.heap.size+1) gm n wT:=(ModAll.r hcur hfs).same hgm fun b h1 h2=>hBT.block b h2
 have hfsT:∀ i,i<n→∃ (d:FuncD) (up ub:Option Addr) (cp cb:Nat),wT.cell? ⟨gm,i*3,none⟩=some (.slice up d.params.length cp)∧wT.cell? ⟨gm,i*3+1,none⟩=some (.int .i64 d.ret)∧wT.cell? ⟨gm,i*3+2,none⟩=some (.slice ub d.blocks.length cb)∧Ty2 wT (v.heap.size+1) d up ub:=fun i hi=>by
  obtain⟨d,up,ub,cp,cb,h0,h1,h2,h3⟩:=hfs i hi
  exact⟨d,up,ub,cp,cb,(cell_blk (hBT.block gm hgl)).trans h0,(cell_blk (hBT.block gm hgl)).trans h1,(cell_blk (hBT.block gm hgl)).trans h2,h3.keep (g:=0) (fun b hb _=>hBT.block b hb) (by omega)⟩
 have hcurT:∃ cur,wT.heap[gm]?=some (.cells cur 55 (0,0)):=by obtain⟨cur,hc⟩:=hcur;exact⟨cur,(hBT.block gm hgl).trans hc⟩
 have hglT:gm<wT.heap.size:=Nat.lt_of_lt_of_le hgl hBT.size
 have hz2T:w2.heap.size<wT.heap.size:=hT.lt
 have hRT:At wT v.heap.size #[.slice none 0 0] 26:=(hBT.block _ (by omega)).trans hR2
 have hWT:∀ b,b<v.heap.size→b≠g→wT.heap[b]?=v.heap[b]?:=fun b hb hn=>(hBT.block b (by omega)).trans (hW2 b hb hn)
 have ho1:wT.os=v.os:=hBT.os.trans o1
 have ho2:wT.tape=v.tape:=hBT.tape.trans o2
 have ho3:wT.output=v.output:=hBT.output.trans o3
 have HM:∀ W,wT.grownBy W (some g)→W.cell? ⟨w2.heap.size,0,none⟩=some (.slice (some ⟨gm,0,none⟩) n cm):=fun W k=>(zcH ((k.block _ hz2T (by intro e;have:=Option.some.inj e;omega)).trans hT)).trans rfl
 have HC:∀ W,wT.grownBy W (some g)→∀ {o:Nat} {x:Value},(wT.cell? ⟨gm,o,none⟩=some x)→W.cell? ⟨gm,o,none⟩=some x:=fun W k o x h=>(zcB (k.block gm hglT (by intro e;have:=Option.some.inj e;omega))).trans h
 rw[←hwT]
 clear hwT PM hsz hR0 hv1 hcur hfs hrd2 hold o1 o2 o3 hR2 hW2 hBT h
 go_cut [4] (fun s4 wc=>∃ (d:FuncD) (up ub:Option Addr) (cp cb Fx:Nat),s4=.pointer (some ⟨Fx,0,none⟩)∧wT.heap.size≤Fx∧At wc Fx #[.slice up d.params.length cp,.int .i64 d.ret,.slice ub d.blocks.length cb] 55∧Rd g a0 len cap wc∧wT.grownBy wc (some g)∧Ty2 wT (v.heap.size+1) d up ub)
 case first =>
  refine wp_region_held_drew (S:=fun w'=>Rd g a0 len cap w'∧wT.grownBy w' (some g)) (by kernel_rfl) (⟨rd_drw hrdT,grown_drw (World.grownBy.refl _ _)⟩) (fun hHeld=>?_)
  refine tkh 0 (v:=?_) rfl rfl (by kernel_rfl) (fun _ _ _ h=>h) (yesH (by rfl) ?_) hHeld ?_
  rotate_left
  ·intro w9 hS9
   go_simp
   try with_reducible rfl
  simp only[sA,sB,sC]
  refine tkh 1 (v:=?_) rfl rfl (by kernel_rfl) (fun _ _ _ h=>h) (yesH (by rfl) ?_) hHeld ?_
  rotate_left
  ·intro w9 hS9
   have g0:=HM w9 hS9.2
   go_simp
   try with_reducible rfl
  simp only[sA,sB,sC]
  refine tkh 2 (v:=?_) rfl rfl (by kernel_rfl) (fun _ _ _ h=>h) (yesH (by rfl) ?_) hHeld ?_
  rotate_left
  ·intro w9 hS9
   go_simp
   try with_reducible rfl
  simp only[sA,sB,sC]
  refine tkh 3 (v:=?_) rfl rfl (by kernel_rfl) (fun _ _ _ h=>h) (yesH (by rfl) ?_) hHeld ?_
  rotate_left
  ·intro w9 hS9
   go_simp
   try with_reducible rfl
  simp only[sA,sB,sC]
  refine tkh 4 (v:=?_) rfl rfl (by kernel_rfl) (fun _ _ _ h=>h) (yesH (by rfl) ?_) hHeld ?_
  rotate_left
  ·intro w9 hS9
   have g0:=HM w9 hS9.2
   go_simp
   try with_reducible rfl
  simp only[sA,sB,sC]
  refine tkh 5 (v:=?_) rfl rfl (by kernel_rfl) (fun _ _ _ h=>h) (yesH (by rfl) ?_) hHeld ?_
  rotate_left
  ·intro w9 hS9
   go_simp
   try with_reducible rfl
  simp only[sA,sB,sC]
  refine wpAnyH_ready (rs:=[6,9]) (by kernel_rfl) (by simp) ?_
  refine AllReadyH.cons rfl (fun K hK=>?_) (AllReadyH.cons rfl (fun K hK=>?_) AllReadyH.nil)
  ·go_simp
   go_wp2_with (go_at_call 57;refine (below_any g a0 len cap _ _ hHeld.1).mono ?_;rintro e w5 ⟨n5,rfl,p0,p1,hr5,hg5⟩)
   have hg6:wT.grownBy w5 (some g):=zgT hHeld.2 hg5
   have hnl:n5.toNat<n:=by omega
   have hnI:n5<(n:Int):=by omega
   clear p1
   obtain⟨d,up,ub,cp,cb,k0,k1,k2,hty⟩:=hfsT n5.toNat hnl
   refine hK.out _ _ ?_ (fun hHeld2=>?_)
   ·exact⟨hr5,hg6⟩
   clear hK K
   have hPrev:=hHeld
   clear hHeld
   have hHeld:=hHeld2
   clear hHeld2
   try simp only[Act.put,sA,sB,sC]
   refine tkh 7 (v:=?_) rfl rfl (by kernel_rfl) (fun _ _ _ h=>h) (yesH (by rfl) ?_) hHeld ?_
   rotate_left
   ·intro w9 hS9
    go_simp
    try with_reducible rfl
   simp only[sA,sB,sC]
   refine tkh 8 (v:=?_) rfl rfl (by kernel_rfl) (fun _ _ _ h=>h) (yesH (by rfl) ?_) hHeld ?_
   rotate_left
   ·intro w9 hS9
    have g0:=HC w9 hS9.2 k0
    have g1:=HC w9 hS9.2 k1
    have g2:=HC w9 hS9.2 k2
    go_simp
    try with_reducible rfl
   simp only[sA,sB,sC]
   refine wpAnyH_ready (rs:=[9]) (by kernel_rfl) (by simp) ?_
   refine AllReadyH.cons rfl (fun K hK=>?_) AllReadyH.nil
   go_simp
   go_wp2_with fail
   refine hK.out _ _ ?_ (fun hHeld2=>?_)
   ·exact⟨hHeld.1.alloc _,zgT hHeld.2 (World.grownBy_alloc _ _ _)⟩
   clear hK K
   have hPrev:=hHeld
   clear hHeld
   have hHeld:=hHeld2
   clear hHeld2
   try simp only[Act.put,sA,sB,sC]
   refine wpAnyH_ready (rs:=[10]) (by kernel_rfl) (by simp) ?_
   refine AllReadyH.cons rfl (fun K hK=>?_) AllReadyH.nil
   go_simp
   go_wp2_with fail
   refine hK.out _ _ ?_ (fun hHeld2=>?_)
   ·exact⟨hPrev.1.alloc _,zgT hPrev.2 (World.grownBy_alloc _ _ _)⟩
   clear hK K hHeld
   have hHeld:=hHeld2
   clear hHeld2
   try simp only[Act.put,sA,sB,sC]
   refine wpAnyH_done (by kernel_rfl) ?_ _
   have X8:=At.new w5 #[.slice up d.params.length cp,.int .i64 d.ret,.slice ub d.blocks.length cb] 55
   have hRd8:=hHeld.1
   have hG8:=hHeld.2
   go_wp2_with fail
   go_meet
   case rel=>exact⟨d,up,ub,cp,cb,_,rfl,hg6.size,X8,hRd8,hG8,hty⟩
  ·go_simp
   go_wp2_with fail
   refine hK.out _ _ ?_ (fun hHeld2=>?_)
   ·exact⟨hHeld.1.alloc _,zgT hHeld.2 (World.grownBy_alloc _ _ _)⟩
   clear hK K
   have hPrev:=hHeld
   clear hHeld
   have hHeld:=hHeld2
   clear hHeld2
   try simp only[Act.put,sA,sB,sC]
   refine wpAnyH_ready (rs:=[6]) (by kernel_rfl) (by simp) ?_
   refine AllReadyH.cons rfl (fun K hK=>?_) AllReadyH.nil
   go_simp
   go_wp2_with (go_at_call 57;refine (below_any g a0 len cap _ _ (hPrev.1.alloc _)).mono ?_;rintro e w5 ⟨n5,rfl,p0,p1,hr5,hg5⟩)
   have hg6:wT.grownBy w5 (some g):=zgT (zgT hPrev.2 (World.grownBy_alloc _ _ _)) hg5
   have hnl:n5.toNat<n:=by omega
   have hnI:n5<(n:Int):=by omega
   clear p1
   obtain⟨d,up,ub,cp,cb,k0,k1,k2,hty⟩:=hfsT n5.toNat hnl
   have X5:=hg5.block wT.heap.size (by simp) (by intro e;have:=Option.some.inj e;omega)
   have X6:At w5 wT.heap.size #[.slice none 0 0,.int .i64 0,.slice none 0 0] 55:=X5.trans (At.new wT.drew #[.slice none 0 0,.int .i64 0,.slice none 0 0] 55)
   clear X5
   have y0:w5.cell? ⟨wT.heap.size,0,none⟩=some (.slice none 0 0):=X6.cell 0
   have y1:w5.cell? ⟨wT.heap.size,1,none⟩=some (.int .i64 0):=X6.cell 1
   have y2:w5.cell? ⟨wT.heap.size,2,none⟩=some (.slice none 0 0):=X6.cell 2
   have yf:∀ o,w5.frozen? ⟨wT.heap.size,o,none⟩=false:=fun o=>zfH X6
   refine hK.out _ _ ?_ (fun hHeld2=>?_)
   ·exact⟨hr5,hg6⟩
   clear hK K
   have hPrev:=hHeld
   clear hHeld
   have hHeld:=hHeld2
   clear hHeld2
   try simp only[Act.put,sA,sB,sC]
   refine tkh 7 (v:=?_) rfl rfl (by kernel_rfl) (fun _ _ _ h=>h) (yesH (by rfl) ?_) hHeld ?_
   rotate_left
   ·intro w9 hS9
    go_simp
    try with_reducible rfl
   simp only[sA,sB,sC]
   refine tkh 8 (v:=?_) rfl rfl (by kernel_rfl) (fun _ _ _ h=>h) (yesH (by rfl) ?_) hHeld ?_
   rotate_left
   ·intro w9 hS9
    have g0:=HC w9 hS9.2 k0
    have g1:=HC w9 hS9.2 k1
    have g2:=HC w9 hS9.2 k2
    go_simp
    try with_reducible rfl
   simp only[sA,sB,sC]
   refine wpAnyH_ready (rs:=[10]) (by kernel_rfl) (by simp) ?_
   refine AllReadyH.cons rfl (fun K hK=>?_) AllReadyH.nil
   go_simp
   go_wp2_with fail
   have X8:At (((w5.setCell ⟨wT.heap.size,0,none⟩ (.slice up d.params.length cp)).setCell ⟨wT.heap.size,1,none⟩ (.int .i64 d.ret)).setCell ⟨wT.heap.size,2,none⟩ (.slice ub d.blocks.length cb)) wT.heap.size #[.slice up d.params.length cp,.int .i64 d.ret,.slice ub d.blocks.length cb] 55:=(zhS (o:=2) (v:=.slice ub d.blocks.length cb) (zhS (o:=1) (v:=.int .i64 d.ret) (zhS (o:=0) (v:=.slice up d.params.length cp) X6)))
   have hset:∀ b,b≠wT.heap.size→(((w5.setCell ⟨wT.heap.size,0,none⟩ (.slice up d.params.length cp)).setCell ⟨wT.heap.size,1,none⟩ (.int .i64 d.ret)).setCell ⟨wT.heap.size,2,none⟩ (.slice ub d.blocks.length cb)).heap[b]?=w5.heap[b]?:=fun b hb=>by rw[Below.heap_setCell _ _ _ _ hb,Below.heap_setCell _ _ _ _ hb,Below.heap_setCell _ _ _ _ hb]
   have hRd8:Rd g a0 len cap (((w5.setCell ⟨wT.heap.size,0,none⟩ (.slice up d.params.length cp)).setCell ⟨wT.heap.size,1,none⟩ (.int .i64 d.ret)).setCell ⟨wT.heap.size,2,none⟩ (.slice ub d.blocks.length cb)):=rd_keep hr5 (by simp only[World.size_setCell];exact Nat.le_refl _) (fun b hb=>hset b (by omega))
   have hG8:wT.grownBy (((w5.setCell ⟨wT.heap.size,0,none⟩ (.slice up d.params.length cp)).setCell ⟨wT.heap.size,1,none⟩ (.int .i64 d.ret)).setCell ⟨wT.heap.size,2,none⟩ (.slice ub d.blocks.length cb)) (some g):=⟨by simp only[set_os];exact hg6.os,by simp only[set_tape];exact hg6.tape,by simp only[set_output];exact hg6.output,by simp only[World.size_setCell];exact hg6.size,fun b hb hn=>(hset b (by omega)).trans (hg6.block b hb hn)⟩
   refine hK.out _ _ ?_ (fun hHeld2=>?_)
   ·exact⟨hRd8,hG8⟩
   clear hK K hHeld
   have hHeld:=hHeld2
   clear hHeld2
   try simp only[Act.put,sA,sB,sC]
   refine wpAnyH_done (by kernel_rfl) ?_ _
   go_wp2_with fail
   go_meet
   case rel=>exact⟨d,up,ub,cp,cb,_,rfl,Nat.le_refl _,X8,hRd8,hG8,hty⟩
 case rest =>
  obtain⟨W1,hW1⟩:∃ W,W=wc:=⟨_,rfl⟩
  subst hW1
  obtain⟨d,up,ub,cp,cb,Fx,rfl,hFx,X1,hr1,hg1,hty⟩:=hcut
  clear HC HM hfsT
  have hone:1≤d.blocks.length:=by obtain⟨_,_,_,_,_,h,_⟩:=hty;exact h
  have x2:W1.cell? ⟨Fx,2,none⟩=some (.slice ub d.blocks.length cb):=X1.cell 2
  have HX1:Hid (At W1 Fx #[.slice up d.params.length cp,.int .i64 d.ret,.slice ub d.blocks.length cb] 55):=X1
  have HG1:Hid (wT.grownBy W1 (some g)):=hg1
  have hFl:Fx<W1.heap.size:=X1.lt
  clear X1 hg1
  go_wp2_with fail
  refine (below_any g a0 len cap _ W1 hr1).mono ?_
  rintro e W2 ⟨q,rfl,p0,p1,hr2,hg2⟩
  have hqI:q<(d.blocks.length:Int):=by omega
  have hql:q.toNat<d.blocks.length:=by omega
  clear p1 x2
  have HX2:Hid (At W2 Fx #[.slice up d.params.length cp,.int .i64 d.ret,.slice ub d.blocks.length cb] 55):=at_grown HX1.out hg2 (by omega)
  have hgT2:wT.grownBy W2 (some g):=zgT HG1.out hg2
  clear HX1 HG1 hr1 hg2
  obtain⟨M,m,bb,pu,pn,pc,iu,jn,ic,k2,k3,k4,k5,rfl,th,hMb,hmb,c0,c1,c2,c3,c4,c5,slp,sli,hpn,hjn⟩:=ty_block hty hql
  have hbl:bb<wT.heap.size∧(v.heap.size+1)≤bb:=⟨(th.blk hMb).2,(th.blk hMb).1⟩
  have HB2:∀ {o:Nat} {x:Value},wT.cell? ⟨bb,o,none⟩=some x→W2.cell? ⟨bb,o,none⟩=some x:=fun {o x} h=>(zcB (hgT2.block bb hbl.1 (by intro e;have:=Option.some.inj e;omega))).trans h
  have y0:=HB2 c0
  have y1:=HB2 c1
  have y2:=HB2 c2
  have y3:=HB2 c3
  have y4:=HB2 c4
  have y5:=HB2 c5
  have x2:W2.cell? ⟨Fx,2,none⟩=some (.slice (some ⟨bb,0,none⟩) d.blocks.length cb):=HX2.out.cell 2
  go_wp2_with fail
  refine (below_any g a0 len cap _ (W2.alloc (.cells #[.slice pu pn pc,.slice iu jn ic,.int .i64 k2,.int .i64 k3,.int .i64 k4,.int .i64 k5] 74)) (hr2.alloc _)).mono ?_
  rintro e W4 ⟨k,rfl,k0,k9,hr4,hg4⟩
  have hk9:k<9:=by omega
  clear k9
  have hz2:wT.heap.size≤W2.heap.size:=hgT2.size
  have hgT4:wT.grownBy W4 (some g):=zgT hgT2 (zgT (World.grownBy_alloc _ _ _) hg4)
  have HX4:Hid (At W4 W2.heap.size #[.slice pu pn pc,.slice iu jn ic,.int .i64 k2,.int .i64 k3,.int .i64 k4,.int .i64 k5] 74):=at_grown (At.new _ _ _) hg4 (by omega)
  have hB4:BrS W4 v.heap.size g w2.heap.size Fx bb gm n a0 len cap W4:=BrS.start hr4 (hmrT.same hgm fun b h1 h2=>hgT4.block b h2 (by intro e;have:=Option.some.inj e;omega))
  have HB4:Hid (BrS W4 v.heap.size g w2.heap.size Fx bb gm n a0 len cap W4):=hB4
  have hz4:W2.heap.size<W4.heap.size:=HX4.out.lt
  have hF2:Fx<W2.heap.size:=HX2.out.lt
  have hth4:TH (v.heap.size+1) M 400 W4:=th.same fun b h1 h2 _=>hgT4.block b h2 (by intro e;have:=Option.some.inj e;omega)
  have HF4:Hid (At W4 Fx #[.slice up d.params.length cp,.int .i64 d.ret,.slice (some ⟨bb,0,none⟩) d.blocks.length cb] 55):=at_grown (HX2.out.below ((Below.refl _ _).alloc (Nat.le_refl _) _)) hg4 (by omega)
  have HB4b:Hid (∃ cur,W4.heap[bb]?=some (.cells cur 74 (0,0))):=by obtain⟨_,cur,hc,_⟩:=hth4 bb _ m hMb;exact⟨cur,hc⟩
  have Hgm4:Hid (∃ cur,W4.heap[gm]?=some (.cells cur 55 (0,0))):=by obtain⟨cur,hc⟩:=hcurT;exact⟨cur,(hgT4.block gm hglT (by intro e;have:=Option.some.inj e;omega)).trans hc⟩
  have HT4:Hid (At W4 w2.heap.size #[.slice (some ⟨gm,0,none⟩) n cm] 26):=at_grown hT hgT4 (by omega)
  have HTH4:Hid (TH (v.heap.size+1) M 400 W4):=hth4
  have HGT:Hid (wT.grownBy W4 (some g)):=hgT4
  have Hap:Hid (∀ (t mt:Nat) (T:TypeId),M t=some (T,mt)→T≠74→T≠55→T≠26→v.heap.size<t∧t≠w2.heap.size∧t≠Fx∧t≠bb∧t≠gm∧t≠W2.heap.size∧t≠g∧t<W4.heap.size):=fun t mt T hM n1 n2 n3=>by
   obtain⟨k1,cur,k2,_⟩:=hth4 t T mt hM
   obtain⟨_,cur0,k3,_⟩:=th t T mt hM
   have k4:=(Array.getElem?_eq_some_iff.1 k3).1
   obtain⟨c1,e1⟩:=HB4b.out
   obtain⟨c2,e2⟩:=Hgm4.out
   exact⟨by omega,blk_ne k2 HT4.out n3,by omega,blk_ne k2 e1 n1,blk_ne k2 e2 n2,by omega,by omega,by omega⟩
  have HSP:Hid (SlN M 92 (.slice pu pn pc) pn):=slp
  have HSI:Hid (SlN M 95 (.slice iu jn ic) jn):=sli
  clear hB4 hth4 hr4 hg4 hgT4 hmrT HX2 HB2 y0 y1 y2 y3 y4 y5 x2 slp sli th hgT2 hr2 hcurT hT hrdT hty
  go_upto_block 0 with fail
  go_cut [5] (fun s5 wz=>s5=.int .i64 q∧∃ j2 j3 j4 j5:Int,BrS W4 v.heap.size g w2.heap.size Fx bb gm n a0 len cap wz∧At wz W2.heap.size #[.slice pu pn pc,.slice iu jn ic,.int .i64 j2,.int .i64 j3,.int .i64 j4,.int .i64 j5] 74)
  case first =>
   have hk:k=0∨k=1∨k=2∨k=3∨k=4∨k=5∨k=6∨k=7∨k=8:=by omega
   clear k0 hk9
   rcases hk with rfl|rfl|rfl|rfl|rfl|rfl|rfl|rfl|rfl
   ·by_cases hj:jn=0
    ·subst hj
     have x0:W4.cell? ⟨W2.heap.size,0,none⟩=some (.slice pu pn pc):=HX4.out.cell 0
     have x1:W4.cell? ⟨W2.heap.size,1,none⟩=some (.slice iu 0 ic):=HX4.out.cell 1
     have x2:W4.cell? ⟨W2.heap.size,2,none⟩=some (.int .i64 k2):=HX4.out.cell 2
     have x3:W4.cell? ⟨W2.heap.size,3,none⟩=some (.int .i64 k3):=HX4.out.cell 3
     have x4:W4.cell? ⟨W2.heap.size,4,none⟩=some (.int .i64 k4):=HX4.out.cell 4
     have x5:W4.cell? ⟨W2.heap.size,5,none⟩=some (.int .i64 k5):=HX4.out.cell 5
     go_wp2_with fail
     go_meet
     case rel=>exact⟨rfl,k2,k3,k4,k5,HB4.out,HX4.out⟩
    ·have hj1:(0:Int)<(jn:Int):=by omega
     obtain⟨ig,mi,hiu,hMi,hmi⟩:∃ ig mi,iu=some ⟨ig,0,none⟩∧M ig=some (95,mi)∧jn≤mi:=by
      obtain⟨u,c,e,h3⟩:=HSI.out
      cases e
      rcases h3 with h3|⟨ig,mi,e,h4,h5⟩
      ·exact absurd h3 hj
      ·exact⟨ig,mi,e,h4,h5⟩
     subst hiu
     obtain⟨a1,a2,a3,a4,a5,a6,a7,a8⟩:=Hap.out ig mi _ hMi (by decide) (by decide) (by decide)
     have HXc:∀ V:World,V.heap[W2.heap.size]?=W4.heap[W2.heap.size]?→∀ (o:Nat) (x:Value),(#[.slice pu pn pc,.slice (some ⟨ig,0,none⟩) jn ic,.int .i64 k2,.int .i64 k3,.int .i64 k4,.int .i64 k5]:Array Value)[o]?=some x→V.cell? ⟨W2.heap.size,o,none⟩=some x:=fun V k o x hx=>(zcH (k.trans HX4.out)).trans hx
     have x0:W4.cell? ⟨W2.heap.size,0,none⟩=some (.slice pu pn pc):=HX4.out.cell 0
     have x1:W4.cell? ⟨W2.heap.size,1,none⟩=some (.slice (some ⟨ig,0,none⟩) jn ic):=HX4.out.cell 1
     have x2:W4.cell? ⟨W2.heap.size,2,none⟩=some (.int .i64 k2):=HX4.out.cell 2
     have x3:W4.cell? ⟨W2.heap.size,3,none⟩=some (.int .i64 k3):=HX4.out.cell 3
     have x4:W4.cell? ⟨W2.heap.size,4,none⟩=some (.int .i64 k4):=HX4.out.cell 4
     have x5:W4.cell? ⟨W2.heap.size,5,none⟩=some (.int .i64 k5):=HX4.out.cell 5
     go_wp2_with fail
     clear x0 x1 x2 x3 x4 x5
     refine wp_region_held_drew (S:=fun w'=>Rd g a0 len cap w'∧∀ b,b<W4.heap.size→b≠g→b≠ig→w'.heap[b]?=W4.heap[b]?) (by kernel_rfl) (⟨rd_drw HB4.out.rd,fun _ _ _ _=>rfl⟩) (fun hHeld=>?_)
     have hV:W4.grownBy W4.drew (some g):=grown_drw (World.grownBy.refl _ _)
     have hr:Rd g a0 len cap W4.drew:=rd_drw HB4.out.rd
     refine tkh 0 (v:=?_) rfl rfl (by kernel_rfl) (fun _ _ _ h=>h) (yesH (by rfl) ?_) hHeld ?_
     rotate_left
     ·intro w9 hS9
      go_simp
      try with_reducible rfl
     simp only[sA,sB,sC]
     refine tkh 1 (v:=?_) rfl rfl (by kernel_rfl) (fun _ _ _ h=>h) (yesH (by rfl) ?_) hHeld ?_
     rotate_left
     ·intro w9 hS9
      have g0:=HXc w9 (hS9.2 W2.heap.size hz4 (by omega) (by omega)) 1 _ rfl
      go_simp
      try with_reducible rfl
     simp only[sA,sB,sC]
     refine tkh 2 (v:=?_) rfl rfl (by kernel_rfl) (fun _ _ _ h=>h) (yesH (by rfl) ?_) hHeld ?_
     rotate_left
     ·intro w9 hS9
      go_simp
      try with_reducible rfl
     simp only[sA,sB,sC]
     refine tkh 3 (v:=?_) rfl rfl (by kernel_rfl) (fun _ _ _ h=>h) (yesH (by rfl) ?_) hHeld ?_
     rotate_left
     ·intro w9 hS9
      go_simp
      try with_reducible rfl
     simp only[sA,sB,sC]
     refine tkh 4 (v:=?_) rfl rfl (by kernel_rfl) (fun _ _ _ h=>h) (yesH (by rfl) ?_) hHeld ?_
     rotate_left
     ·intro w9 hS9
      have g0:=HXc w9 (hS9.2 W2.heap.size hz4 (by omega) (by omega)) 1 _ rfl
      go_simp
      try with_reducible rfl
     simp only[sA,sB,sC]
     refine tkh 5 (v:=?_) rfl rfl (by kernel_rfl) (fun _ _ _ h=>h) (yesH (by rfl) ?_) hHeld ?_
     rotate_left
     ·intro w9 hS9
      go_simp
      try with_reducible rfl
     simp only[sA,sB,sC]
     refine tkh 7 (v:=?_) rfl rfl (by kernel_rfl) (fun _ _ _ h=>h) (yesH (by rfl) ?_) hHeld ?_
     rotate_left
     ·intro w9 hS9
      go_simp
      try with_reducible rfl
     simp only[sA,sB,sC]
     refine wpAnyH_ready (rs:=[6]) (by kernel_rfl) (by simp) ?_
     refine AllReadyH.cons rfl (fun K hK=>?_) AllReadyH.nil
     go_simp
     go_wp2_with (go_at_call 57;refine (below_any g a0 len cap _ _ hr).mono ?_;rintro e V1 ⟨n8,rfl,p8,q8,hr9,hg9⟩)
     have gV:W4.grownBy V1 (some g):=zgT hV hg9
     have hnl8:n8.toNat<jn:=by omega
     have hnI8:n8<(jn:Int):=by omega
     clear q8
     obtain⟨⟨z,hz⟩,zc,hzc⟩:=inst_cell HTH4.out hMi (show n8.toNat<mi by omega) 2 (by omega)
     refine hK.out _ _ ?_ (fun hHeld2=>?_)
     ·exact⟨hr9,fun b h1 h2 _=>gV.block b h1 (by intro e;exact h2 (Option.some.inj e))⟩
     clear hr hV
     clear hK K hHeld
     have hHeld:=hHeld2
     clear hHeld2
     try simp only[Act.put,sA,sB,sC]
     have hV:=gV
     have hr:=hr9
     clear gV hr9 hg9
     refine wpAnyH_ready (rs:=[8]) (by kernel_rfl) (by simp) ?_
     refine AllReadyH.cons rfl (fun K hK=>?_) AllReadyH.nil
     go_simp
     go_wp2_with (go_at_call 69;refine (off_any g a0 len cap 0 12 _ hr (by omega) (by omega) (by omega)).mono ?_;rintro e V2 ⟨m8,rfl,_,_,hr9,hg9⟩)
     have gV:W4.grownBy V2 (some g):=zgT hV hg9
     have y9:V2.cell? ⟨ig,n8.toNat*7+2,none⟩=some (.int .i64 z):=(zcB (gV.block ig a8 (by intro e;have:=Option.some.inj e;omega))).trans hz
     have yf:V2.frozen? ⟨ig,n8.toNat*7+2,none⟩=false:=zfH ((gV.block ig a8 (by intro e;have:=Option.some.inj e;omega)).trans hzc)
     refine hK.out _ _ ?_ (fun hHeld2=>?_)
     ·exact⟨hr9,fun b h1 h2 _=>gV.block b h1 (by intro e;exact h2 (Option.some.inj e))⟩
     clear hr hV
     clear hK K hHeld
     have hHeld:=hHeld2
     clear hHeld2
     try simp only[Act.put,sA,sB,sC]
     have hV:=gV
     have hr:=hr9
     clear gV hr9 hg9
     refine tkh 9 (v:=?_) rfl rfl (by kernel_rfl) (fun _ _ _ h=>h) (yesH (by rfl) ?_) hHeld ?_
     rotate_left
     ·intro w9 hS9
      go_simp
      try with_reducible rfl
     simp only[sA,sB,sC]
     refine tkh 10 (v:=?_) rfl rfl (by kernel_rfl) (fun _ _ _ h=>h) (yesH (by rfl) ?_) hHeld ?_
     rotate_left
     ·intro w9 hS9
      go_simp
      try with_reducible rfl
     simp only[sA,sB,sC]
     refine wpAnyH_ready (rs:=[11]) (by kernel_rfl) (by simp) ?_
     refine AllReadyH.cons rfl (fun K hK=>?_) AllReadyH.nil
     go_simp
     go_wp2_with fail
     have gB:BrS W4 v.heap.size g w2.heap.size Fx bb gm n a0 len cap (V2.setCell ⟨ig,n8.toNat*7+2,none⟩ (.int .i64 m8)):=(BrS.grown HB4.out hV hr (by omega)).set a1 a2 a3 a4 a5 y9 (.inl ⟨⟨_,rfl⟩,⟨_,rfl⟩⟩) (by omega)
     have gX:At (V2.setCell ⟨ig,n8.toNat*7+2,none⟩ (.int .i64 m8)) W2.heap.size #[.slice pu pn pc,.slice (some ⟨ig,0,none⟩) jn ic,.int .i64 k2,.int .i64 k3,.int .i64 k4,.int .i64 k5] 74:=at_off (at_grown HX4.out hV (by omega)) (by omega)
     refine hK.out _ _ ?_ (fun hHeld2=>?_)
     ·exact⟨gB.rd,fun b h1 h2 h3=>(Below.heap_setCell _ _ _ _ h3).trans (hV.block b h1 (by intro e;exact h2 (Option.some.inj e)))⟩
     clear hK K hHeld
     have hHeld:=hHeld2
     clear hHeld2
     try simp only[Act.put,sA,sB,sC]
     refine wpAnyH_done (by kernel_rfl) ?_ _
     go_wp2_with fail
     go_meet
     case rel=>exact⟨rfl,k2,k3,k4,k5,gB,gX⟩
   ·by_cases hj:jn=0
    ·subst hj
     have x0:W4.cell? ⟨W2.heap.size,0,none⟩=some (.slice pu pn pc):=HX4.out.cell 0
     have x1:W4.cell? ⟨W2.heap.size,1,none⟩=some (.slice iu 0 ic):=HX4.out.cell 1
     have x2:W4.cell? ⟨W2.heap.size,2,none⟩=some (.int .i64 k2):=HX4.out.cell 2
     have x3:W4.cell? ⟨W2.heap.size,3,none⟩=some (.int .i64 k3):=HX4.out.cell 3
     have x4:W4.cell? ⟨W2.heap.size,4,none⟩=some (.int .i64 k4):=HX4.out.cell 4
     have x5:W4.cell? ⟨W2.heap.size,5,none⟩=some (.int .i64 k5):=HX4.out.cell 5
     go_wp2_with fail
     go_meet
     case rel=>exact⟨rfl,k2,k3,k4,k5,HB4.out,HX4.out⟩
    ·have hj1:(0:Int)<(jn:Int):=by omega
     obtain⟨ig,mi,hiu,hMi,hmi⟩:∃ ig mi,iu=some ⟨ig,0,none⟩∧M ig=some (95,mi)∧jn≤mi:=by
      obtain⟨u,c,e,h3⟩:=HSI.out
      cases e
      rcases h3 with h3|⟨ig,mi,e,h4,h5⟩
      ·exact absurd h3 hj
      ·exact⟨ig,mi,e,h4,h5⟩
     subst hiu
     obtain⟨a1,a2,a3,a4,a5,a6,a7,a8⟩:=Hap.out ig mi _ hMi (by decide) (by decide) (by decide)
     have HXc:∀ V:World,V.heap[W2.heap.size]?=W4.heap[W2.heap.size]?→∀ (o:Nat) (x:Value),(#[.slice pu pn pc,.slice (some ⟨ig,0,none⟩) jn ic,.int .i64 k2,.int .i64 k3,.int .i64 k4,.int .i64 k5]:Array Value)[o]?=some x→V.cell? ⟨W2.heap.size,o,none⟩=some x:=fun V k o x hx=>(zcH (k.trans HX4.out)).trans hx
     have x0:W4.cell? ⟨W2.heap.size,0,none⟩=some (.slice pu pn pc):=HX4.out.cell 0
     have x1:W4.cell? ⟨W2.heap.size,1,none⟩=some (.slice (some ⟨ig,0,none⟩) jn ic):=HX4.out.cell 1
     have x2:W4.cell? ⟨W2.heap.size,2,none⟩=some (.int .i64 k2):=HX4.out.cell 2
     have x3:W4.cell? ⟨W2.heap.size,3,none⟩=some (.int .i64 k3):=HX4.out.cell 3
     have x4:W4.cell? ⟨W2.heap.size,4,none⟩=some (.int .i64 k4):=HX4.out.cell 4
     have x5:W4.cell? ⟨W2.heap.size,5,none⟩=some (.int .i64 k5):=HX4.out.cell 5
     go_wp2_with fail
     clear x0 x1 x2 x3 x4 x5
     refine wp_region_held_drew (S:=fun w'=>Rd g a0 len cap w'∧∀ b,b<W4.heap.size→b≠g→b≠ig→w'.heap[b]?=W4.heap[b]?) (by kernel_rfl) (⟨rd_drw HB4.out.rd,fun _ _ _ _=>rfl⟩) (fun hHeld=>?_)
     have hV:W4.grownBy W4.drew (some g):=grown_drw (World.grownBy.refl _ _)
     have hr:Rd g a0 len cap W4.drew:=rd_drw HB4.out.rd
     refine tkh 0 (v:=?_) rfl rfl (by kernel_rfl) (fun _ _ _ h=>h) (yesH (by rfl) ?_) hHeld ?_
     rotate_left
     ·intro w9 hS9
      go_simp
      try with_reducible rfl
     simp only[sA,sB,sC]
     refine tkh 1 (v:=?_) rfl rfl (by kernel_rfl) (fun _ _ _ h=>h) (yesH (by rfl) ?_) hHeld ?_
     rotate_left
     ·intro w9 hS9
      have g0:=HXc w9 (hS9.2 W2.heap.size hz4 (by omega) (by omega)) 1 _ rfl
      go_simp
      try with_reducible rfl
     simp only[sA,sB,sC]
     refine tkh 2 (v:=?_) rfl rfl (by kernel_rfl) (fun _ _ _ h=>h) (yesH (by rfl) ?_) hHeld ?_
     rotate_left
     ·intro w9 hS9
      go_simp
      try with_reducible rfl
     simp only[sA,sB,sC]
     refine tkh 3 (v:=?_) rfl rfl (by kernel_rfl) (fun _ _ _ h=>h) (yesH (by rfl) ?_) hHeld ?_
     rotate_left
     ·intro w9 hS9
      go_simp
      try with_reducible rfl
     simp only[sA,sB,sC]
     refine tkh 4 (v:=?_) rfl rfl (by kernel_rfl) (fun _ _ _ h=>h) (yesH (by rfl) ?_) hHeld ?_
     rotate_left
     ·intro w9 hS9
      have g0:=HXc w9 (hS9.2 W2.heap.size hz4 (by omega) (by omega)) 1 _ rfl
      go_simp
      try with_reducible rfl
     simp only[sA,sB,sC]
     refine tkh 5 (v:=?_) rfl rfl (by kernel_rfl) (fun _ _ _ h=>h) (yesH (by rfl) ?_) hHeld ?_
     rotate_left
     ·intro w9 hS9
      go_simp
      try with_reducible rfl
     simp only[sA,sB,sC]
     refine tkh 7 (v:=?_) rfl rfl (by kernel_rfl) (fun _ _ _ h=>h) (yesH (by rfl) ?_) hHeld ?_
     rotate_left
     ·intro w9 hS9
      go_simp
      try with_reducible rfl
     simp only[sA,sB,sC]
     refine wpAnyH_ready (rs:=[6]) (by kernel_rfl) (by simp) ?_
     refine AllReadyH.cons rfl (fun K hK=>?_) AllReadyH.nil
     go_simp
     go_wp2_with (go_at_call 57;refine (below_any g a0 len cap _ _ hr).mono ?_;rintro e V1 ⟨n8,rfl,p8,q8,hr9,hg9⟩)
     have gV:W4.grownBy V1 (some g):=zgT hV hg9
     have hnl8:n8.toNat<jn:=by omega
     have hnI8:n8<(jn:Int):=by omega
     clear q8
     obtain⟨⟨z,hz⟩,zc,hzc⟩:=inst_cell HTH4.out hMi (show n8.toNat<mi by omega) 1 (by omega)
     refine hK.out _ _ ?_ (fun hHeld2=>?_)
     ·exact⟨hr9,fun b h1 h2 _=>gV.block b h1 (by intro e;exact h2 (Option.some.inj e))⟩
     clear hr hV
     clear hK K hHeld
     have hHeld:=hHeld2
     clear hHeld2
     try simp only[Act.put,sA,sB,sC]
     have hV:=gV
     have hr:=hr9
     clear gV hr9 hg9
     refine wpAnyH_ready (rs:=[8]) (by kernel_rfl) (by simp) ?_
     refine AllReadyH.cons rfl (fun K hK=>?_) AllReadyH.nil
     go_simp
     go_wp2_with (go_at_call 69;refine (off_any g a0 len cap 0 33 _ hr (by omega) (by omega) (by omega)).mono ?_;rintro e V2 ⟨m8,rfl,_,_,hr9,hg9⟩)
     have gV:W4.grownBy V2 (some g):=zgT hV hg9
     have y9:V2.cell? ⟨ig,n8.toNat*7+1,none⟩=some (.int .i64 z):=(zcB (gV.block ig a8 (by intro e;have:=Option.some.inj e;omega))).trans hz
     have yf:V2.frozen? ⟨ig,n8.toNat*7+1,none⟩=false:=zfH ((gV.block ig a8 (by intro e;have:=Option.some.inj e;omega)).trans hzc)
     refine hK.out _ _ ?_ (fun hHeld2=>?_)
     ·exact⟨hr9,fun b h1 h2 _=>gV.block b h1 (by intro e;exact h2 (Option.some.inj e))⟩
     clear hr hV
     clear hK K hHeld
     have hHeld:=hHeld2
     clear hHeld2
     try simp only[Act.put,sA,sB,sC]
     have hV:=gV
     have hr:=hr9
     clear gV hr9 hg9
     refine tkh 9 (v:=?_) rfl rfl (by kernel_rfl) (fun _ _ _ h=>h) (yesH (by rfl) ?_) hHeld ?_
     rotate_left
     ·intro w9 hS9
      go_simp
      try with_reducible rfl
     simp only[sA,sB,sC]
     refine tkh 10 (v:=?_) rfl rfl (by kernel_rfl) (fun _ _ _ h=>h) (yesH (by rfl) ?_) hHeld ?_
     rotate_left
     ·intro w9 hS9
      go_simp
      try with_reducible rfl
     simp only[sA,sB,sC]
     refine wpAnyH_ready (rs:=[11]) (by kernel_rfl) (by simp) ?_
     refine AllReadyH.cons rfl (fun K hK=>?_) AllReadyH.nil
     go_simp
     go_wp2_with fail
     have gB:BrS W4 v.heap.size g w2.heap.size Fx bb gm n a0 len cap (V2.setCell ⟨ig,n8.toNat*7+1,none⟩ (.int .i64 m8)):=(BrS.grown HB4.out hV hr (by omega)).set a1 a2 a3 a4 a5 y9 (.inl ⟨⟨_,rfl⟩,⟨_,rfl⟩⟩) (by omega)
     have gX:At (V2.setCell ⟨ig,n8.toNat*7+1,none⟩ (.int .i64 m8)) W2.heap.size #[.slice pu pn pc,.slice (some ⟨ig,0,none⟩) jn ic,.int .i64 k2,.int .i64 k3,.int .i64 k4,.int .i64 k5] 74:=at_off (at_grown HX4.out hV (by omega)) (by omega)
     refine hK.out _ _ ?_ (fun hHeld2=>?_)
     ·exact⟨gB.rd,fun b h1 h2 h3=>(Below.heap_setCell _ _ _ _ h3).trans (hV.block b h1 (by intro e;exact h2 (Option.some.inj e)))⟩
     clear hK K hHeld
     have hHeld:=hHeld2
     clear hHeld2
     try simp only[Act.put,sA,sB,sC]
     refine wpAnyH_done (by kernel_rfl) ?_ _
     go_wp2_with fail
     go_meet
     case rel=>exact⟨rfl,k2,k3,k4,k5,gB,gX⟩
   ·have x0:W4.cell? ⟨W2.heap.size,0,none⟩=some (.slice pu pn pc):=HX4.out.cell 0
    have x1:W4.cell? ⟨W2.heap.size,1,none⟩=some (.slice iu jn ic):=HX4.out.cell 1
    have x2:W4.cell? ⟨W2.heap.size,2,none⟩=some (.int .i64 k2):=HX4.out.cell 2
    have x3:W4.cell? ⟨W2.heap.size,3,none⟩=some (.int .i64 k3):=HX4.out.cell 3
    have x4:W4.cell? ⟨W2.heap.size,4,none⟩=some (.int .i64 k4):=HX4.out.cell 4
    have x5:W4.cell? ⟨W2.heap.size,5,none⟩=some (.int .i64 k5):=HX4.out.cell 5
    go_wp2_with (first|(go_at_call 69;refine (off_any g a0 len cap 0 4 _ HB4.out.rd (by omega) (by omega) (by omega)).mono ?_;rintro e V2 ⟨m8,rfl,_,_,hr9,hg9⟩;have hX2:=at_grown HX4.out hg9 (by omega);have y9:V2.cell? ⟨W2.heap.size,4,none⟩=some (.int .i64 k4):=hX2.cell 4;have yf:V2.frozen? ⟨W2.heap.size,4,none⟩=false:=zfH hX2))
    go_meet
    case rel=>exact⟨rfl,k2,k3,m8,k5,(BrS.grown HB4.out hg9 hr9 (by omega)).set (by omega) (by omega) (by omega) (by omega) (by omega) y9 (.inl ⟨⟨_,rfl⟩,⟨_,rfl⟩⟩) (by omega),zhS hX2⟩
   ·have x0:W4.cell? ⟨W2.heap.size,0,none⟩=some (.slice pu pn pc):=HX4.out.cell 0
    have x1:W4.cell? ⟨W2.heap.size,1,none⟩=some (.slice iu jn ic):=HX4.out.cell 1
    have x2:W4.cell? ⟨W2.heap.size,2,none⟩=some (.int .i64 k2):=HX4.out.cell 2
    have x3:W4.cell? ⟨W2.heap.size,3,none⟩=some (.int .i64 k3):=HX4.out.cell 3
    have x4:W4.cell? ⟨W2.heap.size,4,none⟩=some (.int .i64 k4):=HX4.out.cell 4
    have x5:W4.cell? ⟨W2.heap.size,5,none⟩=some (.int .i64 k5):=HX4.out.cell 5
    go_wp2_with (first|(go_at_call 69;refine (off_any g a0 len cap 0 12 _ HB4.out.rd (by omega) (by omega) (by omega)).mono ?_;rintro e V2 ⟨m8,rfl,_,_,hr9,hg9⟩;have hX2:=at_grown HX4.out hg9 (by omega);have y9:V2.cell? ⟨W2.heap.size,3,none⟩=some (.int .i64 k3):=hX2.cell 3;have yf:V2.frozen? ⟨W2.heap.size,3,none⟩=false:=zfH hX2))
    go_meet
    case rel=>exact⟨rfl,k2,m8,k4,k5,(BrS.grown HB4.out hg9 hr9 (by omega)).set (by omega) (by omega) (by omega) (by omega) (by omega) y9 (.inl ⟨⟨_,rfl⟩,⟨_,rfl⟩⟩) (by omega),zhS hX2⟩
   ·by_cases hj:pn=0
    ·subst hj
     have x0:W4.cell? ⟨W2.heap.size,0,none⟩=some (.slice pu 0 pc):=HX4.out.cell 0
     have x1:W4.cell? ⟨W2.heap.size,1,none⟩=some (.slice iu jn ic):=HX4.out.cell 1
     have x2:W4.cell? ⟨W2.heap.size,2,none⟩=some (.int .i64 k2):=HX4.out.cell 2
     have x3:W4.cell? ⟨W2.heap.size,3,none⟩=some (.int .i64 k3):=HX4.out.cell 3
     have x4:W4.cell? ⟨W2.heap.size,4,none⟩=some (.int .i64 k4):=HX4.out.cell 4
     have x5:W4.cell? ⟨W2.heap.size,5,none⟩=some (.int .i64 k5):=HX4.out.cell 5
     go_wp2_with fail
     go_meet
     case rel=>exact⟨rfl,k2,k3,k4,k5,HB4.out,HX4.out⟩
    ·have hj1:(0:Int)<(pn:Int):=by omega
     obtain⟨pg,mp,hpu,hMp,hmp⟩:∃ pg mp,pu=some ⟨pg,0,none⟩∧M pg=some (92,mp)∧pn≤mp:=by
      obtain⟨u,c,e,h3⟩:=HSP.out
      cases e
      rcases h3 with h3|⟨pg,mp,e,h4,h5⟩
      ·exact absurd h3 hj
      ·exact⟨pg,mp,e,h4,h5⟩
     subst hpu
     obtain⟨a1,a2,a3,a4,a5,a6,a7,a8⟩:=Hap.out pg mp _ hMp (by decide) (by decide) (by decide)
     obtain⟨curP,hcP,sg,sn,sc,ms,hsc,hsn,hMs,hms⟩:=phi_cell HTH4.out hMp (show 0<mp by omega)
     have HXc:∀ V:World,V.heap[W2.heap.size]?=W4.heap[W2.heap.size]?→∀ (o:Nat) (x:Value),(#[.slice (some ⟨pg,0,none⟩) pn pc,.slice iu jn ic,.int .i64 k2,.int .i64 k3,.int .i64 k4,.int .i64 k5]:Array Value)[o]?=some x→V.cell? ⟨W2.heap.size,o,none⟩=some x:=fun V k o x hx=>(zcH (k.trans HX4.out)).trans hx
     have x0:W4.cell? ⟨W2.heap.size,0,none⟩=some (.slice (some ⟨pg,0,none⟩) pn pc):=HX4.out.cell 0
     have x1:W4.cell? ⟨W2.heap.size,1,none⟩=some (.slice iu jn ic):=HX4.out.cell 1
     have x2:W4.cell? ⟨W2.heap.size,2,none⟩=some (.int .i64 k2):=HX4.out.cell 2
     have x3:W4.cell? ⟨W2.heap.size,3,none⟩=some (.int .i64 k3):=HX4.out.cell 3
     have x4:W4.cell? ⟨W2.heap.size,4,none⟩=some (.int .i64 k4):=HX4.out.cell 4
     have x5:W4.cell? ⟨W2.heap.size,5,none⟩=some (.int .i64 k5):=HX4.out.cell 5
     have z1:W4.cell? ⟨pg,1,none⟩=some (.slice (some ⟨sg,0,none⟩) sn sc):=hsc
     have HPc:∀ V:World,V.heap[pg]?=W4.heap[pg]?→V.cell? ⟨pg,1,none⟩=some (.slice (some ⟨sg,0,none⟩) sn sc):=fun V k=>(zcB k).trans hsc
     go_wp2_with fail
     clear x0 x1 x2 x3 x4 x5
     have hsn1:(1:Int)≤(sn:Int):=by omega
     refine wp_region_held_drew (S:=fun w'=>Rd g a0 len cap w'∧∀ b,b<W4.heap.size→b≠g→b≠pg→w'.heap[b]?=W4.heap[b]?) (by kernel_rfl) (⟨rd_drw HB4.out.rd,fun _ _ _ _=>rfl⟩) (fun hHeld=>?_)
     have hV:W4.grownBy W4.drew (some g):=grown_drw (World.grownBy.refl _ _)
     have hr:Rd g a0 len cap W4.drew:=rd_drw HB4.out.rd
     have q1:W4.drew.cell? ⟨pg,1,none⟩=some (.slice (some ⟨sg,0,none⟩) sn sc):=hsc
     refine tkh 0 (v:=?_) rfl rfl (by kernel_rfl) (fun _ _ _ h=>h) (yesH (by rfl) ?_) hHeld ?_
     rotate_left
     ·intro w9 hS9
      go_simp
      try with_reducible rfl
     simp only[sA,sB,sC]
     refine tkh 1 (v:=?_) rfl rfl (by kernel_rfl) (fun _ _ _ h=>h) (yesH (by rfl) ?_) hHeld ?_
     rotate_left
     ·intro w9 hS9
      have g0:=HXc w9 (hS9.2 W2.heap.size hz4 (by omega) (by omega)) 0 _ rfl
      go_simp
      try with_reducible rfl
     simp only[sA,sB,sC]
     refine tkh 2 (v:=?_) rfl rfl (by kernel_rfl) (fun _ _ _ h=>h) (yesH (by rfl) ?_) hHeld ?_
     rotate_left
     ·intro w9 hS9
      go_simp
      try with_reducible rfl
     simp only[sA,sB,sC]
     refine tkh 3 (v:=?_) rfl rfl (by kernel_rfl) (fun _ _ _ h=>h) (yesH (by rfl) ?_) hHeld ?_
     rotate_left
     ·intro w9 hS9
      have g0:=HXc w9 (hS9.2 W2.heap.size hz4 (by omega) (by omega)) 0 _ rfl
      go_simp
      try with_reducible rfl
     simp only[sA,sB,sC]
     refine tkh 4 (v:=?_) rfl rfl (by kernel_rfl) (fun _ _ _ h=>h) (yesH (by rfl) ?_) hHeld ?_
     rotate_left
     ·intro w9 hS9
      go_simp
      try with_reducible rfl
     simp only[sA,sB,sC]
     refine tkh 5 (v:=?_) rfl rfl (by kernel_rfl) (fun _ _ _ h=>h) (yesH (by rfl) ?_) hHeld ?_
     rotate_left
     ·intro w9 hS9
      go_simp
      try with_reducible rfl
     simp only[sA,sB,sC]
     refine wpAnyH_ready (rs:=[6]) (by kernel_rfl) (by simp) ?_
     refine AllReadyH.cons rfl (fun K hK=>?_) AllReadyH.nil
     go_simp
     go_wp2_with fail
     refine hK.out _ _ ?_ (fun hHeld2=>?_)
     ·exact hHeld
     clear hK K hHeld
     have hHeld:=hHeld2
     clear hHeld2
     try simp only[Act.put,sA,sB,sC]
     refine tkh 7 (v:=?_) rfl rfl (by kernel_rfl) (fun _ _ _ h=>h) (yesH (by rfl) ?_) hHeld ?_
     rotate_left
     ·intro w9 hS9
      go_simp
      try with_reducible rfl
     simp only[sA,sB,sC]
     refine tkh 8 (v:=?_) rfl rfl (by kernel_rfl) (fun _ _ _ h=>h) (yesH (by rfl) ?_) hHeld ?_
     rotate_left
     ·intro w9 hS9
      go_simp
      try with_reducible rfl
     simp only[sA,sB,sC]
     refine tkh 9 (v:=?_) rfl rfl (by kernel_rfl) (fun _ _ _ h=>h) (yesH (by rfl) ?_) hHeld ?_
     rotate_left
     ·intro w9 hS9
      go_simp
      try with_reducible rfl
     simp only[sA,sB,sC]
     have y9:W4.drew.cell? ⟨pg,1,none⟩=some (.slice (some ⟨sg,0,none⟩) sn sc):=hsc
     have yf:W4.drew.frozen? ⟨pg,1,none⟩=false:=zfH hcP
     refine wpAnyH_ready (rs:=[10]) (by kernel_rfl) (by simp) ?_
     refine AllReadyH.cons rfl (fun K hK=>?_) AllReadyH.nil
     go_simp
     go_wp2_with fail
     ·have gB:BrS W4 v.heap.size g w2.heap.size Fx bb gm n a0 len cap (W4.drew.setCell ⟨pg,1,none⟩ (.slice (some ⟨sg,0,none⟩) (sn-1) 0)):=(BrS.grown HB4.out hV hr (by omega)).set a1 a2 a3 a4 a5 y9 (.inr (.inr ⟨⟨curP,hcP⟩,rfl,fun M' h=>slw_tail0 h hsn⟩)) (by omega)
      have gX:At (W4.drew.setCell ⟨pg,1,none⟩ (.slice (some ⟨sg,0,none⟩) (sn-1) 0)) W2.heap.size #[.slice (some ⟨pg,0,none⟩) pn pc,.slice iu jn ic,.int .i64 k2,.int .i64 k3,.int .i64 k4,.int .i64 k5] 74:=at_off (at_grown HX4.out hV (by omega)) (by omega)
      refine hK.out _ _ ?_ (fun hHeld2=>?_)
      ·exact⟨gB.rd,fun b h1 h2 h3=>(Below.heap_setCell _ _ _ _ h3).trans (hV.block b h1 (by intro e;exact h2 (Option.some.inj e)))⟩
      clear hK K hHeld
      have hHeld:=hHeld2
      clear hHeld2
      try simp only[Act.put,sA,sB,sC]
      refine wpAnyH_done (by kernel_rfl) ?_ _
      go_wp2_with fail
      go_meet
      case rel=>exact⟨rfl,k2,k3,k4,k5,gB,gX⟩
     ·have gB:BrS W4 v.heap.size g w2.heap.size Fx bb gm n a0 len cap (W4.drew.setCell ⟨pg,1,none⟩ (.slice (some ⟨sg,1,none⟩) (sn-1) (sc-1))):=(BrS.grown HB4.out hV hr (by omega)).set a1 a2 a3 a4 a5 y9 (.inr (.inr ⟨⟨curP,hcP⟩,rfl,fun M' h=>slw_tail h hsn⟩)) (by omega)
      have gX:At (W4.drew.setCell ⟨pg,1,none⟩ (.slice (some ⟨sg,1,none⟩) (sn-1) (sc-1))) W2.heap.size #[.slice (some ⟨pg,0,none⟩) pn pc,.slice iu jn ic,.int .i64 k2,.int .i64 k3,.int .i64 k4,.int .i64 k5] 74:=at_off (at_grown HX4.out hV (by omega)) (by omega)
      refine hK.out _ _ ?_ (fun hHeld2=>?_)
      ·exact⟨gB.rd,fun b h1 h2 h3=>(Below.heap_setCell _ _ _ _ h3).trans (hV.block b h1 (by intro e;exact h2 (Option.some.inj e)))⟩
      clear hK K hHeld
      have hHeld:=hHeld2
      clear hHeld2
      try simp only[Act.put,sA,sB,sC]
      refine wpAnyH_done (by kernel_rfl) ?_ _
      go_wp2_with fail
      go_meet
      case rel=>exact⟨rfl,k2,k3,k4,k5,gB,gX⟩
   ·by_cases hj:jn=0
    ·subst hj
     have x0:W4.cell? ⟨W2.heap.size,0,none⟩=some (.slice pu pn pc):=HX4.out.cell 0
     have x1:W4.cell? ⟨W2.heap.size,1,none⟩=some (.slice iu 0 ic):=HX4.out.cell 1
     have x2:W4.cell? ⟨W2.heap.size,2,none⟩=some (.int .i64 k2):=HX4.out.cell 2
     have x3:W4.cell? ⟨W2.heap.size,3,none⟩=some (.int .i64 k3):=HX4.out.cell 3
     have x4:W4.cell? ⟨W2.heap.size,4,none⟩=some (.int .i64 k4):=HX4.out.cell 4
     have x5:W4.cell? ⟨W2.heap.size,5,none⟩=some (.int .i64 k5):=HX4.out.cell 5
     go_wp2_with fail
     go_meet
     case rel=>exact⟨rfl,k2,k3,k4,k5,HB4.out,HX4.out⟩
    ·have hj1:(0:Int)<(jn:Int):=by omega
     obtain⟨ig,mi,hiu,hMi,hmi⟩:∃ ig mi,iu=some ⟨ig,0,none⟩∧M ig=some (95,mi)∧jn≤mi:=by
      obtain⟨u,c,e,h3⟩:=HSI.out
      cases e
      rcases h3 with h3|⟨ig,mi,e,h4,h5⟩
      ·exact absurd h3 hj
      ·exact⟨ig,mi,e,h4,h5⟩
     subst hiu
     obtain⟨a1,a2,a3,a4,a5,a6,a7,a8⟩:=Hap.out ig mi _ hMi (by decide) (by decide) (by decide)
     have HXc:∀ V:World,V.heap[W2.heap.size]?=W4.heap[W2.heap.size]?→∀ (o:Nat) (x:Value),(#[.slice pu pn pc,.slice (some ⟨ig,0,none⟩) jn ic,.int .i64 k2,.int .i64 k3,.int .i64 k4,.int .i64 k5]:Array Value)[o]?=some x→V.cell? ⟨W2.heap.size,o,none⟩=some x:=fun V k o x hx=>(zcH (k.trans HX4.out)).trans hx
     have x0:W4.cell? ⟨W2.heap.size,0,none⟩=some (.slice pu pn pc):=HX4.out.cell 0
     have x1:W4.cell? ⟨W2.heap.size,1,none⟩=some (.slice (some ⟨ig,0,none⟩) jn ic):=HX4.out.cell 1
     have x2:W4.cell? ⟨W2.heap.size,2,none⟩=some (.int .i64 k2):=HX4.out.cell 2
     have x3:W4.cell? ⟨W2.heap.size,3,none⟩=some (.int .i64 k3):=HX4.out.cell 3
     have x4:W4.cell? ⟨W2.heap.size,4,none⟩=some (.int .i64 k4):=HX4.out.cell 4
     have x5:W4.cell? ⟨W2.heap.size,5,none⟩=some (.int .i64 k5):=HX4.out.cell 5
     go_wp2_with fail
     clear x0 x1 x2 x3 x4 x5
     refine wp_region_held_drew (S:=fun w'=>Rd g a0 len cap w'∧∀ b,b<W4.heap.size→b≠g→b≠ig→w'.heap[b]?=W4.heap[b]?) (by kernel_rfl) (⟨rd_drw HB4.out.rd,fun _ _ _ _=>rfl⟩) (fun hHeld=>?_)
     have hV:W4.grownBy W4.drew (some g):=grown_drw (World.grownBy.refl _ _)
     have hr:Rd g a0 len cap W4.drew:=rd_drw HB4.out.rd
     refine tkh 0 (v:=?_) rfl rfl (by kernel_rfl) (fun _ _ _ h=>h) (yesH (by rfl) ?_) hHeld ?_
     rotate_left
     ·intro w9 hS9
      go_simp
      try with_reducible rfl
     simp only[sA,sB,sC]
     refine tkh 1 (v:=?_) rfl rfl (by kernel_rfl) (fun _ _ _ h=>h) (yesH (by rfl) ?_) hHeld ?_
     rotate_left
     ·intro w9 hS9
      have g0:=HXc w9 (hS9.2 W2.heap.size hz4 (by omega) (by omega)) 1 _ rfl
      go_simp
      try with_reducible rfl
     simp only[sA,sB,sC]
     refine tkh 2 (v:=?_) rfl rfl (by kernel_rfl) (fun _ _ _ h=>h) (yesH (by rfl) ?_) hHeld ?_
     rotate_left
     ·intro w9 hS9
      go_simp
      try with_reducible rfl
     simp only[sA,sB,sC]
     refine tkh 3 (v:=?_) rfl rfl (by kernel_rfl) (fun _ _ _ h=>h) (yesH (by rfl) ?_) hHeld ?_
     rotate_left
     ·intro w9 hS9
      go_simp
      try with_reducible rfl
     simp only[sA,sB,sC]
     refine tkh 4 (v:=?_) rfl rfl (by kernel_rfl) (fun _ _ _ h=>h) (yesH (by rfl) ?_) hHeld ?_
     rotate_left
     ·intro w9 hS9
      have g0:=HXc w9 (hS9.2 W2.heap.size hz4 (by omega) (by omega)) 1 _ rfl
      go_simp
      try with_reducible rfl
     simp only[sA,sB,sC]
     refine tkh 5 (v:=?_) rfl rfl (by kernel_rfl) (fun _ _ _ h=>h) (yesH (by rfl) ?_) hHeld ?_
     rotate_left
     ·intro w9 hS9
      go_simp
      try with_reducible rfl
     simp only[sA,sB,sC]
     refine tkh 7 (v:=?_) rfl rfl (by kernel_rfl) (fun _ _ _ h=>h) (yesH (by rfl) ?_) hHeld ?_
     rotate_left
     ·intro w9 hS9
      go_simp
      try with_reducible rfl
     simp only[sA,sB,sC]
     refine wpAnyH_ready (rs:=[6]) (by kernel_rfl) (by simp) ?_
     refine AllReadyH.cons rfl (fun K hK=>?_) AllReadyH.nil
     go_simp
     go_wp2_with (go_at_call 57;refine (below_any g a0 len cap _ _ hr).mono ?_;rintro e V1 ⟨n8,rfl,p8,q8,hr9,hg9⟩)
     have gV:W4.grownBy V1 (some g):=zgT hV hg9
     have hnl8:n8.toNat<jn:=by omega
     have hnI8:n8<(jn:Int):=by omega
     clear q8
     obtain⟨⟨z,hz⟩,zc,hzc⟩:=inst_cell HTH4.out hMi (show n8.toNat<mi by omega) 0 (by omega)
     refine hK.out _ _ ?_ (fun hHeld2=>?_)
     ·exact⟨hr9,fun b h1 h2 _=>gV.block b h1 (by intro e;exact h2 (Option.some.inj e))⟩
     clear hr hV
     clear hK K hHeld
     have hHeld:=hHeld2
     clear hHeld2
     try simp only[Act.put,sA,sB,sC]
     have hV:=gV
     have hr:=hr9
     clear gV hr9 hg9
     refine wpAnyH_ready (rs:=[8]) (by kernel_rfl) (by simp) ?_
     refine AllReadyH.cons rfl (fun K hK=>?_) AllReadyH.nil
     go_simp
     go_wp2_with (go_at_call 69;refine (off_any g a0 len cap 1 27 _ hr (by omega) (by omega) (by omega)).mono ?_;rintro e V2 ⟨m8,rfl,_,_,hr9,hg9⟩)
     have gV:W4.grownBy V2 (some g):=zgT hV hg9
     have y9:V2.cell? ⟨ig,n8.toNat*7+0,none⟩=some (.int .i64 z):=(zcB (gV.block ig a8 (by intro e;have:=Option.some.inj e;omega))).trans hz
     have yf:V2.frozen? ⟨ig,n8.toNat*7+0,none⟩=false:=zfH ((gV.block ig a8 (by intro e;have:=Option.some.inj e;omega)).trans hzc)
     refine hK.out _ _ ?_ (fun hHeld2=>?_)
     ·exact⟨hr9,fun b h1 h2 _=>gV.block b h1 (by intro e;exact h2 (Option.some.inj e))⟩
     clear hr hV
     clear hK K hHeld
     have hHeld:=hHeld2
     clear hHeld2
     try simp only[Act.put,sA,sB,sC]
     have hV:=gV
     have hr:=hr9
     clear gV hr9 hg9
     have y9b:V2.cell? ⟨ig,n8.toNat*7,none⟩=some (.int .i64 z):=y9
     have yfb:V2.frozen? ⟨ig,n8.toNat*7,none⟩=false:=yf
     refine tkh 9 (v:=?_) rfl rfl (by kernel_rfl) (fun _ _ _ h=>h) (yesH (by rfl) ?_) hHeld ?_
     rotate_left
     ·intro w9 hS9
      go_simp
      try with_reducible rfl
     simp only[sA,sB,sC]
     refine tkh 10 (v:=?_) rfl rfl (by kernel_rfl) (fun _ _ _ h=>h) (yesH (by rfl) ?_) hHeld ?_
     rotate_left
     ·intro w9 hS9
      go_simp
      try with_reducible rfl
     simp only[sA,sB,sC]
     refine wpAnyH_ready (rs:=[11]) (by kernel_rfl) (by simp) ?_
     refine AllReadyH.cons rfl (fun K hK=>?_) AllReadyH.nil
     go_simp
     go_wp2_with fail
     have gB:BrS W4 v.heap.size g w2.heap.size Fx bb gm n a0 len cap (V2.setCell ⟨ig,n8.toNat*7+0,none⟩ (.int .i64 m8)):=(BrS.grown HB4.out hV hr (by omega)).set a1 a2 a3 a4 a5 y9 (.inl ⟨⟨_,rfl⟩,⟨_,rfl⟩⟩) (by omega)
     have gX:At (V2.setCell ⟨ig,n8.toNat*7+0,none⟩ (.int .i64 m8)) W2.heap.size #[.slice pu pn pc,.slice (some ⟨ig,0,none⟩) jn ic,.int .i64 k2,.int .i64 k3,.int .i64 k4,.int .i64 k5] 74:=at_off (at_grown HX4.out hV (by omega)) (by omega)
     refine hK.out _ _ ?_ (fun hHeld2=>?_)
     ·exact⟨gB.rd,fun b h1 h2 h3=>(Below.heap_setCell _ _ _ _ h3).trans (hV.block b h1 (by intro e;exact h2 (Option.some.inj e)))⟩
     clear hK K hHeld
     have hHeld:=hHeld2
     clear hHeld2
     try simp only[Act.put,sA,sB,sC]
     refine wpAnyH_done (by kernel_rfl) ?_ _
     go_wp2_with fail
     go_meet
     case rel=>exact⟨rfl,k2,k3,k4,k5,gB,gX⟩
   ·by_cases hj:pn=0
    ·subst hj
     have x0:W4.cell? ⟨W2.heap.size,0,none⟩=some (.slice pu 0 pc):=HX4.out.cell 0
     have x1:W4.cell? ⟨W2.heap.size,1,none⟩=some (.slice iu jn ic):=HX4.out.cell 1
     have x2:W4.cell? ⟨W2.heap.size,2,none⟩=some (.int .i64 k2):=HX4.out.cell 2
     have x3:W4.cell? ⟨W2.heap.size,3,none⟩=some (.int .i64 k3):=HX4.out.cell 3
     have x4:W4.cell? ⟨W2.heap.size,4,none⟩=some (.int .i64 k4):=HX4.out.cell 4
     have x5:W4.cell? ⟨W2.heap.size,5,none⟩=some (.int .i64 k5):=HX4.out.cell 5
     go_wp2_with fail
     go_meet
     case rel=>exact⟨rfl,k2,k3,k4,k5,HB4.out,HX4.out⟩
    ·have hj1:(0:Int)<(pn:Int):=by omega
     obtain⟨pg,mp,hpu,hMp,hmp⟩:∃ pg mp,pu=some ⟨pg,0,none⟩∧M pg=some (92,mp)∧pn≤mp:=by
      obtain⟨u,c,e,h3⟩:=HSP.out
      cases e
      rcases h3 with h3|⟨pg,mp,e,h4,h5⟩
      ·exact absurd h3 hj
      ·exact⟨pg,mp,e,h4,h5⟩
     subst hpu
     obtain⟨a1,a2,a3,a4,a5,a6,a7,a8⟩:=Hap.out pg mp _ hMp (by decide) (by decide) (by decide)
     obtain⟨curP,hcP,sg,sn,sc,ms,hsc,hsn,hMs,hms⟩:=phi_cell HTH4.out hMp (show 0<mp by omega)
     have HXc:∀ V:World,V.heap[W2.heap.size]?=W4.heap[W2.heap.size]?→∀ (o:Nat) (x:Value),(#[.slice (some ⟨pg,0,none⟩) pn pc,.slice iu jn ic,.int .i64 k2,.int .i64 k3,.int .i64 k4,.int .i64 k5]:Array Value)[o]?=some x→V.cell? ⟨W2.heap.size,o,none⟩=some x:=fun V k o x hx=>(zcH (k.trans HX4.out)).trans hx
     have x0:W4.cell? ⟨W2.heap.size,0,none⟩=some (.slice (some ⟨pg,0,none⟩) pn pc):=HX4.out.cell 0
     have x1:W4.cell? ⟨W2.heap.size,1,none⟩=some (.slice iu jn ic):=HX4.out.cell 1
     have x2:W4.cell? ⟨W2.heap.size,2,none⟩=some (.int .i64 k2):=HX4.out.cell 2
     have x3:W4.cell? ⟨W2.heap.size,3,none⟩=some (.int .i64 k3):=HX4.out.cell 3
     have x4:W4.cell? ⟨W2.heap.size,4,none⟩=some (.int .i64 k4):=HX4.out.cell 4
     have x5:W4.cell? ⟨W2.heap.size,5,none⟩=some (.int .i64 k5):=HX4.out.cell 5
     have z1:W4.cell? ⟨pg,1,none⟩=some (.slice (some ⟨sg,0,none⟩) sn sc):=hsc
     have HPc:∀ V:World,V.heap[pg]?=W4.heap[pg]?→V.cell? ⟨pg,1,none⟩=some (.slice (some ⟨sg,0,none⟩) sn sc):=fun V k=>(zcB k).trans hsc
     go_wp2_with fail
     clear x0 x1 x2 x3 x4 x5
     have hsn1:(0:Int)<(sn:Int):=by omega
     have hsn2:0<sn:=by omega
     obtain⟨b1,b2,b3,b4,b5,b6,b7,b8⟩:=Hap.out sg ms _ hMs (by decide) (by decide) (by decide)
     obtain⟨z,zc,hz,hzc⟩:=int_cell HTH4.out hMs (show 0<ms by omega)
     have hps:pg≠sg:=blk_ne hcP hzc (by decide)
     refine wp_region_held_drew (S:=fun w'=>Rd g a0 len cap w'∧∀ b,b<W4.heap.size→b≠g→b≠sg→w'.heap[b]?=W4.heap[b]?) (by kernel_rfl) (⟨rd_drw HB4.out.rd,fun _ _ _ _=>rfl⟩) (fun hHeld=>?_)
     have hV:W4.grownBy W4.drew (some g):=grown_drw (World.grownBy.refl _ _)
     have hr:Rd g a0 len cap W4.drew:=rd_drw HB4.out.rd
     refine tkh 0 (v:=?_) rfl rfl (by kernel_rfl) (fun _ _ _ h=>h) (yesH (by rfl) ?_) hHeld ?_
     rotate_left
     ·intro w9 hS9
      go_simp
      try with_reducible rfl
     simp only[sA,sB,sC]
     refine tkh 1 (v:=?_) rfl rfl (by kernel_rfl) (fun _ _ _ h=>h) (yesH (by rfl) ?_) hHeld ?_
     rotate_left
     ·intro w9 hS9
      have g0:=HXc w9 (hS9.2 W2.heap.size hz4 (by omega) (by omega)) 0 _ rfl
      go_simp
      try with_reducible rfl
     simp only[sA,sB,sC]
     refine tkh 2 (v:=?_) rfl rfl (by kernel_rfl) (fun _ _ _ h=>h) (yesH (by rfl) ?_) hHeld ?_
     rotate_left
     ·intro w9 hS9
      go_simp
      try with_reducible rfl
     simp only[sA,sB,sC]
     refine tkh 3 (v:=?_) rfl rfl (by kernel_rfl) (fun _ _ _ h=>h) (yesH (by rfl) ?_) hHeld ?_
     rotate_left
     ·intro w9 hS9
      go_simp
      try with_reducible rfl
     simp only[sA,sB,sC]
     refine tkh 4 (v:=?_) rfl rfl (by kernel_rfl) (fun _ _ _ h=>h) (yesH (by rfl) ?_) hHeld ?_
     rotate_left
     ·intro w9 hS9
      have g0:=HPc w9 (hS9.2 pg a8 (by omega) (by omega))
      go_simp
      try with_reducible rfl
     simp only[sA,sB,sC]
     refine tkh 5 (v:=?_) rfl rfl (by kernel_rfl) (fun _ _ _ h=>h) (yesH (by rfl) ?_) hHeld ?_
     rotate_left
     ·intro w9 hS9
      go_simp
      try with_reducible rfl
     simp only[sA,sB,sC]
     refine wpAnyH_ready (rs:=[6]) (by kernel_rfl) (by simp) ?_
     refine AllReadyH.cons rfl (fun K hK=>?_) AllReadyH.nil
     go_simp
     go_wp2_with (go_at_call 69;refine (off_any g a0 len cap 0 20 _ hr (by omega) (by omega) (by omega)).mono ?_;rintro e V2 ⟨m8,rfl,_,_,hr9,hg9⟩)
     have gV:W4.grownBy V2 (some g):=zgT hV hg9
     have y9:V2.cell? ⟨sg,0,none⟩=some (.int .i64 z):=(zcB (gV.block sg b8 (by intro e;have:=Option.some.inj e;omega))).trans hz
     have yf:V2.frozen? ⟨sg,0,none⟩=false:=zfH ((gV.block sg b8 (by intro e;have:=Option.some.inj e;omega)).trans hzc)
     refine hK.out _ _ ?_ (fun hHeld2=>?_)
     ·exact⟨hr9,fun b h1 h2 _=>gV.block b h1 (by intro e;exact h2 (Option.some.inj e))⟩
     clear hr hV
     clear hK K hHeld
     have hHeld:=hHeld2
     clear hHeld2
     try simp only[Act.put,sA,sB,sC]
     have hV:=gV
     have hr:=hr9
     clear gV hr9 hg9
     refine tkh 7 (v:=?_) rfl rfl (by kernel_rfl) (fun _ _ _ h=>h) (yesH (by rfl) ?_) hHeld ?_
     rotate_left
     ·intro w9 hS9
      go_simp
      try with_reducible rfl
     simp only[sA,sB,sC]
     refine wpAnyH_ready (rs:=[8]) (by kernel_rfl) (by simp) ?_
     refine AllReadyH.cons rfl (fun K hK=>?_) AllReadyH.nil
     go_simp
     go_wp2_with fail
     have gB:BrS W4 v.heap.size g w2.heap.size Fx bb gm n a0 len cap (V2.setCell ⟨sg,0,none⟩ (.int .i64 m8)):=(BrS.grown HB4.out hV hr (by omega)).set b1 b2 b3 b4 b5 y9 (.inl ⟨⟨_,rfl⟩,⟨_,rfl⟩⟩) (by omega)
     have gX:At (V2.setCell ⟨sg,0,none⟩ (.int .i64 m8)) W2.heap.size #[.slice (some ⟨pg,0,none⟩) pn pc,.slice iu jn ic,.int .i64 k2,.int .i64 k3,.int .i64 k4,.int .i64 k5] 74:=at_off (at_grown HX4.out hV (by omega)) (by omega)
     refine hK.out _ _ ?_ (fun hHeld2=>?_)
     ·exact⟨gB.rd,fun b h1 h2 h3=>(Below.heap_setCell _ _ _ _ h3).trans (hV.block b h1 (by intro e;exact h2 (Option.some.inj e)))⟩
     clear hK K hHeld
     have hHeld:=hHeld2
     clear hHeld2
     try simp only[Act.put,sA,sB,sC]
     refine wpAnyH_done (by kernel_rfl) ?_ _
     go_wp2_with fail
     go_meet
     case rel=>exact⟨rfl,k2,k3,k4,k5,gB,gX⟩
   ·have x0:W4.cell? ⟨W2.heap.size,0,none⟩=some (.slice pu pn pc):=HX4.out.cell 0
    have x1:W4.cell? ⟨W2.heap.size,1,none⟩=some (.slice iu jn ic):=HX4.out.cell 1
    have x2:W4.cell? ⟨W2.heap.size,2,none⟩=some (.int .i64 k2):=HX4.out.cell 2
    have x3:W4.cell? ⟨W2.heap.size,3,none⟩=some (.int .i64 k3):=HX4.out.cell 3
    have x4:W4.cell? ⟨W2.heap.size,4,none⟩=some (.int .i64 k4):=HX4.out.cell 4
    have x5:W4.cell? ⟨W2.heap.size,5,none⟩=some (.int .i64 k5):=HX4.out.cell 5
    go_wp2_with (first|(go_at_call 69;refine (off_any g a0 len cap 1 4 _ HB4.out.rd (by omega) (by omega) (by omega)).mono ?_;rintro e V2 ⟨m8,rfl,_,_,hr9,hg9⟩;have hX2:=at_grown HX4.out hg9 (by omega);have y9:V2.cell? ⟨W2.heap.size,2,none⟩=some (.int .i64 k2):=hX2.cell 2;have yf:V2.frozen? ⟨W2.heap.size,2,none⟩=false:=zfH hX2))
    go_meet
    case rel=>exact⟨rfl,m8,k3,k4,k5,(BrS.grown HB4.out hg9 hr9 (by omega)).set (by omega) (by omega) (by omega) (by omega) (by omega) y9 (.inl ⟨⟨_,rfl⟩,⟨_,rfl⟩⟩) (by omega),zhS hX2⟩
   ·have x0:W4.cell? ⟨W2.heap.size,0,none⟩=some (.slice pu pn pc):=HX4.out.cell 0
    have x1:W4.cell? ⟨W2.heap.size,1,none⟩=some (.slice iu jn ic):=HX4.out.cell 1
    have x2:W4.cell? ⟨W2.heap.size,2,none⟩=some (.int .i64 k2):=HX4.out.cell 2
    have x3:W4.cell? ⟨W2.heap.size,3,none⟩=some (.int .i64 k3):=HX4.out.cell 3
    have x4:W4.cell? ⟨W2.heap.size,4,none⟩=some (.int .i64 k4):=HX4.out.cell 4
    have x5:W4.cell? ⟨W2.heap.size,5,none⟩=some (.int .i64 k5):=HX4.out.cell 5
    go_wp2_with fail
    go_meet
    case rel=>exact⟨rfl,k2,k3,k4,k5,HB4.out,HX4.out⟩
  case rest =>
   obtain⟨WZ,hWZ⟩:∃ W,W=wc:=⟨_,rfl⟩
   subst hWZ
   obtain⟨rfl,j2,j3,j4,j5,hB,hX⟩:=hcut
   have hbZ:WZ.heap[bb]?=W4.heap[bb]?:=hB.keep bb (by omega) (by have:=HGT.out.size;omega)
   have hbT:W4.heap[bb]?=wT.heap[bb]?:=HGT.out.block bb hbl.1 (by intro e;have:=Option.some.inj e;omega)
   have hFZ:At WZ Fx #[.slice up d.params.length cp,.int .i64 d.ret,.slice (some ⟨bb,0,none⟩) d.blocks.length cb] 55:=(hB.keep Fx (by omega) (by omega)).trans HF4.out
   have hTZ:At WZ w2.heap.size #[.slice (some ⟨gm,0,none⟩) n cm] 26:=(hB.keep w2.heap.size (by omega) (by have:=HT4.out.lt;omega)).trans HT4.out
   have hRZ:At WZ v.heap.size #[.slice none 0 0] 26:=(hB.keep v.heap.size (by omega) (by omega)).trans (at_grown hRT HGT.out (by omega))
   have d0:WZ.cell? ⟨bb,q.toNat*6,none⟩=some (.slice pu pn pc):=(cell_blk (hbZ.trans hbT)).trans c0
   have d1:WZ.cell? ⟨bb,q.toNat*6+1,none⟩=some (.slice iu jn ic):=(cell_blk (hbZ.trans hbT)).trans c1
   have d2:WZ.cell? ⟨bb,q.toNat*6+2,none⟩=some (.int .i64 k2):=(cell_blk (hbZ.trans hbT)).trans c2
   have d3:WZ.cell? ⟨bb,q.toNat*6+3,none⟩=some (.int .i64 k3):=(cell_blk (hbZ.trans hbT)).trans c3
   have d4:WZ.cell? ⟨bb,q.toNat*6+4,none⟩=some (.int .i64 k4):=(cell_blk (hbZ.trans hbT)).trans c4
   have d5:WZ.cell? ⟨bb,q.toNat*6+5,none⟩=some (.int .i64 k5):=(cell_blk (hbZ.trans hbT)).trans c5
   obtain⟨cb4,hcb4⟩:=HB4b.out
   have df:∀ o,WZ.frozen? ⟨bb,o,none⟩=false:=fun o=>zfH (hbZ.trans hcb4)
   have x2:WZ.cell? ⟨Fx,2,none⟩=some (.slice (some ⟨bb,0,none⟩) d.blocks.length cb):=hFZ.cell 2
   have e0:WZ.cell? ⟨W2.heap.size,0,none⟩=some (.slice pu pn pc):=hX.cell 0
   have e1:WZ.cell? ⟨W2.heap.size,1,none⟩=some (.slice iu jn ic):=hX.cell 1
   have e2:WZ.cell? ⟨W2.heap.size,2,none⟩=some (.int .i64 j2):=hX.cell 2
   have e3:WZ.cell? ⟨W2.heap.size,3,none⟩=some (.int .i64 j3):=hX.cell 3
   have e4:WZ.cell? ⟨W2.heap.size,4,none⟩=some (.int .i64 j4):=hX.cell 4
   have e5:WZ.cell? ⟨W2.heap.size,5,none⟩=some (.int .i64 j5):=hX.cell 5
   have hbm:bb≠w2.heap.size:=blk_ne hcb4 HT4.out (by decide)
   have hbg:bb≠gm:=by obtain⟨c9,h9⟩:=Hgm4.out;exact blk_ne hcb4 h9 (by decide)
   have hmr:=hB.mr.row hbg d0 d1 d2 d3 d4 d5 (a':=j2) (b':=j3) (c':=j4) (d':=j5)
   have hset:∀ b,b≠bb→((((((WZ.setCell ⟨bb,q.toNat*6,none⟩ (.slice pu pn pc)).setCell ⟨bb,q.toNat*6+1,none⟩ (.slice iu jn ic)).setCell ⟨bb,q.toNat*6+2,none⟩ (.int .i64 j2)).setCell ⟨bb,q.toNat*6+3,none⟩ (.int .i64 j3)).setCell ⟨bb,q.toNat*6+4,none⟩ (.int .i64 j4)).setCell ⟨bb,q.toNat*6+5,none⟩ (.int .i64 j5)).heap[b]?=WZ.heap[b]?:=fun b hb=>by rw[Below.heap_setCell _ _ _ _ hb,Below.heap_setCell _ _ _ _ hb,Below.heap_setCell _ _ _ _ hb,Below.heap_setCell _ _ _ _ hb,Below.heap_setCell _ _ _ _ hb,Below.heap_setCell _ _ _ _ hb]
   have hsS:((((((WZ.setCell ⟨bb,q.toNat*6,none⟩ (.slice pu pn pc)).setCell ⟨bb,q.toNat*6+1,none⟩ (.slice iu jn ic)).setCell ⟨bb,q.toNat*6+2,none⟩ (.int .i64 j2)).setCell ⟨bb,q.toNat*6+3,none⟩ (.int .i64 j3)).setCell ⟨bb,q.toNat*6+4,none⟩ (.int .i64 j4)).setCell ⟨bb,q.toNat*6+5,none⟩ (.int .i64 j5)).heap.size=WZ.heap.size:=by simp only[World.size_setCell]
   have hoS:((((((WZ.setCell ⟨bb,q.toNat*6,none⟩ (.slice pu pn pc)).setCell ⟨bb,q.toNat*6+1,none⟩ (.slice iu jn ic)).setCell ⟨bb,q.toNat*6+2,none⟩ (.int .i64 j2)).setCell ⟨bb,q.toNat*6+3,none⟩ (.int .i64 j3)).setCell ⟨bb,q.toNat*6+4,none⟩ (.int .i64 j4)).setCell ⟨bb,q.toNat*6+5,none⟩ (.int .i64 j5)).os=WZ.os∧((((((WZ.setCell ⟨bb,q.toNat*6,none⟩ (.slice pu pn pc)).setCell ⟨bb,q.toNat*6+1,none⟩ (.slice iu jn ic)).setCell ⟨bb,q.toNat*6+2,none⟩ (.int .i64 j2)).setCell ⟨bb,q.toNat*6+3,none⟩ (.int .i64 j3)).setCell ⟨bb,q.toNat*6+4,none⟩ (.int .i64 j4)).setCell ⟨bb,q.toNat*6+5,none⟩ (.int .i64 j5)).tape=WZ.tape∧((((((WZ.setCell ⟨bb,q.toNat*6,none⟩ (.slice pu pn pc)).setCell ⟨bb,q.toNat*6+1,none⟩ (.slice iu jn ic)).setCell ⟨bb,q.toNat*6+2,none⟩ (.int .i64 j2)).setCell ⟨bb,q.toNat*6+3,none⟩ (.int .i64 j3)).setCell ⟨bb,q.toNat*6+4,none⟩ (.int .i64 j4)).setCell ⟨bb,q.toNat*6+5,none⟩ (.int .i64 j5)).output=WZ.output:=⟨by simp only[set_os],by simp only[set_tape],by simp only[set_output]⟩
   go_upto_region 28 with fail
   generalize ((((((WZ.setCell ⟨bb,q.toNat*6,none⟩ (.slice pu pn pc)).setCell ⟨bb,q.toNat*6+1,none⟩ (.slice iu jn ic)).setCell ⟨bb,q.toNat*6+2,none⟩ (.int .i64 j2)).setCell ⟨bb,q.toNat*6+3,none⟩ (.int .i64 j3)).setCell ⟨bb,q.toNat*6+4,none⟩ (.int .i64 j4)).setCell ⟨bb,q.toNat*6+5,none⟩ (.int .i64 j5))=WS at hmr hset hsS hoS ⊢
   have hTS:At WS w2.heap.size #[.slice (some ⟨gm,0,none⟩) n cm] 26:=(hset _ (by omega)).trans hTZ
   have hRS:At WS v.heap.size #[.slice none 0 0] 26:=(hset _ (by omega)).trans hRZ
   have hrS:Rd g a0 len cap WS:=rd_keep hB.rd (by omega) fun b hb=>hset b (by omega)
   clear d0 d1 d2 d3 d4 d5 df x2 e0 e1 e2 e3 e4 e5
   have t0:WS.cell? ⟨w2.heap.size,0,none⟩=some (.slice (some ⟨gm,0,none⟩) n cm):=hTS.cell 0
   have r0:WS.cell? ⟨v.heap.size,0,none⟩=some (.slice none 0 0):=hRS.cell 0
   have rf:WS.frozen? ⟨v.heap.size,0,none⟩=false:=zfH hRS
   have hrr:=zhS (o:=0) (v:=.slice (some ⟨gm,0,none⟩) n cm) hRS
   go_wp2_with fail
   have hset2:∀ b,b≠v.heap.size→(WS.setCell ⟨v.heap.size,0,none⟩ (.slice (some ⟨gm,0,none⟩) n cm)).heap[b]?=WS.heap[b]?:=fun b hb=>Below.heap_setCell _ _ _ _ hb
   have hz9:=HGT.out.size
   refine bodyPost_ret (v:=.agg #[.slice (some ⟨gm,0,none⟩) n cm]) ((results_cell_row Tryz.results37 _ _ v.heap.size 26 _ (0,0) _ rfl hrr Tryz.underlying26 rfl (by kernel_rfl)).trans (by rfl)) rfl ⟨gm,n,cm,rfl,hn1,hn2,by omega,?_,rd_keep hrS (by simp only[World.size_setCell];exact Nat.le_refl _) fun b hb=>hset2 b (by omega),fun b h1 h2=>?_,?_,?_,?_,?_⟩
   ·exact (hmr.same hgm fun b h1 h2=>hset2 b (by omega)).low (by omega)
   ·exact (hset2 b (by omega)).trans ((hset b (by omega)).trans ((hB.keep b (.inl ⟨h1,h2⟩) (by omega)).trans ((HGT.out.block b (by omega) (by intro e;exact h2 (Option.some.inj e))).trans (hWT b h1 h2))))
   ·have:=hB.size;simp only[World.size_setCell];omega
   ·exact (set_os _ _ _).trans (hoS.1.trans (hB.os.trans (HGT.out.os.trans ho1)))
   ·exact (set_tape _ _ _).trans (hoS.2.1.trans (hB.tape.trans (HGT.out.tape.trans ho2)))
   ·exact (set_output _ _ _).trans (hoS.2.2.trans (hB.output.trans (HGT.out.output.trans ho3)))
set_option maxHeartbeats 4000000
theorem mod_read{lo gm n:Nat}{w:World}(h:ModR lo gm n w)(hl:lo≤gm)(hn:n≤2):∃ l:List FuncD,l.length=n∧SmMod l∧zFA w lo (some ⟨gm,0,none⟩) l:=by
 obtain⟨⟨cur,hc⟩,h⟩:=h
 have hg:=(Array.getElem?_eq_some_iff.1 hc).1
 obtain⟨l,l1,l2⟩:=list_of func0 (fun i d=>((∃ u c,w.cell? ⟨gm,0+i*3,none⟩=some (.slice u d.params.length c)∧IntsAt w lo u d.params)∧w.cell? ⟨gm,0+i*3+1,none⟩=some (.int .i64 d.ret)∧(∃ u c,w.cell? ⟨gm,0+i*3+2,none⟩=some (.slice u d.blocks.length c)∧zBA w lo u d.blocks))∧SmFunc d) n fun i hi=>by
  obtain⟨np,nb,ret,up,ub,cp,cb,h0,h1,h2,h3⟩:=h i hi
  obtain⟨d,e1,e2,e3,e4,e5,e6⟩:=h3.read (ret:=ret)
  subst e1 e2 e3
  rw[Nat.zero_add]
  exact⟨d,⟨⟨up,cp,h0,e5⟩,h1,⟨ub,cb,h2,e6⟩⟩,e4⟩
 refine⟨l,l1,⟨by omega,fun p hp=>?_⟩,by omega,.inr ⟨gm,0,rfl,hl,hg,fun i hi=>(l2 i (by omega)).1⟩⟩
 obtain⟨i,hi,rfl⟩:=mem_getD func0 hp
 exact (l2 i (by omega)).2
theorem drawShapeT(a0:Option Addr)(len cap:Nat)(w:World)(hl:len≤1048576)(hc:Code a0 len w.heap.size w) :
  Calls Tryz.prog 16 #[.slice a0 len cap] w fun e w'=>∃ (l:List FuncD) (u:Option Addr) (c:Nat),e=.returned (.agg #[.slice u l.length c])∧SmMod l∧zFA w' w.heap.size u l∧Below w.heap.size w w':=by
 have hb0:Below w.heap.size w (w.alloc (.cells #[.slice none 0 0] 26)):=(Below.refl _ _).alloc (Nat.le_refl _) _
 have hrd:=rd_open (cap:=cap) hl (hc.below hb0)
 have hsz:(w.alloc (.cells #[.slice none 0 0] 26)).heap.size=w.heap.size+1:=by simp
 have hq0:((w.alloc (.cells #[.slice none 0 0] 26)).alloc (.cells #[.slice a0 len cap,.int .i64 0] 100)).heap[w.heap.size]?=some (.cells #[.slice none 0 0] 26 (0,0)):=heap_alloc2_old _ _ _
 have hb1:Below w.heap.size w ((w.alloc (.cells #[.slice none 0 0] 26)).alloc (.cells #[.slice a0 len cap,.int .i64 0] 100)):=hb0.alloc (by simp) _
 rw[hsz] at hrd
 have fin:∀ (W V:World) (gm n cm:Nat),W.heap[w.heap.size]?=some (.cells #[.slice none 0 0] 26 (0,0))→Below w.heap.size w W→w.heap.size+2≤W.heap.size→(∀ b,b<W.heap.size→b≠w.heap.size+1→V.heap[b]?=W.heap[b]?)→W.heap.size≤V.heap.size→V.os=W.os→V.tape=W.tape→V.output=W.output→ModR W.heap.size gm n V→W.heap.size≤gm→n≤2→V.heap[w.heap.size]?=some (.cells #[.slice none 0 0] 26 (0,0))∧∃ l:List FuncD,l.length=n∧SmMod l∧zFA (V.setCell ⟨w.heap.size,0,none⟩ (.slice (some ⟨gm,0,none⟩) n cm)) w.heap.size (some ⟨gm,0,none⟩) l∧Below w.heap.size w (V.setCell ⟨w.heap.size,0,none⟩ (.slice (some ⟨gm,0,none⟩) n cm)):=fun W V gm n cm h1 h2 h3 h4 h5 o1 o2 o3 h6 h7 h8=>by
  have hset:∀ b,b≠w.heap.size→(V.setCell ⟨w.heap.size,0,none⟩ (.slice (some ⟨gm,0,none⟩) n cm)).heap[b]?=V.heap[b]?:=fun b hb=>Below.heap_setCell _ _ _ _ hb
  obtain⟨l,l1,l2,l3⟩:=mod_read ((h6.same h7 fun b k1 k2=>hset b (by omega)).low (by omega:w.heap.size≤W.heap.size)) (by omega) h8
  exact⟨(h4 _ (by omega) (by omega)).trans h1,l,l1,l2,l3,(set_os _ _ _).trans (o1.trans h2.os),(set_tape _ _ _).trans (o2.trans h2.tape),(set_output _ _ _).trans (o3.trans h2.output),by simp only[World.size_setCell];omega,fun b hb=>(hset b (by omega)).trans ((h4 b (by omega) (by omega)).trans (h2.block b hb))⟩
 go_enter Tryz.func16,Tryz.ntmps16
 go_wp2_with (first|(go_at_call 28;refine (open_any _ _ _ _).mono ?_;rintro e w0 ⟨rfl,rfl⟩;simp only[hsz]))
 refine (once_any _ a0 len cap 2 _ hrd (by omega)).mono ?_
 rintro e W1 ⟨b1,rfl,hr1,hg1⟩
 have hz1:w.heap.size+2≤W1.heap.size:=by have:=hg1.size;simp at this;omega
 have hR1:W1.heap[w.heap.size]?=some (.cells #[.slice none 0 0] 26 (0,0)):=(hg1.block w.heap.size (by simp;omega) (by simp)).trans hq0
 have hB1:Below w.heap.size w W1:=⟨hg1.os.trans hb1.os,hg1.tape.trans hb1.tape,hg1.output.trans hb1.output,by omega,fun b hb=>(hg1.block b (by simp;omega) (by simp;omega)).trans (hb1.block b hb)⟩
 clear hg1 hq0 hb1 hb0 hrd hsz
 cases b1
 ·have PM:=module_all _ a0 len cap W1 hr1
  go_wp2_with fail
  refine PM.mono ?_
  rintro e W2 ⟨gm,n,cm,rfl,hn1,hn2,hgm,hcur,hfs,hrd2,hold,hs2,o1,o2,o3⟩
  obtain⟨k1,l,rfl,k3,k4,k5⟩:=fin W1 W2 gm n cm hR1 hB1 hz1 hold hs2 o1 o2 o3 (ModAll.r hcur hfs) hgm hn2
  have r0:W2.cell? ⟨w.heap.size,0,none⟩=some (.slice none 0 0):=(zcH k1).trans rfl
  have rf:W2.frozen? ⟨w.heap.size,0,none⟩=false:=zfH k1
  have hrr:=zhS (o:=0) (v:=.slice (some ⟨gm,0,none⟩) l.length cm) k1
  clear fin
  go_wp2_with fail
  exact bodyPost_ret (v:=.agg #[.slice (some ⟨gm,0,none⟩) l.length cm]) ((results_cell_row Tryz.results16 _ _ w.heap.size 26 _ (0,0) _ rfl hrr Tryz.underlying26 rfl (by kernel_rfl)).trans (by rfl)) rfl ⟨l,_,cm,rfl,k3,k4,k5⟩
 ·have PM:=broken_any _ a0 len cap W1 hr1
  go_wp2_with fail
  refine PM.mono ?_
  rintro e W2 ⟨gm,n,cm,rfl,hn1,hn2,hgm,hmr,hrd2,hold,hs2,o1,o2,o3⟩
  obtain⟨k1,l,rfl,k3,k4,k5⟩:=fin W1 W2 gm n cm hR1 hB1 hz1 hold hs2 o1 o2 o3 hmr hgm hn2
  have r0:W2.cell? ⟨w.heap.size,0,none⟩=some (.slice none 0 0):=(zcH k1).trans rfl
  have rf:W2.frozen? ⟨w.heap.size,0,none⟩=false:=zfH k1
  have hrr:=zhS (o:=0) (v:=.slice (some ⟨gm,0,none⟩) l.length cm) k1
  clear fin
  go_wp2_with fail
  exact bodyPost_ret (v:=.agg #[.slice (some ⟨gm,0,none⟩) l.length cm]) ((results_cell_row Tryz.results16 _ _ w.heap.size 26 _ (0,0) _ rfl hrr Tryz.underlying26 rfl (by kernel_rfl)).trans (by rfl)) rfl ⟨l,_,cm,rfl,k3,k4,k5⟩
theorem rd_underT{g:Nat}{a0:Option Addr}{len cap:Nat}{w w':World}(h:Rd g a0 len cap w)(k:Below w.heap.size w w'):Rd g a0 len cap w':=by
 obtain⟨hg,hl,hc,p,hp,hb⟩:=h
 refine⟨Nat.lt_of_lt_of_le hg k.size,hl,?_,p,hp,(k.block g hg).trans hb⟩
 rcases hc with h|⟨b,off,ha,hb,hc⟩
 ·exact .inl h
 ·exact .inr ⟨b,off,ha,hb,fun i hi=>by
   obtain⟨n,h1,h2,h3⟩:=hc i hi
   exact⟨n,h1,h2,(zcB (k.block b (by omega))).trans h3⟩⟩
theorem modText_size(l:List FuncD):(modText l).size≤51000:=by
 unfold modText
 split
 ·rename_i h
  rw[bs_size]
  exact xMod_len h
 ·exact Nat.zero_le _
theorem drawTextT(a0:Option Addr)(len cap:Nat)(w:World)(hl:len≤1048576)(hc:Code a0 len w.heap.size w) :
  Calls Tryz.prog 6 #[.slice a0 len cap] w fun e w'=>∃ (l:List FuncD) (u:Option Addr) (c:Nat),e=.returned (.agg #[.slice u l.length c])∧SmMod l∧zFA w' w.heap.size u l∧Below w.heap.size w w':=by
 have hb0:Below w.heap.size w (w.alloc (.cells #[.slice none 0 0] 26)):=(Below.refl _ _).alloc (Nat.le_refl _) _
 have hsz:(w.alloc (.cells #[.slice none 0 0] 26)).heap.size=w.heap.size+1:=by simp
 have hq0:At (w.alloc (.cells #[.slice none 0 0] 26)) w.heap.size #[.slice none 0 0] 26:=At.new _ _ _
 have PD:=drawShapeT a0 len cap (w.alloc (.cells #[.slice none 0 0] 26)) hl (hc.below hb0)
 go_enter Tryz.func6,Tryz.ntmps6
 go_wp2_with fail
 refine PD.mono ?_
 rintro e w1 ⟨l,u,c,rfl,hs,hf,hb⟩
 have k1:At w1 w.heap.size #[.slice none 0 0] 26:=hq0.below hb
 have r0:w1.cell? ⟨w.heap.size,0,none⟩=some (.slice none 0 0):=k1.cell 0
 have rf:w1.frozen? ⟨w.heap.size,0,none⟩=false:=zfH k1
 have hrr:=zhS (o:=0) (v:=.slice u l.length c) k1
 have HB1:Hid (Below w.heap.size w w1):=hb0.trans (hb.mono (by omega))
 have HF:Hid (zFA (w1.setCell ⟨w.heap.size,0,none⟩ (.slice u l.length c)) w.heap.size u l):=(hf.keep (agree_setCell _ _ _ _ _ (by omega))).low (by omega)
 have HS:Hid (SmMod l):=hs
 clear PD hb hf hs hb0 hq0 hc
 go_wp2_with fail
 exact bodyPost_ret (v:=.agg #[.slice u l.length c]) ((results_cell_row Tryz.results6 _ _ w.heap.size 26 _ (0,0) _ rfl hrr Tryz.underlying26 rfl (by kernel_rfl)).trans (by rfl)) rfl ⟨l,u,c,rfl,HS.out,HF.out,HB1.out.setCell (Nat.le_refl _) _⟩
theorem drawReadT(a0:Option Addr)(len cap:Nat)(w:World)(hl:len≤1048576)(hc:Code a0 len w.heap.size w) :
  Calls Tryz.prog 11 #[.slice a0 len cap] w fun e w'=>∃ t:ByteArray,e=.returned (.string t)∧t.size≤60000∧Below w.heap.size w w':=by
 have hrd:=rd_open (cap:=cap) hl hc
 have hb1:Below w.heap.size w (w.alloc (.cells #[.slice a0 len cap,.int .i64 0] 100)):=(Below.refl _ _).alloc (Nat.le_refl _) _
 have hsz:(w.alloc (.cells #[.slice a0 len cap,.int .i64 0] 100)).heap.size=w.heap.size+1:=by simp
 have PM:=module_all _ a0 len cap _ hrd
 go_enter Tryz.func11,Tryz.ntmps11
 go_wp2_with (first|(go_at_call 28;refine (open_any _ _ _ _).mono ?_;rintro e w0 ⟨rfl,rfl⟩))
 refine PM.mono ?_
 rintro e W2 ⟨gm,n,cm,rfl,hn1,hn2,hgm,hcur,hfs,hrd2,hold,hs2,o1,o2,o3⟩
 obtain⟨l,l1,l2,l3⟩:=mod_read (ModAll.r hcur hfs) hgm hn2
 subst l1
 have HB2:Hid (Below w.heap.size w W2):=⟨o1.trans hb1.os,o2.trans hb1.tape,o3.trans hb1.output,by omega,fun b hb=>(hold b (by omega) (by omega)).trans (hb1.block b hb)⟩
 have PT:=modTextS _ l _ cm W2 l2 l3
 have hz:=modText_size l
 have HR2:Hid (Rd w.heap.size a0 len cap W2):=hrd2
 clear PM hfs hcur hold l3 l2 hrd2 hrd hb1 hc
 generalize modText l=s at PT hz
 go_wp2_with fail
 refine PT.mono ?_
 rintro e W3 ⟨rfl,b3⟩
 have HB3:Hid (Below w.heap.size w W3):=HB2.out.trans (b3.mono HB2.out.size)
 have PO:=once_any _ a0 len cap 2 _ (rd_underT HR2.out b3) (by omega)
 clear PT b3 HR2 HB2
 go_wp2_with fail
 refine PO.mono ?_
 rintro e W4 ⟨b,rfl,hr4,hg4⟩
 have HB4:Hid (Below w.heap.size w W4):=⟨hg4.os.trans HB3.out.os,hg4.tape.trans HB3.out.tape,hg4.output.trans HB3.out.output,Nat.le_trans HB3.out.size hg4.size,fun b hb=>(hg4.block b (Nat.lt_of_lt_of_le hb HB3.out.size) (fun e=>by cases e;omega)).trans (HB3.out.block b hb)⟩
 clear PO hg4 HB3
 cases b
 ·have PH:=hurt_any _ a0 len cap s W4 hr4 (by omega)
  go_wp2_with fail
  refine PH.mono ?_
  rintro e W5 ⟨t,rfl,ht,_,hg5⟩
  have HB5:Hid (Below w.heap.size w W5):=⟨hg5.os.trans HB4.out.os,hg5.tape.trans HB4.out.tape,hg5.output.trans HB4.out.output,Nat.le_trans HB4.out.size hg5.size,fun b hb=>(hg5.block b (Nat.lt_of_lt_of_le hb HB4.out.size) (fun e=>by cases e;omega)).trans (HB4.out.block b hb)⟩
  clear hg5 PH
  go_wp2_with fail
  go_ret
  exact⟨t,rfl,by omega,HB5.out⟩
 ·go_wp2_with fail
  go_ret
  exact⟨s,rfl,by omega,HB4.out⟩
end Go.Proofs.YtkpmiikafconmaaGreatDoor
namespace Go.Proofs.YtkpmiikafconmaaGreatDoor
open Go.RowKit
set_option maxHeartbeats 8000000
set_option maxRecDepth 100000
set_option linter.unusedVariables false
set_option linter.unusedSimpArgs false
structure TxFacts(l:List FuncD)(s:ByteArray):Prop where
 z:s.size≤51000
 y:¬s=⟨#[]⟩→s.size≤20000→OkT s l
 n:(∃ m,OkT s m)→¬s=⟨#[]⟩∧s.size≤20000
theorem txFacts(l:List FuncD):TxFacts l (modText l) :=
 ⟨modText_size l,fun h1 h2=>okt_text h2 h1 rfl,fun ⟨m,hm⟩=>⟨okt_some hm,hm.2.2⟩⟩
theorem TxFacts.one{l m:List FuncD}{s:ByteArray}(h:TxFacts l s)(hm:OkT s m):m=l:=by
 obtain⟨h1,h2⟩:=h.n ⟨m,hm⟩
 exact okt_one hm (h.y h1 h2)
theorem fits_same{l:List FuncD}(h:∀ d∈l,FitFT d):∀ d∈l,d.params.length≤1048576∧∀ b∈d.blocks,(∀ p∈b.phis,p.ins.length≤1048576)∧∀ i∈b.insts,i.args.length≤1048576:=fun d hd=>by
 obtain⟨h1,_,h3⟩:=h d hd
 refine⟨by omega,fun b hb=>?_⟩
 obtain⟨_,k2,_,k4⟩:=h3 b hb
 exact⟨fun p hp=>by have:=k2 p hp;omega,fun i hi=>by have:=k4 i hi;omega⟩
theorem sm_fit{l:List FuncD}(h3:l.length≤3)(h:∀ d∈l,FitFT d):SmMod l:=by
 refine⟨by omega,fun d hd=>?_⟩
 obtain⟨h1,h2,h4⟩:=h d hd
 refine⟨by omega,by omega,fun b hb=>?_⟩
 obtain⟨k1,k2,k3,k4⟩:=h4 b hb
 exact⟨⟨by omega,fun p hp=>by have:=k2 p hp;unfold SmPhi;omega⟩,by omega,fun i hi=>by have:=k4 i hi;unfold SmInst;omega⟩
theorem uniT(s:ByteArray):∃ (l:List FuncD) (ok:Bool),SmMod l∧(∀ base w e,MtGotS s base e w→MTold w base l ok e)∧(∀ base w e,base≤w.heap.size→MtGot s base e w→MOwn w base l ok e)∧(ok=true→modText l=s):=by
 by_cases h:∃ l,OkT s l
 ·obtain⟨l,hl⟩:=h
  refine⟨l,true,sm_fit (modT_parts hl.1).1 (fitT_mod hl.1),?_,?_,fun _=>text_okt hl⟩
  ·rintro base w e (⟨l',u,c,h1,he,h2,_⟩|⟨hn,_⟩)
   ·obtain rfl:=okt_one hl h1
    exact⟨u,c,he,h2⟩
   ·exact absurd ⟨l,hl⟩ hn
  ·rintro base w e _ (⟨fs,u,c,h1,he,h2⟩|⟨hn,_⟩)
   ·exact⟨fs,u,c,okt_one h1 hl,he,h2⟩
   ·exact absurd ⟨l,hl⟩ hn
 ·refine⟨[],false,sm_fit (by simp) (fun d hd=>by cases hd),?_,?_,fun e=>by cases e⟩
  ·rintro base w e (⟨l',u,c,h1,_⟩|⟨_,he⟩)
   ·exact absurd ⟨l',h1⟩ h
   ·exact⟨none,0,he,by simp,.inl rfl⟩
  ·rintro base w e hb (⟨fs,u,c,h1,_⟩|⟨_,he⟩)
   ·exact absurd ⟨_,h1⟩ h
   ·exact⟨[],none,0,rfl,he,OwnL.none hb⟩
theorem str_noT{s:ByteArray}(h:¬s=⟨#[]⟩):(s.toList==[])=false:=beq_eq_false_iff_ne.2 fun e=>h (ba_ext (by rw[←ByteArray.toList_eq,e]))
theorem str_yesT{s:ByteArray}(h:s=⟨#[]⟩):(s.toList==[])=true:=by rw[h,ByteArray.toList_eq];rfl
theorem fnTexts_core(a:Addr)(a0:Option Addr)(len cap:Nat)(w:World)(hc:Code a0 len w.heap.size w)(hv:Tabs w a) :
  Calls Tryz.prog 3 #[.slice a0 len cap] w fun e w'=>e=.returned (.bool true)∧Below w.heap.size w w':=by
 by_cases hl:1048576<len
 ·have hb:decide (1048576<len)=true:=by simpa using hl
  go_enter Tryz.func3,Tryz.ntmps3
  go_wp2_with fail
  refine (big_any a0 len cap w).mono ?_
  rintro e w1 ⟨rfl,h9⟩
  have h8:=h9.symm
  clear h9
  subst h8
  rw[hb]
  go_wp2_with fail
  go_ret
  exact⟨rfl,Below.refl _ _⟩
 have hb:decide (1048576<len)=false:=by simpa using hl
 have hl2:len≤1048576:=by omega
 have D1:=drawTextT a0 len cap w hl2 hc
 have HV:Hid (Tabs w a):=hv
 have HC:Hid (Code a0 len w.heap.size w):=hc
 clear hc hl hv
 go_enter Tryz.func3,Tryz.ntmps3
 go_wp2_with fail
 refine (big_any a0 len cap w).mono ?_
 rintro e w1 ⟨rfl,h9⟩
 have h8:=h9.symm
 clear h9
 subst h8
 rw[hb]
 clear hb
 go_wp2_with fail
 refine D1.mono ?_
 rintro e w2 ⟨l,u,c,rfl,hsm,hfa,b2⟩
 have k2:Below w2.heap.size w2 (w2.alloc (.cells #[.slice u l.length c] 26)):=(Below.refl _ _).alloc (Nat.le_refl _) _
 have Q3:Hid (At (w2.alloc (.cells #[.slice u l.length c] 26)) w2.heap.size #[.slice u l.length c] 26):=At.new _ _ _
 have B3:Hid (Below w.heap.size w (w2.alloc (.cells #[.slice u l.length c] 26))):=b2.trans (k2.mono b2.size)
 have K3:Hid (zFA (w2.alloc (.cells #[.slice u l.length c] 26)) w.heap.size u l):=hfa.keep (zaB k2 _)
 have z3:(w2.alloc (.cells #[.slice u l.length c] 26)).heap.size=w2.heap.size+1:=by simp
 have z2:w.heap.size≤w2.heap.size:=b2.size
 have Hsm:Hid (SmMod l):=hsm
 clear D1 b2 k2 hfa hsm
 obtain⟨W3,hW3⟩:∃ W,w2.alloc (.cells #[.slice u l.length c] 26)=W:=⟨_,rfl⟩
 rw[hW3] at Q3 B3 K3 z3
 have x0:W3.cell? ⟨w2.heap.size,0,none⟩=some (.slice u l.length c):=Q3.out.cell 0
 have P1:=modTextI w.heap.size l u c W3 Hsm.out K3.out (HV.out.keep B3.out).o (HV.out.keep B3.out).t (HV.out.keep B3.out).p
 have P2:Hid (∀ W,zFA W w.heap.size u l→Calls Tryz.prog 9 #[.agg #[.slice u l.length c]] W fun e w'=>e=.returned (.string (modText l))∧Below W.heap.size W w'):=fun W k=>modTextS w.heap.size l u c W Hsm.out k
 have TF:Hid (TxFacts l (modText l)):=txFacts l
 clear Hsm
 generalize modText l=s at P1 P2 TF
 go_wp2_with fail
 clear hW3 x0
 refine P1.mono ?_
 rintro e w4 ⟨rfl,b4⟩
 have Q4:Hid (At w4 w2.heap.size #[.slice u l.length c] 26):=Q3.out.below b4
 have B4:Hid (Below w.heap.size w w4):=B3.out.trans (b4.mono B3.out.size)
 have K4:Hid (zFA w4 w.heap.size u l):=K3.out.keep (zaB b4 _)
 have z4:w2.heap.size<w4.heap.size:=Q4.out.lt
 clear P1 b4 Q3 B3 K3 z3
 have RI:=readMI a s w4 (HV.out.keep B4.out) (by have:=TF.out.z;omega)
 go_wp2_with fail
 refine RI.mono ?_
 rintro e w5 ⟨hc5,b5⟩
 have Q5:Hid (At w5 w2.heap.size #[.slice u l.length c] 26):=Q4.out.below b5
 have B5:Hid (Below w.heap.size w w5):=B4.out.trans (b5.mono B4.out.size)
 have K5:Hid (zFA w5 w.heap.size u l):=K4.out.keep (zaB b5 _)
 have z5:w4.heap.size≤w5.heap.size:=b5.size
 clear RI b5 Q4 B4 K4
 rcases hc5 with⟨fs,u5,c5,hok,rfl,hO⟩|⟨hno,rfl⟩
 focus
  have hfl:fs.map FnE.d=l:=TF.out.one hok
  have hn:fs.length=l.length:=by rw[←hfl,List.length_map]
  have hat:zFA w5 w4.heap.size u5 l:=by rw[←hfl];exact hO.at_
  rw[hn]
  have hex:Hid (∃ m,OkT s m):=⟨_,hok⟩
  have Hfit:Hid (∀ d∈l,d.params.length≤1048576∧∀ b∈d.blocks,(∀ p∈b.phis,p.ins.length≤1048576)∧∀ i∈b.insts,i.args.length≤1048576):=by
   rw[hfl] at hok
   exact fits_same (fitT_mod hok.1)
  clear hok
  have k5:Below w5.heap.size w5 (w5.alloc (.cells #[.slice u5 l.length c5] 26)):=(Below.refl _ _).alloc (Nat.le_refl _) _
  have Q6:Hid (At (w5.alloc (.cells #[.slice u5 l.length c5] 26)) w2.heap.size #[.slice u l.length c] 26):=Q5.out.below k5
  have N6:Hid (At (w5.alloc (.cells #[.slice u5 l.length c5] 26)) w5.heap.size #[.slice u5 l.length c5] 26):=At.new _ _ _
  have B6:Hid (Below w.heap.size w (w5.alloc (.cells #[.slice u5 l.length c5] 26))):=B5.out.trans (k5.mono B5.out.size)
  have K6:Hid (zFA (w5.alloc (.cells #[.slice u5 l.length c5] 26)) w.heap.size u l):=K5.out.keep (zaB k5 _)
  have L6:Hid (zFA (w5.alloc (.cells #[.slice u5 l.length c5] 26)) w4.heap.size u5 l):=hat.keep (zaB k5 _)
  clear hat hfl hn hO
  clear k5 Q5 B5 K5
  obtain⟨W6,hW6⟩:∃ W,(w5.alloc (.cells #[.slice u5 l.length c5] 26))=W:=⟨_,rfl⟩
  rw[hW6] at Q6 N6 B6 K6 L6
  have x0:W6.cell? ⟨w2.heap.size,0,none⟩=some (.slice u l.length c):=Q6.out.cell 0
  go_wp2_with fail
  clear hW6 x0
  refine (P2.out W6 K6.out).mono ?_
  rintro e w7 ⟨rfl,b7⟩
  have B7:Hid (Below w.heap.size w w7):=B6.out.trans (b7.mono B6.out.size)
  have L7:zFA w7 w4.heap.size u5 l:=L6.out.keep (zaB b7 _)
  have K7:zFA w7 w.heap.size u l:=K6.out.keep (zaB b7 _)
  have y0:w7.cell? ⟨w5.heap.size,0,none⟩=some (.slice u5 l.length c5):=(N6.out.below b7).cell 0
  have y1:w7.cell? ⟨w2.heap.size,0,none⟩=some (.slice u l.length c):=(Q6.out.below b7).cell 0
  have q0:(s.toList==[])=false:=str_noT (TF.out.n hex.out).1
  have q1:(s.size:Int)≤20000:=by have:=(TF.out.n hex.out).2;omega
  have SM:=sameModuleL w4.heap.size w.heap.size l u5 c5 u c w7 Hfit.out L7 K7
  clear b7 L7 K7 L6 K6 N6 Q6 B6 TF
  go_wp2_with fail
  refine SM.mono ?_
  rintro e w8 ⟨rfl,b8⟩
  have B8:Hid (Below w.heap.size w w8):=B7.out.trans (b8.mono B7.out.size)
  clear SM b8 B7 y0 y1 q0 q1 hex Hfit
  go_wp2_with fail
 rotate_left
 focus
  have Hno:Hid (¬∃ m,OkT s m):=hno
  clear hno
  have k5:Below w5.heap.size w5 (w5.alloc (.cells #[.slice none 0 0] 26)):=(Below.refl _ _).alloc (Nat.le_refl _) _
  have Q6:Hid (At (w5.alloc (.cells #[.slice none 0 0] 26)) w2.heap.size #[.slice u l.length c] 26):=Q5.out.below k5
  have N6:Hid (At (w5.alloc (.cells #[.slice none 0 0] 26)) w5.heap.size #[.slice none 0 0] 26):=At.new _ _ _
  have B6:Hid (Below w.heap.size w (w5.alloc (.cells #[.slice none 0 0] 26))):=B5.out.trans (k5.mono B5.out.size)
  have K6:Hid (zFA (w5.alloc (.cells #[.slice none 0 0] 26)) w.heap.size u l):=K5.out.keep (zaB k5 _)
  clear k5 Q5 B5 K5
  have x0:(w5.alloc (.cells #[.slice none 0 0] 26)).cell? ⟨w2.heap.size,0,none⟩=some (.slice u l.length c):=Q6.out.cell 0
  go_wp2_with fail
  clear x0
  refine (P2.out (w5.alloc (.cells #[.slice none 0 0] 26)) K6.out).mono ?_
  rintro e w7 ⟨rfl,b7⟩
  have B7:Hid (Below w.heap.size w w7):=B6.out.trans (b7.mono B6.out.size)
  have HB:s=⟨#[]⟩∨(¬s=⟨#[]⟩∧¬(s.size:Int)≤20000):=by
   by_cases h:s=⟨#[]⟩
   ·exact .inl h
   ·exact .inr ⟨h,fun h2=>Hno.out ⟨l,TF.out.y h (by omega)⟩⟩
  clear b7 K6 N6 Q6 B6 TF
  obtain⟨w8,hw8⟩:∃ W,W=w7:=⟨_,rfl⟩
  subst hw8
  have B8:=B7
  clear B7
  rcases HB with hs0|⟨hs0,hs1⟩
  focus
   have q0:(s.toList==[])=true:=str_yesT hs0
   clear hs0 Hno
   go_wp2_with fail
  rotate_left
  focus
   have q0:(s.toList==[])=false:=str_noT hs0
   clear hs0 Hno
   go_wp2_with fail
 all_goals
  refine (drawReadT a0 len cap w8 hl2 (HC.out.below B8.out)).mono ?_
  rintro e w9 ⟨t,rfl,ht,b9⟩
  have B9:Hid (Below w.heap.size w w9):=B8.out.trans (b9.mono B8.out.size)
  obtain⟨g,ok,hsm,US,UI,UT⟩:=uniT t
  have HT:Hid (ok=true→modText g=t):=UT
  have Hsm:Hid (SmMod g):=hsm
  clear b9 hsm UT B8
  go_wp2_with fail
  refine (readMI a t w9 (HV.out.keep B9.out) (by omega)).mono ?_
  rintro e wA ⟨hc2,bA⟩
  obtain⟨fs,xu,xq,hfl,rfl,hO⟩:=UI _ _ _ bA.size hc2
  have hn:fs.length=g.length:=by rw[←hfl,List.length_map]
  have hat:zFA wA w9.heap.size xu g:=by rw[←hfl];exact hO.at_
  rw[hn]
  have kA:Below wA.heap.size wA (wA.alloc (.cells #[.slice xu g.length xq] 26)):=(Below.refl _ _).alloc (Nat.le_refl _) _
  have QB:Hid (At (wA.alloc (.cells #[.slice xu g.length xq] 26)) wA.heap.size #[.slice xu g.length xq] 26):=At.new _ _ _
  have BB:Hid (Below w.heap.size w (wA.alloc (.cells #[.slice xu g.length xq] 26))):=(B9.out.trans (bA.mono B9.out.size)).trans (kA.mono (Nat.le_trans B9.out.size bA.size))
  have IB:Hid (zFA (wA.alloc (.cells #[.slice xu g.length xq] 26)) w9.heap.size xu g):=hat.keep (zaB kA _)
  clear bA kA hc2 hO hat hfl hn UI B9
  obtain⟨WB,hWB⟩:∃ W,(wA.alloc (.cells #[.slice xu g.length xq] 26))=W:=⟨_,rfl⟩
  rw[hWB] at QB BB IB
  go_wp2_with fail
  clear hWB
  refine (readMS t WB (by omega)).mono ?_
  rintro e wC ⟨hc3,bC⟩
  obtain⟨yu,yq,rfl,_⟩:=US _ _ _ hc3
  have kC:Below wC.heap.size wC (wC.alloc (.cells #[.slice yu g.length yq] 26)):=(Below.refl _ _).alloc (Nat.le_refl _) _
  have QD:Hid (At (wC.alloc (.cells #[.slice yu g.length yq] 26)) wA.heap.size #[.slice xu g.length xq] 26):=(QB.out.below bC).below kC
  have BD:Hid (Below w.heap.size w (wC.alloc (.cells #[.slice yu g.length yq] 26))):=(BB.out.trans (bC.mono BB.out.size)).trans (kC.mono (Nat.le_trans BB.out.size bC.size))
  have ID:Hid (zFA (wC.alloc (.cells #[.slice yu g.length yq] 26)) w9.heap.size xu g):=(IB.out.keep (zaB bC _)).keep (zaB kC _)
  clear bC kC hc3 US QB BB IB
  obtain⟨WD,hWD⟩:∃ W,(wC.alloc (.cells #[.slice yu g.length yq] 26))=W:=⟨_,rfl⟩
  rw[hWD] at QD BD ID
  have x0:WD.cell? ⟨wA.heap.size,0,none⟩=some (.slice xu g.length xq):=QD.out.cell 0
  cases ok with
  | false =>
   go_wp2_with fail
   go_ret
   exact⟨rfl,BD.out⟩
  | true =>
   have hgt:=HT.out rfl
   have PZ:=modTextI w9.heap.size g xu xq WD Hsm.out ID.out (HV.out.keep BD.out).o (HV.out.keep BD.out).t (HV.out.keep BD.out).p
   rw[hgt] at PZ
   go_wp2_with fail
   clear hWD
   refine PZ.mono ?_
   rintro e wE ⟨rfl,bE⟩
   have BE:Hid (Below w.heap.size w wE):=BD.out.trans (bE.mono BD.out.size)
   clear bE PZ
   go_wp2_with fail
   go_ret
   exact⟨rfl,BE.out⟩
end Go.Proofs.YtkpmiikafconmaaGreatDoor
namespace Go.Proofs.YtkpmiikafconmaaGreatDoor.fnTexts
open Go.ChangeShapes Go.WideShapes Go.ChangeAt Go.RowKit
open Go.ChangeMaps (open_string shut_string)
set_option linter.unusedVariables false

theorem own : ownKnob Tryz.prog.godebug = none := by kernel_rfl
theorem laidOut : laidOutB Tryz.prog = true := by kernel_rfl

set_option maxHeartbeats 2000000 in
set_option maxRecDepth 100000 in
theorem lifted (os : Os) (started : os.Started) (H : Type) (enc : TypeId × Value → H) :
    ReturnsInHanded {} Tryz.checked os 3 .any (fun w args => (Rows.fnTextsSpec.pre enc Tryz.prog Tryz.f3 [] false w args ∧ laidMetH Tryz.prog Rows.fnTextsRow.laid w) ∧ sizedMet enc Tryz.prog Tryz.f3 (OpenSpec.ofChange Rows.fnTextsSpec) false w args) (Rows.fnTextsSpec.post enc Tryz.prog Tryz.f3 false true false false) := by
  refine returnsInHanded_of_change_and (C := Tryz.checked) (X := fun w _ => laidMetH Tryz.prog Rows.fnTextsRow.laid w) (fun _ _ _ hh h => h.of_heap hh) own started (by kernel_rfl) Tryz.func3
    (ChangeSpec.witness_shaped (enc := enc) (C := Tryz.checked) (os := os) (X := fun w _ => laidMetH Tryz.prog Rows.fnTextsRow.laid w) false (World.laidAll Tryz.prog os Rows.fnExactReadModuleRow.laid) #[.slice none 0 0] 8 (World.laidAll_os _ _ _) (World.shaped_of_RefB (by kernel_rfl) (by kernel_rfl)) (by kernel_rfl) (by kernel_rfl) (by kernel_rfl) (read_met os _)) ?_
  intro W base args ds gs before hval0 hW _ _ hL _
  have hval : ∀ (j : Nat) t v, Tryz.f3.params[j]? = some t → args[j]? = some v → Value.okWide Tryz.prog W .any base t v := hval0
  have hW' := hW
  obtain ⟨p, q, hA0, hV, rfl, hfz, hnd⟩ := hW
  have hA : DataW.TrodAll enc Tryz.prog W 0 (fun _ => true) true Tryz.f3.params.toList args.toList ds p := hA0
  rw [Tryz.params3] at hA hval
  obtain ⟨v0, vs0, d0, ds0, p0, q0, hargs, rfl, rfl, h0, r0⟩ := trodAll_cons hA
  obtain ⟨rfl, rfl, rfl⟩ := trodAll_nil r0
  obtain rfl : args = #[v0] := by cases args; simp_all
  obtain ⟨a0, len0, cap0, rfl⟩ := okWide_slice Tryz.underlying22 (hval 0 22 v0 rfl rfl)
  have kk0 := h0
  have ltk0 : ∀ x ∈ p0, x.block < W.heap.size := by obtain ⟨m, hm⟩ := kk0; exact DataW.trod_lt m _ _ _ hm
  have code0 : Code a0 len0 W.heap.size W := by
    obtain ⟨fuel, hf⟩ := h0
    rcases open_ints Tryz.underlying22 Tryz.underlying5 (by kernel_rfl) hf with ⟨hcs, _⟩ | ⟨x, l, c, zs, hcs, _, hl, hm, hz, _, hcell, hwz⟩
    · simp [Value.cells] at hcs
      obtain ⟨rfl, rfl, rfl⟩ := hcs
      exact code_of (zs := []) (.inl ⟨rfl, rfl, rfl, rfl⟩)
    · simp [Value.cells] at hcs
      obtain ⟨rfl, rfl, rfl⟩ := hcs
      exact code_of (zs := zs) (.inr ⟨_, rfl, hl, hm, by simpa using hz, hcell, hwz⟩)
  obtain ⟨aC, hC⟩ := read_of_laid hL
  have hV1 : DataW.TrodVars enc Tryz.prog W (fun _ => true) ["loop.example/g00457/impl.termWords", "loop.example/g00457/impl.opWords", "loop.example/g00457/impl.errUnread"] gs q := hV
  obtain ⟨g1, g2, g3, rfl⟩ := three_vars hV1
  clear hA0 hval0
  refine (fnTexts_core aC a0 len0 cap0 W code0 hC.tabs).mono fun e W' ⟨he, bel⟩ => ?_
  subst he
  exact ⟨_, rfl, _, _, _, [], _, _, hW', trodAll_mk1 (shut_bool Tryz.underlying4 _), (trodAll_cons_mk (Below.trod laidOut (by kernel_rfl) (of_decide_eq_true (by kernel_rfl)) kk0 bel ltk0) trodAll_mk0), vars_thd laidOut bel hV1 hC.c trivial, bel.frame _, fun h => by cases h⟩

theorem over : Rows.fnTextsRow.holds Tryz.pinned (OpenSpec.ofChange Rows.fnTextsSpec) :=
  OpenClaim.holds_of_wide 3 Tryz.f3 rfl rfl rfl rfl rfl rfl rfl ⟨rfl, rfl, rfl, rfl, rfl⟩ rfl rfl rfl rfl rfl (by kernel_rfl) Tryz.func3 (by kernel_rfl)
    (of_decide_eq_true (by kernel_rfl)) (by unfold Func.isWrapper; first | (rw [if_pos (by decide +kernel)]; kernel_rfl) | (rw [if_neg (by decide +kernel)]; exact ⟨rfl, rfl⟩))
    (fun os started H enc _ => lifted os started H enc)

theorem card : Claim7.holds Tryz.pinned (.plain (OpenSpec.ofChange Rows.fnTextsSpec)) Rows.fnTextsCard :=
  Claim7.holds_tied_plain_at .later [] [.data, .data, .data, .data, .sentinel, .sentinel, .data, .data, .sentinel, .pinned] true (true, "33ce37c51864ab1e29e5f56fa7acbb778075ed1fd6c7140c558fafb73a26db5f") true
    over (fun _ h => by cases h) (by kernel_rfl) (fun _ h => by cases h) fnTexts_row_tie rfl ⟨rfl, rfl⟩ (by kernel_rfl) rfl
    (fun f fn hf hfn => by
      obtain rfl : f = 3 := Option.some.inj ((show Tryz.prog.funcNamed "loop.example/g00457/laws.FnTexts" = some 3 by kernel_rfl).symm.trans hf) |>.symm
      obtain rfl : fn = Tryz.f3 := (Option.some.inj (Tryz.func3.symm.trans hfn)).symm
      exact ⟨by kernel_rfl, fun j t ht => by
        rw [Tryz.params3] at ht
        have hm : t ∈ [22] := by simpa using Array.mem_of_getElem? ht
        have hall : ([22].all fun u => !Tryz.prog.wantsStandIn u) = true := by kernel_rfl
        exact (show Tryz.prog.wantsStandIn t = false by simpa using List.all_eq_true.1 hall t hm)⟩)
    (by kernel_rfl)
end Go.Proofs.YtkpmiikafconmaaGreatDoor.fnTexts

namespace Go.Proofs.YtkpmiikafconmaaGreatDoor
theorem fnTexts_holds : Rows.FnTextsCardSaid := fnTexts.card
#print axioms fnTexts_holds
end Go.Proofs.YtkpmiikafconmaaGreatDoor
