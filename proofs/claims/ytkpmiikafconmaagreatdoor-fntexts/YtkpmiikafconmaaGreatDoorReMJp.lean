import Derived.Test.YtkpmiikafconmaaGreatDoorReLJp
import Derived.Test.YtkpmiikafconmaaGreatDoorRiNJp
namespace Go.Proofs.YtkpmiikafconmaaGreatDoor
open Go.RowKit
set_option maxHeartbeats 8000000
set_option maxRecDepth 100000
set_option linter.unusedVariables false
set_option linter.unusedSimpArgs false
def IntO(w:World)(lo hi:Nat)(u:Option Addr)(l:List Int):Prop:=l.length≤1048576∧(l=[]∨∃ g o cur,u=some ⟨g,o,none⟩∧lo≤g∧g<hi∧w.heap[g]?=some (.cells cur 2 (0,0))∧∀ i,i<l.length→cur[o+i]?=some (.int .i64 (l.getD i 0)))
theorem IntO.wide{w:World}{lo hi lo' hi':Nat}{u:Option Addr}{l:List Int}(h:IntO w lo hi u l)(h1:lo'≤lo)(h2:hi≤hi'):IntO w lo' hi' u l:=by
 refine⟨h.1,?_⟩
 rcases h.2 with h|⟨g,o,cur,e,k1,k2,k3⟩
 ·exact .inl h
 ·exact .inr ⟨g,o,cur,e,by omega,by omega,k3⟩
theorem IntO.ints{w:World}{lo hi:Nat}{u:Option Addr}{l:List Int}(h:IntO w lo hi u l):IntsAt w lo u l:=by
 refine⟨by have:=h.1;omega,?_⟩
 rcases h.2 with h|⟨g,o,cur,e,h1,h2,h3,h4⟩
 ·exact .inl h
 ·exact .inr ⟨g,o,e,h1,(Array.getElem?_eq_some_iff.1 h3).1,fun i hi=>by rw[zcH h3];exact h4 i hi⟩
theorem IntO.nil(w:World)(lo hi:Nat)(u:Option Addr):IntO w lo hi u []:=⟨by simp,.inl rfl⟩
def IntA2(w:World)(lo:Nat)(u:Option Addr)(l:List Int):Prop:=IntO w lo w.heap.size u l
theorem IntA2.ints{w:World}{lo:Nat}{u:Option Addr}{l:List Int}(h:IntA2 w lo u l):IntsAt w lo u l:=IntO.ints h
theorem IntA2.low{w:World}{lo lo':Nat}{u:Option Addr}{l:List Int}(h:IntA2 w lo u l)(k:lo'≤lo):IntA2 w lo' u l:=IntO.wide h k (Nat.le_refl _)
theorem IntA2.kp{w w':World}{lo:Nat}{u:Option Addr}{l:List Int}(h:IntA2 w lo u l)(k:Below w.heap.size w w'):IntA2 w' lo u l:=by
 refine⟨h.1,?_⟩
 rcases h.2 with h|⟨g,o,cur,e,k1,k2,k3,k4⟩
 ·exact .inl h
 ·exact .inr ⟨g,o,cur,e,k1,Nat.lt_of_lt_of_le k2 k.size,(k.block g k2).trans k3,k4⟩
theorem ints_setT{w:World}{lo R o:Nat}{u:Option Addr}{l:List Int}{v:Value}(h:IntA2 w lo u l)(hR:R<lo):IntA2 (w.setCell ⟨R,o,none⟩ v) lo u l:=by
 refine⟨h.1,?_⟩
 rcases h.2 with h|⟨g,p,cur,e,k1,k2,k3,k4⟩
 ·exact .inl h
 ·exact .inr ⟨g,p,cur,e,k1,by simpa using k2,(Below.heap_setCell _ _ _ _ (by show g≠R;omega)).trans k3,k4⟩
def IntsB2(w:World)(lo hi:Nat)(u:Option Addr)(l:List Int):Prop:=l=[]∨∃ b cur,u=some ⟨b,0,none⟩∧lo≤b∧b<hi∧hi≤w.heap.size∧w.heap[b]?=some (.cells cur 2 (0,0))∧∀ i,i<l.length→cur[i]?=some (.int .i64 (l.getD i 0))
theorem IntsB2.keep{w w':World}{lo hi:Nat}{u:Option Addr}{l:List Int}(h:IntsB2 w lo hi u l)(k:Below hi w w'):IntsB2 w' lo hi u l:=by
 rcases h with h|⟨b,cur,h1,h2,h3,h4,h5,h6⟩
 ·exact .inl h
 ·exact .inr ⟨b,cur,h1,h2,h3,Nat.le_trans h4 k.size,(k.block b h3).trans h5,h6⟩
theorem IntsB2.set{w:World}{lo hi B o:Nat}{u:Option Addr}{l:List Int}{v:Value}(h:IntsB2 w lo hi u l)(hB:hi≤B):IntsB2 (w.setCell ⟨B,o,none⟩ v) lo hi u l:=h.keep ((Below.refl _ _).setCell hB _)
theorem IntsB2.of{w:World}{lo:Nat}{u:Option Addr}{n c:Nat}{l:List Int}(h:Row w lo (.slice u n c) l):IntsB2 w lo w.heap.size u l∧l.length≤c∧c≤9223372036854775807:=by
 rcases h.2 with⟨hv,hn⟩|⟨g,cap,cur,hv,hb,hg,hnc,hcm,hcs,htk⟩
 ·simp only[Value.slice.injEq] at hv
  obtain⟨_,_,rfl⟩:=hv
  exact⟨.inl (List.length_eq_zero_iff.1 hn),by omega,by omega⟩
 ·simp only[Value.slice.injEq] at hv
  obtain⟨rfl,_,rfl⟩:=hv
  refine⟨.inr ⟨g,cur,rfl,hb,(Array.getElem?_eq_some_iff.1 hg).1,Nat.le_refl _,hg,fun i hi=>?_⟩,hnc,by unfold maxLen at hcm;omega⟩
  have e:(cur.toList.take (l.length*1))[i]?=(l.map (Value.int .i64))[i]?:=by rw[htk]
  rw[List.getElem?_take,if_pos (by omega)] at e
  simp[hi] at e
  simpa [List.getD,hi] using e
theorem IntsB2.bt{w:World}{lo hi:Nat}{u:Option Addr}{l:List Int}(h:IntsB2 w lo hi u l):IntsBt w lo hi u l:=by
 rcases h with h|⟨b,cur,h1,h2,h3,h4,h5,h6⟩
 ·exact .inl h
 ·exact .inr ⟨b,h1,h2,h3,h4,fun i hi=>by rw[zcH h5];exact h6 i hi⟩
theorem IntsB2.tail{w:World}{lo hi b:Nat}{l:List Int}(h:IntsB2 w lo hi (some ⟨b,0,none⟩) l)(hl:l.length≤1048576):IntA2 w lo (some ⟨b,2,none⟩) (l.drop 2):=by
 refine⟨by simp;omega,?_⟩
 rcases h with h|⟨b',cur,h1,h2,h3,h4,h5,h6⟩
 ·exact .inl (by rw[h];rfl)
 ·cases h1
  refine .inr ⟨b,2,cur,rfl,h2,by omega,h5,fun i hi=>?_⟩
  simp only[List.length_drop] at hi
  rw[h6 (2+i) (by omega)]
  simp[List.getD]
theorem IntsB2.tail1{w:World}{lo hi b:Nat}{l:List Int}{x:Int}(h:IntsB2 w lo hi (some ⟨b,0,none⟩) (x :: l))(hl:l.length≤1048576):IntA2 w lo (some ⟨b,1,none⟩) l:=by
 refine⟨hl,?_⟩
 rcases h with h|⟨b',cur,h1,h2,h3,h4,h5,h6⟩
 ·cases h
 ·cases h1
  refine .inr ⟨b,1,cur,rfl,h2,by omega,h5,fun i hi=>?_⟩
  rw[h6 (1+i) (by simp;omega)]
  simp[List.getD,Nat.add_comm 1 i]
def ReadToldT(s:ByteArray)(base:Nat)(w:World)(e:Ending):Prop :=
 (∃ i u q,ReadOk s i∧e=.returned (.tuple #[.agg #[.int .i64 i.op,.int .i64 i.w,.int .i64 i.a,.int .i64 i.b,.int .i64 i.c,.int .i64 i.imm,.slice u i.args.length q],.bool true])∧IntA2 w base u i.args)∨((¬∃ i,ReadOk s i)∧e=.returned (.tuple #[.agg #[.int .i64 0,.int .i64 0,.int .i64 0,.int .i64 0,.int .i64 0,.int .i64 0,.slice none 0 0],.bool false]))
structure MstT(w wr:World)(G:Nat)(u:Option Addr)(n:List Int)(V:Array Value):Prop where
 hG:w.heap.size<G
 r:At wr w.heap.size #[.int .i64 0,.int .i64 0,.int .i64 0,.int .i64 0,.int .i64 0,.int .i64 0,.slice none 0 0] 95
 wd:∀ j,j<28→wr.cell? ⟨G,j,none⟩=some (.string (opW j))
 b:At wr (G+1) V 95
 row:IntsB2 wr (w.heap.size+1) G u n
 below:Below w.heap.size w wr
 size:G+2≤wr.heap.size
theorem MstT.keep{w wr w2:World}{G:Nat}{u:Option Addr}{n:List Int}{V:Array Value}(h:MstT w wr G u n V)(k:Below wr.heap.size wr w2):MstT w w2 G u n V:=by
 have:=h.size
 exact⟨h.hG,h.r.below k,fun j hj=>(zcB (k.block G (by omega))).trans (h.wd j hj),h.b.below k,h.row.keep (k.mono (by omega)),h.below.trans (k.mono h.below.size),Nat.le_trans h.size k.size⟩
theorem MstT.set{w wr:World}{G:Nat}{u:Option Addr}{n:List Int}{V:Array Value}(h:MstT w wr G u n V)(o:Nat)(v:Value):MstT w (wr.setCell ⟨G+1,o,none⟩ v) G u n (V.setIfInBounds o v):=by
 have:=h.hG
 exact⟨h.hG,h.r.setOther (by omega),fun j hj=>(zcB (Below.heap_setCell _ _ _ _ (by show G≠G+1;omega))).trans (h.wd j hj),zhS (o:=o) h.b,h.row.set (by omega),h.below.setCell (by show w.heap.size≤G+1;omega) _,by simpa using h.size⟩
theorem readT(s:ByteArray)(w:World)(hs:s.size≤1048576) :
  Calls Tryz.prog 63 #[.string s] w fun e w'=>ReadToldT s w.heap.size w' e∧Below w.heap.size w w':=by
 have B1:Below w.heap.size w (w.alloc (.cells #[.int .i64 0,.int .i64 0,.int .i64 0,.int .i64 0,.int .i64 0,.int .i64 0,.slice none 0 0] 95)):=(Below.refl _ _).alloc (Nat.le_refl _) _
 have HB1:Hid (Below w.heap.size w _):=B1
 have HA1:Hid (At _ w.heap.size #[.int .i64 0,.int .i64 0,.int .i64 0,.int .i64 0,.int .i64 0,.int .i64 0,.slice none 0 0] 95):=At.new w #[.int .i64 0,.int .i64 0,.int .i64 0,.int .i64 0,.int .i64 0,.int .i64 0,.slice none 0 0] 95
 have he1:Hid ((w.alloc (.cells #[.int .i64 0,.int .i64 0,.int .i64 0,.int .i64 0,.int .i64 0,.int .i64 0,.slice none 0 0] 95)).heap.size=w.heap.size+1):=by show _=_;simp
 clear B1
 go_enter Tryz.func63,Tryz.ntmps63
 go_wp2_with fail
 generalize (w.alloc (.cells #[.int .i64 0,.int .i64 0,.int .i64 0,.int .i64 0,.int .i64 0,.int .i64 0,.slice none 0 0] 95))=W1 at HB1 HA1 he1 ⊢
 refine (splitS s W1 hs).mono ?_
 rintro e w1 ⟨⟨word,n,u,c,ok,rfl,hR,hl,hem,hT⟩,b1⟩
 have HT:Hid (SplitTold s word n ok):=hT
 have HE:Hid (s=⟨#[]⟩→n=[]):=hem
 have HB2:Hid (Below w.heap.size w w1):=HB1.out.trans (b1.mono HB1.out.size)
 have HA2:Hid (At w1 w.heap.size #[.int .i64 0,.int .i64 0,.int .i64 0,.int .i64 0,.int .i64 0,.int .i64 0,.slice none 0 0] 95):=HA1.out.below b1
 have hG:w.heap.size<w1.heap.size:=by have:=b1.size;have:=he1.out;omega
 rw[he1.out] at hR
 obtain⟨hI,hnc,hcm⟩:=IntsB2.of hR
 have HI:Hid (IntsB2 w1 (w.heap.size+1) w1.heap.size u n):=hI
 clear hT hem b1 HB1 HA1 he1 hR hI hs
 go_wp2_with fail
 obtain⟨G,hGe⟩:∃ G,w1.heap.size=G:=⟨_,rfl⟩
 refine (opWordsS w1 G hGe).mono ?_
 rintro e w2 ⟨rfl,hwd,hz2,b2⟩
 rw[hGe] at hG HI
 have HI2:Hid (IntsB2 w2 (w.heap.size+1) G u n):=HI.out.keep (by rw[←hGe];exact b2)
 have HB3:Hid (Below w.heap.size w w2):=HB2.out.trans (b2.mono HB2.out.size)
 have HA3:Hid (At w2 w.heap.size #[.int .i64 0,.int .i64 0,.int .i64 0,.int .i64 0,.int .i64 0,.int .i64 0,.slice none 0 0] 95):=HA2.out.below b2
 have HWd:Hid (∀ j,j<28→w2.cell? ⟨G,j,none⟩=some (.string (opW j))):=hwd
 have Hz2:Hid (w2.heap.size=G+1):=hz2
 clear b2 hwd HB2 HA2 HI hGe hz2
 have P0:=atS (w.heap.size+1) G u c n 0 w2 HI2.out.bt (by omega) (by omega)
 obtain⟨x,hx⟩:∃ x,n.getD 0 0=x:=⟨_,rfl⟩
 rw[hx] at P0
 have HX:Hid (n.getD 0 0=x):=hx
 clear hx
 go_wp2_with fail
 refine P0.mono ?_
 rintro e w3 ⟨rfl,h9⟩
 have h8:=h9.symm
 clear h9
 subst h8
 clear P0
 have HM:Hid (MstT w (w2.alloc (.cells #[.int .i64 (0),.int .i64 x,.int .i64 0,.int .i64 0,.int .i64 0,.int .i64 0,.slice none 0 0] 95)) G u n #[.int .i64 (0),.int .i64 x,.int .i64 0,.int .i64 0,.int .i64 0,.int .i64 0,.slice none 0 0]):=by
  have e:=Hz2.out
  have k:Below w2.heap.size w2 (w2.alloc (.cells #[.int .i64 (0),.int .i64 x,.int .i64 0,.int .i64 0,.int .i64 0,.int .i64 0,.slice none 0 0] 95)):=(Below.refl _ _).alloc (Nat.le_refl _) _
  refine⟨hG,HA3.out.below k,fun j hj=>(zcB (k.block G (by omega))).trans (HWd.out j hj),?_,HI2.out.keep (k.mono (by omega)),HB3.out.trans (k.mono HB3.out.size),by simp[e]⟩
  rw[←e]
  exact At.new _ _ _
 have hz2:=Hz2.out
 clear HI2 HB3 HA3 HWd Hz2
 go_wp2_with fail
 generalize (w2.alloc (.cells #[.int .i64 (0),.int .i64 x,.int .i64 0,.int .i64 0,.int .i64 0,.int .i64 0,.slice none 0 0] 95))=W3 at HM ⊢
 clear hz2
 go_loopw [9] (fun i wr=>∃ k:Nat,k≤27∧i=.int .i64 ((k+1:Nat):Int)∧Hid (MstT w wr G u n #[.int .i64 (lastOp word k),.int .i64 x,.int .i64 0,.int .i64 0,.int .i64 0,.int .i64 0,.slice none 0 0])) (fun i _=>28-(intOf i).toNat)
 case atStart=>exact⟨0,by omega,rfl,HM.out⟩
 case round =>
  clear HM
  obtain⟨k,hk,rfl,HM⟩:=hrel
  by_cases hk27:k<27
  ·have hk1:((k+1:Nat):Int)<28:=by omega
   have e1:wr.cell? ⟨G,k+1,none⟩=some (.string (opW (k+1))):=HM.out.wd (k+1) (by omega)
   by_cases hx:opW (k+1)=word
   ·have HE1:Hid (lastOp word (k+1)=((k+1:Nat):Int)):=by show _=_;rw[lastOp,if_pos hx]
    have HM2:Hid (MstT w (wr.setCell ⟨G+1,0,none⟩ (.int .i64 ((k+1:Nat):Int))) G u n #[.int .i64 (((k+1:Nat):Int)),.int .i64 x,.int .i64 0,.int .i64 0,.int .i64 0,.int .i64 0,.slice none 0 0]):=HM.out.set 0 (.int .i64 ((k+1:Nat):Int))
    have b0:wr.cell? ⟨G+1,0,none⟩=some (.int .i64 (lastOp word k)):=HM.out.b.cell 0
    have bf:∀ o,wr.frozen? ⟨G+1,o,none⟩=false:=fun o=>zfH HM.out.b
    go_wp2_with fail
    go_roundw
    case rel=>exact⟨k+1,by omega,by go_num,by rw[HE1.out];exact HM2.out⟩
    case measure=>simp[intOf];omega
   ·have HE1:Hid (lastOp word (k+1)=lastOp word k):=by show _=_;rw[lastOp,if_neg hx]
    have hx2:=str_ne hx
    go_wp2_with fail
    go_roundw
    case rel=>exact⟨k+1,by omega,by go_num,by rw[HE1.out];exact HM.out⟩
    case measure=>simp[intOf];omega
  ·have hk10:k=27:=by omega
   subst hk10
   have HRd:Hid (∀ j,ReadOk s j→ok=true∧lastOp word 27=j.op∧¬j.op=0∧¬n=[]∧modelD (lastOp word 27) n=j):=fun j hj=>model_read HT.out hj
   have hrg:=last_rng word 27
   generalize lastOp word 27=op at HM HRd hrg
   have hGG:=HM.out.hG
   have b0:wr.cell? ⟨G+1,0,none⟩=some (.int .i64 op):=HM.out.b.cell 0
   have b1:wr.cell? ⟨G+1,1,none⟩=some (.int .i64 x):=HM.out.b.cell 1
   have b2:wr.cell? ⟨G+1,2,none⟩=some (.int .i64 0):=HM.out.b.cell 2
   have b3:wr.cell? ⟨G+1,3,none⟩=some (.int .i64 0):=HM.out.b.cell 3
   have b4:wr.cell? ⟨G+1,4,none⟩=some (.int .i64 0):=HM.out.b.cell 4
   have b5:wr.cell? ⟨G+1,5,none⟩=some (.int .i64 0):=HM.out.b.cell 5
   have b6:wr.cell? ⟨G+1,6,none⟩=some (.slice none 0 0):=HM.out.b.cell 6
   have z0:wr.cell? ⟨w.heap.size,0,none⟩=some (.int .i64 0):=HM.out.r.cell 0
   have z1:wr.cell? ⟨w.heap.size,1,none⟩=some (.int .i64 0):=HM.out.r.cell 1
   have z2:wr.cell? ⟨w.heap.size,2,none⟩=some (.int .i64 0):=HM.out.r.cell 2
   have z3:wr.cell? ⟨w.heap.size,3,none⟩=some (.int .i64 0):=HM.out.r.cell 3
   have z4:wr.cell? ⟨w.heap.size,4,none⟩=some (.int .i64 0):=HM.out.r.cell 4
   have z5:wr.cell? ⟨w.heap.size,5,none⟩=some (.int .i64 0):=HM.out.r.cell 5
   have z6:wr.cell? ⟨w.heap.size,6,none⟩=some (.slice none 0 0):=HM.out.r.cell 6
   have bf:∀ o,wr.frozen? ⟨G+1,o,none⟩=false:=fun o=>zfH HM.out.b
   have zf:∀ o,wr.frozen? ⟨w.heap.size,o,none⟩=false:=fun o=>zfH HM.out.r
   cases ok with
   | false =>
    have HNo:Hid (¬∃ i,ReadOk s i):=by
     rintro ⟨j,hj⟩
     obtain⟨k1,k2,k3,k4,k5⟩:=HRd.out j hj
     exact absurd k1 (by simp)
    go_wp2_with fail
    have hrr:=(zhS (o:=6) (v:=.slice none 0 0) (zhS (o:=5) (v:=.int .i64 0) (zhS (o:=4) (v:=.int .i64 0) (zhS (o:=3) (v:=.int .i64 0) (zhS (o:=2) (v:=.int .i64 0) (zhS (o:=1) (v:=.int .i64 0) (zhS (o:=0) (v:=.int .i64 0) HM.out.r)))))))
    refine bodyPost_ret (v:=.tuple #[.agg #[.int .i64 0,.int .i64 0,.int .i64 0,.int .i64 0,.int .i64 0,.int .i64 0,.slice none 0 0],.bool false]) ((zrT Tryz.results63 _ _ w.heap.size _ rfl (run_loadVar_row _ _ 95 _ _ (0,0) _ hrr Tryz.underlying95 rfl (by kernel_rfl))).trans (by rfl)) rfl ⟨.inr ⟨HNo.out,rfl⟩,?_⟩
    exact (by repeat (first|refine Below.setCell ?_ (by dsimp only;omega) _|exact HM.out.below))
   | true =>
    by_cases h0:op=0
    ·have HNo:Hid (¬∃ i,ReadOk s i):=by
      rintro ⟨j,hj⟩
      obtain⟨k1,k2,k3,k4,k5⟩:=HRd.out j hj
      exact k3 (k2.symm.trans h0)
     subst h0
     go_wp2_with fail
     have hrr:=(zhS (o:=6) (v:=.slice none 0 0) (zhS (o:=5) (v:=.int .i64 0) (zhS (o:=4) (v:=.int .i64 0) (zhS (o:=3) (v:=.int .i64 0) (zhS (o:=2) (v:=.int .i64 0) (zhS (o:=1) (v:=.int .i64 0) (zhS (o:=0) (v:=.int .i64 0) HM.out.r)))))))
     refine bodyPost_ret (v:=.tuple #[.agg #[.int .i64 0,.int .i64 0,.int .i64 0,.int .i64 0,.int .i64 0,.int .i64 0,.slice none 0 0],.bool false]) ((zrT Tryz.results63 _ _ w.heap.size _ rfl (run_loadVar_row _ _ 95 _ _ (0,0) _ hrr Tryz.underlying95 rfl (by kernel_rfl))).trans (by rfl)) rfl ⟨.inr ⟨HNo.out,rfl⟩,?_⟩
     exact (by repeat (first|refine Below.setCell ?_ (by dsimp only;omega) _|exact HM.out.below))
    by_cases hn:n=[]
    ·have HNo:Hid (¬∃ i,ReadOk s i):=by
      rintro ⟨j,hj⟩
      obtain⟨k1,k2,k3,k4,k5⟩:=HRd.out j hj
      exact k4 hn
     have hn2:n.length=0:=by rw[hn];rfl
     have q0:(op==0)=false:=by simpa using h0
     clear hn
     go_wp2_with fail
     have hrr:=(zhS (o:=6) (v:=.slice none 0 0) (zhS (o:=5) (v:=.int .i64 0) (zhS (o:=4) (v:=.int .i64 0) (zhS (o:=3) (v:=.int .i64 0) (zhS (o:=2) (v:=.int .i64 0) (zhS (o:=1) (v:=.int .i64 0) (zhS (o:=0) (v:=.int .i64 0) HM.out.r)))))))
     refine bodyPost_ret (v:=.tuple #[.agg #[.int .i64 0,.int .i64 0,.int .i64 0,.int .i64 0,.int .i64 0,.int .i64 0,.slice none 0 0],.bool false]) ((zrT Tryz.results63 _ _ w.heap.size _ rfl (run_loadVar_row _ _ 95 _ _ (0,0) _ hrr Tryz.underlying95 rfl (by kernel_rfl))).trans (by rfl)) rfl ⟨.inr ⟨HNo.out,rfl⟩,?_⟩
     exact (by repeat (first|refine Below.setCell ?_ (by dsimp only;omega) _|exact HM.out.below))
    have q0:(op==0)=false:=by simpa using h0
    have hnp:0<n.length:=List.length_pos_iff.2 hn
    have qn:((n.length:Int)==0)=false:=by simp;omega
    have HH0:Hid (¬op=0):=h0
    clear h0
    by_cases h26:op=26
    ·subst h26
     have P1:=atS (w.heap.size+1) G u c n 1 wr HM.out.row.bt (by omega) (by omega)
     obtain⟨x1,hx1⟩:∃ x,n.getD 1 0=x:=⟨_,rfl⟩
     rw[hx1] at P1
     have HX1:Hid (n.getD 1 0=x1):=hx1
     clear hx1
     go_wp2_with fail
     refine P1.mono ?_
     rintro e w5 ⟨rfl,h9⟩
     have h8:=h9.symm
     clear h9
     subst h8
     clear P1
     by_cases h2:2<n.length
     ·have q2:(2:Int)<(n.length:Int):=by omega
      obtain⟨b,hu⟩:∃ b,u=some ⟨b,0,none⟩:=by
       rcases HM.out.row with h|⟨b,_,h,_⟩
       ·exact absurd h hn
       ·exact⟨b,h⟩
      subst hu
      go_wp2_with fail
      have HQ:Hid (MstT w ((wr.setCell ⟨G+1,5,none⟩ (.int .i64 x1)).setCell ⟨G+1,6,none⟩ (.slice (some ⟨b,2,none⟩) (n.length-2) (c-2))) G (some ⟨b,0,none⟩) n #[.int .i64 26,.int .i64 x,.int .i64 0,.int .i64 0,.int .i64 0,.int .i64 x1,.slice (some ⟨b,2,none⟩) (n.length-2) (c-2)]):=(HM.out.set 5 (.int .i64 x1)).set 6 (.slice (some ⟨b,2,none⟩) (n.length-2) (c-2))
      have HIn:Hid (IntA2 ((wr.setCell ⟨G+1,5,none⟩ (.int .i64 x1)).setCell ⟨G+1,6,none⟩ (.slice (some ⟨b,2,none⟩) (n.length-2) (c-2))) (w.heap.size+1) (some ⟨b,2,none⟩) (⟨26,x,0,0,0,x1,n.drop 2⟩:InstD).args):=HQ.out.row.tail (by omega)
      have HMd:Hid (modelD 26 n=(⟨26,x,0,0,0,x1,n.drop 2⟩:InstD)):=by show _=_;unfold modelD;rw[if_pos rfl,HX.out,HX1.out]
      have hDl:(⟨26,x,0,0,0,x1,n.drop 2⟩:InstD).args.length≤1048576:=by rw[←HMd.out];exact Nat.le_trans (model_args _ _ hl) (by omega)
      have P:=instTextS (w.heap.size+1) (⟨26,x,0,0,0,x1,n.drop 2⟩:InstD) (some ⟨b,2,none⟩) (c-2) ((wr.setCell ⟨G+1,5,none⟩ (.int .i64 x1)).setCell ⟨G+1,6,none⟩ (.slice (some ⟨b,2,none⟩) (n.length-2) (c-2))) hDl HIn.out.ints
      dsimp only at P
      try rw[List.length_drop] at P
      clear b0 b1 b2 b3 b4 b5 b6 z0 z1 z2 z3 z4 z5 z6 bf zf
      generalize ((wr.setCell ⟨G+1,5,none⟩ (.int .i64 x1)).setCell ⟨G+1,6,none⟩ (.slice (some ⟨b,2,none⟩) (n.length-2) (c-2)))=W6 at HQ HIn P ⊢
      obtain⟨X,hX⟩:∃ X,instText (⟨26,x,0,0,0,x1,n.drop 2⟩:InstD)=X:=⟨_,rfl⟩
      rw[hX] at P
      refine P.mono ?_
      rintro e w7 ⟨rfl,b7⟩
      have HQ7:Hid (MstT w w7 G (some ⟨b,0,none⟩) n #[.int .i64 26,.int .i64 x,.int .i64 0,.int .i64 0,.int .i64 0,.int .i64 x1,.slice (some ⟨b,2,none⟩) (n.length-2) (c-2)]):=HQ.out.keep b7
      have HIn7:Hid (IntA2 w7 (w.heap.size+1) (some ⟨b,2,none⟩) (⟨26,x,0,0,0,x1,n.drop 2⟩:InstD).args):=HIn.out.kp b7
      clear P b7 HQ HIn
      have b0:w7.cell? ⟨G+1,0,none⟩=some (.int .i64 26):=HQ7.out.b.cell 0
      have b1:w7.cell? ⟨G+1,1,none⟩=some (.int .i64 x):=HQ7.out.b.cell 1
      have b2:w7.cell? ⟨G+1,2,none⟩=some (.int .i64 0):=HQ7.out.b.cell 2
      have b3:w7.cell? ⟨G+1,3,none⟩=some (.int .i64 0):=HQ7.out.b.cell 3
      have b4:w7.cell? ⟨G+1,4,none⟩=some (.int .i64 0):=HQ7.out.b.cell 4
      have b5:w7.cell? ⟨G+1,5,none⟩=some (.int .i64 x1):=HQ7.out.b.cell 5
      have b6:w7.cell? ⟨G+1,6,none⟩=some (.slice (some ⟨b,2,none⟩) (n.length-2) (c-2)):=HQ7.out.b.cell 6
      have z0:w7.cell? ⟨w.heap.size,0,none⟩=some (.int .i64 0):=HQ7.out.r.cell 0
      have z1:w7.cell? ⟨w.heap.size,1,none⟩=some (.int .i64 0):=HQ7.out.r.cell 1
      have z2:w7.cell? ⟨w.heap.size,2,none⟩=some (.int .i64 0):=HQ7.out.r.cell 2
      have z3:w7.cell? ⟨w.heap.size,3,none⟩=some (.int .i64 0):=HQ7.out.r.cell 3
      have z4:w7.cell? ⟨w.heap.size,4,none⟩=some (.int .i64 0):=HQ7.out.r.cell 4
      have z5:w7.cell? ⟨w.heap.size,5,none⟩=some (.int .i64 0):=HQ7.out.r.cell 5
      have z6:w7.cell? ⟨w.heap.size,6,none⟩=some (.slice none 0 0):=HQ7.out.r.cell 6
      have bf:∀ o,w7.frozen? ⟨G+1,o,none⟩=false:=fun o=>zfH HQ7.out.b
      have zf:∀ o,w7.frozen? ⟨w.heap.size,o,none⟩=false:=fun o=>zfH HQ7.out.r
      have hGG:=HQ7.out.hG
      by_cases hXs:X=s
      ·have HYes:Hid (ReadOk s (⟨26,x,0,0,0,x1,n.drop 2⟩:InstD)):=text_ok (hX.trans hXs) (fun e=>hn (HE.out e))
       subst hXs
       clear hX
       have hDn:(⟨26,x,0,0,0,x1,n.drop 2⟩:InstD).args.length=_:=rfl
       clear hDn
       go_wp2_with fail
       have hrr:=(zhS (o:=6) (v:=.slice (some ⟨b,2,none⟩) (n.length-2) (c-2)) (zhS (o:=5) (v:=.int .i64 x1) (zhS (o:=4) (v:=.int .i64 0) (zhS (o:=3) (v:=.int .i64 0) (zhS (o:=2) (v:=.int .i64 0) (zhS (o:=1) (v:=.int .i64 x) (zhS (o:=0) (v:=.int .i64 26) HQ7.out.r)))))))
       refine bodyPost_ret (v:=.tuple #[.agg #[.int .i64 26,.int .i64 x,.int .i64 0,.int .i64 0,.int .i64 0,.int .i64 x1,.slice (some ⟨b,2,none⟩) (n.length-2) (c-2)],.bool true]) ((zrT Tryz.results63 _ _ w.heap.size _ rfl (run_loadVar_row _ _ 95 _ _ (0,0) _ hrr Tryz.underlying95 rfl (by kernel_rfl))).trans (by rfl)) rfl ⟨.inl ⟨(⟨26,x,0,0,0,x1,n.drop 2⟩:InstD),(some ⟨b,2,none⟩),c-2,HYes.out,by simp[List.length_drop],(ints_setT (ints_setT (ints_setT (ints_setT (ints_setT (ints_setT (ints_setT (HIn7.out) (by omega)) (by omega)) (by omega)) (by omega)) (by omega)) (by omega)) (by omega)).low (by omega)⟩,?_⟩
       exact (by repeat (first|refine Below.setCell ?_ (by dsimp only;omega) _|exact HQ7.out.below))
      ·have hXn:=str_ne hXs
       have HNo:Hid (¬∃ i,ReadOk s i):=by
        rintro ⟨j,hj⟩
        obtain⟨k1,k2,k3,k4,k5⟩:=HRd.out j hj
        rw[HMd.out] at k5
        subst k5
        exact hXs (hX.symm.trans (ok_text hj))
       clear hX hXs
       go_wp2_with fail
       have hrr:=(zhS (o:=6) (v:=.slice none 0 0) (zhS (o:=5) (v:=.int .i64 0) (zhS (o:=4) (v:=.int .i64 0) (zhS (o:=3) (v:=.int .i64 0) (zhS (o:=2) (v:=.int .i64 0) (zhS (o:=1) (v:=.int .i64 0) (zhS (o:=0) (v:=.int .i64 0) HQ7.out.r)))))))
       refine bodyPost_ret (v:=.tuple #[.agg #[.int .i64 0,.int .i64 0,.int .i64 0,.int .i64 0,.int .i64 0,.int .i64 0,.slice none 0 0],.bool false]) ((zrT Tryz.results63 _ _ w.heap.size _ rfl (run_loadVar_row _ _ 95 _ _ (0,0) _ hrr Tryz.underlying95 rfl (by kernel_rfl))).trans (by rfl)) rfl ⟨.inr ⟨HNo.out,rfl⟩,?_⟩
       exact (by repeat (first|refine Below.setCell ?_ (by dsimp only;omega) _|exact HQ7.out.below))
     ·have q2:¬(2:Int)<(n.length:Int):=by omega
      go_wp2_with fail
      have HQ:Hid (MstT w (wr.setCell ⟨G+1,5,none⟩ (.int .i64 x1)) G u n #[.int .i64 26,.int .i64 x,.int .i64 0,.int .i64 0,.int .i64 0,.int .i64 x1,.slice none 0 0]):=HM.out.set 5 (.int .i64 x1)
      have HIn:Hid (IntA2 (wr.setCell ⟨G+1,5,none⟩ (.int .i64 x1)) (w.heap.size+1) none (⟨26,x,0,0,0,x1,[]⟩:InstD).args):=⟨by simp,.inl rfl⟩
      have HMd:Hid (modelD 26 n=(⟨26,x,0,0,0,x1,[]⟩:InstD)):=by show _=_;unfold modelD;rw[if_pos rfl,HX.out,HX1.out,List.drop_eq_nil_of_le (by omega)]
      have hDl:(⟨26,x,0,0,0,x1,[]⟩:InstD).args.length≤1048576:=by rw[←HMd.out];exact Nat.le_trans (model_args _ _ hl) (by omega)
      have P:=instTextS (w.heap.size+1) (⟨26,x,0,0,0,x1,[]⟩:InstD) none (0) (wr.setCell ⟨G+1,5,none⟩ (.int .i64 x1)) hDl HIn.out.ints
      dsimp only at P
      try rw[List.length_drop] at P
      clear b0 b1 b2 b3 b4 b5 b6 z0 z1 z2 z3 z4 z5 z6 bf zf
      generalize (wr.setCell ⟨G+1,5,none⟩ (.int .i64 x1))=W6 at HQ HIn P ⊢
      obtain⟨X,hX⟩:∃ X,instText (⟨26,x,0,0,0,x1,[]⟩:InstD)=X:=⟨_,rfl⟩
      rw[hX] at P
      refine P.mono ?_
      rintro e w7 ⟨rfl,b7⟩
      have HQ7:Hid (MstT w w7 G u n #[.int .i64 26,.int .i64 x,.int .i64 0,.int .i64 0,.int .i64 0,.int .i64 x1,.slice none 0 0]):=HQ.out.keep b7
      have HIn7:Hid (IntA2 w7 (w.heap.size+1) none (⟨26,x,0,0,0,x1,[]⟩:InstD).args):=HIn.out.kp b7
      clear P b7 HQ HIn
      have b0:w7.cell? ⟨G+1,0,none⟩=some (.int .i64 26):=HQ7.out.b.cell 0
      have b1:w7.cell? ⟨G+1,1,none⟩=some (.int .i64 x):=HQ7.out.b.cell 1
      have b2:w7.cell? ⟨G+1,2,none⟩=some (.int .i64 0):=HQ7.out.b.cell 2
      have b3:w7.cell? ⟨G+1,3,none⟩=some (.int .i64 0):=HQ7.out.b.cell 3
      have b4:w7.cell? ⟨G+1,4,none⟩=some (.int .i64 0):=HQ7.out.b.cell 4
      have b5:w7.cell? ⟨G+1,5,none⟩=some (.int .i64 x1):=HQ7.out.b.cell 5
      have b6:w7.cell? ⟨G+1,6,none⟩=some (.slice none 0 0):=HQ7.out.b.cell 6
      have z0:w7.cell? ⟨w.heap.size,0,none⟩=some (.int .i64 0):=HQ7.out.r.cell 0
      have z1:w7.cell? ⟨w.heap.size,1,none⟩=some (.int .i64 0):=HQ7.out.r.cell 1
      have z2:w7.cell? ⟨w.heap.size,2,none⟩=some (.int .i64 0):=HQ7.out.r.cell 2
      have z3:w7.cell? ⟨w.heap.size,3,none⟩=some (.int .i64 0):=HQ7.out.r.cell 3
      have z4:w7.cell? ⟨w.heap.size,4,none⟩=some (.int .i64 0):=HQ7.out.r.cell 4
      have z5:w7.cell? ⟨w.heap.size,5,none⟩=some (.int .i64 0):=HQ7.out.r.cell 5
      have z6:w7.cell? ⟨w.heap.size,6,none⟩=some (.slice none 0 0):=HQ7.out.r.cell 6
      have bf:∀ o,w7.frozen? ⟨G+1,o,none⟩=false:=fun o=>zfH HQ7.out.b
      have zf:∀ o,w7.frozen? ⟨w.heap.size,o,none⟩=false:=fun o=>zfH HQ7.out.r
      have hGG:=HQ7.out.hG
      by_cases hXs:X=s
      ·have HYes:Hid (ReadOk s (⟨26,x,0,0,0,x1,[]⟩:InstD)):=text_ok (hX.trans hXs) (fun e=>hn (HE.out e))
       subst hXs
       clear hX
       have hDn:(⟨26,x,0,0,0,x1,[]⟩:InstD).args.length=_:=rfl
       clear hDn
       go_wp2_with fail
       have hrr:=(zhS (o:=6) (v:=.slice none 0 0) (zhS (o:=5) (v:=.int .i64 x1) (zhS (o:=4) (v:=.int .i64 0) (zhS (o:=3) (v:=.int .i64 0) (zhS (o:=2) (v:=.int .i64 0) (zhS (o:=1) (v:=.int .i64 x) (zhS (o:=0) (v:=.int .i64 26) HQ7.out.r)))))))
       refine bodyPost_ret (v:=.tuple #[.agg #[.int .i64 26,.int .i64 x,.int .i64 0,.int .i64 0,.int .i64 0,.int .i64 x1,.slice none 0 0],.bool true]) ((zrT Tryz.results63 _ _ w.heap.size _ rfl (run_loadVar_row _ _ 95 _ _ (0,0) _ hrr Tryz.underlying95 rfl (by kernel_rfl))).trans (by rfl)) rfl ⟨.inl ⟨(⟨26,x,0,0,0,x1,[]⟩:InstD),none,0,HYes.out,rfl,(ints_setT (ints_setT (ints_setT (ints_setT (ints_setT (ints_setT (ints_setT (HIn7.out) (by omega)) (by omega)) (by omega)) (by omega)) (by omega)) (by omega)) (by omega)).low (by omega)⟩,?_⟩
       exact (by repeat (first|refine Below.setCell ?_ (by dsimp only;omega) _|exact HQ7.out.below))
      ·have hXn:=str_ne hXs
       have HNo:Hid (¬∃ i,ReadOk s i):=by
        rintro ⟨j,hj⟩
        obtain⟨k1,k2,k3,k4,k5⟩:=HRd.out j hj
        rw[HMd.out] at k5
        subst k5
        exact hXs (hX.symm.trans (ok_text hj))
       clear hX hXs
       go_wp2_with fail
       have hrr:=(zhS (o:=6) (v:=.slice none 0 0) (zhS (o:=5) (v:=.int .i64 0) (zhS (o:=4) (v:=.int .i64 0) (zhS (o:=3) (v:=.int .i64 0) (zhS (o:=2) (v:=.int .i64 0) (zhS (o:=1) (v:=.int .i64 0) (zhS (o:=0) (v:=.int .i64 0) HQ7.out.r)))))))
       refine bodyPost_ret (v:=.tuple #[.agg #[.int .i64 0,.int .i64 0,.int .i64 0,.int .i64 0,.int .i64 0,.int .i64 0,.slice none 0 0],.bool false]) ((zrT Tryz.results63 _ _ w.heap.size _ rfl (run_loadVar_row _ _ 95 _ _ (0,0) _ hrr Tryz.underlying95 rfl (by kernel_rfl))).trans (by rfl)) rfl ⟨.inr ⟨HNo.out,rfl⟩,?_⟩
       exact (by repeat (first|refine Below.setCell ?_ (by dsimp only;omega) _|exact HQ7.out.below))
    have q26:(op==26)=false:=by simpa using h26
    have HH26:Hid (¬op=26):=h26
    clear h26
    by_cases h21:op=21
    ·subst h21
     have P1:=atS (w.heap.size+1) G u c n 1 wr HM.out.row.bt (by omega) (by omega)
     obtain⟨x1,hx1⟩:∃ x,n.getD 1 0=x:=⟨_,rfl⟩
     rw[hx1] at P1
     have HX1:Hid (n.getD 1 0=x1):=hx1
     clear hx1
     go_wp2_with fail
     refine P1.mono ?_
     rintro e w5 ⟨rfl,h9⟩
     have h8:=h9.symm
     clear h9
     subst h8
     clear P1
     go_wp2_with fail
     have HQ:Hid (MstT w (wr.setCell ⟨G+1,5,none⟩ (.int .i64 x1)) G u n #[.int .i64 21,.int .i64 x,.int .i64 0,.int .i64 0,.int .i64 0,.int .i64 x1,.slice none 0 0]):=HM.out.set 5 (.int .i64 x1)
     have HIn:Hid (IntA2 (wr.setCell ⟨G+1,5,none⟩ (.int .i64 x1)) (w.heap.size+1) none (⟨21,x,0,0,0,x1,[]⟩:InstD).args):=⟨by simp,.inl rfl⟩
     have HMd:Hid (modelD 21 n=(⟨21,x,0,0,0,x1,[]⟩:InstD)):=by show _=_;unfold modelD;rw[if_neg (by decide),if_pos rfl,HX.out,HX1.out]
     have hDl:(⟨21,x,0,0,0,x1,[]⟩:InstD).args.length≤1048576:=by rw[←HMd.out];exact Nat.le_trans (model_args _ _ hl) (by omega)
     have P:=instTextS (w.heap.size+1) (⟨21,x,0,0,0,x1,[]⟩:InstD) none (0) (wr.setCell ⟨G+1,5,none⟩ (.int .i64 x1)) hDl HIn.out.ints
     dsimp only at P
     try rw[List.length_drop] at P
     clear b0 b1 b2 b3 b4 b5 b6 z0 z1 z2 z3 z4 z5 z6 bf zf
     generalize (wr.setCell ⟨G+1,5,none⟩ (.int .i64 x1))=W6 at HQ HIn P ⊢
     obtain⟨X,hX⟩:∃ X,instText (⟨21,x,0,0,0,x1,[]⟩:InstD)=X:=⟨_,rfl⟩
     rw[hX] at P
     refine P.mono ?_
     rintro e w7 ⟨rfl,b7⟩
     have HQ7:Hid (MstT w w7 G u n #[.int .i64 21,.int .i64 x,.int .i64 0,.int .i64 0,.int .i64 0,.int .i64 x1,.slice none 0 0]):=HQ.out.keep b7
     have HIn7:Hid (IntA2 w7 (w.heap.size+1) none (⟨21,x,0,0,0,x1,[]⟩:InstD).args):=HIn.out.kp b7
     clear P b7 HQ HIn
     have b0:w7.cell? ⟨G+1,0,none⟩=some (.int .i64 21):=HQ7.out.b.cell 0
     have b1:w7.cell? ⟨G+1,1,none⟩=some (.int .i64 x):=HQ7.out.b.cell 1
     have b2:w7.cell? ⟨G+1,2,none⟩=some (.int .i64 0):=HQ7.out.b.cell 2
     have b3:w7.cell? ⟨G+1,3,none⟩=some (.int .i64 0):=HQ7.out.b.cell 3
     have b4:w7.cell? ⟨G+1,4,none⟩=some (.int .i64 0):=HQ7.out.b.cell 4
     have b5:w7.cell? ⟨G+1,5,none⟩=some (.int .i64 x1):=HQ7.out.b.cell 5
     have b6:w7.cell? ⟨G+1,6,none⟩=some (.slice none 0 0):=HQ7.out.b.cell 6
     have z0:w7.cell? ⟨w.heap.size,0,none⟩=some (.int .i64 0):=HQ7.out.r.cell 0
     have z1:w7.cell? ⟨w.heap.size,1,none⟩=some (.int .i64 0):=HQ7.out.r.cell 1
     have z2:w7.cell? ⟨w.heap.size,2,none⟩=some (.int .i64 0):=HQ7.out.r.cell 2
     have z3:w7.cell? ⟨w.heap.size,3,none⟩=some (.int .i64 0):=HQ7.out.r.cell 3
     have z4:w7.cell? ⟨w.heap.size,4,none⟩=some (.int .i64 0):=HQ7.out.r.cell 4
     have z5:w7.cell? ⟨w.heap.size,5,none⟩=some (.int .i64 0):=HQ7.out.r.cell 5
     have z6:w7.cell? ⟨w.heap.size,6,none⟩=some (.slice none 0 0):=HQ7.out.r.cell 6
     have bf:∀ o,w7.frozen? ⟨G+1,o,none⟩=false:=fun o=>zfH HQ7.out.b
     have zf:∀ o,w7.frozen? ⟨w.heap.size,o,none⟩=false:=fun o=>zfH HQ7.out.r
     have hGG:=HQ7.out.hG
     by_cases hXs:X=s
     ·have HYes:Hid (ReadOk s (⟨21,x,0,0,0,x1,[]⟩:InstD)):=text_ok (hX.trans hXs) (fun e=>hn (HE.out e))
      subst hXs
      clear hX
      have hDn:(⟨21,x,0,0,0,x1,[]⟩:InstD).args.length=_:=rfl
      clear hDn
      go_wp2_with fail
      have hrr:=(zhS (o:=6) (v:=.slice none 0 0) (zhS (o:=5) (v:=.int .i64 x1) (zhS (o:=4) (v:=.int .i64 0) (zhS (o:=3) (v:=.int .i64 0) (zhS (o:=2) (v:=.int .i64 0) (zhS (o:=1) (v:=.int .i64 x) (zhS (o:=0) (v:=.int .i64 21) HQ7.out.r)))))))
      refine bodyPost_ret (v:=.tuple #[.agg #[.int .i64 21,.int .i64 x,.int .i64 0,.int .i64 0,.int .i64 0,.int .i64 x1,.slice none 0 0],.bool true]) ((zrT Tryz.results63 _ _ w.heap.size _ rfl (run_loadVar_row _ _ 95 _ _ (0,0) _ hrr Tryz.underlying95 rfl (by kernel_rfl))).trans (by rfl)) rfl ⟨.inl ⟨(⟨21,x,0,0,0,x1,[]⟩:InstD),none,0,HYes.out,rfl,(ints_setT (ints_setT (ints_setT (ints_setT (ints_setT (ints_setT (ints_setT (HIn7.out) (by omega)) (by omega)) (by omega)) (by omega)) (by omega)) (by omega)) (by omega)).low (by omega)⟩,?_⟩
      exact (by repeat (first|refine Below.setCell ?_ (by dsimp only;omega) _|exact HQ7.out.below))
     ·have hXn:=str_ne hXs
      have HNo:Hid (¬∃ i,ReadOk s i):=by
       rintro ⟨j,hj⟩
       obtain⟨k1,k2,k3,k4,k5⟩:=HRd.out j hj
       rw[HMd.out] at k5
       subst k5
       exact hXs (hX.symm.trans (ok_text hj))
      clear hX hXs
      go_wp2_with fail
      have hrr:=(zhS (o:=6) (v:=.slice none 0 0) (zhS (o:=5) (v:=.int .i64 0) (zhS (o:=4) (v:=.int .i64 0) (zhS (o:=3) (v:=.int .i64 0) (zhS (o:=2) (v:=.int .i64 0) (zhS (o:=1) (v:=.int .i64 0) (zhS (o:=0) (v:=.int .i64 0) HQ7.out.r)))))))
      refine bodyPost_ret (v:=.tuple #[.agg #[.int .i64 0,.int .i64 0,.int .i64 0,.int .i64 0,.int .i64 0,.int .i64 0,.slice none 0 0],.bool false]) ((zrT Tryz.results63 _ _ w.heap.size _ rfl (run_loadVar_row _ _ 95 _ _ (0,0) _ hrr Tryz.underlying95 rfl (by kernel_rfl))).trans (by rfl)) rfl ⟨.inr ⟨HNo.out,rfl⟩,?_⟩
      exact (by repeat (first|refine Below.setCell ?_ (by dsimp only;omega) _|exact HQ7.out.below))
    have q21:(op==21)=false:=by simpa using h21
    have HH21:Hid (¬op=21):=h21
    clear h21
    have P1:=atS (w.heap.size+1) G u c n 1 wr HM.out.row.bt (by omega) (by omega)
    obtain⟨x1,hx1⟩:∃ x,n.getD 1 0=x:=⟨_,rfl⟩
    rw[hx1] at P1
    have HX1:Hid (n.getD 1 0=x1):=hx1
    clear hx1
    go_wp2_with fail
    refine P1.mono ?_
    rintro e w5 ⟨rfl,h9⟩
    have h8:=h9.symm
    clear h9
    subst h8
    clear P1
    have P2:=atS (w.heap.size+1) G u c n 2 (wr.setCell ⟨G+1,2,none⟩ (.int .i64 x1)) (HM.out.set 2 (.int .i64 x1)).row.bt (by omega) (by omega)
    obtain⟨x2,hx2⟩:∃ x,n.getD 2 0=x:=⟨_,rfl⟩
    rw[hx2] at P2
    have HX2:Hid (n.getD 2 0=x2):=hx2
    clear hx2
    go_wp2_with fail
    refine P2.mono ?_
    rintro e w5 ⟨rfl,h9⟩
    have h8:=h9.symm
    clear h9
    subst h8
    clear P2
    have P3:=atS (w.heap.size+1) G u c n 3 ((wr.setCell ⟨G+1,2,none⟩ (.int .i64 x1)).setCell ⟨G+1,3,none⟩ (.int .i64 x2)) ((HM.out.set 2 (.int .i64 x1)).set 3 (.int .i64 x2)).row.bt (by omega) (by omega)
    obtain⟨x3,hx3⟩:∃ x,n.getD 3 0=x:=⟨_,rfl⟩
    rw[hx3] at P3
    have HX3:Hid (n.getD 3 0=x3):=hx3
    clear hx3
    go_wp2_with fail
    refine P3.mono ?_
    rintro e w5 ⟨rfl,h9⟩
    have h8:=h9.symm
    clear h9
    subst h8
    clear P3
    go_wp2_with fail
    have HQ:Hid (MstT w (((wr.setCell ⟨G+1,2,none⟩ (.int .i64 x1)).setCell ⟨G+1,3,none⟩ (.int .i64 x2)).setCell ⟨G+1,4,none⟩ (.int .i64 x3)) G u n #[.int .i64 op,.int .i64 x,.int .i64 x1,.int .i64 x2,.int .i64 x3,.int .i64 0,.slice none 0 0]):=(((HM.out.set 2 (.int .i64 x1)).set 3 (.int .i64 x2)).set 4 (.int .i64 x3))
    have HIn:Hid (IntA2 (((wr.setCell ⟨G+1,2,none⟩ (.int .i64 x1)).setCell ⟨G+1,3,none⟩ (.int .i64 x2)).setCell ⟨G+1,4,none⟩ (.int .i64 x3)) (w.heap.size+1) none (⟨op,x,x1,x2,x3,0,[]⟩:InstD).args):=⟨by simp,.inl rfl⟩
    have HMd:Hid (modelD op n=(⟨op,x,x1,x2,x3,0,[]⟩:InstD)):=by show _=_;unfold modelD;rw[if_neg HH26.out,if_neg HH21.out,HX.out,HX1.out,HX2.out,HX3.out]
    have hDl:(⟨op,x,x1,x2,x3,0,[]⟩:InstD).args.length≤1048576:=by rw[←HMd.out];exact Nat.le_trans (model_args _ _ hl) (by omega)
    have P:=instTextS (w.heap.size+1) (⟨op,x,x1,x2,x3,0,[]⟩:InstD) none (0) (((wr.setCell ⟨G+1,2,none⟩ (.int .i64 x1)).setCell ⟨G+1,3,none⟩ (.int .i64 x2)).setCell ⟨G+1,4,none⟩ (.int .i64 x3)) hDl HIn.out.ints
    dsimp only at P
    try rw[List.length_drop] at P
    clear b0 b1 b2 b3 b4 b5 b6 z0 z1 z2 z3 z4 z5 z6 bf zf
    generalize (((wr.setCell ⟨G+1,2,none⟩ (.int .i64 x1)).setCell ⟨G+1,3,none⟩ (.int .i64 x2)).setCell ⟨G+1,4,none⟩ (.int .i64 x3))=W6 at HQ HIn P ⊢
    obtain⟨X,hX⟩:∃ X,instText (⟨op,x,x1,x2,x3,0,[]⟩:InstD)=X:=⟨_,rfl⟩
    rw[hX] at P
    refine P.mono ?_
    rintro e w7 ⟨rfl,b7⟩
    have HQ7:Hid (MstT w w7 G u n #[.int .i64 op,.int .i64 x,.int .i64 x1,.int .i64 x2,.int .i64 x3,.int .i64 0,.slice none 0 0]):=HQ.out.keep b7
    have HIn7:Hid (IntA2 w7 (w.heap.size+1) none (⟨op,x,x1,x2,x3,0,[]⟩:InstD).args):=HIn.out.kp b7
    clear P b7 HQ HIn
    have b0:w7.cell? ⟨G+1,0,none⟩=some (.int .i64 op):=HQ7.out.b.cell 0
    have b1:w7.cell? ⟨G+1,1,none⟩=some (.int .i64 x):=HQ7.out.b.cell 1
    have b2:w7.cell? ⟨G+1,2,none⟩=some (.int .i64 x1):=HQ7.out.b.cell 2
    have b3:w7.cell? ⟨G+1,3,none⟩=some (.int .i64 x2):=HQ7.out.b.cell 3
    have b4:w7.cell? ⟨G+1,4,none⟩=some (.int .i64 x3):=HQ7.out.b.cell 4
    have b5:w7.cell? ⟨G+1,5,none⟩=some (.int .i64 0):=HQ7.out.b.cell 5
    have b6:w7.cell? ⟨G+1,6,none⟩=some (.slice none 0 0):=HQ7.out.b.cell 6
    have z0:w7.cell? ⟨w.heap.size,0,none⟩=some (.int .i64 0):=HQ7.out.r.cell 0
    have z1:w7.cell? ⟨w.heap.size,1,none⟩=some (.int .i64 0):=HQ7.out.r.cell 1
    have z2:w7.cell? ⟨w.heap.size,2,none⟩=some (.int .i64 0):=HQ7.out.r.cell 2
    have z3:w7.cell? ⟨w.heap.size,3,none⟩=some (.int .i64 0):=HQ7.out.r.cell 3
    have z4:w7.cell? ⟨w.heap.size,4,none⟩=some (.int .i64 0):=HQ7.out.r.cell 4
    have z5:w7.cell? ⟨w.heap.size,5,none⟩=some (.int .i64 0):=HQ7.out.r.cell 5
    have z6:w7.cell? ⟨w.heap.size,6,none⟩=some (.slice none 0 0):=HQ7.out.r.cell 6
    have bf:∀ o,w7.frozen? ⟨G+1,o,none⟩=false:=fun o=>zfH HQ7.out.b
    have zf:∀ o,w7.frozen? ⟨w.heap.size,o,none⟩=false:=fun o=>zfH HQ7.out.r
    have hGG:=HQ7.out.hG
    by_cases hXs:X=s
    ·have HYes:Hid (ReadOk s (⟨op,x,x1,x2,x3,0,[]⟩:InstD)):=text_ok (hX.trans hXs) (fun e=>hn (HE.out e))
     subst hXs
     clear hX
     have hDn:(⟨op,x,x1,x2,x3,0,[]⟩:InstD).args.length=_:=rfl
     clear hDn
     go_wp2_with fail
     have hrr:=(zhS (o:=6) (v:=.slice none 0 0) (zhS (o:=5) (v:=.int .i64 0) (zhS (o:=4) (v:=.int .i64 x3) (zhS (o:=3) (v:=.int .i64 x2) (zhS (o:=2) (v:=.int .i64 x1) (zhS (o:=1) (v:=.int .i64 x) (zhS (o:=0) (v:=.int .i64 op) HQ7.out.r)))))))
     refine bodyPost_ret (v:=.tuple #[.agg #[.int .i64 op,.int .i64 x,.int .i64 x1,.int .i64 x2,.int .i64 x3,.int .i64 0,.slice none 0 0],.bool true]) ((zrT Tryz.results63 _ _ w.heap.size _ rfl (run_loadVar_row _ _ 95 _ _ (0,0) _ hrr Tryz.underlying95 rfl (by kernel_rfl))).trans (by rfl)) rfl ⟨.inl ⟨(⟨op,x,x1,x2,x3,0,[]⟩:InstD),none,0,HYes.out,rfl,(ints_setT (ints_setT (ints_setT (ints_setT (ints_setT (ints_setT (ints_setT (HIn7.out) (by omega)) (by omega)) (by omega)) (by omega)) (by omega)) (by omega)) (by omega)).low (by omega)⟩,?_⟩
     exact (by repeat (first|refine Below.setCell ?_ (by dsimp only;omega) _|exact HQ7.out.below))
    ·have hXn:=str_ne hXs
     have HNo:Hid (¬∃ i,ReadOk s i):=by
      rintro ⟨j,hj⟩
      obtain⟨k1,k2,k3,k4,k5⟩:=HRd.out j hj
      rw[HMd.out] at k5
      subst k5
      exact hXs (hX.symm.trans (ok_text hj))
     clear hX hXs
     go_wp2_with fail
     have hrr:=(zhS (o:=6) (v:=.slice none 0 0) (zhS (o:=5) (v:=.int .i64 0) (zhS (o:=4) (v:=.int .i64 0) (zhS (o:=3) (v:=.int .i64 0) (zhS (o:=2) (v:=.int .i64 0) (zhS (o:=1) (v:=.int .i64 0) (zhS (o:=0) (v:=.int .i64 0) HQ7.out.r)))))))
     refine bodyPost_ret (v:=.tuple #[.agg #[.int .i64 0,.int .i64 0,.int .i64 0,.int .i64 0,.int .i64 0,.int .i64 0,.slice none 0 0],.bool false]) ((zrT Tryz.results63 _ _ w.heap.size _ rfl (run_loadVar_row _ _ 95 _ _ (0,0) _ hrr Tryz.underlying95 rfl (by kernel_rfl))).trans (by rfl)) rfl ⟨.inr ⟨HNo.out,rfl⟩,?_⟩
     exact (by repeat (first|refine Below.setCell ?_ (by dsimp only;omega) _|exact HQ7.out.below))
end Go.Proofs.YtkpmiikafconmaaGreatDoor
