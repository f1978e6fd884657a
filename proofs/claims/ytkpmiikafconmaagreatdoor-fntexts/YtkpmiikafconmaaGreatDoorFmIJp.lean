import Derived.Test.YtkpmiikafconmaaGreatDoorGnKJp
import Derived.Test.YtkpmiikafconmaaGreatDoorFmE3Jp
import Derived.Test.YtkpmiikafconmaaGreatDoorTeAJp
namespace Go.Proofs.YtkpmiikafconmaaGreatDoor
open Go.RowKit
set_option maxHeartbeats 2000000
set_option maxRecDepth 100000
set_option linter.unusedVariables false
theorem funcShI_p(lo:Nat)(d:FuncD)(u0:Option Addr)(c0:Nat)(u2:Option Addr)(c2:Nat)(funcs:Int)(w:World)(hs:SmFunc d)(k0:IntsAt w lo u0 d.params)(k2:zBA w lo u2 d.blocks)(hp:¬d.params.length≤4):Calls Tryz.prog 38 #[.agg #[.slice u0 d.params.length c0,.int .i64 d.ret,.slice u2 d.blocks.length c2],.int .i64 funcs] w fun e w'=>e=.returned (.bool (funcB funcs d))∧Below w.heap.size w w':=by
 have HR:Hid (false=funcB funcs d):=by show _=_;simp[funcB,hp]
 have i1:(4:Int)<d.params.length:=by omega
 go_enter Tryz.func38,Tryz.ntmps38
 go_wp2_with fail
 go_ret
 exact⟨zrB HR.out,(Below.refl _ _).alloc (Nat.le_refl _) _⟩
theorem funcShI_a(lo:Nat)(d:FuncD)(u0:Option Addr)(c0:Nat)(u2:Option Addr)(c2:Nat)(funcs:Int)(w:World)(hs:SmFunc d)(k0:IntsAt w lo u0 d.params)(k2:zBA w lo u2 d.blocks)(hp:d.params.length≤4)(ha:d.params.all zWd=false):Calls Tryz.prog 38 #[.agg #[.slice u0 d.params.length c0,.int .i64 d.ret,.slice u2 d.blocks.length c2],.int .i64 funcs] w fun e w'=>e=.returned (.bool (funcB funcs d))∧Below w.heap.size w w':=by
 have HR:Hid (false=funcB funcs d):=by show _=_;simp[funcB,ha]
 have i1:¬(4:Int)<d.params.length:=by omega
 have K1:=(k0.keep (zaA w (.cells #[.slice u0 d.params.length c0,.int .i64 d.ret,.slice u2 d.blocks.length c2] 55) _))
 have A:=fun w k=>allWidthsI lo u0 c0 d.params w k
 simp only[show (fun n=>zWd n)=zWd from rfl] at A
 rw[ha] at A
 go_enter Tryz.func38,Tryz.ntmps38
 go_wp2_with (first|(go_at_call 70;refine (A _ K1).mono ?_;rintro e w' ⟨rfl,rfl⟩))
 go_ret
 exact⟨zrB HR.out,(Below.refl _ _).alloc (Nat.le_refl _) _⟩
theorem funcShI_r(lo:Nat)(d:FuncD)(u0:Option Addr)(c0:Nat)(u2:Option Addr)(c2:Nat)(funcs:Int)(w:World)(hs:SmFunc d)(k0:IntsAt w lo u0 d.params)(k2:zBA w lo u2 d.blocks)(hp:d.params.length≤4)(ha:d.params.all zWd=true)(hr:zWd d.ret=false):Calls Tryz.prog 38 #[.agg #[.slice u0 d.params.length c0,.int .i64 d.ret,.slice u2 d.blocks.length c2],.int .i64 funcs] w fun e w'=>e=.returned (.bool (funcB funcs d))∧Below w.heap.size w w':=by
 have HR:Hid (false=funcB funcs d):=by show _=_;simp[funcB,hr]
 have i1:¬(4:Int)<d.params.length:=by omega
 have K1:=(k0.keep (zaA w (.cells #[.slice u0 d.params.length c0,.int .i64 d.ret,.slice u2 d.blocks.length c2] 55) _))
 have A:=fun w k=>allWidthsI lo u0 c0 d.params w k
 simp only[show (fun n=>zWd n)=zWd from rfl] at A
 rw[ha] at A
 go_enter Tryz.func38,Tryz.ntmps38
 go_wp2_with (first|(go_at_call 70;refine (A _ K1).mono ?_;rintro e w' ⟨rfl,rfl⟩)|(go_at_call 71;refine (widthI _ _).mono ?_;rintro e w' ⟨rfl,rfl⟩))
 go_ret
 exact⟨zrB HR.out,(Below.refl _ _).alloc (Nat.le_refl _) _⟩
theorem funcShI_b(lo:Nat)(d:FuncD)(u0:Option Addr)(c0:Nat)(u2:Option Addr)(c2:Nat)(funcs:Int)(w:World)(hs:SmFunc d)(k0:IntsAt w lo u0 d.params)(k2:zBA w lo u2 d.blocks)(hp:d.params.length≤4)(ha:d.params.all zWd=true)(hr:zWd d.ret=true)(hb:¬1≤d.blocks.length):Calls Tryz.prog 38 #[.agg #[.slice u0 d.params.length c0,.int .i64 d.ret,.slice u2 d.blocks.length c2],.int .i64 funcs] w fun e w'=>e=.returned (.bool (funcB funcs d))∧Below w.heap.size w w':=by
 have HR:Hid (false=funcB funcs d):=by show _=_;simp[funcB,hb]
 have i1:¬(4:Int)<d.params.length:=by omega
 have K1:=(k0.keep (zaA w (.cells #[.slice u0 d.params.length c0,.int .i64 d.ret,.slice u2 d.blocks.length c2] 55) _))
 have A:=fun w k=>allWidthsI lo u0 c0 d.params w k
 simp only[show (fun n=>zWd n)=zWd from rfl] at A
 rw[ha] at A
 have i2:(d.blocks.length:Int)<1:=by omega
 go_enter Tryz.func38,Tryz.ntmps38
 go_wp2_with (first|(go_at_call 70;refine (A _ K1).mono ?_;rintro e w' ⟨rfl,rfl⟩)|(go_at_call 71;refine (widthI _ _).mono ?_;rintro e w' ⟨rfl,rfl⟩))
 go_ret
 exact⟨zrB HR.out,(Below.refl _ _).alloc (Nat.le_refl _) _⟩
theorem funcShI_c(lo:Nat)(d:FuncD)(u0:Option Addr)(c0:Nat)(u2:Option Addr)(c2:Nat)(funcs:Int)(w:World)(hs:SmFunc d)(k0:IntsAt w lo u0 d.params)(k2:zBA w lo u2 d.blocks)(hp:d.params.length≤4)(ha:d.params.all zWd=true)(hr:zWd d.ret=true)(hb:1≤d.blocks.length)(hc:¬d.blocks.length≤10):Calls Tryz.prog 38 #[.agg #[.slice u0 d.params.length c0,.int .i64 d.ret,.slice u2 d.blocks.length c2],.int .i64 funcs] w fun e w'=>e=.returned (.bool (funcB funcs d))∧Below w.heap.size w w':=by
 have HR:Hid (false=funcB funcs d):=by show _=_;simp[funcB,hc]
 have i1:¬(4:Int)<d.params.length:=by omega
 have K1:=(k0.keep (zaA w (.cells #[.slice u0 d.params.length c0,.int .i64 d.ret,.slice u2 d.blocks.length c2] 55) _))
 have A:=fun w k=>allWidthsI lo u0 c0 d.params w k
 simp only[show (fun n=>zWd n)=zWd from rfl] at A
 rw[ha] at A
 have i2:¬(d.blocks.length:Int)<1:=by omega
 have i3:(10:Int)<d.blocks.length:=by have:=hs.2.1;omega
 go_enter Tryz.func38,Tryz.ntmps38
 go_wp2_with (first|(go_at_call 70;refine (A _ K1).mono ?_;rintro e w' ⟨rfl,rfl⟩)|(go_at_call 71;refine (widthI _ _).mono ?_;rintro e w' ⟨rfl,rfl⟩))
 go_ret
 exact⟨zrB HR.out,(Below.refl _ _).alloc (Nat.le_refl _) _⟩
theorem funcShI_n(lo:Nat)(d:FuncD)(u0:Option Addr)(c0:Nat)(u2:Option Addr)(c2:Nat)(funcs:Int)(w:World)(hs:SmFunc d)(k0:IntsAt w lo u0 d.params)(k2:zBA w lo u2 d.blocks)(hp:d.params.length≤4)(ha:d.params.all zWd=true)(hr:zWd d.ret=true)(hb:1≤d.blocks.length)(hc:d.blocks.length≤10)(hn:¬cntF d≤60):Calls Tryz.prog 38 #[.agg #[.slice u0 d.params.length c0,.int .i64 d.ret,.slice u2 d.blocks.length c2],.int .i64 funcs] w fun e w'=>e=.returned (.bool (funcB funcs d))∧Below w.heap.size w w':=by
 have HR:Hid (false=funcB funcs d):=by show _=_;simp[funcB,hn]
 have F0:=FBox.start (d:=d) (u0:=u0) (u2:=u2) (c0:=c0) (c2:=c2) (w:=w) (T:=55)
 have i1:¬(4:Int)<d.params.length:=by omega
 have K1:=(k0.keep (zaA w (.cells #[.slice u0 d.params.length c0,.int .i64 d.ret,.slice u2 d.blocks.length c2] 55) _))
 have A:=fun w k=>allWidthsI lo u0 c0 d.params w k
 simp only[show (fun n=>zWd n)=zWd from rfl] at A
 rw[ha] at A
 have i2:¬(d.blocks.length:Int)<1:=by omega
 have i3:¬(10:Int)<d.blocks.length:=by omega
 have i4:(60:Int)<cntF d:=by omega
 go_enter Tryz.func38,Tryz.ntmps38
 go_wp2_with (first|(go_at_call 70;refine (A _ K1).mono ?_;rintro e w' ⟨rfl,rfl⟩)|(go_at_call 71;refine (widthI _ _).mono ?_;rintro e w' ⟨rfl,rfl⟩))
 refine (countI_any lo d u0 c0 u2 c2 _ hs (k2.keep (zaB F0.below lo))).mono ?_
 rintro e w1 ⟨rfl,hb1'⟩
 have F1:=F0.keep hb1'
 go_wp2_with fail
 go_ret
 exact⟨zrB HR.out,F1.below⟩
theorem funcShI(lo:Nat)(d:FuncD)(u0:Option Addr)(c0:Nat)(u2:Option Addr)(c2:Nat)(funcs:Int)(w:World)(hs:SmFunc d)(k0:IntsAt w lo u0 d.params)(k2:zBA w lo u2 d.blocks):Calls Tryz.prog 38 #[.agg #[.slice u0 d.params.length c0,.int .i64 d.ret,.slice u2 d.blocks.length c2],.int .i64 funcs] w fun e w'=>e=.returned (.bool (funcB funcs d))∧Below w.heap.size w w':=by
 by_cases hp:d.params.length≤4
 ·cases ha:d.params.all zWd with
  | false=>exact funcShI_a lo d u0 c0 u2 c2 funcs w hs k0 k2 hp ha
  | true =>
   cases hr:zWd d.ret with
   | false=>exact funcShI_r lo d u0 c0 u2 c2 funcs w hs k0 k2 hp ha hr
   | true =>
    by_cases hb:1≤d.blocks.length
    ·by_cases hc:d.blocks.length≤10
     ·by_cases hn:cntF d≤60
      ·exact funcShI_ok lo d u0 c0 u2 c2 funcs w hs k0 k2 hp ha hr hb hc hn
      ·exact funcShI_n lo d u0 c0 u2 c2 funcs w hs k0 k2 hp ha hr hb hc hn
     ·exact funcShI_c lo d u0 c0 u2 c2 funcs w hs k0 k2 hp ha hr hb hc
    ·exact funcShI_b lo d u0 c0 u2 c2 funcs w hs k0 k2 hp ha hr hb
 ·exact funcShI_p lo d u0 c0 u2 c2 funcs w hs k0 k2 hp
theorem modShI(lo:Nat)(l:List FuncD)(u0:Option Addr)(c0:Nat)(w:World)(hs:SmMod l)(k0:zFA w lo u0 l) :
  Calls Tryz.prog 17 #[.agg #[.slice u0 l.length c0]] w fun e w'=>e=.returned (.bool (modB l))∧Below w.heap.size w w':=by
 have hsl:=hs.1
 have HS:Hid (∀ d∈l,SmFunc d):=hs.2
 by_cases h1:1≤l.length
 ·by_cases h3:l.length≤3
  ·have HE:Hid (modB l=l.all (funcB l.length)):=by show _=_;simp[modB,h1,h3]
   have i1:¬(l.length:Int)<1:=by omega
   have i2:¬(3:Int)<l.length:=by omega
   clear hs
   go_enter Tryz.func17,Tryz.ntmps17
   go_wp2_with fail
   go_loopw [18] (fun i wr=>∃ j:Nat,j≤l.length∧i=.int .i64 j∧Hid (∀ k,k<j→funcB l.length (l.getD k func0)=true)∧Below (w.heap.size+1) (w.alloc (.cells #[.slice u0 l.length c0] 26)) wr) (fun i _=>l.length-(intOf i).toNat)
   case atStart=>exact⟨0,by omega,rfl,fun k hk=>by omega,Below.refl _ _⟩
   case round =>
    obtain⟨j,hj,rfl,HD,hB⟩:=hrel
    obtain⟨wp,hwp⟩:∃ wp,wp=wr:=⟨_,rfl⟩
    subst hwp
    have hW:Below w.heap.size w wp:=below_box hB
    have y0:wp.cell? ⟨w.heap.size,0,none⟩=some (.slice u0 l.length c0):=(zcB (hB.block w.heap.size (by omega))).trans ((zcH (zhL _ _)).trans rfl)
    have hzw:w.heap.size<wp.heap.size:=by have:=hB.size;simp at this;omega
    by_cases hjl:j<l.length
    ·rcases k0.2 with hn|⟨bb,off,rfl,hlo,hbb,hcell⟩
     ·simp[hn] at hjl
     obtain⟨⟨p0,q0,h0,m0⟩,h1',⟨p2,q2,h2,m2⟩⟩:=hcell j hjl
     have hsm:=HS.out _ (getD_mem func0 l j hjl)
     generalize hx:l.getD j func0=x at h0 h1' h2 m0 m2 hsm
     have HX:Hid (l.getD j func0=x):=hx
     have f0:wp.cell? ⟨bb,off+j*3,none⟩=some (.slice p0 x.params.length q0):=(zcB (hW.block bb hbb)).trans h0
     have f1:wp.cell? ⟨bb,off+j*3+1,none⟩=some (.int .i64 x.ret):=(zcB (hW.block bb hbb)).trans h1'
     have f2:wp.cell? ⟨bb,off+j*3+2,none⟩=some (.slice p2 x.blocks.length q2):=(zcB (hW.block bb hbb)).trans h2
     have M0:=(m0.keep (zaB hW lo)).keep (zaA wp (.cells #[.slice p0 x.params.length q0,.int .i64 x.ret,.slice p2 x.blocks.length q2] 55) _)
     have M2:=(m2.keep (zaB hW lo)).keep (zaA wp (.cells #[.slice p0 x.params.length q0,.int .i64 x.ret,.slice p2 x.blocks.length q2] 55) _)
     have t0:(wp.alloc (.cells #[.slice p0 x.params.length q0,.int .i64 x.ret,.slice p2 x.blocks.length q2] 55)).cell? ⟨w.heap.size,0,none⟩=some (.slice (some ⟨bb,off,none⟩) l.length c0):=cell_new hzw y0
     have HBA:Hid (Below (w.heap.size+1) (w.alloc (.cells #[.slice (some ⟨bb,off,none⟩) l.length c0] 26)) (wp.alloc (.cells #[.slice p0 x.params.length q0,.int .i64 x.ret,.slice p2 x.blocks.length q2] 55))):=hB.alloc (by have:=hB.size;simp at this;omega) _
     have hz2:w.heap.size+1≤(wp.alloc (.cells #[.slice p0 x.params.length q0,.int .i64 x.ret,.slice p2 x.blocks.length q2] 55)).heap.size:=by simp;omega
     have B:∀ B,funcB l.length x=B→Calls Tryz.prog 38 #[.agg #[.slice p0 x.params.length q0,.int .i64 x.ret,.slice p2 x.blocks.length q2],.int .i64 l.length] (wp.alloc (.cells #[.slice p0 x.params.length q0,.int .i64 x.ret,.slice p2 x.blocks.length q2] 55)) fun e w'=>e=.returned (.bool B)∧Below (wp.alloc (.cells #[.slice p0 x.params.length q0,.int .i64 x.ret,.slice p2 x.blocks.length q2] 55)).heap.size (wp.alloc (.cells #[.slice p0 x.params.length q0,.int .i64 x.ret,.slice p2 x.blocks.length q2] 55)) w':=fun B h=>by
      rw[←h];exact funcShI lo x p0 q0 p2 q2 l.length _ hsm M0 M2
     have NO:Hid (funcB l.length x=false→false=modB l):=fun h=>by
      rw[HE.out];exact (all_no func0 l j hjl (by rw[HX.out,h];decide)).symm
     have YES:Hid (funcB l.length x=true→∀ k,k<j+1→funcB l.length (l.getD k func0)=true):=fun h k hk=>by
      by_cases e:k=j
      ·subst e;rw[HX.out];exact h
      ·exact HD.out k (by omega)
     clear hcell h0 h1' h2 m0 m2 hsm hx hB M0 M2 HD k0 hW
     cases hb:funcB l.length x with
     | false =>
      have HF:Hid (false=modB l):=NO.out hb
      have BB:=B _ hb
      clear B
      go_wp2_with (go_at_call 38;refine BB.mono ?_;rintro e w3 ⟨rfl,hb3⟩)
      go_ret
      exact⟨zrB HF.out,below_box (HBA.out.trans (hb3.mono hz2))⟩
     | true =>
      have HF:Hid (funcB l.length x=true):=hb
      have BB:=B _ hb
      clear B
      go_wp2_with (go_at_call 38;refine BB.mono ?_;rintro e w3 ⟨rfl,hb3⟩)
      go_roundw
      case rel=>exact⟨j+1,by omega,by go_num,YES.out HF.out,HBA.out.trans (hb3.mono hz2)⟩
      case measure=>simp[intOf];omega
    ·have HF:Hid (true=modB l):=by
      show _=_
      rw[HE.out];exact (all_yes func0 l (fun k hk=>HD.out k (by omega))).symm
     go_wp2_with fail
     go_ret
     exact⟨zrB HF.out,hW⟩
  ·have HR:Hid (false=modB l):=by show _=_;simp[modB,h3]
   have i1:¬(l.length:Int)<1:=by omega
   have i2:(3:Int)<l.length:=by omega
   clear hs
   go_enter Tryz.func17,Tryz.ntmps17
   go_wp2_with fail
   go_ret
   exact⟨zrB HR.out,(Below.refl _ _).alloc (Nat.le_refl _) _⟩
 ·have HR:Hid (false=modB l):=by show _=_;simp[modB,h1]
  have i1:(l.length:Int)<1:=by omega
  clear hs
  go_enter Tryz.func17,Tryz.ntmps17
  go_wp2_with fail
  go_ret
  exact⟨zrB HR.out,(Below.refl _ _).alloc (Nat.le_refl _) _⟩
set_option maxHeartbeats 4000000
def RwIn(B:Nat)(w:World)(R:Nat)(l:List Int):Prop :=
 (l=[]∧At w R #[.slice none 0 0] 130)∨∃ b off c,At w R #[.slice (some ⟨b,off,none⟩) l.length c] 130∧l.length≤c∧c≤9223372036854775807∧b≠R∧(b<B∧B≤w.heap.size)∧∀ i,i<l.length→w.cell? ⟨b,off+i,none⟩=some (.int .i64 (l.getD i 0))
theorem RwIn.lt{w:World}{B R:Nat}{l:List Int}(h:RwIn B w R l):R<w.heap.size:=by
 rcases h with⟨_,h⟩|⟨b,off,c,h,_⟩
 ·exact h.lt
 ·exact h.lt
theorem RwIn.keep{w w':World}{B R:Nat}{l:List Int}(h:RwIn B w R l)(k:Below w.heap.size w w'):RwIn B w' R l:=by
 rcases h with⟨e,h⟩|⟨b,off,c,h,h1,h2,h3,h4,h5⟩
 ·exact .inl ⟨e,h.below k⟩
 ·exact .inr ⟨b,off,c,h.below k,h1,h2,h3,⟨h4.1,Nat.le_trans h4.2 k.size⟩,fun i hi=>(zcB (k.block b (Nat.lt_of_lt_of_le h4.1 h4.2))).trans (h5 i hi)⟩
theorem someN2(a:Addr)(B R:Nat)(k:Int)(l:List Int)(w:World)(h:RwIn B w R l)(hk:(l.length:Int)<k)(hv:Gv w 1 (errV a)) :
  Calls Tryz.prog 122 #[.pointer (some ⟨R,0,none⟩),.int .i64 k] w fun e w'=>e=.panicked [{ v:=errV a,recovered:=false }]∧w'=w:=by
 have W:=wantN a w hv
 have hn:¬k≤(l.length:Int):=by omega
 rcases h with⟨rfl,h⟩|⟨b,off,c,h,h1,h2,h3,h4,h5⟩
 ·have c0:w.cell? ⟨R,0,none⟩=some (.slice none 0 0):=h.cell 0
  have hn0:¬k≤0:=by simpa using hn
  go_enter Tryz.func122,Tryz.ntmps122
  go_wp2_with fail
  refine W.mono ?_
  rintro e w1 ⟨rfl,h9⟩
  have h8:=h9.symm
  clear h9
  subst h8
  go_wp2_with fail
  exact⟨rfl,rfl,rfl⟩
 ·have c0:w.cell? ⟨R,0,none⟩=some (.slice (some ⟨b,off,none⟩) l.length c):=h.cell 0
  clear h5
  go_enter Tryz.func122,Tryz.ntmps122
  go_wp2_with fail
  refine W.mono ?_
  rintro e w1 ⟨rfl,h9⟩
  have h8:=h9.symm
  clear h9
  subst h8
  go_wp2_with fail
  exact⟨rfl,rfl,rfl⟩
theorem someY2(B R k:Nat)(l:List Int)(w:World)(h:RwIn B w R l)(hk:k≤l.length)(hl:l.length≤1048576) :
  Calls Tryz.prog 122 #[.pointer (some ⟨R,0,none⟩),.int .i64 (k:Int)] w fun e w'=>∃ v,e=.returned v∧Row w' w.heap.size v (l.take k)∧RwIn B w' R (l.drop k)∧OnlyR R w w':=by
 have W:=wantY w
 have hlt:=h.lt
 rcases h with⟨rfl,h⟩|⟨b,off,c,h,h1,h2,h3,h4,h5⟩
 ·have hk0:k=0:=by simpa using hk
  subst hk0
  have c0:w.cell? ⟨R,0,none⟩=some (.slice none 0 0):=h.cell 0
  have C:=cloneI 0 none 0 [] w (by simp) ⟨by simp,.inl rfl⟩
  have HA:Hid (At w R #[.slice none 0 0] 130):=h
  clear h
  go_enter Tryz.func122,Tryz.ntmps122
  go_wp2_with fail
  refine W.mono ?_
  rintro e w1 ⟨rfl,h9⟩
  have h8:=h9.symm
  clear h9
  subst h8
  go_wp2_with fail
  refine C.mono ?_
  rintro e w2 ⟨v,rfl,hr,b2⟩
  have hA2:=HA.out.below b2
  have d0:w2.cell? ⟨R,0,none⟩=some (.slice none 0 0):=hA2.cell 0
  have f0:w2.frozen? ⟨R,0,none⟩=false:=zfH hA2
  have HR:Hid (Row w2 w.heap.size v []):=hr
  clear hr
  obtain⟨a,c,rfl⟩:=HR.out.slice
  go_wp2_with fail
  go_ret
  exact⟨_,rfl,row_set HR.out hlt,.inl ⟨rfl,At.set0 hA2 _⟩,(OnlyR.below b2).set _ _⟩
 ·have c0:w.cell? ⟨R,0,none⟩=some (.slice (some ⟨b,off,none⟩) l.length c):=h.cell 0
  have hlk:(l.take k).length=k:=by rw[List.length_take];omega
  have C:=cloneI 0 (some ⟨b,off,none⟩) c (l.take k) w (by omega) ⟨by omega,.inr ⟨b,off,rfl,Nat.zero_le _,Nat.lt_of_lt_of_le h4.1 h4.2,fun i hi=>by rw[hlk] at hi;rw[h5 i (by omega)];simp[List.getD,hi]⟩⟩
  rw[hlk] at C
  have HT:Hid ((l.take k).length=k):=hlk
  have HA:Hid (At w R #[.slice (some ⟨b,off,none⟩) l.length c] 130):=h
  have H5:Hid (∀ i,i<l.length→w.cell? ⟨b,off+i,none⟩=some (.int .i64 (l.getD i 0))):=h5
  have q1:(k:Int)≤(l.length:Int):=by omega
  have q2:(k:Int)≤(c:Int):=by omega
  have q3:(l.length:Int)≤(c:Int):=by omega
  have HL:Hid (l.length≤c):=h1
  have hdl:Hid ((l.drop k).length=l.length-k):=by show _=_;simp
  generalize hnl:l.length=n at *
  have HN:Hid (l.length=n):=hnl
  clear h hlk h5 hnl
  go_enter Tryz.func122,Tryz.ntmps122
  go_wp2_with fail
  refine W.mono ?_
  rintro e w1 ⟨rfl,h9⟩
  have h8:=h9.symm
  clear h9
  subst h8
  go_wp2_with fail
  refine C.mono ?_
  rintro e w2 ⟨v,rfl,hr,b2⟩
  have hA2:=HA.out.below b2
  have d0:w2.cell? ⟨R,0,none⟩=some (.slice (some ⟨b,off,none⟩) n c):=hA2.cell 0
  have f0:w2.frozen? ⟨R,0,none⟩=false:=zfH hA2
  have HR:Hid (Row w2 w.heap.size v (l.take k)):=hr
  clear hr
  obtain⟨a,c',rfl⟩:=HR.out.slice
  have HB2:Hid (Below w.heap.size w w2):=b2
  clear b2
  go_wp2_with fail
  ·have hz:n-k=0:=by have:=HL.out;omega
   go_ret
   refine⟨_,by rw[←HN.out];simp,row_set HR.out hlt,.inr ⟨b,off,0,?_,?_,by omega,h3,?_,fun i hi=>?_⟩,(OnlyR.below HB2.out).set _ _⟩
   ·rw[hdl.out];exact At.set0 hA2 _
   ·rw[hdl.out];omega
   ·refine⟨h4.1,?_⟩;have:=HB2.out.size;have:=h4.2;simp[World.setCell];omega
   ·rw[hdl.out] at hi;omega
  ·go_ret
   refine⟨_,by rw[←HN.out];simp,row_set HR.out hlt,.inr ⟨b,off+k,c-k,?_,?_,by omega,h3,?_,fun i hi=>?_⟩,(OnlyR.below HB2.out).set _ _⟩
   ·rw[hdl.out];exact At.set0 hA2 _
   ·rw[hdl.out];have:=HL.out;omega
   ·refine⟨h4.1,?_⟩;have:=HB2.out.size;have:=h4.2;simp[World.setCell];omega
   ·rw[hdl.out] at hi
    have e:(l.drop k).getD i 0=l.getD (k+i) 0:=by simp[List.getD]
    rw[e,Nat.add_assoc]
    refine (zcB (Below.heap_setCell _ _ _ _ (by show b≠R;exact h3))).trans ((zcB (HB2.out.block b (Nat.lt_of_lt_of_le h4.1 h4.2))).trans (H5.out (k+i) ?_))
    omega
theorem nextN2(a:Addr)(B R:Nat)(w:World)(h:RwIn B w R [])(hv:Gv w 1 (errV a)) :
  Calls Tryz.prog 83 #[.pointer (some ⟨R,0,none⟩)] w fun e w'=>e=.panicked [{ v:=errV a,recovered:=false }]∧w'=w:=by
 have W:=someN2 a B R 1 [] w h (by decide) hv
 go_enter Tryz.func83,Tryz.ntmps83
 go_wp2_with fail
 refine W.mono ?_
 rintro e w1 ⟨rfl,h9⟩
 have h8:=h9.symm
 clear h9
 subst h8
 go_wp2_with fail
 exact⟨rfl,rfl,rfl⟩
theorem nextY2(B R:Nat)(x:Int)(l:List Int)(w:World)(h:RwIn B w R (x :: l))(hl:l.length<1048576) :
  Calls Tryz.prog 83 #[.pointer (some ⟨R,0,none⟩)] w fun e w'=>e=.returned (.int .i64 x)∧RwIn B w' R l∧OnlyR R w w':=by
 have W:=someY2 B R 1 (x :: l) w h (by simp) (by simp;omega)
 have e1:(x :: l).take 1=[x]:=rfl
 have e2:(x :: l).drop 1=l:=rfl
 rw[e1,e2] at W
 clear e1 e2
 go_enter Tryz.func83,Tryz.ntmps83
 go_wp2_with fail
 refine W.mono ?_
 rintro e w1 ⟨v,rfl,hr,hw,ho⟩
 obtain⟨u,c,rfl,hi⟩:=Row.ints (by simp) hr
 rcases hi.2 with h0|⟨b,off,rfl,_,_,hc⟩
 ·cases h0
 ·have c0:w1.cell? ⟨b,off,none⟩=some (.int .i64 x):=by simpa using hc 0 (by simp)
  clear hc hi hr
  go_wp2_with fail
  go_ret
  exact⟨rfl,hw,ho⟩
theorem RwIn.set{B R g o:Nat}{w:World}{l:List Int}{v:Value}(h:RwIn B w R l)(hg:B≤g)(hR:R≠g):RwIn B (w.setCell ⟨g,o,none⟩ v) R l:=by
 rcases h with⟨e,h⟩|⟨b,off,c,h,h1,h2,h3,h4,h5⟩
 ·exact .inl ⟨e,h.setOther hR⟩
 ·exact .inr ⟨b,off,c,h.setOther hR,h1,h2,h3,⟨h4.1,by simp only[World.size_setCell];exact h4.2⟩,fun i hi=>(zcB (Below.heap_setCell _ _ _ _ (by show b≠g;have:=h4.1;omega))).trans (h5 i hi)⟩
theorem OnlyR.fresh{R g o:Nat}{w w':World}{v:Value}(h:OnlyR R w w')(hg:w.heap.size≤g):OnlyR R w (w'.setCell ⟨g,o,none⟩ v) :=
 ⟨h.os,h.tape,h.output,by simp only[World.size_setCell];exact h.size,fun i hi hn=>(Below.heap_setCell _ _ _ _ (by show i≠g;omega)).trans (h.block i hi hn)⟩
set_option linter.unusedSimpArgs false
theorem Sub.each{α:Type}{O:World→Nat→Nat→α→Prop}{w:World}:∀ {es:List α} {lo hi:Nat},Sub O w lo hi es→∀ e∈es,∃ a m,lo≤a∧O w a m e
 | [],_,_,_,e,he=>by cases he
 | x :: es,lo,hi,⟨a,m,h1,h2,h3,h4⟩,e,he=>by
  rcases List.mem_cons.1 he with rfl|he
  ·exact⟨a,m,h1,h3⟩
  ·obtain⟨a',m',k1,k2⟩:=h4.each e he
   exact⟨a',m',by omega,k2⟩
theorem map_get{α β:Type}(f:α→β)(z:β){l:List α}{i:Nat}{e:α}(h:l[i]?=some e):(l.map f).getD i z=f e:=by simp[List.getD,h]
theorem OwnPhs.at_{w:World}{lo hi:Nat}{u:Option Addr}{es:List PhE}(h:OwnPhs w lo hi u es):PhisAt w lo u (es.map (·.1)):=by
 refine⟨by rw[List.length_map];have:=h.1;omega,?_⟩
 rcases h.2.1 with e|⟨g,cur,rfl,h1,_,hg,hc⟩
 ·exact .inl (by rw[e];rfl)
 ·refine .inr ⟨g,0,rfl,h1,(Array.getElem?_eq_some_iff.1 hg).1,fun i hi=>?_⟩
  rw[List.length_map] at hi
  obtain⟨e,he⟩:∃ e,es[i]?=some e:=⟨es[i],List.getElem?_eq_getElem hi⟩
  have hc':=hc i e he
  obtain⟨a,m,k1,ho⟩:=h.2.2.each e (List.mem_of_getElem? he)
  rw[map_get (·.1) phi0 he]
  refine⟨by rw[zcH hg,Nat.zero_add];exact hc' 0 (by decide),e.2.1,e.2.2,by rw[zcH hg,Nat.zero_add];exact hc' 1 (by decide),(OwnI.ints ho).low k1⟩
theorem OwnIns.at_{w:World}{lo hi:Nat}{u:Option Addr}{es:List InE}(h:OwnIns w lo hi u es):InstsAt w lo u (es.map (·.1)):=by
 refine⟨by rw[List.length_map];have:=h.1;omega,?_⟩
 rcases h.2.1 with e|⟨g,cur,rfl,h1,_,hg,hc⟩
 ·exact .inl (by rw[e];rfl)
 ·refine .inr ⟨g,0,rfl,h1,(Array.getElem?_eq_some_iff.1 hg).1,fun i hi=>?_⟩
  rw[List.length_map] at hi
  obtain⟨e,he⟩:∃ e,es[i]?=some e:=⟨es[i],List.getElem?_eq_getElem hi⟩
  have hc':=hc i e he
  obtain⟨a,m,k1,ho⟩:=h.2.2.each e (List.mem_of_getElem? he)
  rw[map_get (·.1) inst0 he]
  have key:∀ j,j<7→w.cell? ⟨g,0+i*7+j,none⟩=(inC e)[j]?:=fun j hj=>by rw[zcH hg,Nat.zero_add];exact hc' j hj
  exact⟨key 0 (by decide),key 1 (by decide),key 2 (by decide),key 3 (by decide),key 4 (by decide),key 5 (by decide),e.2.1,e.2.2,key 6 (by decide),(OwnI.ints ho).low k1⟩
theorem OwnBks.at_{w:World}{lo hi:Nat}{u:Option Addr}{es:List BkE}(h:OwnBks w lo hi u es):zBA w lo u (es.map BkE.d):=by
 refine⟨by rw[List.length_map];have:=h.1;omega,?_⟩
 rcases h.2.1 with e|⟨g,cur,rfl,h1,_,hg,hc⟩
 ·exact .inl (by rw[e];rfl)
 ·refine .inr ⟨g,0,rfl,h1,(Array.getElem?_eq_some_iff.1 hg).1,fun i hi=>?_⟩
  rw[List.length_map] at hi
  obtain⟨e,he⟩:∃ e,es[i]?=some e:=⟨es[i],List.getElem?_eq_getElem hi⟩
  have hc':=hc i e he
  obtain⟨a,m,k1,m',g1,g2,g3,g4⟩:=h.2.2.each e (List.mem_of_getElem? he)
  rw[map_get BkE.d block0 he]
  have key:∀ j,j<6→w.cell? ⟨g,0+i*6+j,none⟩=(bkC e)[j]?:=fun j hj=>by rw[zcH hg,Nat.zero_add];exact hc' j hj
  have l1:(e.ps.map (·.1)).length=e.ps.length:=List.length_map ..
  have l2:(e.is.map (·.1)).length=e.is.length:=List.length_map ..
  refine⟨⟨e.pu,e.pc,?_,(OwnPhs.at_ g3).low k1⟩,⟨e.iu,e.ic,?_,(OwnIns.at_ g4).low (by omega)⟩,key 2 (by decide),key 3 (by decide),key 4 (by decide),key 5 (by decide)⟩
  ·show _=some (Value.slice e.pu (e.ps.map (·.1)).length e.pc)
   rw[l1];exact key 0 (by decide)
  ·show _=some (Value.slice e.iu (e.is.map (·.1)).length e.ic)
   rw[l2];exact key 1 (by decide)
theorem OwnFns.at_{w:World}{lo hi:Nat}{u:Option Addr}{es:List FnE}(h:OwnFns w lo hi u es):zFA w lo u (es.map FnE.d):=by
 refine⟨by rw[List.length_map];have:=h.1;omega,?_⟩
 rcases h.2.1 with e|⟨g,cur,rfl,h1,_,hg,hc⟩
 ·exact .inl (by rw[e];rfl)
 ·refine .inr ⟨g,0,rfl,h1,(Array.getElem?_eq_some_iff.1 hg).1,fun i hi=>?_⟩
  rw[List.length_map] at hi
  obtain⟨e,he⟩:∃ e,es[i]?=some e:=⟨es[i],List.getElem?_eq_getElem hi⟩
  have hc':=hc i e he
  obtain⟨a,m,k1,m',g1,g2,g3,g4⟩:=h.2.2.each e (List.mem_of_getElem? he)
  rw[map_get FnE.d func0 he]
  have key:∀ j,j<3→w.cell? ⟨g,0+i*3+j,none⟩=(fnC e)[j]?:=fun j hj=>by rw[zcH hg,Nat.zero_add];exact hc' j hj
  have l1:(e.bs.map BkE.d).length=e.bs.length:=List.length_map ..
  refine⟨⟨e.pu,e.pc,key 0 (by decide),(OwnI.ints g3).low k1⟩,key 1 (by decide),e.bu,e.bc,?_,(OwnBks.at_ g4).low (by omega)⟩
  show _=some (Value.slice e.bu (e.bs.map BkE.d).length e.bc)
  rw[l1];exact key 2 (by decide)
end Go.Proofs.YtkpmiikafconmaaGreatDoor
