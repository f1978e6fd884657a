import Derived.Test.YtkpmiikafconmaaGreatDoorRiCJp
namespace Go.Proofs.YtkpmiikafconmaaGreatDoor
open Go.RowKit
set_option maxHeartbeats 8000000
set_option maxRecDepth 100000
set_option linter.unusedVariables false
theorem row_setX{w:World}{R base o:Nat}{v x:Value}{l:List Int}(h:Row w base v l)(hR:R<base):Row (w.setCell ⟨R,o,none⟩ x) base v l :=
 World.ownsRow.kept h (row:=some R) ⟨rfl,rfl,rfl,by simp[World.setCell],fun k _ hk=>Below.heap_setCell _ _ _ _ (fun e=>hk (by simp[e]))⟩ (by
  cases e:v.ownBlock with
  | none=>exact .inl rfl
  | some g=>exact .inr (fun e2=>by have:=(World.ownsRow.lt h g e).1;cases e2;omega))
structure LnSt(w wr:World)(B:Nat)(P:List ByteArray)(w0:ByteArray)(v:Value):Prop where
 hB:w.heap.size+1<B
 r:At wr w.heap.size #[.string ⟨#[]⟩,.slice none 0 0] 43
 s:At wr (w.heap.size+1) (P.map Value.string).toArray 9
 b:At wr B #[.string w0,v] 43
 below:Below w.heap.size w wr
theorem LnSt.keep{w wr w2:World}{B:Nat}{P:List ByteArray}{w0:ByteArray}{v:Value}(h:LnSt w wr B P w0 v)(k:Below (B+1) wr w2):LnSt w w2 B P w0 v :=
 have:=h.hB
 ⟨h.hB,(k.block _ (by omega)).trans h.r,(k.block _ (by omega)).trans h.s,(k.block _ (by omega)).trans h.b,h.below.trans (k.mono (by omega))⟩
theorem LnSt.set{w wr:World}{B:Nat}{P:List ByteArray}{w0:ByteArray}{v:Value}(h:LnSt w wr B P w0 v)(v':Value):LnSt w (wr.setCell ⟨B,1,none⟩ v') B P w0 v' :=
 have:=h.hB
 ⟨h.hB,h.r.setOther (by omega),h.s.setOther (by omega),zhS (o:=1) h.b,h.below.setCell (by show w.heap.size≤B;omega) _⟩
theorem LnSt.word{w wr:World}{B:Nat}{P:List ByteArray}{w0:ByteArray}{v:Value}(h:LnSt w wr B P w0 v){k:Nat}(hk:k<P.length):wr.cell? ⟨w.heap.size+1,k,none⟩=some (.string (P.getD k ⟨#[]⟩)):=by
 rw[h.s.cell k]
 simp[List.getD,hk]
def LineTold(s:ByteArray)(a:Addr)(base:Nat)(w:World)(e:Ending):Prop :=
 (∃ w0 ws nums v,pieces s=w0 :: ws∧NumsIs ws nums∧e=.returned (.agg #[.string w0,v])∧Row w base v nums)∨((∀ w0 ws,pieces s=w0 :: ws→¬∃ nums,NumsIs ws nums)∧e=.panicked [{ v:=errV a,recovered:=false }])
theorem piece_size(s:ByteArray):∀ x∈pieces s,x.size≤s.size:=by
 have h:=join_pieces s.size s (Nat.le_refl _)
 intro x hx
 have key:∀ (l:List (List UInt8)) (y:List UInt8),y∈l→y.length≤(Lib.join l [32]).length:=by
  intro l
  induction l with
  | nil=>intro y hy;cases hy
  | cons z r ih =>
   intro y hy
   cases r with
   | nil=>rw[List.mem_singleton.1 hy];simp[Lib.join]
   | cons q r =>
    rw[join_more]
    rcases List.mem_cons.1 hy with rfl|hy
    ·simp
    ·have:=ih y hy
     simp only[List.length_append,List.length_cons];omega
 have:=key _ _ (List.mem_map_of_mem (f:=fun (b:ByteArray)=>b.data.toList) hx)
 rw[h] at this
 exact this
theorem lineI2(a:Addr)(s:ByteArray)(w:World)(hs:s.size≤1048576)(hv:Gv w 1 (errV a))(hE:ErrsAt w)(hP:PowAt w) :
  Calls Tryz.prog 47 #[.string s] w fun e w'=>LineTold s a w.heap.size w' e∧Below w.heap.size w w':=by
 have hpl:=pieces_len s
 have hcs:=count_size s
 have hps:=piece_size s
 have SP:=splitI s (w.alloc (.cells #[.string ⟨#[]⟩,.slice none 0 0] 43)) (by omega)
 obtain⟨P,hPe⟩:∃ P,pieces s=P:=⟨_,rfl⟩
 rw[hPe] at SP hpl hps
 have HPe:Hid (pieces s=P):=hPe
 have hp1:1≤P.length:=by omega
 have hp2:P.length≤1048577:=by omega
 have HSz:Hid (∀ x∈P,x.size≤s.size):=hps
 have HV:Hid (Gv w 1 (errV a)):=hv
 have HE:Hid (ErrsAt w):=hE
 have HP:Hid (PowAt w):=hP
 clear hPe hps hpl hcs hv hE hP
 have e1:(w.alloc (.cells #[.string ⟨#[]⟩,.slice none 0 0] 43)).heap.size=w.heap.size+1:=by simp
 rw[e1] at SP
 have A1:=At.new w #[.string ⟨#[]⟩,.slice none 0 0] 43
 have B1:Below w.heap.size w (w.alloc (.cells #[.string ⟨#[]⟩,.slice none 0 0] 43)):=(Below.refl _ _).alloc (Nat.le_refl _) _
 go_enter Tryz.func47,Tryz.ntmps47
 go_wp2_with fail
 refine SP.mono ?_
 rintro e w1 ⟨rfl,h1⟩
 have A2:At w1 (w.heap.size+1) (P.map Value.string).toArray 9:=by rw[h1,←e1];exact At.new _ _ _
 have A3:At w1 w.heap.size #[.string ⟨#[]⟩,.slice none 0 0] 43:=by rw[h1];exact A1.below ((Below.refl _ _).alloc (Nat.le_refl _) _)
 have B2:Below w.heap.size w w1:=by rw[h1];exact B1.alloc B1.size _
 have e2:w1.heap.size=w.heap.size+2:=by rw[h1];simp
 clear h1 A1 B1 e1 SP
 have c0:w1.cell? ⟨w.heap.size+1,0,none⟩=some (.string (P.getD 0 ⟨#[]⟩)):=by rw[A2.cell 0];simp[List.getD,(show 0<P.length by omega)]
 have q1:(1:Int)≤(P.length:Int):=by omega
 have q0:(0:Int)<(P.length:Int):=by omega
 have St:LnSt w (w1.alloc (.cells #[.string (P.getD 0 ⟨#[]⟩),.slice none 0 0] 43)) (w.heap.size+2) P (P.getD 0 ⟨#[]⟩) (.slice none 0 0) :=
  ⟨by omega,A3.below ((Below.refl _ _).alloc (Nat.le_refl _) _),A2.below ((Below.refl _ _).alloc (Nat.le_refl _) _),by rw[←e2];exact At.new _ _ _,B2.alloc B2.size _⟩
 have e3:(w1.alloc (.cells #[.string (P.getD 0 ⟨#[]⟩),.slice none 0 0] 43)).heap.size=(w.heap.size+2)+1:=by simp[e2]
 have HSt:Hid (LnSt w (w1.alloc (.cells #[.string (P.getD 0 ⟨#[]⟩),.slice none 0 0] 43)) (w.heap.size+2) P (P.getD 0 ⟨#[]⟩) (.slice none 0 0)):=St
 clear St A2 A3 B2
 obtain⟨w0,hw0⟩:∃ w0,P.getD 0 ⟨#[]⟩=w0:=⟨_,rfl⟩
 rw[hw0] at HSt e3 c0
 have HW0:Hid (P.getD 0 ⟨#[]⟩=w0):=hw0
 clear hw0
 go_wp2_with fail
 all_goals (
 generalize (w1.alloc (.cells #[.string w0,.slice none 0 0] 43))=W2 at HSt e3 ⊢
 clear c0 e2
 go_loopw [18] (fun i wr=>∃ (k:Nat) (L:List Int) (v:Value),k≤P.length-1∧i=.int .i64 k∧Hid (L.length=k)∧Hid (LnSt w wr (w.heap.size+2) P w0 v)∧Hid (Row wr ((w.heap.size+2)+1) v L)∧Hid ((w.heap.size+2)+1≤wr.heap.size)∧Hid (∀ j,j<k→DecIs (P.getD (j+1) ⟨#[]⟩) (L.getD j 0))) (fun i _=>P.length-1-(intOf i).toNat)
 case atStart=>exact⟨0,[],.slice none 0 0,by omega,rfl,by show _=_;rfl,HSt,Row.nil _ _,by show _≤_;rw[e3];exact Nat.le_refl _,fun j hj=>absurd hj (by omega)⟩
 case round =>
  obtain⟨k,L,v,hk,rfl,hL,HS2,HR,HZ,HD⟩:=hrel
  obtain⟨wo,hwo⟩:∃ wo,wo=wr:=⟨_,rfl⟩
  subst hwo
  obtain⟨va,vc,rfl⟩:=HR.out.slice
  by_cases hlt:k<P.length-1
  ·first
   | (exfalso;omega)
   |
    have x1:wo.cell? ⟨w.heap.size+1,1+k,none⟩=some (.string (P.getD (k+1) ⟨#[]⟩)):=by rw[Nat.add_comm 1 k];exact HS2.out.word (by omega)
    have hsz:=HSz.out _ (getD_mem (⟨#[]⟩:ByteArray) P (k+1) (by omega))
    have hltI:(k:Int)<((P.length-1:Nat):Int):=by omega
    have DI:=decimalI (P.getD (k+1) ⟨#[]⟩) wo (by omega) (HE.out.keep HS2.out.below) (HP.out.keep HS2.out.below)
    generalize hbw:P.getD (k+1) ⟨#[]⟩=bw at x1 DI hsz
    have HBW:Hid (P.getD (k+1) ⟨#[]⟩=bw):=hbw
    clear hbw
    go_wp2_with fail
    refine DI.mono ?_
    rintro e w2 ⟨hd,b2⟩
    have HS3:Hid (LnSt w w2 (w.heap.size+2) P w0 _):=HS2.out.keep (b2.mono HZ.out)
    have HR3:Hid (Row w2 ((w.heap.size+2)+1) _ L):=Row.keep HR.out b2
    have HZ3:Hid ((w.heap.size+2)+1≤w2.heap.size):=Nat.le_trans HZ.out b2.size
    clear b2 DI x1
    rcases hd with⟨n,hn,rfl⟩|⟨hn,rfl⟩
    ·have HDn:Hid (DecIs bw n):=hn
     clear hn
     go_wp2_with fail
     refine (wantY _).mono ?_
     rintro e w3 ⟨rfl,h9⟩
     have h8:=h9.symm
     clear h9
     subst h8
     have x2:w2.cell? ⟨(w.heap.size+2),1,none⟩=some (.slice va L.length vc):=HS3.out.b.cell 1
     have bx:Below w2.heap.size w2 (w2.alloc (.cells #[.int .i64 n] 2)):=(Below.refl _ _).alloc (Nat.le_refl _) _
     have HS4:Hid (LnSt w (w2.alloc (.cells #[.int .i64 n] 2)) (w.heap.size+2) P w0 _):=HS3.out.keep (bx.mono HZ3.out)
     have HR4:Hid (Row (w2.alloc (.cells #[.int .i64 n] 2)) ((w.heap.size+2)+1) _ L):=Row.keep HR3.out bx
     have hzz:(w.heap.size+2)+1≤(w2.alloc (.cells #[.int .i64 n] 2)).heap.size:=by have:=HZ3.out;simp;omega
     have hLl:L.length≤4194304:=by have:=hL.out;omega
     clear bx
     go_wp2_with (at_builtin;refine push_int rfl _ _ rfl ((w.heap.size+2)+1) (.slice va L.length vc) L rfl HR4.out n w2.heap.size 1 rfl (one_cell _ _ _) hLl hzz ?_;intro v5 w5 hR5 hg5;obtain⟨ua5,uc5,rfl⟩:=hR5.slice;have hS5:=HS4.out.keep ((Below.refl _ _).grown hg5 hzz (fun g e=>(World.ownsRow.lt HR4.out g e).1));have x5:w5.cell? ⟨(w.heap.size+2),1,none⟩=some (.slice va L.length vc):=hS5.b.cell 1;have f5:w5.frozen? ⟨(w.heap.size+2),1,none⟩=false:=zfH hS5.b)
     have HS6:=hS5.set (.slice ua5 (L++[n]).length uc5)
     have HR6:Hid (Row (w5.setCell ⟨(w.heap.size+2),1,none⟩ (.slice ua5 (L++[n]).length uc5)) ((w.heap.size+2)+1) _ (L++[n])):=row_setX hR5 (by omega)
     have hz6:(w.heap.size+2)+1≤(w5.setCell ⟨(w.heap.size+2),1,none⟩ (.slice ua5 (L++[n]).length uc5)).heap.size:=by have:=hg5.size;simp[World.setCell];omega
     have hle:(L++[n]).length=L.length+1:=by simp
     rw[hle] at HS6 HR6 hz6
     go_roundw
     case rel =>
      refine⟨k+1,L++[n],.slice ua5 (L.length+1) uc5,by omega,by go_num,by show _=_;rw[List.length_append,hL.out];rfl,HS6,HR6,hz6,fun j hj=>?_⟩
      by_cases hjk:j<k
      ·have e:(L++[n]).getD j 0=L.getD j 0:=by simp[List.getD,List.getElem?_append_left (by have:=hL.out;omega:j<L.length)]
       rw[e];exact HD.out j hjk
      ·have hjk2:j=k:=by omega
       subst hjk2
       have e:(L++[n]).getD j 0=n:=by simp[List.getD,←hL.out]
       rw[e,HBW.out];exact HDn.out
     case measure=>simp[intOf];omega
    ·have HNo:Hid (∀ w0 ws,pieces s=w0 :: ws→¬∃ nums,NumsIs ws nums):=fun w0' ws hp ⟨nums,hN⟩=>by
      rw[HPe.out] at hp
      have hlen:ws.length+1=P.length:=by rw[hp];simp
      have h1:=hN.2 k (by have:=hN.1;omega)
      have e:ws.getD k ⟨#[]⟩=bw:=by rw[←HBW.out,hp];simp[List.getD]
      rw[e] at h1
      exact hn ⟨_,h1⟩
     have WN:=wantN a w2 (HV.out.keep HS3.out.below)
     have HB3:Hid (Below w.heap.size w w2):=HS3.out.below
     clear hn
     go_wp2_with fail
     refine WN.mono ?_
     rintro e w3 ⟨rfl,h9⟩
     have h8:=h9.symm
     clear h9
     subst h8
     go_wp2_with fail
     exact⟨rfl,.inr ⟨HNo.out,rfl⟩,HB3.out⟩
  ·have hke:k=P.length-1:=by omega
   have hHB:=HS2.out.hB
   have x0:wo.cell? ⟨(w.heap.size+2),0,none⟩=some (.string w0):=HS2.out.b.cell 0
   have x1:wo.cell? ⟨(w.heap.size+2),1,none⟩=some (.slice va L.length vc):=HS2.out.b.cell 1
   have y0:wo.cell? ⟨w.heap.size,0,none⟩=some (.string ⟨#[]⟩):=HS2.out.r.cell 0
   have y1:wo.cell? ⟨w.heap.size,1,none⟩=some (.slice none 0 0):=HS2.out.r.cell 1
   have yf:∀ o,wo.frozen? ⟨w.heap.size,o,none⟩=false:=fun o=>zfH HS2.out.r
   have HPc:Hid (pieces s=w0 :: P.tail):=by
    show _=_
    rw[HPe.out,←HW0.out]
    cases P with
    | nil=>simp at hp1
    | cons x r=>rfl
   have HNu:Hid (NumsIs P.tail L):=⟨by rw[List.length_tail];have:=hL.out;omega,fun j hj=>by
    have e:P.tail.getD j ⟨#[]⟩=P.getD (j+1) ⟨#[]⟩:=by simp[List.getD]
    rw[e]
    exact HD.out j (by have:=hL.out;omega)⟩
   go_wp2_with fail
   have hr:=zhS (o:=1) (v:=.slice va L.length vc) (zhS (o:=0) (v:=.string w0) HS2.out.r)
   refine bodyPost_ret (v:=.agg #[.string w0,.slice va L.length vc]) ((results_cell_row Tryz.results47 _ _ w.heap.size 43 _ (0,0) _ rfl hr Tryz.underlying43 rfl (by kernel_rfl)).trans (by rfl)) rfl ⟨.inl ⟨w0,P.tail,L,_,HPc.out,HNu.out,rfl,?_⟩,?_⟩
   ·exact (row_setX (row_setX HR.out (by omega)) (by omega)).low (by omega)
   ·exact (by repeat (first|refine Below.setCell ?_ (by dsimp only;omega) _|exact HS2.out.below)))
set_option maxHeartbeats 4000000
theorem below_drewN{b:Nat}{w w':World}(h:Below b w w')(n:Nat):Below b w (w'.drewN n):=⟨h.os,h.tape,h.output,h.size,h.block⟩
theorem equalB(la lb:Nat)(a b:Option Addr)(ca cb:Nat)(l m:List Int)(w:World)(ha:IntsAt w la a l)(hb:IntsAt w lb b m)(hl:l.length≤1048576)(hm:m.length≤1048576) :
  Calls Tryz.prog 178 #[.slice a l.length ca,.slice b m.length cb] w fun e w'=>e=.returned (.bool (decide (l=m)))∧Below w.heap.size w w':=by
 by_cases hlen:l.length=m.length
 ·have HA:Hid (IntsAt w la a l):=ha
  have HB:Hid (IntsAt w lb b m):=hb
  have HLn:Hid (l.length=m.length):=hlen
  rw[←hlen]
  clear ha hb hm hlen
  go_enter Tryz.func178,Tryz.ntmps178
  go_wp2_with fail
  go_loopw [13] (fun i wr=>∃ k:Nat,k≤l.length∧i=.int .i64 k∧Hid (∀ j,j<k→l.getD j 0=m.getD j 0)∧Hid (Below w.heap.size w wr)) (fun i _=>l.length-(intOf i).toNat)
  case atStart=>exact⟨0,by omega,rfl,fun j hj=>absurd hj (by omega),Below.refl _ _⟩
  case round =>
   obtain⟨k,hk,rfl,HK,HW⟩:=hrel
   by_cases hlt:k<l.length
   ·obtain⟨ga,oa,rfl,ea⟩:∃ ga off,a=some ⟨ga,off,none⟩∧wr.cell? ⟨ga,off+k,none⟩=some (.int .i64 (l.getD k 0)):=by
     rcases (HA.out.keep (zaB HW.out la)).2 with h|⟨ga,off,ha,_,_,hc⟩
     ·rw[h] at hlt;simp at hlt
     ·exact⟨ga,off,ha,hc k hlt⟩
    obtain⟨gb,ob,rfl,eb⟩:∃ gb off,b=some ⟨gb,off,none⟩∧wr.cell? ⟨gb,off+k,none⟩=some (.int .i64 (m.getD k 0)):=by
     rcases (HB.out.keep (zaB HW.out lb)).2 with h|⟨ga,off,ha,_,_,hc⟩
     ·have:=HLn.out;rw[h] at this;simp at this;rw[this] at hlt;simp at hlt
     ·exact⟨ga,off,ha,hc k (by have:=HLn.out;omega)⟩
    have hltI:(k:Int)<l.length:=by omega
    by_cases hxy:l.getD k 0=m.getD k 0
    ·have HK2:Hid (∀ j,j<k+1→l.getD j 0=m.getD j 0):=fun j hj=>by
      rcases Nat.lt_or_ge j k with h|h
      ·exact HK.out j h
      ·have:j=k:=by omega
       subst this;exact hxy
     rw[←hxy] at eb
     generalize l.getD k 0=x at ea eb
     clear hxy HK
     go_wp2_with fail
     go_quiet (fail)
     go_wp2_with fail
     go_roundw
     case rel=>exact⟨k+1,by omega,by go_num,HK2,below_drewN HW.out _⟩
     case measure=>simp[intOf];omega
    ·have HNe:Hid (decide (l=m)=false):=by show _=_;exact decide_eq_false (fun e=>hxy (by rw[e]))
     have hq:(l.getD k 0 !=m.getD k 0)=true:=by rw[bne_iff_ne];exact hxy
     generalize l.getD k 0=x at ea hq hxy
     generalize m.getD k 0=y at eb hq hxy
     clear HK
     go_wp2_with fail
     go_quiet (fail)
     go_wp2_with fail
     go_ret
     exact⟨by rw[HNe.out];rfl,below_drewN HW.out _⟩
   ·have e:k=l.length:=by omega
    have HEq:Hid (decide (l=m)=true):=by
     show _=_
     refine decide_eq_true (List.ext_getElem HLn.out fun j h1 h2=>?_)
     have:=HK.out j (by omega)
     simpa [List.getD,h1,h2] using this
    subst e
    go_wp2_with fail
    go_ret
    exact⟨by rw[HEq.out];rfl,HW.out⟩
 ·have HNe:Hid (decide (l=m)=false):=by show _=_;exact decide_eq_false (fun e=>hlen (by rw[e]))
  have hq:((l.length:Int)!=(m.length:Int))=true:=by rw[bne_iff_ne];omega
  have h1:=ha.1
  have h2:=hb.1
  clear ha hb hlen
  go_enter Tryz.func178,Tryz.ntmps178
  go_wp2_with fail
  go_ret
  exact⟨by rw[HNe.out];rfl,Below.refl _ _⟩
end Go.Proofs.YtkpmiikafconmaaGreatDoor
