import Derived.Test.YtkpmiikafconmaaGreatDoorRiFJp
namespace Go.Proofs.YtkpmiikafconmaaGreatDoor
open Go.RowKit
set_option maxHeartbeats 8000000
set_option maxRecDepth 100000
set_option linter.unusedVariables false
set_option linter.unusedSimpArgs false
structure Ls(w W:World):Prop where
 r:At W (w.heap.size+1) #[.int .i64 0,.int .i64 0,.int .i64 0,.int .i64 0,.int .i64 0,.int .i64 0,.slice none 0 0] 95
 below:Below w.heap.size w W
 size:w.heap.size+3≤W.heap.size
theorem Ls.keep{w W W2:World}(h:Ls w W)(k:Below W.heap.size W W2):Ls w W2:=⟨h.r.below k,h.below.trans (k.mono h.below.size),Nat.le_trans h.size k.size⟩
theorem Ls.only{w W W2:World}(h:Ls w W)(k:OnlyR (w.heap.size+2) W W2):Ls w W2:=⟨(k.block _ h.r.lt (by omega)).trans h.r,h.below.trans (k.down (by omega) h.below.size),Nat.le_trans h.size k.size⟩
theorem row_set7{w:World}{R base:Nat}{v v0 v1 v2 v3 v4 v5 v6:Value}{l:List Int}(h:Row w base v l)(hR:R<base):Row (((((((w.setCell ⟨R,0,none⟩ v0).setCell ⟨R,1,none⟩ v1).setCell ⟨R,2,none⟩ v2).setCell ⟨R,3,none⟩ v3).setCell ⟨R,4,none⟩ v4).setCell ⟨R,5,none⟩ v5).setCell ⟨R,6,none⟩ v6) base v l :=
 row_setX (row_setX (row_setX (row_setX (row_setX (row_setX (row_setX h hR) hR) hR) hR) hR) hR) hR
def InstToldR(o:Option InstD)(a:Addr)(base:Nat)(w:World)(e:Ending):Prop:=(∃ i,o=some i∧InstNew w base i e)∨(o=none∧e=.panicked [{ v:=errV a,recovered:=false }])
theorem instOfLineI(a:Addr)(lo:Nat)(b0:ByteArray)(u:Option Addr)(c:Nat)(nums:List Int)(w:World)(hr:Row w lo (.slice u nums.length c) nums)(hl:nums.length≤1048576)(hO:OpsAt w)(hv:Gv w 1 (errV a)) :
  Calls Tryz.prog 124 #[.agg #[.string b0,.slice u nums.length c]] w fun e w'=>InstToldR (ofNums (opNum b0) nums) a w.heap.size w' e∧Below w.heap.size w w':=by
 have B1:Below w.heap.size w ((w.alloc (.cells #[.string b0,.slice u nums.length c] 43)).alloc (.cells #[.int .i64 0,.int .i64 0,.int .i64 0,.int .i64 0,.int .i64 0,.int .i64 0,.slice none 0 0] 95)):=((Below.refl _ _).alloc (Nat.le_refl _) _).alloc (by simp) _
 have e1:((w.alloc (.cells #[.string b0,.slice u nums.length c] 43)).alloc (.cells #[.int .i64 0,.int .i64 0,.int .i64 0,.int .i64 0,.int .i64 0,.int .i64 0,.slice none 0 0] 95)).heap.size=w.heap.size+2:=by simp
 have A0:At ((w.alloc (.cells #[.string b0,.slice u nums.length c] 43)).alloc (.cells #[.int .i64 0,.int .i64 0,.int .i64 0,.int .i64 0,.int .i64 0,.int .i64 0,.slice none 0 0] 95)) w.heap.size #[.string b0,.slice u nums.length c] 43:=(At.new _ _ _).below ((Below.refl _ _).alloc (Nat.le_refl _) _)
 have A1:At ((w.alloc (.cells #[.string b0,.slice u nums.length c] 43)).alloc (.cells #[.int .i64 0,.int .i64 0,.int .i64 0,.int .i64 0,.int .i64 0,.int .i64 0,.slice none 0 0] 95)) (w.heap.size+1) #[.int .i64 0,.int .i64 0,.int .i64 0,.int .i64 0,.int .i64 0,.int .i64 0,.slice none 0 0] 95:=by
  have h:=At.new (w.alloc (.cells #[.string b0,.slice u nums.length c] 43)) #[.int .i64 0,.int .i64 0,.int .i64 0,.int .i64 0,.int .i64 0,.int .i64 0,.slice none 0 0] 95
  have e:(w.alloc (.cells #[.string b0,.slice u nums.length c] 43)).heap.size=w.heap.size+1:=by simp
  rw[e] at h
  exact h
 have OP:=opOfI b0 _ (hO.keep B1)
 have HGV:Hid (Gv w 1 (errV a)):=hv
 have HR:Hid (Row w lo (.slice u nums.length c) nums):=hr
 obtain⟨op,hop⟩:∃ op,opNum b0=op:=⟨_,rfl⟩
 rw[hop] at OP
 rw[hop]
 clear hO hv hr hop
 go_enter Tryz.func124,Tryz.ntmps124
 go_wp2_with fail
 generalize ((w.alloc (.cells #[.string b0,.slice u nums.length c] 43)).alloc (.cells #[.int .i64 0,.int .i64 0,.int .i64 0,.int .i64 0,.int .i64 0,.int .i64 0,.slice none 0 0] 95))=W1 at B1 e1 A0 A1 OP ⊢
 refine OP.mono ?_
 rintro e w1 ⟨rfl,h9⟩
 have h8:=h9.symm
 clear h9
 subst h8
 have y1:W1.cell? ⟨w.heap.size,1,none⟩=some (.slice u nums.length c):=A0.cell 1
 have bx:Below W1.heap.size W1 (W1.alloc (.cells #[.slice u nums.length c] 130)):=(Below.refl _ _).alloc (Nat.le_refl _) _
 have hL:Ls w (W1.alloc (.cells #[.slice u nums.length c] 130)):=⟨A1.below bx,B1.trans (bx.mono B1.size),by simp[e1]⟩
 have hRw:RwAt (W1.alloc (.cells #[.slice u nums.length c] 130)) (w.heap.size+2) nums:=by
  have hA:At (W1.alloc (.cells #[.slice u nums.length c] 130)) (w.heap.size+2) #[.slice u nums.length c] 130:=by rw[←e1];exact At.new _ _ _
  rcases HR.out.2 with⟨hv,hn⟩|⟨g,cap,cur,hv,_,hg,hnc,hcm,hcs,htk⟩
  ·have hn0:nums=[]:=List.length_eq_zero_iff.1 hn
   subst hn0
   simp only[Value.slice.injEq,List.length_nil,true_and] at hv
   obtain⟨rfl,rfl⟩:=hv
   exact .inl ⟨rfl,hA⟩
  ·simp only[Value.slice.injEq,true_and] at hv
   obtain⟨rfl,rfl⟩:=hv
   have hgl:g<w.heap.size:=(Array.getElem?_eq_some_iff.1 hg).1
   refine .inr ⟨g,0,c,hA,hnc,by unfold maxLen at hcm;omega,by omega,by have:=hL.below.size;omega,fun i hi=>?_⟩
   refine (zcB (hL.below.block g hgl)).trans ?_
   rw[Nat.zero_add,zcH hg]
   have e:(cur.toList.take (nums.length*1))[i]?=(nums.map (Value.int .i64))[i]?:=by rw[htk]
   rw[List.getElem?_take,if_pos (by omega)] at e
   simp[hi] at e
   simpa [List.getD,hi] using e
 have HL:Hid (Ls w (W1.alloc (.cells #[.slice u nums.length c] 130))):=hL
 have HRw:Hid (RwAt (W1.alloc (.cells #[.slice u nums.length c] 130)) (w.heap.size+2) nums):=hRw
 clear hL hRw OP A0 A1 B1 bx
 go_wp2_with fail
 generalize (W1.alloc (.cells #[.slice u nums.length c] 130))=W2 at HL HRw ⊢
 clear y1 e1
 cases nums with
 | nil =>
  refine (nextN a _ _ HRw.out (HGV.out.keep HL.out.below)).mono ?_
  rintro e w9 ⟨rfl,h9⟩
  have h8:=h9.symm
  clear h9
  subst h8
  go_wp2_with fail
  exact⟨rfl,.inr ⟨rfl,rfl⟩,HL.out.below⟩
 | cons x r =>
  have hlr0:r.length<1048576:=by simp at hl;omega
  refine (nextY _ x r _ HRw.out hlr0).mono ?_
  rintro e w3 ⟨rfl,hRw3,ho3⟩
  have HL3:Hid (Ls w w3):=HL.out.only ho3
  have HRw3:Hid (RwAt w3 (w.heap.size+2) r):=hRw3
  clear hRw3 ho3 HL HRw HR
  cases him:immB op with
  | true =>
   cases r with
   | nil =>
    have HNo:Hid (ofNums op [x]=none):=by show _=_;simp[ofNums,him]
    have P:=immN a _ op w3 him HRw3.out (HGV.out.keep HL3.out.below)
    have HB3:Hid (Below w.heap.size w w3):=HL3.out.below
    clear him
    go_wp2_with fail
    refine P.mono ?_
    rintro e w9 ⟨rfl,h9⟩
    have h8:=h9.symm
    clear h9
    subst h8
    go_wp2_with fail
    exact⟨rfl,.inr ⟨HNo.out,rfl⟩,HB3.out⟩
   | cons m r2 =>
    have HOF:Hid (ofNums op (x :: m :: r2)=finN op x m r2):=by show _=_;simp[ofNums,him]
    have hlr1:r2.length<1048576:=by simp at hlr0;omega
    have hlr:r2.length≤1048576:=by omega
    have P:=immY _ op m r2 w3 him HRw3.out hlr1
    clear him
    go_wp2_with fail
    refine P.mono ?_
    rintro e w4 ⟨rfl,hRw4,ho4⟩
    have HL4:Hid (Ls w w4):=HL3.out.only ho4
    have HRw4:Hid (RwAt w4 (w.heap.size+2) r2):=hRw4
    clear hRw4 ho4 P HL3 HRw3
    go_wp2_with fail
    refine (restI (w.heap.size+2) r2 w4 HRw4.out hlr).mono ?_
    rintro e w5 ⟨v5,rfl,hR5,ho5⟩
    obtain⟨u5,c5,rfl⟩:=hR5.slice
    have HL5:Hid (Ls w w5):=HL4.out.only ho5
    have HR5:Hid (Row w5 w4.heap.size _ r2):=hR5
    have hW5:w.heap.size+3≤w4.heap.size:=HL4.out.size
    clear hR5 ho5 HRw4
    by_cases h26:op=26
    ·subst h26
     have HSo:Hid (_=some (mkD 26 x m r2)):=HOF.out.trans (by unfold finN;rw[if_pos (.inl rfl)])
     have P:=instOf26 x m u5 c5 r2 w5
     go_wp2_with fail
     refine P.mono ?_
     rintro e w6 ⟨rfl,b6⟩
     have HL6:Hid (Ls w w6):=HL5.out.keep b6
     have HR6:Hid (Row w6 w4.heap.size _ r2):=Row.keep HR5.out b6
     clear P b6 HL5 HR5
     have z0:w6.cell? ⟨w.heap.size+1,0,none⟩=some (.int .i64 0):=HL6.out.r.cell 0
     have z1:w6.cell? ⟨w.heap.size+1,1,none⟩=some (.int .i64 0):=HL6.out.r.cell 1
     have z2:w6.cell? ⟨w.heap.size+1,2,none⟩=some (.int .i64 0):=HL6.out.r.cell 2
     have z3:w6.cell? ⟨w.heap.size+1,3,none⟩=some (.int .i64 0):=HL6.out.r.cell 3
     have z4:w6.cell? ⟨w.heap.size+1,4,none⟩=some (.int .i64 0):=HL6.out.r.cell 4
     have z5:w6.cell? ⟨w.heap.size+1,5,none⟩=some (.int .i64 0):=HL6.out.r.cell 5
     have z6:w6.cell? ⟨w.heap.size+1,6,none⟩=some (.slice none 0 0):=HL6.out.r.cell 6
     have zf:∀ o,w6.frozen? ⟨w.heap.size+1,o,none⟩=false:=fun o=>zfH HL6.out.r
     have hsz:=HL6.out.size
     go_wp2_with fail
     have hrr:=(zhS (o:=6) (v:=.slice u5 r2.length c5) (zhS (o:=5) (v:=.int .i64 m) (zhS (o:=4) (v:=.int .i64 0) (zhS (o:=3) (v:=.int .i64 0) (zhS (o:=2) (v:=.int .i64 0) (zhS (o:=1) (v:=.int .i64 x) (zhS (o:=0) (v:=.int .i64 26) HL6.out.r)))))))
     refine bodyPost_ret (v:=.agg #[.int .i64 26,.int .i64 x,.int .i64 0,.int .i64 0,.int .i64 0,.int .i64 m,.slice u5 r2.length c5]) ((results_cell_row Tryz.results124 _ _ (w.heap.size+1) 95 _ (0,0) _ rfl hrr Tryz.underlying95 rfl (by kernel_rfl)).trans (by rfl)) rfl ⟨.inl ⟨_,HSo.out,?_⟩,?_⟩
     ·exact⟨u5,c5,rfl,(row_set7 HR6.out (by omega)).low (by omega)⟩
     ·exact (by repeat (first|refine Below.setCell ?_ (by dsimp only;omega) _|exact HL6.out.below))
    ·have P:=instOfG op x m w4.heap.size u5 c5 r2 w5 a h26 hlr (by obtain⟨q1,q2,q3,q4⟩:=HR5.out.ints (by omega);cases q3;exact q4) (HGV.out.keep HL5.out.below)
     go_wp2_with fail
     refine P.mono ?_
     rintro e w6 ⟨hc,b6⟩
     have HL6:Hid (Ls w w6):=HL5.out.keep b6
     clear P b6 HL5 HR5
     rcases hc with⟨hc,rfl⟩|⟨hc,rfl⟩
     ·have HSo:Hid (_=some (mkD op x m r2)):=HOF.out.trans (by unfold finN;rw[if_pos (.inr hc)])
      have HMk:Hid (mkD op x m r2=⟨op,x,r2.getD 0 0,r2.getD 1 0,r2.getD 2 0,m,[]⟩):=by show _=_;unfold mkD;rw[if_neg h26]
      clear hc h26
      generalize r2.getD 0 0=f0 at HMk ⊢
      generalize r2.getD 1 0=f1 at HMk ⊢
      generalize r2.getD 2 0=f2 at HMk ⊢
      have z0:w6.cell? ⟨w.heap.size+1,0,none⟩=some (.int .i64 0):=HL6.out.r.cell 0
      have z1:w6.cell? ⟨w.heap.size+1,1,none⟩=some (.int .i64 0):=HL6.out.r.cell 1
      have z2:w6.cell? ⟨w.heap.size+1,2,none⟩=some (.int .i64 0):=HL6.out.r.cell 2
      have z3:w6.cell? ⟨w.heap.size+1,3,none⟩=some (.int .i64 0):=HL6.out.r.cell 3
      have z4:w6.cell? ⟨w.heap.size+1,4,none⟩=some (.int .i64 0):=HL6.out.r.cell 4
      have z5:w6.cell? ⟨w.heap.size+1,5,none⟩=some (.int .i64 0):=HL6.out.r.cell 5
      have z6:w6.cell? ⟨w.heap.size+1,6,none⟩=some (.slice none 0 0):=HL6.out.r.cell 6
      have zf:∀ o,w6.frozen? ⟨w.heap.size+1,o,none⟩=false:=fun o=>zfH HL6.out.r
      have hsz:=HL6.out.size
      go_wp2_with fail
      have hrr:=(zhS (o:=6) (v:=.slice none 0 0) (zhS (o:=5) (v:=.int .i64 m) (zhS (o:=4) (v:=.int .i64 f2) (zhS (o:=3) (v:=.int .i64 f1) (zhS (o:=2) (v:=.int .i64 f0) (zhS (o:=1) (v:=.int .i64 x) (zhS (o:=0) (v:=.int .i64 op) HL6.out.r)))))))
      refine bodyPost_ret (v:=.agg #[.int .i64 op,.int .i64 x,.int .i64 f0,.int .i64 f1,.int .i64 f2,.int .i64 m,.slice none 0 0]) ((results_cell_row Tryz.results124 _ _ (w.heap.size+1) 95 _ (0,0) _ rfl hrr Tryz.underlying95 rfl (by kernel_rfl)).trans (by rfl)) rfl ⟨.inl ⟨_,HSo.out,?_⟩,?_⟩
      ·rw[HMk.out]
       exact⟨none,0,rfl,Row.nil _ _⟩
      ·exact (by repeat (first|refine Below.setCell ?_ (by dsimp only;omega) _|exact HL6.out.below))
     ·have HNo:Hid (_=none):=HOF.out.trans (by unfold finN;rw[if_neg (by rintro (k|k);exact h26 k;exact hc k)])
      have HB6:Hid (Below w.heap.size w w6):=HL6.out.below
      clear hc h26
      go_wp2_with fail
      exact⟨rfl,.inr ⟨HNo.out,rfl⟩,HB6.out⟩
  | false =>
   have HOF:Hid (ofNums op (x :: r)=finN op x 0 r):=by show _=_;simp[ofNums,him]
   have hlr:r.length≤1048576:=by omega
   have P:=immZ (w.heap.size+2) op w3 him
   clear him
   go_wp2_with fail
   refine P.mono ?_
   rintro e w9 ⟨rfl,h9⟩
   have h8:=h9.symm
   clear h9
   subst h8
   clear P
   go_wp2_with fail
   refine (restI (w.heap.size+2) r w3 HRw3.out hlr).mono ?_
   rintro e w5 ⟨v5,rfl,hR5,ho5⟩
   obtain⟨u5,c5,rfl⟩:=hR5.slice
   have HL5:Hid (Ls w w5):=HL3.out.only ho5
   have HR5:Hid (Row w5 w3.heap.size _ r):=hR5
   have hW5:w.heap.size+3≤w3.heap.size:=HL3.out.size
   clear hR5 ho5 HRw3
   by_cases h26:op=26
   ·subst h26
    have HSo:Hid (_=some (mkD 26 x 0 r)):=HOF.out.trans (by unfold finN;rw[if_pos (.inl rfl)])
    have P:=instOf26 x 0 u5 c5 r w5
    go_wp2_with fail
    refine P.mono ?_
    rintro e w6 ⟨rfl,b6⟩
    have HL6:Hid (Ls w w6):=HL5.out.keep b6
    have HR6:Hid (Row w6 w3.heap.size _ r):=Row.keep HR5.out b6
    clear P b6 HL5 HR5
    have z0:w6.cell? ⟨w.heap.size+1,0,none⟩=some (.int .i64 0):=HL6.out.r.cell 0
    have z1:w6.cell? ⟨w.heap.size+1,1,none⟩=some (.int .i64 0):=HL6.out.r.cell 1
    have z2:w6.cell? ⟨w.heap.size+1,2,none⟩=some (.int .i64 0):=HL6.out.r.cell 2
    have z3:w6.cell? ⟨w.heap.size+1,3,none⟩=some (.int .i64 0):=HL6.out.r.cell 3
    have z4:w6.cell? ⟨w.heap.size+1,4,none⟩=some (.int .i64 0):=HL6.out.r.cell 4
    have z5:w6.cell? ⟨w.heap.size+1,5,none⟩=some (.int .i64 0):=HL6.out.r.cell 5
    have z6:w6.cell? ⟨w.heap.size+1,6,none⟩=some (.slice none 0 0):=HL6.out.r.cell 6
    have zf:∀ o,w6.frozen? ⟨w.heap.size+1,o,none⟩=false:=fun o=>zfH HL6.out.r
    have hsz:=HL6.out.size
    go_wp2_with fail
    have hrr:=(zhS (o:=6) (v:=.slice u5 r.length c5) (zhS (o:=5) (v:=.int .i64 0) (zhS (o:=4) (v:=.int .i64 0) (zhS (o:=3) (v:=.int .i64 0) (zhS (o:=2) (v:=.int .i64 0) (zhS (o:=1) (v:=.int .i64 x) (zhS (o:=0) (v:=.int .i64 26) HL6.out.r)))))))
    refine bodyPost_ret (v:=.agg #[.int .i64 26,.int .i64 x,.int .i64 0,.int .i64 0,.int .i64 0,.int .i64 0,.slice u5 r.length c5]) ((results_cell_row Tryz.results124 _ _ (w.heap.size+1) 95 _ (0,0) _ rfl hrr Tryz.underlying95 rfl (by kernel_rfl)).trans (by rfl)) rfl ⟨.inl ⟨_,HSo.out,?_⟩,?_⟩
    ·exact⟨u5,c5,rfl,(row_set7 HR6.out (by omega)).low (by omega)⟩
    ·exact (by repeat (first|refine Below.setCell ?_ (by dsimp only;omega) _|exact HL6.out.below))
   ·have P:=instOfG op x 0 w3.heap.size u5 c5 r w5 a h26 hlr (by obtain⟨q1,q2,q3,q4⟩:=HR5.out.ints (by omega);cases q3;exact q4) (HGV.out.keep HL5.out.below)
    go_wp2_with fail
    refine P.mono ?_
    rintro e w6 ⟨hc,b6⟩
    have HL6:Hid (Ls w w6):=HL5.out.keep b6
    clear P b6 HL5 HR5
    rcases hc with⟨hc,rfl⟩|⟨hc,rfl⟩
    ·have HSo:Hid (_=some (mkD op x 0 r)):=HOF.out.trans (by unfold finN;rw[if_pos (.inr hc)])
     have HMk:Hid (mkD op x 0 r=⟨op,x,r.getD 0 0,r.getD 1 0,r.getD 2 0,0,[]⟩):=by show _=_;unfold mkD;rw[if_neg h26]
     clear hc h26
     generalize r.getD 0 0=f0 at HMk ⊢
     generalize r.getD 1 0=f1 at HMk ⊢
     generalize r.getD 2 0=f2 at HMk ⊢
     have z0:w6.cell? ⟨w.heap.size+1,0,none⟩=some (.int .i64 0):=HL6.out.r.cell 0
     have z1:w6.cell? ⟨w.heap.size+1,1,none⟩=some (.int .i64 0):=HL6.out.r.cell 1
     have z2:w6.cell? ⟨w.heap.size+1,2,none⟩=some (.int .i64 0):=HL6.out.r.cell 2
     have z3:w6.cell? ⟨w.heap.size+1,3,none⟩=some (.int .i64 0):=HL6.out.r.cell 3
     have z4:w6.cell? ⟨w.heap.size+1,4,none⟩=some (.int .i64 0):=HL6.out.r.cell 4
     have z5:w6.cell? ⟨w.heap.size+1,5,none⟩=some (.int .i64 0):=HL6.out.r.cell 5
     have z6:w6.cell? ⟨w.heap.size+1,6,none⟩=some (.slice none 0 0):=HL6.out.r.cell 6
     have zf:∀ o,w6.frozen? ⟨w.heap.size+1,o,none⟩=false:=fun o=>zfH HL6.out.r
     have hsz:=HL6.out.size
     go_wp2_with fail
     have hrr:=(zhS (o:=6) (v:=.slice none 0 0) (zhS (o:=5) (v:=.int .i64 0) (zhS (o:=4) (v:=.int .i64 f2) (zhS (o:=3) (v:=.int .i64 f1) (zhS (o:=2) (v:=.int .i64 f0) (zhS (o:=1) (v:=.int .i64 x) (zhS (o:=0) (v:=.int .i64 op) HL6.out.r)))))))
     refine bodyPost_ret (v:=.agg #[.int .i64 op,.int .i64 x,.int .i64 f0,.int .i64 f1,.int .i64 f2,.int .i64 0,.slice none 0 0]) ((results_cell_row Tryz.results124 _ _ (w.heap.size+1) 95 _ (0,0) _ rfl hrr Tryz.underlying95 rfl (by kernel_rfl)).trans (by rfl)) rfl ⟨.inl ⟨_,HSo.out,?_⟩,?_⟩
     ·rw[HMk.out]
      exact⟨none,0,rfl,Row.nil _ _⟩
     ·exact (by repeat (first|refine Below.setCell ?_ (by dsimp only;omega) _|exact HL6.out.below))
    ·have HNo:Hid (_=none):=HOF.out.trans (by unfold finN;rw[if_neg (by rintro (k|k);exact h26 k;exact hc k)])
     have HB6:Hid (Below w.heap.size w w6):=HL6.out.below
     clear hc h26
     go_wp2_with fail
     exact⟨rfl,.inr ⟨HNo.out,rfl⟩,HB6.out⟩
end Go.Proofs.YtkpmiikafconmaaGreatDoor
