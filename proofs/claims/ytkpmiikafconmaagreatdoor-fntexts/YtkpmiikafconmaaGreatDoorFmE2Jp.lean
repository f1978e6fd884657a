import Derived.Test.YtkpmiikafconmaaGreatDoorFmEJp
namespace Go.Proofs.YtkpmiikafconmaaGreatDoor
open Go.RowKit
set_option maxHeartbeats 2000000
set_option maxRecDepth 100000
set_option linter.unusedVariables false
theorem instShS_21(iw a b c imm:Int)(u:Option Addr)(q:Nat)(ids funcs:Int)(w:World)(g0:0≤ids)(g1:ids≤4611686018427387904)(g2:0≤funcs)(g3:funcs≤4611686018427387904) :
  Calls Tryz.prog 87 #[.agg #[.int .i64 21,.int .i64 iw,.int .i64 a,.int .i64 b,.int .i64 c,.int .i64 imm,.slice u 0 q],.int .i64 ids,.int .i64 funcs] w fun e w'=>e=.returned (.bool (zIn ⟨21,iw,a,b,c,imm,[]⟩ ids funcs))∧Below w.heap.size w w':=by
 generalize hV:zIn ⟨21,iw,a,b,c,imm,[]⟩ ids funcs=V
 have E:opsD ⟨21,iw,a,b,c,imm,[]⟩=[]:=rfl
 have HI:Hid (([]).all (fun n=>zBw n ids)=true→V=(zWd iw&&valueB iw imm&&a==0&&b==0&&c==0)):=fun hall=>by
  rw[←hV]
  unfold zIn wB iB fB
  rw[E,hall]
  first|(simp;done)|(simp;ac_rfl)
 have HJ:Hid (([]).all (fun n=>zBw n ids)=false→V=false):=fun hall=>by
  rw[←hV]
  unfold zIn
  rw[E,hall]
  simp
 have O:=fun w=>operS 0 ⟨21,iw,a,b,c,imm,[]⟩ u q w (by simp) ⟨by simp,.inl rfl⟩
 rw[E] at O
 dsimp only[List.length_nil,List.length_cons] at O
 clear E hV
 go_enter Tryz.func87,Tryz.ntmps87
 go_wp2_with fail
 refine (inS _ _ _ _).mono ?_
 rintro e w' ⟨rfl,rfl⟩
 go_wp2_with fail
 refine (O _).mono ?_
 rintro e w1 ⟨v,r,rfl,ho,hb1⟩
 obtain⟨x0,x1,x2,x3,x4,x5,x6,hB⟩:=cells7 hb1
 have HO:=ho.ints
 clear ho hb1 O
 go_wp2_with fail
 go_loop [8] (fun i=>∃ k:Nat,k≤0∧i=.int .i64 k∧Hid (∀ j,j<k→zBw (([]).getD j 0) ids=true)) (fun i=>0-(intOf i).toNat)
 case atStart=>exact⟨0,by omega,rfl,fun j hj=>by omega⟩
 case round =>
  obtain⟨k,hk9,rfl,HD⟩:=hrel
  by_cases hlt:k<0
  ·exact absurd hlt (by omega)
  ·have hall:=all_yes 0 (f:=fun n=>zBw n ids) ([]) (fun j hj=>HD.out j (by first|omega|(simp at hj;done)|(simp at hj;omega)))
   have HK:Hid (V=(zWd iw&&valueB iw imm&&a==0&&b==0&&c==0)):=HI.out hall
   clear hall HI HJ HD HO
   go_wp2_with (first|(go_at_call 86;refine (widthS _ _).mono ?_;rintro e w' ⟨rfl,rfl⟩)|(go_at_call 126;refine (valueS _ _ _).mono ?_;rintro e w' ⟨rfl,rfl⟩)|(go_at_call 49;refine (inB _ _ _).mono ?_;rintro e w' ⟨rfl,rfl⟩))
   all_goals
    go_ret
    refine⟨zrB ?_,hB⟩
    have hk:=HK.out
    have hw0:=width0
    have hw8:=width8
    clear HK
    first|(simp_all;done)|(simp_all;omega)|(by_cases h8:iw=8<;>by_cases h0:iw=0<;>simp_all;done)
theorem instShS_22(iw a b c imm:Int)(u:Option Addr)(q:Nat)(ids funcs:Int)(w:World)(g0:0≤ids)(g1:ids≤4611686018427387904)(g2:0≤funcs)(g3:funcs≤4611686018427387904) :
  Calls Tryz.prog 87 #[.agg #[.int .i64 22,.int .i64 iw,.int .i64 a,.int .i64 b,.int .i64 c,.int .i64 imm,.slice u 0 q],.int .i64 ids,.int .i64 funcs] w fun e w'=>e=.returned (.bool (zIn ⟨22,iw,a,b,c,imm,[]⟩ ids funcs))∧Below w.heap.size w w':=by
 generalize hV:zIn ⟨22,iw,a,b,c,imm,[]⟩ ids funcs=V
 have E:opsD ⟨22,iw,a,b,c,imm,[]⟩=[a,b,c]:=rfl
 have HI:Hid (([a,b,c]).all (fun n=>zBw n ids)=true→V=(zWd iw&&imm==0)):=fun hall=>by
  rw[←hV]
  unfold zIn wB iB fB
  rw[E,hall]
  first|(simp;done)|(simp;ac_rfl)
 have HJ:Hid (([a,b,c]).all (fun n=>zBw n ids)=false→V=false):=fun hall=>by
  rw[←hV]
  unfold zIn
  rw[E,hall]
  simp
 have O:=fun w=>operS 0 ⟨22,iw,a,b,c,imm,[]⟩ u q w (by simp) ⟨by simp,.inl rfl⟩
 rw[E] at O
 dsimp only[List.length_nil,List.length_cons] at O
 clear E hV
 go_enter Tryz.func87,Tryz.ntmps87
 go_wp2_with fail
 refine (inS _ _ _ _).mono ?_
 rintro e w' ⟨rfl,rfl⟩
 go_wp2_with fail
 refine (O _).mono ?_
 rintro e w1 ⟨v,r,rfl,ho,hb1⟩
 obtain⟨x0,x1,x2,x3,x4,x5,x6,hB⟩:=cells7 hb1
 have HO:=ho.ints
 clear ho hb1 O
 go_wp2_with fail
 go_loop [8] (fun i=>∃ k:Nat,k≤3∧i=.int .i64 k∧Hid (∀ j,j<k→zBw (([a,b,c]).getD j 0) ids=true)) (fun i=>3-(intOf i).toNat)
 case atStart=>exact⟨0,by omega,rfl,fun j hj=>by omega⟩
 case round =>
  obtain⟨k,hk9,rfl,HD⟩:=hrel
  by_cases hlt:k<3
  ·rcases HO.2 with hn|⟨bb,off,rfl,hlo,hb,hcell⟩
   ·cases hn
   have e0:=hcell k (by simpa using hlt)
   generalize hx:([a,b,c]).getD k 0=x at e0
   have HX:Hid (([a,b,c]).getD k 0=x):=hx
   clear hcell hx HO
   cases hp:zBw x ids with
   | true =>
    have HP:Hid (zBw x ids=true):=hp
    go_wp2_with (go_at_call 49;refine (inB _ _ _).mono ?_;rintro e w' ⟨rfl,rfl⟩)
    exact⟨⟨k+1,by omega,by go_num,fun j hj=>by
     by_cases e:j=k
     ·subst e;rw[HX.out];exact HP.out
     ·exact HD.out j (by omega)⟩,by simp only[intOf];omega⟩
   | false =>
    have HP:Hid (zBw x ids=false):=hp
    go_wp2_with (go_at_call 49;refine (inB _ _ _).mono ?_;rintro e w' ⟨rfl,rfl⟩)
    go_ret
    refine⟨zrB ?_,hB⟩
    rw[HJ.out (all_no 0 ([a,b,c]) k (by simpa using hlt) (by rw[HX.out,HP.out];decide))]
  ·have hall:=all_yes 0 (f:=fun n=>zBw n ids) ([a,b,c]) (fun j hj=>HD.out j (by first|omega|(simp at hj;done)|(simp at hj;omega)))
   have HK:Hid (V=(zWd iw&&imm==0)):=HI.out hall
   clear hall HI HJ HD HO
   go_wp2_with (first|(go_at_call 86;refine (widthS _ _).mono ?_;rintro e w' ⟨rfl,rfl⟩)|(go_at_call 126;refine (valueS _ _ _).mono ?_;rintro e w' ⟨rfl,rfl⟩)|(go_at_call 49;refine (inB _ _ _).mono ?_;rintro e w' ⟨rfl,rfl⟩))
   all_goals
    go_ret
    refine⟨zrB ?_,hB⟩
    have hk:=HK.out
    have hw0:=width0
    have hw8:=width8
    clear HK
    first|(simp_all;done)|(simp_all;omega)|(by_cases h8:iw=8<;>by_cases h0:iw=0<;>simp_all;done)
theorem instShS_23(iw a b c imm:Int)(u:Option Addr)(q:Nat)(ids funcs:Int)(w:World)(g0:0≤ids)(g1:ids≤4611686018427387904)(g2:0≤funcs)(g3:funcs≤4611686018427387904) :
  Calls Tryz.prog 87 #[.agg #[.int .i64 23,.int .i64 iw,.int .i64 a,.int .i64 b,.int .i64 c,.int .i64 imm,.slice u 0 q],.int .i64 ids,.int .i64 funcs] w fun e w'=>e=.returned (.bool (zIn ⟨23,iw,a,b,c,imm,[]⟩ ids funcs))∧Below w.heap.size w w':=by
 generalize hV:zIn ⟨23,iw,a,b,c,imm,[]⟩ ids funcs=V
 have E:opsD ⟨23,iw,a,b,c,imm,[]⟩=[a]:=rfl
 have HI:Hid (([a]).all (fun n=>zBw n ids)=true→V=(iw==8&&imm==0&&b==0&&c==0)):=fun hall=>by
  rw[←hV]
  unfold zIn wB iB fB
  rw[E,hall]
  first|(simp;done)|(simp;ac_rfl)
 have HJ:Hid (([a]).all (fun n=>zBw n ids)=false→V=false):=fun hall=>by
  rw[←hV]
  unfold zIn
  rw[E,hall]
  simp
 have O:=fun w=>operS 0 ⟨23,iw,a,b,c,imm,[]⟩ u q w (by simp) ⟨by simp,.inl rfl⟩
 rw[E] at O
 dsimp only[List.length_nil,List.length_cons] at O
 clear E hV
 go_enter Tryz.func87,Tryz.ntmps87
 go_wp2_with fail
 refine (inS _ _ _ _).mono ?_
 rintro e w' ⟨rfl,rfl⟩
 go_wp2_with fail
 refine (O _).mono ?_
 rintro e w1 ⟨v,r,rfl,ho,hb1⟩
 obtain⟨x0,x1,x2,x3,x4,x5,x6,hB⟩:=cells7 hb1
 have HO:=ho.ints
 clear ho hb1 O
 go_wp2_with fail
 go_loop [8] (fun i=>∃ k:Nat,k≤1∧i=.int .i64 k∧Hid (∀ j,j<k→zBw (([a]).getD j 0) ids=true)) (fun i=>1-(intOf i).toNat)
 case atStart=>exact⟨0,by omega,rfl,fun j hj=>by omega⟩
 case round =>
  obtain⟨k,hk9,rfl,HD⟩:=hrel
  by_cases hlt:k<1
  ·rcases HO.2 with hn|⟨bb,off,rfl,hlo,hb,hcell⟩
   ·cases hn
   have e0:=hcell k (by simpa using hlt)
   generalize hx:([a]).getD k 0=x at e0
   have HX:Hid (([a]).getD k 0=x):=hx
   clear hcell hx HO
   cases hp:zBw x ids with
   | true =>
    have HP:Hid (zBw x ids=true):=hp
    go_wp2_with (go_at_call 49;refine (inB _ _ _).mono ?_;rintro e w' ⟨rfl,rfl⟩)
    exact⟨⟨k+1,by omega,by go_num,fun j hj=>by
     by_cases e:j=k
     ·subst e;rw[HX.out];exact HP.out
     ·exact HD.out j (by omega)⟩,by simp only[intOf];omega⟩
   | false =>
    have HP:Hid (zBw x ids=false):=hp
    go_wp2_with (go_at_call 49;refine (inB _ _ _).mono ?_;rintro e w' ⟨rfl,rfl⟩)
    go_ret
    refine⟨zrB ?_,hB⟩
    rw[HJ.out (all_no 0 ([a]) k (by simpa using hlt) (by rw[HX.out,HP.out];decide))]
  ·have hall:=all_yes 0 (f:=fun n=>zBw n ids) ([a]) (fun j hj=>HD.out j (by first|omega|(simp at hj;done)|(simp at hj;omega)))
   have HK:Hid (V=(iw==8&&imm==0&&b==0&&c==0)):=HI.out hall
   clear hall HI HJ HD HO
   go_wp2_with (first|(go_at_call 86;refine (widthS _ _).mono ?_;rintro e w' ⟨rfl,rfl⟩)|(go_at_call 126;refine (valueS _ _ _).mono ?_;rintro e w' ⟨rfl,rfl⟩)|(go_at_call 49;refine (inB _ _ _).mono ?_;rintro e w' ⟨rfl,rfl⟩))
   all_goals
    go_ret
    refine⟨zrB ?_,hB⟩
    have hk:=HK.out
    have hw0:=width0
    have hw8:=width8
    clear HK
    first|(simp_all;done)|(simp_all;omega)|(by_cases h8:iw=8<;>by_cases h0:iw=0<;>simp_all;done)
end Go.Proofs.YtkpmiikafconmaaGreatDoor
