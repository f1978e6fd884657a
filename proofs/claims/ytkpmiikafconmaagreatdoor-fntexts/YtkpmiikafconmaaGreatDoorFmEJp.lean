import Derived.Test.YtkpmiikafconmaaGreatDoorFmDJp
namespace Go.Proofs.YtkpmiikafconmaaGreatDoor
open Go.RowKit
set_option maxHeartbeats 2000000
set_option maxRecDepth 100000
set_option linter.unusedVariables false
theorem width0:zWd 0=false:=by decide
theorem width8:zWd 8=true:=by decide
theorem cells7{w w':World}{o0 o1 o2 o3 o4 o5 o6:Value}{T:TypeId}(h:Below (w.alloc (.cells #[o0,o1,o2,o3,o4,o5,o6] T)).heap.size (w.alloc (.cells #[o0,o1,o2,o3,o4,o5,o6] T)) w') :
  w'.cell? ⟨w.heap.size,0,none⟩=some o0∧w'.cell? ⟨w.heap.size,1,none⟩=some o1∧w'.cell? ⟨w.heap.size,2,none⟩=some o2∧w'.cell? ⟨w.heap.size,3,none⟩=some o3∧w'.cell? ⟨w.heap.size,4,none⟩=some o4∧w'.cell? ⟨w.heap.size,5,none⟩=some o5∧w'.cell? ⟨w.heap.size,6,none⟩=some o6∧Below w.heap.size w w':=by
 have hb:=(h.block w.heap.size (by simp)).trans (zhL _ _)
 exact⟨(zcH hb).trans rfl,(zcH hb).trans rfl,(zcH hb).trans rfl,(zcH hb).trans rfl,(zcH hb).trans rfl,(zcH hb).trans rfl,(zcH hb).trans rfl,((Below.refl _ _).alloc (Nat.le_refl _) _).trans (h.mono (by simp))⟩
theorem instShS_18(iw a b c imm:Int)(u:Option Addr)(q:Nat)(ids funcs:Int)(w:World)(g0:0≤ids)(g1:ids≤4611686018427387904)(g2:0≤funcs)(g3:funcs≤4611686018427387904) :
  Calls Tryz.prog 87 #[.agg #[.int .i64 18,.int .i64 iw,.int .i64 a,.int .i64 b,.int .i64 c,.int .i64 imm,.slice u 0 q],.int .i64 ids,.int .i64 funcs] w fun e w'=>e=.returned (.bool (zIn ⟨18,iw,a,b,c,imm,[]⟩ ids funcs))∧Below w.heap.size w w':=by
 generalize hV:zIn ⟨18,iw,a,b,c,imm,[]⟩ ids funcs=V
 have E:opsD ⟨18,iw,a,b,c,imm,[]⟩=[a]:=rfl
 have HI:Hid (([a]).all (fun n=>zBw n ids)=true→V=(zWd iw&&imm==0&&b==0&&c==0)):=fun hall=>by
  rw[←hV]
  unfold zIn wB iB fB
  rw[E,hall]
  first|(simp;done)|(simp;ac_rfl)
 have HJ:Hid (([a]).all (fun n=>zBw n ids)=false→V=false):=fun hall=>by
  rw[←hV]
  unfold zIn
  rw[E,hall]
  simp
 have O:=fun w=>operS 0 ⟨18,iw,a,b,c,imm,[]⟩ u q w (by simp) ⟨by simp,.inl rfl⟩
 rw[E] at O
 dsimp only[List.length_nil,List.length_cons] at O
 clear E hV
 go_enter Tryz.func87,Tryz.ntmps87
 go_wp2_with fail
 refine (inS _ _ _ _).mono ?_
 rintro e w' ⟨rfl,rfl⟩
 go_wp2_with fail
 refine (O _).mono ?_
 rintro e w1 ⟨v,r,rfl,ho,hb1⟩
 obtain⟨x0,x1,x2,x3,x4,x5,x6,hB⟩:=cells7 hb1
 have HO:=ho.ints
 clear ho hb1 O
 go_wp2_with fail
 go_loop [8] (fun i=>∃ k:Nat,k≤1∧i=.int .i64 k∧Hid (∀ j,j<k→zBw (([a]).getD j 0) ids=true)) (fun i=>1-(intOf i).toNat)
 case atStart=>exact⟨0,by omega,rfl,fun j hj=>by omega⟩
 case round =>
  obtain⟨k,hk9,rfl,HD⟩:=hrel
  by_cases hlt:k<1
  ·rcases HO.2 with hn|⟨bb,off,rfl,hlo,hb,hcell⟩
   ·cases hn
   have e0:=hcell k (by simpa using hlt)
   generalize hx:([a]).getD k 0=x at e0
   have HX:Hid (([a]).getD k 0=x):=hx
   clear hcell hx HO
   cases hp:zBw x ids with
   | true =>
    have HP:Hid (zBw x ids=true):=hp
    go_wp2_with (go_at_call 49;refine (inB _ _ _).mono ?_;rintro e w' ⟨rfl,rfl⟩)
    exact⟨⟨k+1,by omega,by go_num,fun j hj=>by
     by_cases e:j=k
     ·subst e;rw[HX.out];exact HP.out
     ·exact HD.out j (by omega)⟩,by simp only[intOf];omega⟩
   | false =>
    have HP:Hid (zBw x ids=false):=hp
    go_wp2_with (go_at_call 49;refine (inB _ _ _).mono ?_;rintro e w' ⟨rfl,rfl⟩)
    go_ret
    refine⟨zrB ?_,hB⟩
    rw[HJ.out (all_no 0 ([a]) k (by simpa using hlt) (by rw[HX.out,HP.out];decide))]
  ·have hall:=all_yes 0 (f:=fun n=>zBw n ids) ([a]) (fun j hj=>HD.out j (by first|omega|(simp at hj;done)|(simp at hj;omega)))
   have HK:Hid (V=(zWd iw&&imm==0&&b==0&&c==0)):=HI.out hall
   clear hall HI HJ HD HO
   go_wp2_with (first|(go_at_call 86;refine (widthS _ _).mono ?_;rintro e w' ⟨rfl,rfl⟩)|(go_at_call 126;refine (valueS _ _ _).mono ?_;rintro e w' ⟨rfl,rfl⟩)|(go_at_call 49;refine (inB _ _ _).mono ?_;rintro e w' ⟨rfl,rfl⟩))
   all_goals
    go_ret
    refine⟨zrB ?_,hB⟩
    have hk:=HK.out
    have hw0:=width0
    have hw8:=width8
    clear HK
    first|(simp_all;done)|(simp_all;omega)|(by_cases h8:iw=8<;>by_cases h0:iw=0<;>simp_all;done)
theorem instShS_19(iw a b c imm:Int)(u:Option Addr)(q:Nat)(ids funcs:Int)(w:World)(g0:0≤ids)(g1:ids≤4611686018427387904)(g2:0≤funcs)(g3:funcs≤4611686018427387904) :
  Calls Tryz.prog 87 #[.agg #[.int .i64 19,.int .i64 iw,.int .i64 a,.int .i64 b,.int .i64 c,.int .i64 imm,.slice u 0 q],.int .i64 ids,.int .i64 funcs] w fun e w'=>e=.returned (.bool (zIn ⟨19,iw,a,b,c,imm,[]⟩ ids funcs))∧Below w.heap.size w w':=by
 generalize hV:zIn ⟨19,iw,a,b,c,imm,[]⟩ ids funcs=V
 have E:opsD ⟨19,iw,a,b,c,imm,[]⟩=[a]:=rfl
 have HI:Hid (([a]).all (fun n=>zBw n ids)=true→V=(zWd iw&&imm==0&&b==0&&c==0)):=fun hall=>by
  rw[←hV]
  unfold zIn wB iB fB
  rw[E,hall]
  first|(simp;done)|(simp;ac_rfl)
 have HJ:Hid (([a]).all (fun n=>zBw n ids)=false→V=false):=fun hall=>by
  rw[←hV]
  unfold zIn
  rw[E,hall]
  simp
 have O:=fun w=>operS 0 ⟨19,iw,a,b,c,imm,[]⟩ u q w (by simp) ⟨by simp,.inl rfl⟩
 rw[E] at O
 dsimp only[List.length_nil,List.length_cons] at O
 clear E hV
 go_enter Tryz.func87,Tryz.ntmps87
 go_wp2_with fail
 refine (inS _ _ _ _).mono ?_
 rintro e w' ⟨rfl,rfl⟩
 go_wp2_with fail
 refine (O _).mono ?_
 rintro e w1 ⟨v,r,rfl,ho,hb1⟩
 obtain⟨x0,x1,x2,x3,x4,x5,x6,hB⟩:=cells7 hb1
 have HO:=ho.ints
 clear ho hb1 O
 go_wp2_with fail
 go_loop [8] (fun i=>∃ k:Nat,k≤1∧i=.int .i64 k∧Hid (∀ j,j<k→zBw (([a]).getD j 0) ids=true)) (fun i=>1-(intOf i).toNat)
 case atStart=>exact⟨0,by omega,rfl,fun j hj=>by omega⟩
 case round =>
  obtain⟨k,hk9,rfl,HD⟩:=hrel
  by_cases hlt:k<1
  ·rcases HO.2 with hn|⟨bb,off,rfl,hlo,hb,hcell⟩
   ·cases hn
   have e0:=hcell k (by simpa using hlt)
   generalize hx:([a]).getD k 0=x at e0
   have HX:Hid (([a]).getD k 0=x):=hx
   clear hcell hx HO
   cases hp:zBw x ids with
   | true =>
    have HP:Hid (zBw x ids=true):=hp
    go_wp2_with (go_at_call 49;refine (inB _ _ _).mono ?_;rintro e w' ⟨rfl,rfl⟩)
    exact⟨⟨k+1,by omega,by go_num,fun j hj=>by
     by_cases e:j=k
     ·subst e;rw[HX.out];exact HP.out
     ·exact HD.out j (by omega)⟩,by simp only[intOf];omega⟩
   | false =>
    have HP:Hid (zBw x ids=false):=hp
    go_wp2_with (go_at_call 49;refine (inB _ _ _).mono ?_;rintro e w' ⟨rfl,rfl⟩)
    go_ret
    refine⟨zrB ?_,hB⟩
    rw[HJ.out (all_no 0 ([a]) k (by simpa using hlt) (by rw[HX.out,HP.out];decide))]
  ·have hall:=all_yes 0 (f:=fun n=>zBw n ids) ([a]) (fun j hj=>HD.out j (by first|omega|(simp at hj;done)|(simp at hj;omega)))
   have HK:Hid (V=(zWd iw&&imm==0&&b==0&&c==0)):=HI.out hall
   clear hall HI HJ HD HO
   go_wp2_with (first|(go_at_call 86;refine (widthS _ _).mono ?_;rintro e w' ⟨rfl,rfl⟩)|(go_at_call 126;refine (valueS _ _ _).mono ?_;rintro e w' ⟨rfl,rfl⟩)|(go_at_call 49;refine (inB _ _ _).mono ?_;rintro e w' ⟨rfl,rfl⟩))
   all_goals
    go_ret
    refine⟨zrB ?_,hB⟩
    have hk:=HK.out
    have hw0:=width0
    have hw8:=width8
    clear HK
    first|(simp_all;done)|(simp_all;omega)|(by_cases h8:iw=8<;>by_cases h0:iw=0<;>simp_all;done)
theorem instShS_20(iw a b c imm:Int)(u:Option Addr)(q:Nat)(ids funcs:Int)(w:World)(g0:0≤ids)(g1:ids≤4611686018427387904)(g2:0≤funcs)(g3:funcs≤4611686018427387904) :
  Calls Tryz.prog 87 #[.agg #[.int .i64 20,.int .i64 iw,.int .i64 a,.int .i64 b,.int .i64 c,.int .i64 imm,.slice u 0 q],.int .i64 ids,.int .i64 funcs] w fun e w'=>e=.returned (.bool (zIn ⟨20,iw,a,b,c,imm,[]⟩ ids funcs))∧Below w.heap.size w w':=by
 generalize hV:zIn ⟨20,iw,a,b,c,imm,[]⟩ ids funcs=V
 have E:opsD ⟨20,iw,a,b,c,imm,[]⟩=[a]:=rfl
 have HI:Hid (([a]).all (fun n=>zBw n ids)=true→V=(zWd iw&&imm==0&&b==0&&c==0)):=fun hall=>by
  rw[←hV]
  unfold zIn wB iB fB
  rw[E,hall]
  first|(simp;done)|(simp;ac_rfl)
 have HJ:Hid (([a]).all (fun n=>zBw n ids)=false→V=false):=fun hall=>by
  rw[←hV]
  unfold zIn
  rw[E,hall]
  simp
 have O:=fun w=>operS 0 ⟨20,iw,a,b,c,imm,[]⟩ u q w (by simp) ⟨by simp,.inl rfl⟩
 rw[E] at O
 dsimp only[List.length_nil,List.length_cons] at O
 clear E hV
 go_enter Tryz.func87,Tryz.ntmps87
 go_wp2_with fail
 refine (inS _ _ _ _).mono ?_
 rintro e w' ⟨rfl,rfl⟩
 go_wp2_with fail
 refine (O _).mono ?_
 rintro e w1 ⟨v,r,rfl,ho,hb1⟩
 obtain⟨x0,x1,x2,x3,x4,x5,x6,hB⟩:=cells7 hb1
 have HO:=ho.ints
 clear ho hb1 O
 go_wp2_with fail
 go_loop [8] (fun i=>∃ k:Nat,k≤1∧i=.int .i64 k∧Hid (∀ j,j<k→zBw (([a]).getD j 0) ids=true)) (fun i=>1-(intOf i).toNat)
 case atStart=>exact⟨0,by omega,rfl,fun j hj=>by omega⟩
 case round =>
  obtain⟨k,hk9,rfl,HD⟩:=hrel
  by_cases hlt:k<1
  ·rcases HO.2 with hn|⟨bb,off,rfl,hlo,hb,hcell⟩
   ·cases hn
   have e0:=hcell k (by simpa using hlt)
   generalize hx:([a]).getD k 0=x at e0
   have HX:Hid (([a]).getD k 0=x):=hx
   clear hcell hx HO
   cases hp:zBw x ids with
   | true =>
    have HP:Hid (zBw x ids=true):=hp
    go_wp2_with (go_at_call 49;refine (inB _ _ _).mono ?_;rintro e w' ⟨rfl,rfl⟩)
    exact⟨⟨k+1,by omega,by go_num,fun j hj=>by
     by_cases e:j=k
     ·subst e;rw[HX.out];exact HP.out
     ·exact HD.out j (by omega)⟩,by simp only[intOf];omega⟩
   | false =>
    have HP:Hid (zBw x ids=false):=hp
    go_wp2_with (go_at_call 49;refine (inB _ _ _).mono ?_;rintro e w' ⟨rfl,rfl⟩)
    go_ret
    refine⟨zrB ?_,hB⟩
    rw[HJ.out (all_no 0 ([a]) k (by simpa using hlt) (by rw[HX.out,HP.out];decide))]
  ·have hall:=all_yes 0 (f:=fun n=>zBw n ids) ([a]) (fun j hj=>HD.out j (by first|omega|(simp at hj;done)|(simp at hj;omega)))
   have HK:Hid (V=(zWd iw&&imm==0&&b==0&&c==0)):=HI.out hall
   clear hall HI HJ HD HO
   go_wp2_with (first|(go_at_call 86;refine (widthS _ _).mono ?_;rintro e w' ⟨rfl,rfl⟩)|(go_at_call 126;refine (valueS _ _ _).mono ?_;rintro e w' ⟨rfl,rfl⟩)|(go_at_call 49;refine (inB _ _ _).mono ?_;rintro e w' ⟨rfl,rfl⟩))
   all_goals
    go_ret
    refine⟨zrB ?_,hB⟩
    have hk:=HK.out
    have hw0:=width0
    have hw8:=width8
    clear HK
    first|(simp_all;done)|(simp_all;omega)|(by_cases h8:iw=8<;>by_cases h0:iw=0<;>simp_all;done)
theorem instShS_27(iw a b c imm:Int)(u:Option Addr)(q:Nat)(ids funcs:Int)(w:World)(g0:0≤ids)(g1:ids≤4611686018427387904)(g2:0≤funcs)(g3:funcs≤4611686018427387904) :
  Calls Tryz.prog 87 #[.agg #[.int .i64 27,.int .i64 iw,.int .i64 a,.int .i64 b,.int .i64 c,.int .i64 imm,.slice u 0 q],.int .i64 ids,.int .i64 funcs] w fun e w'=>e=.returned (.bool (zIn ⟨27,iw,a,b,c,imm,[]⟩ ids funcs))∧Below w.heap.size w w':=by
 generalize hV:zIn ⟨27,iw,a,b,c,imm,[]⟩ ids funcs=V
 have E:opsD ⟨27,iw,a,b,c,imm,[]⟩=[a]:=rfl
 have HI:Hid (([a]).all (fun n=>zBw n ids)=true→V=(zWd iw&&imm==0&&b==0&&c==0)):=fun hall=>by
  rw[←hV]
  unfold zIn wB iB fB
  rw[E,hall]
  first|(simp;done)|(simp;ac_rfl)
 have HJ:Hid (([a]).all (fun n=>zBw n ids)=false→V=false):=fun hall=>by
  rw[←hV]
  unfold zIn
  rw[E,hall]
  simp
 have O:=fun w=>operS 0 ⟨27,iw,a,b,c,imm,[]⟩ u q w (by simp) ⟨by simp,.inl rfl⟩
 rw[E] at O
 dsimp only[List.length_nil,List.length_cons] at O
 clear E hV
 go_enter Tryz.func87,Tryz.ntmps87
 go_wp2_with fail
 refine (inS _ _ _ _).mono ?_
 rintro e w' ⟨rfl,rfl⟩
 go_wp2_with fail
 refine (O _).mono ?_
 rintro e w1 ⟨v,r,rfl,ho,hb1⟩
 obtain⟨x0,x1,x2,x3,x4,x5,x6,hB⟩:=cells7 hb1
 have HO:=ho.ints
 clear ho hb1 O
 go_wp2_with fail
 go_loop [8] (fun i=>∃ k:Nat,k≤1∧i=.int .i64 k∧Hid (∀ j,j<k→zBw (([a]).getD j 0) ids=true)) (fun i=>1-(intOf i).toNat)
 case atStart=>exact⟨0,by omega,rfl,fun j hj=>by omega⟩
 case round =>
  obtain⟨k,hk9,rfl,HD⟩:=hrel
  by_cases hlt:k<1
  ·rcases HO.2 with hn|⟨bb,off,rfl,hlo,hb,hcell⟩
   ·cases hn
   have e0:=hcell k (by simpa using hlt)
   generalize hx:([a]).getD k 0=x at e0
   have HX:Hid (([a]).getD k 0=x):=hx
   clear hcell hx HO
   cases hp:zBw x ids with
   | true =>
    have HP:Hid (zBw x ids=true):=hp
    go_wp2_with (go_at_call 49;refine (inB _ _ _).mono ?_;rintro e w' ⟨rfl,rfl⟩)
    exact⟨⟨k+1,by omega,by go_num,fun j hj=>by
     by_cases e:j=k
     ·subst e;rw[HX.out];exact HP.out
     ·exact HD.out j (by omega)⟩,by simp only[intOf];omega⟩
   | false =>
    have HP:Hid (zBw x ids=false):=hp
    go_wp2_with (go_at_call 49;refine (inB _ _ _).mono ?_;rintro e w' ⟨rfl,rfl⟩)
    go_ret
    refine⟨zrB ?_,hB⟩
    rw[HJ.out (all_no 0 ([a]) k (by simpa using hlt) (by rw[HX.out,HP.out];decide))]
  ·have hall:=all_yes 0 (f:=fun n=>zBw n ids) ([a]) (fun j hj=>HD.out j (by first|omega|(simp at hj;done)|(simp at hj;omega)))
   have HK:Hid (V=(zWd iw&&imm==0&&b==0&&c==0)):=HI.out hall
   clear hall HI HJ HD HO
   go_wp2_with (first|(go_at_call 86;refine (widthS _ _).mono ?_;rintro e w' ⟨rfl,rfl⟩)|(go_at_call 126;refine (valueS _ _ _).mono ?_;rintro e w' ⟨rfl,rfl⟩)|(go_at_call 49;refine (inB _ _ _).mono ?_;rintro e w' ⟨rfl,rfl⟩))
   all_goals
    go_ret
    refine⟨zrB ?_,hB⟩
    have hk:=HK.out
    have hw0:=width0
    have hw8:=width8
    clear HK
    first|(simp_all;done)|(simp_all;omega)|(by_cases h8:iw=8<;>by_cases h0:iw=0<;>simp_all;done)
theorem instShS_bin(op iw a b c imm:Int)(u:Option Addr)(q:Nat)(ids funcs:Int)(w:World)(g0:0≤ids)(g1:ids≤4611686018427387904)(g2:0≤funcs)(g3:funcs≤4611686018427387904)(h:opB op=true) :
  Calls Tryz.prog 87 #[.agg #[.int .i64 op,.int .i64 iw,.int .i64 a,.int .i64 b,.int .i64 c,.int .i64 imm,.slice u 0 q],.int .i64 ids,.int .i64 funcs] w fun e w'=>e=.returned (.bool (zIn ⟨op,iw,a,b,c,imm,[]⟩ ids funcs))∧Below w.heap.size w w':=by
 generalize hV:zIn ⟨op,iw,a,b,c,imm,[]⟩ ids funcs=V
 have e1:1≤op∧op≤17:=by simpa [opB] using h
 have E:opsD ⟨op,iw,a,b,c,imm,[]⟩=[a,b]:=by simp[opsD,h]
 have HI:Hid (([a,b]).all (fun n=>zBw n ids)=true→V=(zWd iw&&imm==0&&c==0)):=fun hall=>by
  rw[←hV]
  have f1:¬(op<1∨27<op):=by omega
  have f2:¬(op=24∨op=25):=by omega
  have f3:¬op=23:=by omega
  have f4:¬op=21:=by omega
  have f5:¬op=26:=by omega
  unfold zIn wB iB fB
  rw[E,hall]
  simp[f1,f2,f3,f4,f5]
  try ac_rfl
 have HJ:Hid (([a,b]).all (fun n=>zBw n ids)=false→V=false):=fun hall=>by
  rw[←hV]
  unfold zIn
  rw[E,hall]
  simp
 have d1:(decide (1≤op)&&decide (op≤27))=true:=by simp;omega
 have n1:¬op=24:=by omega
 have n2:¬op=25:=by omega
 have n3:¬op=26:=by omega
 have n4:¬op=21:=by omega
 have n5:¬op=23:=by omega
 have b24:(op==24)=false:=by simpa using n1
 have b25:(op==25)=false:=by simpa using n2
 have O:=fun w=>operS 0 ⟨op,iw,a,b,c,imm,[]⟩ u q w (by simp) ⟨by simp,.inl rfl⟩
 rw[E] at O
 dsimp only[List.length_nil,List.length_cons] at O
 clear E hV
 go_enter Tryz.func87,Tryz.ntmps87
 go_wp2_with fail
 refine (inS _ _ _ _).mono ?_
 rintro e w' ⟨rfl,rfl⟩
 rw[d1]
 go_wp2_with fail
 refine (O _).mono ?_
 rintro e w1 ⟨v,r,rfl,ho,hb1⟩
 obtain⟨x0,x1,x2,x3,x4,x5,x6,hB⟩:=cells7 hb1
 have HO:=ho.ints
 clear ho hb1 O
 go_wp2_with fail
 go_loop [8] (fun i=>∃ k:Nat,k≤2∧i=.int .i64 k∧Hid (∀ j,j<k→zBw (([a,b]).getD j 0) ids=true)) (fun i=>2-(intOf i).toNat)
 case atStart=>exact⟨0,by omega,rfl,fun j hj=>by omega⟩
 case round =>
  obtain⟨k,hk9,rfl,HD⟩:=hrel
  by_cases hlt:k<2
  ·rcases HO.2 with hn|⟨bb,off,rfl,hlo,hb,hcell⟩
   ·cases hn
   have e0:=hcell k (by simpa using hlt)
   generalize hx:([a,b]).getD k 0=x at e0
   have HX:Hid (([a,b]).getD k 0=x):=hx
   clear hcell hx HO
   cases hp:zBw x ids with
   | true =>
    have HP:Hid (zBw x ids=true):=hp
    go_wp2_with (go_at_call 49;refine (inB _ _ _).mono ?_;rintro e w' ⟨rfl,rfl⟩)
    exact⟨⟨k+1,by omega,by go_num,fun j hj=>by
     by_cases e:j=k
     ·subst e;rw[HX.out];exact HP.out
     ·exact HD.out j (by omega)⟩,by simp only[intOf];omega⟩
   | false =>
    have HP:Hid (zBw x ids=false):=hp
    go_wp2_with (go_at_call 49;refine (inB _ _ _).mono ?_;rintro e w' ⟨rfl,rfl⟩)
    go_ret
    refine⟨zrB ?_,hB⟩
    rw[HJ.out (all_no 0 ([a,b]) k (by simpa using hlt) (by rw[HX.out,HP.out];decide))]
  ·have hall:=all_yes 0 (f:=fun n=>zBw n ids) ([a,b]) (fun j hj=>HD.out j (by first|omega|(simp at hj;done)|(simp at hj;omega)))
   have HK:Hid (V=(zWd iw&&imm==0&&c==0)):=HI.out hall
   clear hall HI HJ HD HO
   go_wp2_with (first|(go_at_call 86;refine (widthS _ _).mono ?_;rintro e w' ⟨rfl,rfl⟩)|(go_at_call 126;refine (valueS _ _ _).mono ?_;rintro e w' ⟨rfl,rfl⟩)|(go_at_call 49;refine (inB _ _ _).mono ?_;rintro e w' ⟨rfl,rfl⟩))
   all_goals
    go_ret
    refine⟨zrB ?_,hB⟩
    have hk:=HK.out
    have hw0:=width0
    have hw8:=width8
    clear HK
    first|(simp_all;done)|(simp_all;omega)|(by_cases h8:iw=8<;>by_cases h0:iw=0<;>simp_all;done)
end Go.Proofs.YtkpmiikafconmaaGreatDoor
