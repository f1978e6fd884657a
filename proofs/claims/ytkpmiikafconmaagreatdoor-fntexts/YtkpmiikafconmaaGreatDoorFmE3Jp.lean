import Derived.Test.YtkpmiikafconmaaGreatDoorFmEJp
import Derived.Laws.CopyOwn
namespace Go.Proofs.YtkpmiikafconmaaGreatDoor
open Go.RowKit
set_option maxHeartbeats 2000000
set_option maxRecDepth 100000
set_option linter.unusedVariables false
theorem instShS_24(iw a b c imm:Int)(u:Option Addr)(q:Nat)(ids funcs:Int)(w:World)(g0:0≤ids)(g1:ids≤4611686018427387904)(g2:0≤funcs)(g3:funcs≤4611686018427387904) :
  Calls Tryz.prog 87 #[.agg #[.int .i64 24,.int .i64 iw,.int .i64 a,.int .i64 b,.int .i64 c,.int .i64 imm,.slice u 0 q],.int .i64 ids,.int .i64 funcs] w fun e w'=>e=.returned (.bool (zIn ⟨24,iw,a,b,c,imm,[]⟩ ids funcs))∧Below w.heap.size w w':=by
 generalize hV:zIn ⟨24,iw,a,b,c,imm,[]⟩ ids funcs=V
 have E:opsD ⟨24,iw,a,b,c,imm,[]⟩=[a,b]:=rfl
 have HI:Hid (([a,b]).all (fun n=>zBw n ids)=true→V=(iw==0&&imm==0&&c==0)):=fun hall=>by
  rw[←hV]
  unfold zIn wB iB fB
  rw[E,hall]
  first|(simp;done)|(simp;ac_rfl)
 have HJ:Hid (([a,b]).all (fun n=>zBw n ids)=false→V=false):=fun hall=>by
  rw[←hV]
  unfold zIn
  rw[E,hall]
  simp
 have O:=fun w=>operS 0 ⟨24,iw,a,b,c,imm,[]⟩ u q w (by simp) ⟨by simp,.inl rfl⟩
 rw[E] at O
 dsimp only[List.length_nil,List.length_cons] at O
 clear E hV
 go_enter Tryz.func87,Tryz.ntmps87
 go_wp2_with fail
 refine (inS _ _ _ _).mono ?_
 rintro e w' ⟨rfl,rfl⟩
 go_wp2_with fail
 refine (O _).mono ?_
 rintro e w1 ⟨v,r,rfl,ho,hb1⟩
 obtain⟨x0,x1,x2,x3,x4,x5,x6,hB⟩:=cells7 hb1
 have HO:=ho.ints
 clear ho hb1 O
 go_wp2_with fail
 go_loop [8] (fun i=>∃ k:Nat,k≤2∧i=.int .i64 k∧Hid (∀ j,j<k→zBw (([a,b]).getD j 0) ids=true)) (fun i=>2-(intOf i).toNat)
 case atStart=>exact⟨0,by omega,rfl,fun j hj=>by omega⟩
 case round =>
  obtain⟨k,hk9,rfl,HD⟩:=hrel
  by_cases hlt:k<2
  ·rcases HO.2 with hn|⟨bb,off,rfl,hlo,hb,hcell⟩
   ·cases hn
   have e0:=hcell k (by simpa using hlt)
   generalize hx:([a,b]).getD k 0=x at e0
   have HX:Hid (([a,b]).getD k 0=x):=hx
   clear hcell hx HO
   cases hp:zBw x ids with
   | true =>
    have HP:Hid (zBw x ids=true):=hp
    go_wp2_with (go_at_call 49;refine (inB _ _ _).mono ?_;rintro e w' ⟨rfl,rfl⟩)
    exact⟨⟨k+1,by omega,by go_num,fun j hj=>by
     by_cases e:j=k
     ·subst e;rw[HX.out];exact HP.out
     ·exact HD.out j (by omega)⟩,by simp only[intOf];omega⟩
   | false =>
    have HP:Hid (zBw x ids=false):=hp
    go_wp2_with (go_at_call 49;refine (inB _ _ _).mono ?_;rintro e w' ⟨rfl,rfl⟩)
    go_ret
    refine⟨zrB ?_,hB⟩
    rw[HJ.out (all_no 0 ([a,b]) k (by simpa using hlt) (by rw[HX.out,HP.out];decide))]
  ·have hall:=all_yes 0 (f:=fun n=>zBw n ids) ([a,b]) (fun j hj=>HD.out j (by first|omega|(simp at hj;done)|(simp at hj;omega)))
   have HK:Hid (V=(iw==0&&imm==0&&c==0)):=HI.out hall
   clear hall HI HJ HD HO
   go_wp2_with (first|(go_at_call 86;refine (widthS _ _).mono ?_;rintro e w' ⟨rfl,rfl⟩)|(go_at_call 126;refine (valueS _ _ _).mono ?_;rintro e w' ⟨rfl,rfl⟩)|(go_at_call 49;refine (inB _ _ _).mono ?_;rintro e w' ⟨rfl,rfl⟩))
   all_goals
    go_ret
    refine⟨zrB ?_,hB⟩
    have hk:=HK.out
    have hw0:=width0
    have hw8:=width8
    clear HK
    first|(simp_all;done)|(simp_all;omega)|(by_cases h8:iw=8<;>by_cases h0:iw=0<;>simp_all;done)
theorem instShS_25(iw a b c imm:Int)(u:Option Addr)(q:Nat)(ids funcs:Int)(w:World)(g0:0≤ids)(g1:ids≤4611686018427387904)(g2:0≤funcs)(g3:funcs≤4611686018427387904) :
  Calls Tryz.prog 87 #[.agg #[.int .i64 25,.int .i64 iw,.int .i64 a,.int .i64 b,.int .i64 c,.int .i64 imm,.slice u 0 q],.int .i64 ids,.int .i64 funcs] w fun e w'=>e=.returned (.bool (zIn ⟨25,iw,a,b,c,imm,[]⟩ ids funcs))∧Below w.heap.size w w':=by
 generalize hV:zIn ⟨25,iw,a,b,c,imm,[]⟩ ids funcs=V
 have E:opsD ⟨25,iw,a,b,c,imm,[]⟩=[a]:=rfl
 have HI:Hid (([a]).all (fun n=>zBw n ids)=true→V=(iw==0&&imm==0&&b==0&&c==0)):=fun hall=>by
  rw[←hV]
  unfold zIn wB iB fB
  rw[E,hall]
  first|(simp;done)|(simp;ac_rfl)
 have HJ:Hid (([a]).all (fun n=>zBw n ids)=false→V=false):=fun hall=>by
  rw[←hV]
  unfold zIn
  rw[E,hall]
  simp
 have O:=fun w=>operS 0 ⟨25,iw,a,b,c,imm,[]⟩ u q w (by simp) ⟨by simp,.inl rfl⟩
 rw[E] at O
 dsimp only[List.length_nil,List.length_cons] at O
 clear E hV
 go_enter Tryz.func87,Tryz.ntmps87
 go_wp2_with fail
 refine (inS _ _ _ _).mono ?_
 rintro e w' ⟨rfl,rfl⟩
 go_wp2_with fail
 refine (O _).mono ?_
 rintro e w1 ⟨v,r,rfl,ho,hb1⟩
 obtain⟨x0,x1,x2,x3,x4,x5,x6,hB⟩:=cells7 hb1
 have HO:=ho.ints
 clear ho hb1 O
 go_wp2_with fail
 go_loop [8] (fun i=>∃ k:Nat,k≤1∧i=.int .i64 k∧Hid (∀ j,j<k→zBw (([a]).getD j 0) ids=true)) (fun i=>1-(intOf i).toNat)
 case atStart=>exact⟨0,by omega,rfl,fun j hj=>by omega⟩
 case round =>
  obtain⟨k,hk9,rfl,HD⟩:=hrel
  by_cases hlt:k<1
  ·rcases HO.2 with hn|⟨bb,off,rfl,hlo,hb,hcell⟩
   ·cases hn
   have e0:=hcell k (by simpa using hlt)
   generalize hx:([a]).getD k 0=x at e0
   have HX:Hid (([a]).getD k 0=x):=hx
   clear hcell hx HO
   cases hp:zBw x ids with
   | true =>
    have HP:Hid (zBw x ids=true):=hp
    go_wp2_with (go_at_call 49;refine (inB _ _ _).mono ?_;rintro e w' ⟨rfl,rfl⟩)
    exact⟨⟨k+1,by omega,by go_num,fun j hj=>by
     by_cases e:j=k
     ·subst e;rw[HX.out];exact HP.out
     ·exact HD.out j (by omega)⟩,by simp only[intOf];omega⟩
   | false =>
    have HP:Hid (zBw x ids=false):=hp
    go_wp2_with (go_at_call 49;refine (inB _ _ _).mono ?_;rintro e w' ⟨rfl,rfl⟩)
    go_ret
    refine⟨zrB ?_,hB⟩
    rw[HJ.out (all_no 0 ([a]) k (by simpa using hlt) (by rw[HX.out,HP.out];decide))]
  ·have hall:=all_yes 0 (f:=fun n=>zBw n ids) ([a]) (fun j hj=>HD.out j (by first|omega|(simp at hj;done)|(simp at hj;omega)))
   have HK:Hid (V=(iw==0&&imm==0&&b==0&&c==0)):=HI.out hall
   clear hall HI HJ HD HO
   go_wp2_with (first|(go_at_call 86;refine (widthS _ _).mono ?_;rintro e w' ⟨rfl,rfl⟩)|(go_at_call 126;refine (valueS _ _ _).mono ?_;rintro e w' ⟨rfl,rfl⟩)|(go_at_call 49;refine (inB _ _ _).mono ?_;rintro e w' ⟨rfl,rfl⟩))
   all_goals
    go_ret
    refine⟨zrB ?_,hB⟩
    have hk:=HK.out
    have hw0:=width0
    have hw8:=width8
    clear HK
    first|(simp_all;done)|(simp_all;omega)|(by_cases h8:iw=8<;>by_cases h0:iw=0<;>simp_all;done)
theorem instShS_26(lo:Nat)(iw a b c imm:Int)(args:List Int)(u:Option Addr)(q:Nat)(ids funcs:Int)(w:World)(g0:0≤ids)(g1:ids≤4611686018427387904)(g2:0≤funcs)(g3:funcs≤4611686018427387904)(hs:args.length≤1048576)(hk:IntsAt w lo u args) :
  Calls Tryz.prog 87 #[.agg #[.int .i64 26,.int .i64 iw,.int .i64 a,.int .i64 b,.int .i64 c,.int .i64 imm,.slice u args.length q],.int .i64 ids,.int .i64 funcs] w fun e w'=>e=.returned (.bool (zIn ⟨26,iw,a,b,c,imm,args⟩ ids funcs))∧Below w.heap.size w w':=by
 generalize hV:zIn ⟨26,iw,a,b,c,imm,args⟩ ids funcs=V
 have E:opsD ⟨26,iw,a,b,c,imm,args⟩=args:=rfl
 have HI:Hid ((args).all (fun n=>zBw n ids)=true→V=(zWd iw&&zBw imm funcs&&decide (args.length≤4)&&a==0&&b==0&&c==0)):=fun hall=>by
  rw[←hV]
  unfold zIn wB iB fB
  rw[E,hall]
  first|(simp;done)|(simp;ac_rfl)
 have HJ:Hid ((args).all (fun n=>zBw n ids)=false→V=false):=fun hall=>by
  rw[←hV]
  unfold zIn
  rw[E,hall]
  simp
 have O:=fun w=>operS lo ⟨26,iw,a,b,c,imm,args⟩ u q w hs
 rw[E] at O
 dsimp only[List.length_nil,List.length_cons] at O
 clear E hV
 go_enter Tryz.func87,Tryz.ntmps87
 go_wp2_with fail
 refine (inS _ _ _ _).mono ?_
 rintro e w' ⟨rfl,rfl⟩
 go_wp2_with fail
 refine (O _ (hk.keep (zaA _ _ _))).mono ?_
 rintro e w1 ⟨v,r,rfl,ho,hb1⟩
 obtain⟨x0,x1,x2,x3,x4,x5,x6,hB⟩:=cells7 hb1
 have HO:=ho.ints
 clear ho hb1 O
 go_wp2_with fail
 go_loop [8] (fun i=>∃ k:Nat,k≤args.length∧i=.int .i64 k∧Hid (∀ j,j<k→zBw ((args).getD j 0) ids=true)) (fun i=>args.length-(intOf i).toNat)
 case atStart=>exact⟨0,by omega,rfl,fun j hj=>by omega⟩
 case round =>
  obtain⟨k,hk9,rfl,HD⟩:=hrel
  by_cases hlt:k<args.length
  ·rcases HO.2 with hn|⟨bb,off,rfl,hlo,hb,hcell⟩
   ·simp[hn] at hlt
   have e0:=hcell k (by simpa using hlt)
   generalize hx:(args).getD k 0=x at e0
   have HX:Hid ((args).getD k 0=x):=hx
   clear hcell hx HO
   cases hp:zBw x ids with
   | true =>
    have HP:Hid (zBw x ids=true):=hp
    go_wp2_with (go_at_call 49;refine (inB _ _ _).mono ?_;rintro e w' ⟨rfl,rfl⟩)
    exact⟨⟨k+1,by omega,by go_num,fun j hj=>by
     by_cases e:j=k
     ·subst e;rw[HX.out];exact HP.out
     ·exact HD.out j (by omega)⟩,by simp only[intOf];omega⟩
   | false =>
    have HP:Hid (zBw x ids=false):=hp
    go_wp2_with (go_at_call 49;refine (inB _ _ _).mono ?_;rintro e w' ⟨rfl,rfl⟩)
    go_ret
    refine⟨zrB ?_,hB⟩
    rw[HJ.out (all_no 0 (args) k (by simpa using hlt) (by rw[HX.out,HP.out];decide))]
  ·have hall:=all_yes 0 (f:=fun n=>zBw n ids) (args) (fun j hj=>HD.out j (by first|omega|(simp at hj;done)|(simp at hj;omega)))
   have HK:Hid (V=(zWd iw&&zBw imm funcs&&decide (args.length≤4)&&a==0&&b==0&&c==0)):=HI.out hall
   clear hall HI HJ HD HO
   go_wp2_with (first|(go_at_call 86;refine (widthS _ _).mono ?_;rintro e w' ⟨rfl,rfl⟩)|(go_at_call 126;refine (valueS _ _ _).mono ?_;rintro e w' ⟨rfl,rfl⟩)|(go_at_call 49;refine (inB _ _ _).mono ?_;rintro e w' ⟨rfl,rfl⟩))
   all_goals
    go_ret
    refine⟨zrB ?_,hB⟩
    have hk:=HK.out
    have hw0:=width0
    have hw8:=width8
    clear HK
    first|(simp_all;done)|(simp_all;omega)|(by_cases h8:iw=8<;>by_cases h0:iw=0<;>simp_all;done)
set_option maxHeartbeats 4000000
structure Gv(w:World)(g:Nat)(v:Value):Prop where
 cell:w.cell? ⟨g,0,none⟩=some v
 lt:g<w.heap.size
theorem Gv.keep{w w':World}{g:Nat}{v:Value}(h:Gv w g v)(k:Below w.heap.size w w'):Gv w' g v:=⟨(zcB (k.block g h.lt)).trans h.cell,Nat.lt_of_lt_of_le h.lt k.size⟩
def errV(a:Addr):Value:=.iface 232 (.pointer (some a))
def Gone(a:Addr)(e:Ending):Prop:=e=.panicked [{ v:=errV a,recovered:=false }]
theorem wantY(w:World):Calls Tryz.prog 44 #[.bool true] w fun e w'=>e=.returned (.tuple #[])∧w'=w:=by
 go_enter Tryz.func44,Tryz.ntmps44
 go_wp2_with fail
 exact bodyPost_end (results_none Tryz.results44 _ _ _) rfl ⟨rfl,rfl⟩
theorem wantN(a:Addr)(w:World)(hv:Gv w 1 (errV a)):Calls Tryz.prog 44 #[.bool false] w fun e w'=>e=.panicked [{ v:=errV a,recovered:=false }]∧w'=w:=by
 have c:=hv.cell
 unfold errV at c ⊢
 go_enter Tryz.func44,Tryz.ntmps44
 go_wp2_with fail
 exact⟨rfl,rfl,rfl⟩
theorem map_cell{l:List Int}{j:Nat}{u:Value}(h:(l.map (Value.int .i64))[j]?=some u):j<l.length∧u=.int .i64 (l.getD j 0):=by
 have hj:j<l.length:=by have:=(List.getElem?_eq_some_iff.1 h).1;simpa using this
 refine⟨hj,?_⟩
 simp[hj] at h
 rw[←h];simp[List.getD,hj]
theorem cloneI(lo:Nat)(a:Option Addr)(cap:Nat)(l:List Int)(w:World)(hl:l.length≤1048576)(hv:IntsAt w lo a l) :
  Calls Tryz.prog 153 #[.slice a l.length cap] w fun e w'=>∃ v,e=.returned v∧Row w' w.heap.size v l∧Below w.heap.size w w':=by
 obtain⟨i0,hi,hz0,hz1,hz2⟩:=info_parts infoI
 rcases a with _|ad
 ·have hnil:l=[]:=by
   rcases hv.2 with h|⟨b,off,h,_⟩
   ·exact h
   ·simp at h
  subst hnil
  have hq:=fun (v:World)=>Lib.run_eql_slice_nil v 41 2 none 0 cap 0 0 Tryz.underlying41
  go_enter Tryz.func153,Tryz.ntmps153
  go_wp2_with fail
  go_ret
  exact⟨_,rfl,Row.nil _ _,Below.refl _ _⟩
 ·have hcell:∀ j u,(l.map (Value.int .i64))[j]?=some u→(w.alloc (.cells #[] 2)).cell? (ad.add j)=some u:=by
   intro j u hj
   rcases hv.2 with h|⟨b,off,h,_,hb,hc⟩
   ·simp[h] at hj
   ·simp at h
    subst h
    obtain⟨hjl,rfl⟩:=map_cell hj
    rw[Addr.add_lit,zcB (Below.heap_alloc w _ b hb),hc j hjl]
  have hq:=fun (v:World)=>Lib.run_eql_slice_nil v 41 2 (some ad) l.length cap 0 0 Tryz.underlying41
  go_enter Tryz.func153,Tryz.ntmps153
  go_wp2_with (at_builtin;refine wpList_append_own _ rfl _ _ 41 rfl w.heap.size 2 i0 (.int .i64 0) 1 8 Tryz.underlying41 hi hz0 hz1 hz2 rfl (by decide) _ 0 [] rfl (World.ownsRow_lit w #[] 0 (Nat.le_refl _) (by decide) (by simp)) ad l.length cap (l.map (Value.int .i64)) rfl (by simp) hcell (by simp[Value.oneCell']) (by unfold maxLen;omega) (by omega) (by simp) ?_;intro v' w1 hown hgrow hnn)
  simp only[Nat.zero_add,List.nil_append] at hown
  go_ret
  exact⟨_,rfl,hown,((Below.refl _ _).alloc (Nat.le_refl _) _).grown hgrow (by simp) (fun k hk=>by have hk':some w.heap.size=some k:=hk;simp at hk';omega)⟩
structure OnlyR(R:Nat)(w w':World):Prop where
 os:w'.os=w.os
 tape:w'.tape=w.tape
 output:w'.output=w.output
 size:w.heap.size≤w'.heap.size
 block:∀ i,i<w.heap.size→i≠R→w'.heap[i]?=w.heap[i]?
theorem OnlyR.refl(R:Nat)(w:World):OnlyR R w w:=⟨rfl,rfl,rfl,Nat.le_refl _,fun _ _ _=>rfl⟩
theorem OnlyR.trans{R:Nat}{x y z:World}(h:OnlyR R x y)(k:OnlyR R y z):OnlyR R x z:=⟨k.os.trans h.os,k.tape.trans h.tape,k.output.trans h.output,Nat.le_trans h.size k.size,fun i hi hn=>(k.block i (Nat.lt_of_lt_of_le hi h.size) hn).trans (h.block i hi hn)⟩
theorem OnlyR.below{R:Nat}{w w':World}(k:Below w.heap.size w w'):OnlyR R w w':=⟨k.os,k.tape,k.output,k.size,fun i hi _=>k.block i hi⟩
theorem OnlyR.set{R:Nat}{w w':World}(h:OnlyR R w w')(o:Nat)(v:Value):OnlyR R w (w'.setCell ⟨R,o,none⟩ v) :=
 h.trans ⟨rfl,rfl,rfl,by simp[World.setCell],fun i _ hn=>Below.heap_setCell _ _ _ _ hn⟩
theorem OnlyR.down{R n:Nat}{w w':World}(h:OnlyR R w w')(hn:n≤R)(hz:n≤w.heap.size):Below n w w':=⟨h.os,h.tape,h.output,h.size,fun i hi=>h.block i (by omega) (by omega)⟩
def RwAt(w:World)(R:Nat)(l:List Int):Prop :=
 (l=[]∧At w R #[.slice none 0 0] 130)∨∃ b off c,At w R #[.slice (some ⟨b,off,none⟩) l.length c] 130∧l.length≤c∧c≤9223372036854775807∧b≠R∧b<w.heap.size∧∀ i,i<l.length→w.cell? ⟨b,off+i,none⟩=some (.int .i64 (l.getD i 0))
theorem RwAt.lt{w:World}{R:Nat}{l:List Int}(h:RwAt w R l):R<w.heap.size:=by
 rcases h with⟨_,h⟩|⟨b,off,c,h,_⟩
 ·exact h.lt
 ·exact h.lt
theorem someN(a:Addr)(R:Nat)(k:Int)(l:List Int)(w:World)(h:RwAt w R l)(hk:(l.length:Int)<k)(hv:Gv w 1 (errV a)) :
  Calls Tryz.prog 122 #[.pointer (some ⟨R,0,none⟩),.int .i64 k] w fun e w'=>e=.panicked [{ v:=errV a,recovered:=false }]∧w'=w:=by
 have W:=wantN a w hv
 have hn:¬k≤(l.length:Int):=by omega
 rcases h with⟨rfl,h⟩|⟨b,off,c,h,h1,h2,h3,h4,h5⟩
 ·have c0:w.cell? ⟨R,0,none⟩=some (.slice none 0 0):=h.cell 0
  have hn0:¬k≤0:=by simpa using hn
  go_enter Tryz.func122,Tryz.ntmps122
  go_wp2_with fail
  refine W.mono ?_
  rintro e w1 ⟨rfl,h9⟩
  have h8:=h9.symm
  clear h9
  subst h8
  go_wp2_with fail
  exact⟨rfl,rfl,rfl⟩
 ·have c0:w.cell? ⟨R,0,none⟩=some (.slice (some ⟨b,off,none⟩) l.length c):=h.cell 0
  clear h5
  go_enter Tryz.func122,Tryz.ntmps122
  go_wp2_with fail
  refine W.mono ?_
  rintro e w1 ⟨rfl,h9⟩
  have h8:=h9.symm
  clear h9
  subst h8
  go_wp2_with fail
  exact⟨rfl,rfl,rfl⟩
theorem row_set{w:World}{R base:Nat}{v x:Value}{l:List Int}(h:Row w base v l)(hR:R<base):Row (w.setCell ⟨R,0,none⟩ x) base v l :=
 World.ownsRow.kept h (row:=some R) ⟨rfl,rfl,rfl,by simp[World.setCell],fun k _ hk=>Below.heap_setCell _ _ _ _ (fun e=>hk (by simp[e]))⟩ (by
  cases e:v.ownBlock with
  | none=>exact .inl rfl
  | some g=>exact .inr (fun e2=>by have:=(World.ownsRow.lt h g e).1;cases e2;omega))
theorem At.set0{w:World}{R:Nat}{x:Value}{T:TypeId}(h:At w R #[x] T)(y:Value):At (w.setCell ⟨R,0,none⟩ y) R #[y] T:=zhS (o:=0) h
theorem someY(R k:Nat)(l:List Int)(w:World)(h:RwAt w R l)(hk:k≤l.length)(hl:l.length≤1048576) :
  Calls Tryz.prog 122 #[.pointer (some ⟨R,0,none⟩),.int .i64 (k:Int)] w fun e w'=>∃ v,e=.returned v∧Row w' w.heap.size v (l.take k)∧RwAt w' R (l.drop k)∧OnlyR R w w':=by
 have W:=wantY w
 have hlt:=h.lt
 rcases h with⟨rfl,h⟩|⟨b,off,c,h,h1,h2,h3,h4,h5⟩
 ·have hk0:k=0:=by simpa using hk
  subst hk0
  have c0:w.cell? ⟨R,0,none⟩=some (.slice none 0 0):=h.cell 0
  have C:=cloneI 0 none 0 [] w (by simp) ⟨by simp,.inl rfl⟩
  have HA:Hid (At w R #[.slice none 0 0] 130):=h
  clear h
  go_enter Tryz.func122,Tryz.ntmps122
  go_wp2_with fail
  refine W.mono ?_
  rintro e w1 ⟨rfl,h9⟩
  have h8:=h9.symm
  clear h9
  subst h8
  go_wp2_with fail
  refine C.mono ?_
  rintro e w2 ⟨v,rfl,hr,b2⟩
  have hA2:=HA.out.below b2
  have d0:w2.cell? ⟨R,0,none⟩=some (.slice none 0 0):=hA2.cell 0
  have f0:w2.frozen? ⟨R,0,none⟩=false:=zfH hA2
  have HR:Hid (Row w2 w.heap.size v []):=hr
  clear hr
  obtain⟨a,c,rfl⟩:=HR.out.slice
  go_wp2_with fail
  go_ret
  exact⟨_,rfl,row_set HR.out hlt,.inl ⟨rfl,At.set0 hA2 _⟩,(OnlyR.below b2).set _ _⟩
 ·have c0:w.cell? ⟨R,0,none⟩=some (.slice (some ⟨b,off,none⟩) l.length c):=h.cell 0
  have hlk:(l.take k).length=k:=by rw[List.length_take];omega
  have C:=cloneI 0 (some ⟨b,off,none⟩) c (l.take k) w (by omega) ⟨by omega,.inr ⟨b,off,rfl,Nat.zero_le _,h4,fun i hi=>by rw[hlk] at hi;rw[h5 i (by omega)];simp[List.getD,hi]⟩⟩
  rw[hlk] at C
  have HT:Hid ((l.take k).length=k):=hlk
  have HA:Hid (At w R #[.slice (some ⟨b,off,none⟩) l.length c] 130):=h
  have H5:Hid (∀ i,i<l.length→w.cell? ⟨b,off+i,none⟩=some (.int .i64 (l.getD i 0))):=h5
  have q1:(k:Int)≤(l.length:Int):=by omega
  have q2:(k:Int)≤(c:Int):=by omega
  have q3:(l.length:Int)≤(c:Int):=by omega
  have HL:Hid (l.length≤c):=h1
  have hdl:Hid ((l.drop k).length=l.length-k):=by show _=_;simp
  generalize hnl:l.length=n at *
  have HN:Hid (l.length=n):=hnl
  clear h hlk h5 hnl
  go_enter Tryz.func122,Tryz.ntmps122
  go_wp2_with fail
  refine W.mono ?_
  rintro e w1 ⟨rfl,h9⟩
  have h8:=h9.symm
  clear h9
  subst h8
  go_wp2_with fail
  refine C.mono ?_
  rintro e w2 ⟨v,rfl,hr,b2⟩
  have hA2:=HA.out.below b2
  have d0:w2.cell? ⟨R,0,none⟩=some (.slice (some ⟨b,off,none⟩) n c):=hA2.cell 0
  have f0:w2.frozen? ⟨R,0,none⟩=false:=zfH hA2
  have HR:Hid (Row w2 w.heap.size v (l.take k)):=hr
  clear hr
  obtain⟨a,c',rfl⟩:=HR.out.slice
  have HB2:Hid (Below w.heap.size w w2):=b2
  clear b2
  go_wp2_with fail
  ·have hz:n-k=0:=by have:=HL.out;omega
   go_ret
   refine⟨_,by rw[←HN.out];simp,row_set HR.out hlt,.inr ⟨b,off,0,?_,?_,by omega,h3,?_,fun i hi=>?_⟩,(OnlyR.below HB2.out).set _ _⟩
   ·rw[hdl.out];exact At.set0 hA2 _
   ·rw[hdl.out];omega
   ·have:=HB2.out.size;simp[World.setCell];omega
   ·rw[hdl.out] at hi;omega
  ·go_ret
   refine⟨_,by rw[←HN.out];simp,row_set HR.out hlt,.inr ⟨b,off+k,c-k,?_,?_,by omega,h3,?_,fun i hi=>?_⟩,(OnlyR.below HB2.out).set _ _⟩
   ·rw[hdl.out];exact At.set0 hA2 _
   ·rw[hdl.out];have:=HL.out;omega
   ·have:=HB2.out.size;simp[World.setCell];omega
   ·rw[hdl.out] at hi
    have e:(l.drop k).getD i 0=l.getD (k+i) 0:=by simp[List.getD]
    rw[e,Nat.add_assoc]
    refine (zcB (Below.heap_setCell _ _ _ _ (by show b≠R;exact h3))).trans ((zcB (HB2.out.block b h4)).trans (H5.out (k+i) ?_))
    omega
theorem nextN(a:Addr)(R:Nat)(w:World)(h:RwAt w R [])(hv:Gv w 1 (errV a)) :
  Calls Tryz.prog 83 #[.pointer (some ⟨R,0,none⟩)] w fun e w'=>e=.panicked [{ v:=errV a,recovered:=false }]∧w'=w:=by
 have W:=someN a R 1 [] w h (by decide) hv
 go_enter Tryz.func83,Tryz.ntmps83
 go_wp2_with fail
 refine W.mono ?_
 rintro e w1 ⟨rfl,h9⟩
 have h8:=h9.symm
 clear h9
 subst h8
 go_wp2_with fail
 exact⟨rfl,rfl,rfl⟩
theorem nextY(R:Nat)(x:Int)(l:List Int)(w:World)(h:RwAt w R (x :: l))(hl:l.length<1048576) :
  Calls Tryz.prog 83 #[.pointer (some ⟨R,0,none⟩)] w fun e w'=>e=.returned (.int .i64 x)∧RwAt w' R l∧OnlyR R w w':=by
 have W:=someY R 1 (x :: l) w h (by simp) (by simp;omega)
 have e1:(x :: l).take 1=[x]:=rfl
 have e2:(x :: l).drop 1=l:=rfl
 rw[e1,e2] at W
 clear e1 e2
 go_enter Tryz.func83,Tryz.ntmps83
 go_wp2_with fail
 refine W.mono ?_
 rintro e w1 ⟨v,rfl,hr,hw,ho⟩
 obtain⟨u,c,rfl,hi⟩:=Row.ints (by simp) hr
 rcases hi.2 with h0|⟨b,off,rfl,_,_,hc⟩
 ·cases h0
 ·have c0:w1.cell? ⟨b,off,none⟩=some (.int .i64 x):=by simpa using hc 0 (by simp)
  clear hc hi hr
  go_wp2_with fail
  go_ret
  exact⟨rfl,hw,ho⟩
theorem restI(R:Nat)(l:List Int)(w:World)(h:RwAt w R l)(hl:l.length≤1048576) :
  Calls Tryz.prog 84 #[.pointer (some ⟨R,0,none⟩)] w fun e w'=>∃ v,e=.returned v∧Row w' w.heap.size v l∧OnlyR R w w':=by
 have W:=someY R l.length l w h (Nat.le_refl _) hl
 rw[List.take_length,List.drop_length] at W
 obtain⟨u,c,c0⟩:∃ u c,w.cell? ⟨R,0,none⟩=some (.slice u l.length c):=by
  rcases h with⟨rfl,h⟩|⟨b,off,c,h,_⟩
  ·exact⟨none,0,h.cell 0⟩
  ·exact⟨_,_,h.cell 0⟩
 go_enter Tryz.func84,Tryz.ntmps84
 go_wp2_with fail
 refine W.mono ?_
 rintro e w1 ⟨v,rfl,hr,_,ho⟩
 go_wp2_with fail
 go_ret
 exact⟨_,rfl,hr,ho⟩
end Go.Proofs.YtkpmiikafconmaaGreatDoor
