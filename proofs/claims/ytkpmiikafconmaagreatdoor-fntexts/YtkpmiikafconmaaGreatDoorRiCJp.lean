import Derived.Test.YtkpmiikafconmaaGreatDoorTxJJp
import Derived.Lib.AtoiErrMem
import Derived.Lib.ParseIntBTie
namespace Go.Proofs.YtkpmiikafconmaaGreatDoor
open Go.RowKit
set_option maxHeartbeats 4000000
set_option maxRecDepth 100000
set_option linter.unusedVariables false
theorem infoSr:(Tryz.prog.info? 9).map (fun i=>(i.zero,i.size,i.bytes))=some (some (.string ⟨#[]⟩),1,16):=by kernel_rfl
theorem run_loadVar_part{P:Program}(w:World)(g off:Nat)(ty:TypeId)(cs:Array Value)(d:TypeDesc)(hc:∀ j v,cs[j]?=some v→w.cell? ⟨g,off+j,none⟩=some v)
  (hu:P.underlying ty=some d) (hd:(match d with|.struct _|.array _ _=>true|_=>false)=true) (hi:(P.info? ty).map (·.size)=some cs.size) :
  (loadVar ty ⟨g,off,none⟩).run P w=.ok (.agg cs) w:=by
 have hl:(loadCells ⟨g,off,none⟩ cs.toList.length).run P w=.ok cs.toList.toArray w :=
  run_loadCells_list (P:=P) w ⟨g,off,none⟩ cs.toList (fun j v hv=>by
   have hadd:(⟨g,off,none⟩:Addr).add j=⟨g,off+j,none⟩:=by unfold Addr.add;split<;>simp_all
   rw[hadd]
   exact hc j v (by simpa using hv))
 cases hq:P.info? ty with
 | none=>simp[hq] at hi
 | some i =>
  have hs:i.size=cs.size:=by simpa [hq] using hi
  have hagg:(isAgg ty).run P w=.ok true w:=by
   unfold isAgg
   rw[Sem.run_bind,run_underlying hu w]
   cases d<;>simp_all
  simp only[Array.length_toList,Array.toArray_toList] at hl
  simp[loadVar,Sem.run_bind,hagg,sizeOf,typeInfo,hq,hs,hl]
theorem wpList_load_part{P:Program}{ops:Array Oper}{rest:List Oper}{o:Oper}{a:Act}{w:World}{Q:Exit→Act→World→Prop}(hgd:o.guard=none)(ty:TypeId)(x:Operand)(ho:o.op=.load ty x)
  (g off:Nat) (hx:a.eval x=.pointer (some ⟨g,off,none⟩)) (cs:Array Value) (d:TypeDesc) (hc:∀ j v,cs[j]?=some v→w.cell? ⟨g,off+j,none⟩=some v)
  (hu:P.underlying ty=some d) (hd:(match d with|.struct _|.array _ _=>true|_=>false)=true) (hi:(P.info? ty).map (·.size)=some cs.size)
  (h:wpList P ops Q rest (a.put o.dst (.agg cs)) w):wpList P ops Q (o :: rest) a w :=
 wpList_plain hgd fun _ hK=>by
  unfold Oper.wp execOp
  simp only[ho,hx,Instr.loadAt,Instr.sureAddr,Sem.run_bind,Sem.run_pure,Result.andThen_ok,run_loadVar_part w g off ty cs d hc hu hd hi]
  exact hK _ _ h
def opArr:Array Value:=((List.range 28).map fun k=>Value.string (opW k)).toArray
theorem ow_arr(k:Nat)(hk:k<28):opArr[k]?=some (.string (opW k)):=by simp[opArr,hk]
theorem ow_cells{w:World}(h:OpsAt w):∀ j v,opArr[j]?=some v→w.cell? ⟨2,0+j,none⟩=some v:=fun j v hj=>by
 have hlt:j<28:=by have:=(Array.getElem?_eq_some_iff.1 hj).1;simpa [opArr] using this
 rw[ow_arr j hlt] at hj
 rw[Nat.zero_add,h.2 j hlt,hj]
theorem infoOw:(Tryz.prog.info? 150).map (·.size)=some opArr.size:=by kernel_rfl
theorem idxR(arr:Array Value)(k:Nat)(v:ByteArray)(hk:k<28)(hv:arr[k]?=some (.string v))(W:World):(Instr.index 150 (.agg arr) (.int .i64 (k:Int))).run Tryz.prog W=.ok (.string v) W:=by
 obtain⟨i,hi,_,hs,_⟩:=info_parts infoSr
 simp[Instr.index,asIntOf,run_underlying Tryz.underlying150,part,isAgg,run_underlying Tryz.underlying9,sizeOf,typeInfo,hi,hs,hv]
 intro h;omega
theorem opOfI(b:ByteArray)(w:World)(hW:OpsAt w):Calls Tryz.prog 123 #[.string b] w fun e w'=>e=.returned (.int .i64 (opNum b))∧w'=w:=by
 have HX:Hid (∀ k:Nat,k<28→(Instr.index 150 (.agg opArr) (.int .i64 (k:Int))).run Tryz.prog w=.ok (.string (opW k)) w):=fun k hk=>idxR _ k _ hk (ow_arr k hk) w
 have HC:Hid (∀ j v,opArr[j]?=some v→w.cell? ⟨2,0+j,none⟩=some v):=ow_cells hW
 go_enter Tryz.func123,Tryz.ntmps123
 go_wp2_with (refine wpList_load_part rfl 150 _ rfl 2 0 rfl opArr _ HC.out Tryz.underlying150 rfl infoOw ?_)
 go_loop [6] (fun i=>∃ k:Nat,k≤28∧i=.int .i64 k∧Hid (opNumL b (opWL.drop k) k=opNum b)) (fun i=>28-(intOf i).toNat)
 case atStart=>exact⟨0,by omega,rfl,rfl⟩
 case round =>
  obtain⟨k,hk,rfl,HN⟩:=hrel
  clear hW HC
  by_cases hlt:k<28
  ·have hi:=HX.out k hlt
   by_cases hx:opW k=b
   ·have HE:Hid (opNum b=k):=by show _=_;rw[←HN.out,opNum_hit hlt hx]
    clear HN
    go_wp2_with fail
    go_ret
    exact⟨by rw[HE.out];rfl,rfl⟩
   ·have HE:Hid (opNumL b (opWL.drop (k+1)) (k+1)=opNum b):=by show _=_;rw[←HN.out,opNum_miss hlt hx]
    have hx2:=str_ne hx
    clear HN
    go_wp2_with fail
    go_round
    case rel=>exact⟨k+1,by omega,by go_num,HE.out⟩
    case measure=>simp[intOf];omega
  ·have hke:k=28:=by omega
   subst hke
   go_wp2_with fail
   go_ret
   exact⟨by rw[←HN.out];rfl,rfl⟩
theorem immN(a:Addr)(R:Nat)(op:Int)(w:World)(ho:immB op=true)(h:RwAt w R [])(hv:Gv w 1 (errV a)) :
  Calls Tryz.prog 154 #[.int .i64 op,.pointer (some ⟨R,0,none⟩)] w fun e w'=>e=.panicked [{ v:=errV a,recovered:=false }]∧w'=w:=by
 have W:=nextN a R w h hv
 have H:=hasImmI op w
 rw[ho] at H
 clear ho
 go_enter Tryz.func154,Tryz.ntmps154
 go_wp2_with fail
 refine H.mono ?_
 rintro e w1 ⟨rfl,h9⟩
 have h8:=h9.symm
 clear h9
 subst h8
 go_wp2_with fail
 refine W.mono ?_
 rintro e w1 ⟨rfl,h9⟩
 have h8:=h9.symm
 clear h9
 subst h8
 go_wp2_with fail
 exact⟨rfl,rfl,rfl⟩
theorem immY(R:Nat)(op x:Int)(l:List Int)(w:World)(ho:immB op=true)(h:RwAt w R (x :: l))(hl:l.length<1048576) :
  Calls Tryz.prog 154 #[.int .i64 op,.pointer (some ⟨R,0,none⟩)] w fun e w'=>e=.returned (.int .i64 x)∧RwAt w' R l∧OnlyR R w w':=by
 have W:=nextY R x l w h hl
 have H:=hasImmI op w
 rw[ho] at H
 clear ho
 go_enter Tryz.func154,Tryz.ntmps154
 go_wp2_with fail
 refine H.mono ?_
 rintro e w1 ⟨rfl,h9⟩
 have h8:=h9.symm
 clear h9
 subst h8
 go_wp2_with fail
 refine W.mono ?_
 rintro e w1 ⟨rfl,h1,h2⟩
 go_wp2_with fail
 go_ret
 exact⟨rfl,h1,h2⟩
theorem immZ(R:Nat)(op:Int)(w:World)(ho:immB op=false) :
  Calls Tryz.prog 154 #[.int .i64 op,.pointer (some ⟨R,0,none⟩)] w fun e w'=>e=.returned (.int .i64 0)∧w'=w:=by
 have H:=hasImmI op w
 rw[ho] at H
 clear ho
 go_enter Tryz.func154,Tryz.ntmps154
 go_wp2_with fail
 refine H.mono ?_
 rintro e w1 ⟨rfl,h9⟩
 have h8:=h9.symm
 clear h9
 subst h8
 go_wp2_with fail
 go_ret
 exact⟨rfl,rfl⟩
structure ErrsAt(w:World):Prop where
 s:∃ ev,Gv w 9 ev∧(ev=.nilIface∨∃ te pe,ev=.iface te pe)
 r:∃ ev,Gv w 10 ev∧(ev=.nilIface∨∃ te pe,ev=.iface te pe)
theorem ErrsAt.keep{w w':World}(h:ErrsAt w)(k:Below w.heap.size w w'):ErrsAt w':=by
 obtain⟨⟨e1,g1,h1⟩,⟨e2,g2,h2⟩⟩:=h
 exact⟨⟨e1,g1.keep k,h1⟩,⟨e2,g2.keep k,h2⟩⟩
def DecTold(b:ByteArray)(e:Ending):Prop:=(∃ n,DecIs b n∧e=.returned (.tuple #[.int .i64 n,.bool true]))∨((¬∃ n,DecIs b n)∧e=.returned (.tuple #[.int .i64 0,.bool false]))
theorem decimalI(b:ByteArray)(w:World)(hb:b.size≤1048576)(hE:ErrsAt w)(hP:PowAt w) :
  Calls Tryz.prog 80 #[.string b] w fun e w'=>DecTold b e∧Below w.heap.size w w':=by
 have HP:Hid (PowAt w):=hP
 cases hp:Lib.parseIntB 64 b.data.toList with
 | ok v =>
  have C2:Calls Tryz.prog 121 #[.string b,.int .i64 10,.int .i64 64] w fun e w'=>e=.returned (.tuple #[.int .i64 v,.nilIface])∧Below w.heap.size w w':=(Tryz.strconv_ParseInt_10_at64_ok b (by omega) v hp w).mono fun e w' ⟨h1,h2⟩=>⟨h1,by
   rcases h2 with rfl|⟨t,rfl⟩
   ·exact Below.refl _ _
   ·exact Lib.bytesWorld_below _ _ _⟩
  by_cases hv:v<0
  ·have HN:Hid (¬∃ n,DecIs b n):=fun ⟨n,h⟩=>by
    have:=dec_parse h
    rw[hp] at this
    cases this
    obtain⟨k,e,_⟩:=h
    omega
   clear hp hP hE
   go_enter Tryz.func80,Tryz.ntmps80
   go_wp2_with fail
   refine C2.mono ?_
   rintro e w1 ⟨rfl,b1⟩
   go_wp2_with fail
   go_ret2
   exact⟨.inr ⟨HN.out,rfl⟩,b1⟩
  ·obtain⟨k,hk⟩:∃ k:Nat,v=k:=⟨v.toNat,by omega⟩
   subst hk
   have hm:k≤9223372036854775807:=by
    have:=(Lib.parseIntB_bounds hp).2
    simp at this
    omega
   have F:∀ W,Below w.heap.size w W→Calls Tryz.prog 42 #[.int .i64 (k:Int),.int .i64 10] W fun e w'=>e=.returned (.string (bs (Lib.decDigits k)))∧Below W.heap.size W w':=fun W hW=>(Tryz.strconv_FormatInt_10 k (by omega) (by omega) W (HP.out.keep hW)).mono fun e w' ⟨h1,n,os,h2⟩=>⟨by rw[h1,itoa_nat];rfl,by rw[h2];exact Lib.below_grow _ _ (Nat.le_refl _) _ _⟩
   by_cases he:bs (Lib.decDigits k)=b
   ·have HD:Hid (DecIs b k):=⟨k,rfl,hm,he.symm⟩
    rw[he] at F
    clear hp hP hE he
    go_enter Tryz.func80,Tryz.ntmps80
    go_wp2_with fail
    refine C2.mono ?_
    rintro e w1 ⟨rfl,b1⟩
    go_wp2_with fail
    refine (F _ b1).mono ?_
    rintro e w2 ⟨rfl,b2⟩
    go_wp2_with fail
    go_ret2
    exact⟨.inl ⟨k,HD.out,rfl⟩,b1.trans (b2.mono b1.size)⟩
   ·have HN:Hid (¬∃ n,DecIs b n):=fun ⟨n,h⟩=>by
     have h1:=dec_parse h
     rw[hp] at h1
     cases h1
     obtain⟨j,e,_,h2⟩:=h
     have:j=k:=by omega
     subst this
     exact he h2.symm
    have hx:=str_ne he
    generalize bs (Lib.decDigits k)=fb at F hx
    clear hp hP hE he
    go_enter Tryz.func80,Tryz.ntmps80
    go_wp2_with fail
    refine C2.mono ?_
    rintro e w1 ⟨rfl,b1⟩
    go_wp2_with fail
    refine (F _ b1).mono ?_
    rintro e w2 ⟨rfl,b2⟩
    go_wp2_with fail
    go_ret2
    exact⟨.inr ⟨HN.out,rfl⟩,b1.trans (b2.mono b1.size)⟩
 | «syntax» =>
  obtain⟨ev,gv,hev⟩:=hE.s
  have C2:Calls Tryz.prog 121 #[.string b,.int .i64 10,.int .i64 64] w fun e w'=>∃ N,e=.returned (.tuple #[.int .i64 0,.iface 216 (.pointer (some ⟨N,0,none⟩))])∧Below w.heap.size w w':=(Tryz.strconv_ParseInt_10_at64_syntax b (by omega) hp ev w gv.cell hev).mono fun e w' ⟨N,h1,_,_,h2⟩=>⟨N,h1,h2⟩
  have HN:Hid (¬∃ n,DecIs b n):=fun ⟨n,h⟩=>by
   have:=dec_parse h
   rw[hp] at this
   cases this
  clear hp hP hE
  go_enter Tryz.func80,Tryz.ntmps80
  go_wp2_with fail
  refine C2.mono ?_
  rintro e w1 ⟨N,rfl,b1⟩
  go_wp2_with fail
  go_ret2
  exact⟨.inr ⟨HN.out,rfl⟩,b1⟩
 | range =>
  obtain⟨ev,gv,hev⟩:=hE.r
  obtain⟨q,hq⟩:∃ q,Lib.intSat 64 b.data.toList=q:=⟨_,rfl⟩
  have C2:Calls Tryz.prog 121 #[.string b,.int .i64 10,.int .i64 64] w fun e w'=>∃ N,e=.returned (.tuple #[.int .i64 q,.iface 216 (.pointer (some ⟨N,0,none⟩))])∧Below w.heap.size w w':=(Tryz.strconv_ParseInt_10_at64_range b (by omega) hp ev w gv.cell hev).mono fun e w' ⟨N,h1,_,_,h2⟩=>⟨N,by rw[←hq];exact h1,h2⟩
  have HN:Hid (¬∃ n,DecIs b n):=fun ⟨n,h⟩=>by
   have:=dec_parse h
   rw[hp] at this
   cases this
  clear hp hP hE hq
  go_enter Tryz.func80,Tryz.ntmps80
  go_wp2_with fail
  refine C2.mono ?_
  rintro e w1 ⟨N,rfl,b1⟩
  go_wp2_with fail
  go_ret2
  exact⟨.inr ⟨HN.out,rfl⟩,b1⟩
end Go.Proofs.YtkpmiikafconmaaGreatDoor
