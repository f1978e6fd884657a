import Derived.Test.YtkpmiikafconmaaGreatDoorFmE2Jp
import Derived.Test.YtkpmiikafconmaaGreatDoorFmE3Jp
import Derived.Test.YtkpmiikafconmaaGreatDoorTeAJp
import Derived.Test.YtkpmiikafconmaaGreatDoorGnKJp
namespace Go.Proofs.YtkpmiikafconmaaGreatDoor
open Go.RowKit
set_option maxHeartbeats 1000000
set_option linter.unusedVariables false
theorem instShS_no(d:InstD)(u:Option Addr)(q:Nat)(ids funcs:Int)(w:World)(h:d.op<1∨27<d.op) :
  Calls Tryz.prog 87 #[.agg #[.int .i64 d.op,.int .i64 d.w,.int .i64 d.a,.int .i64 d.b,.int .i64 d.c,.int .i64 d.imm,.slice u d.args.length q],.int .i64 ids,.int .i64 funcs] w fun e w'=>e=.returned (.bool (zIn d ids funcs))∧Below w.heap.size w w':=by
 have HR:Hid (false=zIn d ids funcs):=by show _=_;simp[zIn,wB,h]
 have d1:(decide (1≤d.op)&&decide (d.op≤27))=false:=by simp;omega
 clear h
 go_enter Tryz.func87,Tryz.ntmps87
 go_wp2_with fail
 refine (inS _ _ _ _).mono ?_
 rintro e w' ⟨rfl,rfl⟩
 rw[d1]
 go_wp2_with fail
 go_ret
 exact⟨zrB HR.out,(Below.refl _ _).alloc (Nat.le_refl _) _⟩
theorem instShS_full(d:InstD)(u:Option Addr)(q:Nat)(ids funcs:Int)(w:World)(h:¬(d.op<1∨27<d.op))(h6:¬d.op=26)(hz:¬d.args.length=0)(hm:d.args.length≤1048576) :
  Calls Tryz.prog 87 #[.agg #[.int .i64 d.op,.int .i64 d.w,.int .i64 d.a,.int .i64 d.b,.int .i64 d.c,.int .i64 d.imm,.slice u d.args.length q],.int .i64 ids,.int .i64 funcs] w fun e w'=>e=.returned (.bool (zIn d ids funcs))∧Below w.heap.size w w':=by
 have HR:Hid (false=zIn d ids funcs):=by show _=_;simp[zIn,fB,h6,hz]
 have d1:(decide (1≤d.op)&&decide (d.op≤27))=true:=by simp;omega
 have z1:(0:Int)<d.args.length:=by omega
 have b26:(d.op==26)=false:=by simpa using h6
 have c26:(d.op !=26)=true:=by simpa using h6
 have z2:decide ((0:Int)<d.args.length)=true:=by simpa using z1
 clear h
 go_enter Tryz.func87,Tryz.ntmps87
 go_wp2_with fail
 refine (inS _ _ _ _).mono ?_
 rintro e w' ⟨rfl,rfl⟩
 rw[d1]
 go_wp2_with fail
 go_ret
 exact⟨zrB HR.out,(Below.refl _ _).alloc (Nat.le_refl _) _⟩
theorem instShS(lo:Nat)(d:InstD)(u:Option Addr)(q:Nat)(ids funcs:Int)(w:World)(g0:0≤ids)(g1:ids≤4611686018427387904)(g2:0≤funcs)(g3:funcs≤4611686018427387904)(hm:d.args.length≤1048576)(hk:IntsAt w lo u d.args) :
  Calls Tryz.prog 87 #[.agg #[.int .i64 d.op,.int .i64 d.w,.int .i64 d.a,.int .i64 d.b,.int .i64 d.c,.int .i64 d.imm,.slice u d.args.length q],.int .i64 ids,.int .i64 funcs] w fun e w'=>e=.returned (.bool (zIn d ids funcs))∧Below w.heap.size w w':=by
 by_cases h:d.op<1∨27<d.op
 ·exact instShS_no d u q ids funcs w h
 by_cases h6:d.op=26
 ·obtain⟨op,iw,a,b,c,imm,args⟩:=d
  dsimp only at h6 hm hk
  subst h6
  exact instShS_26 lo iw a b c imm args u q ids funcs w g0 g1 g2 g3 hm hk
 by_cases hz:d.args.length=0
 ·obtain⟨op,iw,a,b,c,imm,args⟩:=d
  dsimp only at h h6 hz
  have e:=List.length_eq_zero_iff.1 hz
  subst e
  rcases op_split op with o|o|o|o|o|o|o|o|o|o|o|⟨_,o⟩
  ·exact instShS_bin op iw a b c imm u q ids funcs w g0 g1 g2 g3 o
  ·subst o;exact instShS_18 iw a b c imm u q ids funcs w g0 g1 g2 g3
  ·subst o;exact instShS_19 iw a b c imm u q ids funcs w g0 g1 g2 g3
  ·subst o;exact instShS_20 iw a b c imm u q ids funcs w g0 g1 g2 g3
  ·subst o;exact instShS_21 iw a b c imm u q ids funcs w g0 g1 g2 g3
  ·subst o;exact instShS_22 iw a b c imm u q ids funcs w g0 g1 g2 g3
  ·subst o;exact instShS_23 iw a b c imm u q ids funcs w g0 g1 g2 g3
  ·subst o;exact instShS_24 iw a b c imm u q ids funcs w g0 g1 g2 g3
  ·subst o;exact instShS_25 iw a b c imm u q ids funcs w g0 g1 g2 g3
  ·exact absurd o h6
  ·subst o;exact instShS_27 iw a b c imm u q ids funcs w g0 g1 g2 g3
  ·exact absurd o h
 exact instShS_full d u q ids funcs w h h6 hz hm
def immB(op:Int):Bool:=op==21||op==26
def instN(d:InstD):List Int:=[d.w]++((if immB d.op=true then [d.imm] else [])++opsD d)
def instTx(d:InstD):ByteArray:=opW d.op.toNat++bs (numsL (instN d))
def instText(d:InstD):ByteArray:=if zIn d 60 3=true then instTx d else ⟨#[]⟩
structure InF(d:InstD):Prop where
 op1:1≤d.op
 op27:d.op≤27
 w0:∃ n:Nat,d.w=n∧n≤4294967295
 imm0:∃ n:Nat,d.imm=n∧n≤4294967295
 ops:SmN (opsD d)
 len:(opsD d).length≤4
 args:d.args.length≤4
theorem width_small{x:Int}(h:zWd x=true):∃ n:Nat,x=n∧n≤32:=by
 simp[zWd] at h
 exact⟨x.toNat,by omega,by omega⟩
theorem top_small{x:Int}(h:zWd x=true):topZ x≤4294967296:=by
 simp[zWd] at h
 rcases h with ((rfl|rfl)|rfl)|rfl<;>decide
theorem instB_inF{d:InstD}(h:zIn d 60 3=true):InF d:=by
 simp only[zIn,Bool.and_eq_true] at h
 obtain⟨⟨⟨hw,hi⟩,hf⟩,ho⟩:=h
 have hop:¬(d.op<1∨27<d.op):=fun hc=>by rw[wB,if_pos hc] at hw;cases hw
 have hws:∃ n:Nat,d.w=n∧n≤32:=by
  rw[wB,if_neg hop] at hw
  split at hw
  ·exact⟨0,by simpa using hw,by omega⟩
  ·split at hw
   ·exact⟨8,by simpa using hw,by omega⟩
   ·exact width_small hw
 refine⟨by omega,by omega,?_,?_,?_,?_,?_⟩
 ·obtain⟨n,hn,hl⟩:=hws;exact⟨n,hn,by omega⟩
 ·rw[iB] at hi
  split at hi
  ·simp only[valueB,Bool.and_eq_true,decide_eq_true_eq] at hi
   have:=top_small hi.1
   exact⟨d.imm.toNat,by omega,by omega⟩
  ·split at hi
   ·simp[zBw] at hi
    exact⟨d.imm.toNat,by omega,by omega⟩
   ·exact⟨0,by simpa using hi,by omega⟩
 ·intro x hx
  have:=List.all_eq_true.1 ho x hx
  simp[zBw] at this
  exact⟨x.toNat,by omega,by omega⟩
 ·have ha:d.op=26→d.args.length≤4:=fun e=>by
   rw[fB,if_pos e] at hf
   simp at hf
   omega
  unfold opsD
  split
  ·simp
  ·split
   ·simp
   ·split
    ·simp
    ·split
     ·rename_i h;exact ha h
     ·simp
 ·rw[fB] at hf
  split at hf
  ·simp at hf;omega
  ·simp at hf;have:=hf.1.1.1;simp[this]
theorem instN_sm{d:InstD}(h:InF d):SmN (instN d):=by
 intro x hx
 unfold instN at hx
 rcases List.mem_append.1 hx with hx|hx
 ·rw[List.mem_singleton.1 hx];exact h.w0
 ·rcases List.mem_append.1 hx with hx|hx
  ·split at hx
   ·rw[List.mem_singleton.1 hx];exact h.imm0
   ·simp at hx
  ·exact h.ops x hx
theorem instN_len{d:InstD}(h:InF d):(instN d).length≤6:=by
 have:=h.len
 unfold instN
 split<;>simp<;>omega
theorem hasImmI(op:Int)(w:World):Calls Tryz.prog 111 #[.int .i64 op] w fun e w'=>e=.returned (.bool (immB op))∧w'=w:=by
 by_cases h1:op=21
 ·subst h1
  go_enter Tryz.func111,Tryz.ntmps111
  go_wp2_with fail
  go_ret
  exact⟨rfl,rfl⟩
 ·have n1:(op==21)=false:=by simpa using h1
  have E:Hid (immB op=(op==26)):=by show _=_;simp[immB,n1]
  go_enter Tryz.func111,Tryz.ntmps111
  go_wp2_with fail
  go_ret
  exact⟨by rw[E.out];rfl,rfl⟩
theorem append_zero{t ty:TypeId}(g n c:Nat)(hc:n≤c)(v:Option Addr)(r:Nat)(w:World)(i:TypeInfo)(ht:Tryz.prog.underlying t=some (.slice 2))(hi:Tryz.prog.info? 2=some i) :
  (Builtin.append_ #[t,t] ty #[.slice (some ⟨g,0,none⟩) n c,.slice v 0 r]).run Tryz.prog w=.ok (.slice (some ⟨g,0,none⟩) n c) w:=by
 cases v with
 | none=>simp[Builtin.append_,run_underlying ht,sizeOf,typeInfo,hi,Builtin.lenOf,Builtin.firstCells,storeCells,hc]
 | some a=>simp[Builtin.append_,run_underlying ht,sizeOf,typeInfo,hi,Builtin.lenOf,Builtin.firstCells,storeCells,loadCells,loadCellsFrom,hc]
theorem step_sameT{w:World}{ops:Array Oper}{o:Oper}{a:Act}{K:Act→World→Prop}{Q:Exit→Act→World→Prop}{E:Prop}(hgd:o.guard=none)(s x:Operand)(t:TypeId)(ho:o.op=.call { callee:=.builtin .append,args:=#[s,x],argTypes:=#[t,t] })
  {sv xv:Value} (hs:a.eval s=sv) (hx:a.eval x=xv) (hr:∀ ty,(Builtin.append_ #[t,t] ty #[sv,xv]).run Tryz.prog w=.ok sv w) (h:K (a.put o.dst sv) w) :
  if Region.wanted o (yielded ops a.tmps)=true then Oper.wp Tryz.prog o a w K Q else E:=by
 rw[if_pos (by simp[Region.wanted,hgd])]
 have hr:=hr o.type
 unfold Oper.wp execOp
 simp only[ho,resolve,invoke,builtin,Sem.run_bind,Sem.run_pure,Result.andThen_ok,List.map_toArray,List.map_cons,List.map_nil,hs,hx,hr]
 exact h
structure IBox(d:InstD)(u:Option Addr)(q:Nat)(w w1:World):Prop where
 c0:w1.cell? ⟨w.heap.size,0,none⟩=some (.int .i64 d.op)
 c1:w1.cell? ⟨w.heap.size,1,none⟩=some (.int .i64 d.w)
 c2:w1.cell? ⟨w.heap.size,2,none⟩=some (.int .i64 d.a)
 c3:w1.cell? ⟨w.heap.size,3,none⟩=some (.int .i64 d.b)
 c4:w1.cell? ⟨w.heap.size,4,none⟩=some (.int .i64 d.c)
 c5:w1.cell? ⟨w.heap.size,5,none⟩=some (.int .i64 d.imm)
 c6:w1.cell? ⟨w.heap.size,6,none⟩=some (.slice u d.args.length q)
 below:Below w.heap.size w w1
 size:w.heap.size+1≤w1.heap.size
theorem IBox.start{d:InstD}{u:Option Addr}{q:Nat}{w:World}{T:TypeId}:IBox d u q w (w.alloc (.cells #[.int .i64 d.op,.int .i64 d.w,.int .i64 d.a,.int .i64 d.b,.int .i64 d.c,.int .i64 d.imm,.slice u d.args.length q] T)):=by
 have hb:=zhL w (.cells #[.int .i64 d.op,.int .i64 d.w,.int .i64 d.a,.int .i64 d.b,.int .i64 d.c,.int .i64 d.imm,.slice u d.args.length q] T)
 exact⟨(zcH hb).trans rfl,(zcH hb).trans rfl,(zcH hb).trans rfl,(zcH hb).trans rfl,(zcH hb).trans rfl,(zcH hb).trans rfl,(zcH hb).trans rfl,(Below.refl _ _).alloc (Nat.le_refl _) _,by simp⟩
theorem IBox.keep{d:InstD}{u:Option Addr}{q:Nat}{w w1 w2:World}(h:IBox d u q w w1)(k:Below (w.heap.size+1) w1 w2):IBox d u q w w2:=by
 have e:∀ o,w2.cell? ⟨w.heap.size,o,none⟩=w1.cell? ⟨w.heap.size,o,none⟩:=fun o=>zcB (k.block _ (by omega))
 exact⟨(e 0).trans h.c0,(e 1).trans h.c1,(e 2).trans h.c2,(e 3).trans h.c3,(e 4).trans h.c4,(e 5).trans h.c5,(e 6).trans h.c6,h.below.trans (k.mono (by omega)),Nat.le_trans h.size k.size⟩
abbrev Ln:=List UInt8 × List Int
def lnT(x:Ln):List UInt8:=x.1++numsL x.2++[10]
def termNs(t:TermD):List Int:=if t.kind=1 then [t.a] else if t.kind=2 then [t.x] else if t.kind=3 then [t.a,t.x,t.y] else []
def tmWL:List (List UInt8):=[[],[114,101,116],[106,117,109,112],[98,114,97,110,99,104],[116,114,97,112]]
def tmW(k:Nat):ByteArray:=bs (tmWL.getD k [])
def phiL(p:PhiD):Ln:=([112,104,105],p.w :: p.ins)
def insL(i:InstD):Ln:=(opWL.getD i.op.toNat [],instN i)
def trmL(t:TermD):Ln:=(tmWL.getD t.kind.toNat [],termNs t)
def blkL(b:BlockD):List Ln:=([98,108,111,99,107],[]) :: (b.phis.map phiL++b.insts.map insL++[trmL b.term])
def funL(f:FuncD):List Ln:=([102,117,110,99],f.ret :: f.params) :: f.blocks.flatMap blkL
def modL(l:List FuncD):List Ln:=l.flatMap funL
def xPhi(p:PhiD):List UInt8:=lnT (phiL p)
def xIns(i:InstD):List UInt8:=lnT (insL i)
def xTrm(t:TermD):List UInt8:=lnT (trmL t)
def xBlk(b:BlockD):List UInt8:=[98,108,111,99,107,10]++b.phis.flatMap xPhi++b.insts.flatMap xIns++xTrm b.term
def xHead(f:FuncD):List UInt8:=lnT ([102,117,110,99],f.ret :: f.params)
def xFun(f:FuncD):List UInt8:=xHead f++f.blocks.flatMap xBlk
def xMod(l:List FuncD):List UInt8:=l.flatMap xFun
theorem blk_lines(b:BlockD):(blkL b).flatMap lnT=xBlk b:=by
 unfold blkL xBlk
 rw[List.flatMap_cons,List.flatMap_append,List.flatMap_append,List.flatMap_map,List.flatMap_map]
 show lnT ([98,108,111,99,107],[])++(b.phis.flatMap xPhi++b.insts.flatMap xIns++[trmL b.term].flatMap lnT)=_
 rw[List.flatMap_cons,List.flatMap_nil,List.append_nil]
 show [98,108,111,99,107,10]++(b.phis.flatMap xPhi++b.insts.flatMap xIns++xTrm b.term)=_
 simp only[List.append_assoc]
theorem flat_flat{α:Type}(g:α→List Ln)(h:α→List UInt8)(e:∀ x,(g x).flatMap lnT=h x):∀ l:List α,(l.flatMap g).flatMap lnT=l.flatMap h
 | []=>rfl
 | x :: l=>by rw[List.flatMap_cons,List.flatMap_append,e,flat_flat g h e l,List.flatMap_cons]
theorem fun_lines(f:FuncD):(funL f).flatMap lnT=xFun f:=by
 unfold funL xFun xHead
 rw[List.flatMap_cons,flat_flat blkL xBlk blk_lines]
theorem mod_lines(l:List FuncD):(modL l).flatMap lnT=xMod l:=flat_flat funL xFun fun_lines l
theorem take_snocX{α:Type}{l:List α}{z:α}{k:Nat}(h:k<l.length):l.take (k+1)=l.take k++[l.getD k z]:=by
 rw[List.take_succ_eq_append_getElem h];simp[List.getD,h]
theorem flat_snocX{α β:Type}{l:List α}{z:α}{k:Nat}(g:α→List β)(h:k<l.length):(l.take (k+1)).flatMap g=(l.take k).flatMap g++g (l.getD k z):=by
 rw[take_snocX (z:=z) h,List.flatMap_append];simp
theorem flat_leX{α β:Type}(l:List α)(g:α→List β)(k:Nat):((l.take k).flatMap g).length≤(l.flatMap g).length:=by
 have:=List.take_append_drop k l
 rw[←this,List.flatMap_append,List.length_append,this]
 omega
theorem flat_allX{α β:Type}(l:List α)(g:α→List β){k:Nat}(h:¬k<l.length):(l.take k).flatMap g=l.flatMap g:=by
 rw[List.take_of_length_le (by omega)]
theorem flat_boundX{α β:Type}(g:α→List β)(n:Nat):∀ l:List α,(∀ x∈l,(g x).length≤n)→(l.flatMap g).length≤n*l.length
 | [],_=>by simp
 | x :: l,h=>by
  have h1:=h x (by simp)
  have h2:=flat_boundX g n l (fun y hy=>h y (by simp[hy]))
  rw[List.flatMap_cons,List.length_append,List.length_cons]
  rw[Nat.mul_add];omega
structure LnOk(x:Ln):Prop where
 w:x.1.length≤6
 n:x.2.length≤20
 s:SmN x.2
theorem LnOk.len{x:Ln}(h:LnOk x):(lnT x).length≤230:=by
 have:=nums_len x.2 h.s
 have:=h.w
 have:=h.n
 unfold lnT
 simp only[List.length_append,List.length_cons,List.length_nil]
 omega
theorem sm_cons{n:Int}{l:List Int}(h:∃ k:Nat,n=k∧k≤4294967295)(hl:SmN l):SmN (n :: l):=by
 intro x hx
 rcases List.mem_cons.1 hx with rfl|hx
 ·exact h
 ·exact hl x hx
theorem sm_nil:SmN []:=fun x hx=>by cases hx
theorem sm_width{x:Int}(h:zWd x=true):∃ k:Nat,x=k∧k≤4294967295:=by
 obtain⟨n,e,k⟩:=width_small h
 exact⟨n,e,by omega⟩
theorem sm_below{x c:Int}(hc:c≤60)(h:zBw x c=true):∃ k:Nat,x=k∧k≤4294967295:=by
 simp[zBw] at h
 exact⟨x.toNat,by omega,by omega⟩
theorem phi_ok{p:PhiD}{ids:Int}(hc:ids≤60)(h:phiB ids p=true):LnOk (phiL p):=by
 simp only[phiB,Bool.and_eq_true,decide_eq_true_eq] at h
 obtain⟨⟨h1,h2⟩,h3⟩:=h
 exact⟨by show 3≤6;omega,by simp[phiL];omega,sm_cons (sm_width h1) fun x hx=>sm_below hc (List.all_eq_true.1 h3 x hx)⟩
theorem inst_wide{d:InstD}{ids funcs:Int}(hc:ids≤60)(hf:funcs≤3)(h:zIn d ids funcs=true):zIn d 60 3=true:=by
 simp only[zIn,Bool.and_eq_true] at h ⊢
 obtain⟨⟨⟨hw,hi⟩,hg⟩,ho⟩:=h
 refine⟨⟨⟨hw,?_⟩,hg⟩,?_⟩
 ·unfold iB at hi ⊢
  split
  ·rename_i h1;rw[if_pos h1] at hi;exact hi
  ·rename_i h1;rw[if_neg h1] at hi
   split
   ·rename_i h2;rw[if_pos h2] at hi
    simp[zBw] at hi ⊢;omega
   ·rename_i h2;rw[if_neg h2] at hi;exact hi
 ·refine List.all_eq_true.2 fun x hx=>?_
  have:=List.all_eq_true.1 ho x hx
  simp[zBw] at this ⊢;omega
theorem ins_ok{d:InstD}{ids funcs:Int}(hc:ids≤60)(hf:funcs≤3)(h:zIn d ids funcs=true):LnOk (insL d):=by
 have hF:=instB_inF (inst_wide hc hf h)
 exact⟨opWL_len _,by have:=instN_len hF;show (instN d).length≤20;omega,instN_sm hF⟩
theorem tmWL_len(k:Nat):(tmWL.getD k []).length≤6:=by
 rcases Nat.lt_or_ge k 5 with h|h
 ·have:∀ k:Fin 5,(tmWL.getD k.1 []).length≤6:=by decide
  exact this ⟨k,h⟩
 ·have:tmWL.getD k []=[]:=by simp[List.getD,List.getElem?_eq_none (show tmWL.length≤k from h)]
  rw[this];simp
structure TmOk(t:TermD):Prop where
 k:t.kind=1∨t.kind=2∨t.kind=3∨t.kind=4
 a:∃ k:Nat,t.a=k∧k≤4294967295
 x:∃ k:Nat,t.x=k∧k≤4294967295
 y:∃ k:Nat,t.y=k∧k≤4294967295
theorem term_ok{t:TermD}{ids blocks:Int}(hc:ids≤60)(hb:blocks≤10)(h:termB t ids blocks=true):TmOk t:=by
 have z0:∃ k:Nat,(0:Int)=k∧k≤4294967295:=⟨0,rfl,by omega⟩
 have hb':blocks≤60:=by omega
 unfold termB at h
 split at h
 ·rename_i h1
  simp only[Bool.and_eq_true,beq_iff_eq] at h
  obtain⟨⟨h2,h3⟩,h4⟩:=h
  exact⟨.inl h1,sm_below hc h2,by rw[h3];exact z0,by rw[h4];exact z0⟩
 ·split at h
  ·rename_i h1
   simp only[Bool.and_eq_true,beq_iff_eq] at h
   obtain⟨⟨h2,h3⟩,h4⟩:=h
   exact⟨.inr (.inl h1),by rw[h3];exact z0,sm_below hb' h2,by rw[h4];exact z0⟩
  ·split at h
   ·rename_i h1
    simp only[Bool.and_eq_true] at h
    obtain⟨⟨⟨h2,h3⟩,h4⟩,h5⟩:=h
    exact⟨.inr (.inr (.inl h1)),sm_below hc h2,sm_below hb' h3,sm_below hb' h4⟩
   ·simp only[Bool.and_eq_true,beq_iff_eq] at h
    obtain⟨⟨⟨h2,h3⟩,h4⟩,h5⟩:=h
    exact⟨.inr (.inr (.inr h2)),by rw[h3];exact z0,by rw[h4];exact z0,by rw[h5];exact z0⟩
theorem TmOk.nums{t:TermD}(h:TmOk t):SmN (termNs t):=by
 unfold termNs
 split
 ·exact sm_cons h.a sm_nil
 ·split
  ·exact sm_cons h.x sm_nil
  ·split
   ·exact sm_cons h.a (sm_cons h.x (sm_cons h.y sm_nil))
   ·exact sm_nil
theorem termNs_len(t:TermD):(termNs t).length≤3:=by
 unfold termNs
 split
 ·simp
 ·split
  ·simp
  ·split<;>simp
theorem trm_ok{t:TermD}(h:TmOk t):LnOk (trmL t):=⟨tmWL_len _,by have:=termNs_len t;show (termNs t).length≤20;omega,h.nums⟩
structure BkOk(b:BlockD):Prop where
 p:∀ p∈b.phis,LnOk (phiL p)
 i:∀ i∈b.insts,zIn i 60 3=true
 t:TmOk b.term
theorem BkOk.ins{b:BlockD}(h:BkOk b):∀ i∈b.insts,LnOk (insL i):=fun i hi=>ins_ok (Int.le_refl 60) (Int.le_refl 3) (h.i i hi)
theorem block_ok{b:BlockD}{ids blocks funcs:Int}(hc:ids≤60)(hb:blocks≤10)(hf:funcs≤3)(h:blockB ids blocks funcs b=true):BkOk b:=by
 simp only[blockB,Bool.and_eq_true] at h
 exact⟨fun p hp=>phi_ok hc (List.all_eq_true.1 h.1.1 p hp),fun i hi=>inst_wide hc hf (List.all_eq_true.1 h.1.2 i hi),term_ok hc hb h.2⟩
structure FnOk(f:FuncD):Prop where
 h:LnOk ([102,117,110,99],f.ret :: f.params)
 p4:f.params.length≤4
 b10:f.blocks.length≤10
 c60:cntF f≤60
 b:∀ x∈f.blocks,BkOk x
theorem func_ok{f:FuncD}{funcs:Int}(hf:funcs≤3)(h:funcB funcs f=true):FnOk f:=by
 simp only[funcB,Bool.and_eq_true,decide_eq_true_eq] at h
 obtain⟨⟨⟨⟨⟨⟨h1,h2⟩,h3⟩,h4⟩,h5⟩,h6⟩,h7⟩:=h
 refine⟨⟨by show 4≤6;omega,by show (f.ret :: f.params).length≤20;rw[List.length_cons];omega,sm_cons (sm_width h3) fun x hx=>sm_width (List.all_eq_true.1 h2 x hx)⟩,h1,h5,h6,fun x hx=>?_⟩
 exact block_ok (by omega) (by omega) hf (List.all_eq_true.1 h7 x hx)
theorem mod_ok{l:List FuncD}(h:modB l=true):l.length≤3∧∀ f∈l,FnOk f:=by
 simp only[modB,Bool.and_eq_true,decide_eq_true_eq] at h
 exact⟨h.1.2,fun f hf=>func_ok (by omega) (List.all_eq_true.1 h.2 f hf)⟩
theorem xBlk_len{b:BlockD}(h:BkOk b):(xBlk b).length≤236+230*cntB b:=by
 have h1:=flat_boundX xPhi 230 b.phis (fun x hx=>(h.p x hx).len)
 have h2:=flat_boundX xIns 230 b.insts (fun x hx=>(h.ins x hx).len)
 have h3:=(trm_ok h.t).len
 have h4:(xTrm b.term).length≤230:=h3
 unfold xBlk cntB
 simp only[List.length_append,List.length_cons,List.length_nil]
 omega
theorem xBlks_len:∀ l:List BlockD,(∀ x∈l,BkOk x)→(l.flatMap xBlk).length≤236*l.length+230*cntL l
 | [],_=>by simp
 | b :: l,h=>by
  have h1:=xBlk_len (h b (by simp))
  have h2:=xBlks_len l (fun x hx=>h x (by simp[hx]))
  have h3:cntL (b :: l)=cntB b+cntL l:=by simp[cntL]
  rw[List.flatMap_cons,List.length_append,List.length_cons,h3,Nat.mul_add,Nat.mul_add]
  omega
theorem xFun_len{f:FuncD}(h:FnOk f):(xFun f).length≤17000:=by
 have h5:=xBlks_len f.blocks h.b
 have h3:=h.c60
 have h2:=h.b10
 have h6:cntL f.blocks≤60:=by unfold cntF at h3;omega
 have h7:(xHead f).length≤230:=h.h.len
 unfold xFun
 rw[List.length_append]
 omega
theorem xMod_len{l:List FuncD}(h:modB l=true):(xMod l).length≤51000:=by
 obtain⟨h1,h2⟩:=mod_ok h
 have:=flat_boundX xFun 17000 l (fun f hf=>xFun_len (h2 f hf))
 unfold xMod
 omega
end Go.Proofs.YtkpmiikafconmaaGreatDoor
