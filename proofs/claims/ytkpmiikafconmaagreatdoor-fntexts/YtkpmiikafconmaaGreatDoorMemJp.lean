import Derived.Test.YtkpmiikafconmaaGreatDoorRows
import Derived.WalkKit
import Derived.WalkSpells
import Derived.Laws.IdiomStrings
import Derived.Lib.ItoaNum
namespace Go.Proofs.YtkpmiikafconmaaGreatDoor
open Go.RowKit
structure PhiD where
 w:Int
 ins:List Int
structure InstD where
 op:Int
 w:Int
 a:Int
 b:Int
 c:Int
 imm:Int
 args:List Int
structure TermD where
 kind:Int
 a:Int
 x:Int
 y:Int
structure BlockD where
 phis:List PhiD
 insts:List InstD
 term:TermD
structure FuncD where
 params:List Int
 ret:Int
 blocks:List BlockD
def phi0:PhiD:=⟨0,[]⟩
def inst0:InstD:=⟨0,0,0,0,0,0,[]⟩
def term0:TermD:=⟨0,0,0,0⟩
def block0:BlockD:=⟨[],[],term0⟩
def func0:FuncD:=⟨[],0,[]⟩
def Agree(lo:Nat)(w w':World):Prop:=w.heap.size≤w'.heap.size∧∀ b,lo≤b→b<w.heap.size→w'.heap[b]?=w.heap[b]?
theorem Agree.trans{lo:Nat}{a b c:World}(h:Agree lo a b)(k:Agree lo b c):Agree lo a c :=
 ⟨Nat.le_trans h.1 k.1,fun i hi hl=>(k.2 i hi (Nat.lt_of_lt_of_le hl h.1)).trans (h.2 i hi hl)⟩
theorem zaB{w w':World}(h:Below w.heap.size w w')(lo:Nat):Agree lo w w':=⟨h.size,fun b _ hb=>h.block b hb⟩
theorem zaA(w:World)(o:Obj)(lo:Nat):Agree lo w (w.alloc o):=⟨by simp,fun b _ hb=>Below.heap_alloc w o b hb⟩
theorem agree_setCell(w:World)(g o lo:Nat)(v:Value)(h:g<lo):Agree lo w (w.setCell ⟨g,o,none⟩ v) :=
 ⟨by simp[World.setCell],fun b hb _=>Below.heap_setCell _ _ _ _ (by show b≠g;omega)⟩
theorem zcB{w w':World}{b o:Nat}(h:w'.heap[b]?=w.heap[b]?):w'.cell? ⟨b,o,none⟩=w.cell? ⟨b,o,none⟩:=by
 unfold World.cell?;rw[h]
theorem cell_agree{lo:Nat}{w w':World}(h:Agree lo w w'){b o:Nat}(hl:lo≤b)(hb:b<w.heap.size):w'.cell? ⟨b,o,none⟩=w.cell? ⟨b,o,none⟩:=by
 unfold World.cell?;rw[h.2 b hl hb]
theorem bcell{W w1:World}(hb:Below W.heap.size W w1):∀ b o,b<W.heap.size→w1.cell? ⟨b,o,none⟩=W.cell? ⟨b,o,none⟩:=fun b o h=>hb.cell (p:=⟨b,o,none⟩) h
theorem getD_mem{α:Type}(z:α)(l:List α)(k:Nat)(h:k<l.length):l.getD k z∈l:=by simp[List.getD,h]
def IntsAt(w:World)(lo:Nat)(a:Option Addr)(l:List Int):Prop :=
 l.length≤9223372036854775807∧(l=[]∨∃ b off,a=some ⟨b,off,none⟩∧lo≤b∧b<w.heap.size∧∀ i,i<l.length→w.cell? ⟨b,off+i,none⟩=some (.int .i64 (l.getD i 0)))
def PhisAt(w:World)(lo:Nat)(a:Option Addr)(l:List PhiD):Prop :=
 l.length≤9223372036854775807∧(l=[]∨∃ b off,a=some ⟨b,off,none⟩∧lo≤b∧b<w.heap.size∧∀ i,i<l.length →
  w.cell? ⟨b,off+i*2,none⟩=some (.int .i64 (l.getD i phi0).w) ∧
  (∃ u c,w.cell? ⟨b,off+i*2+1,none⟩=some (.slice u (l.getD i phi0).ins.length c)∧IntsAt w lo u (l.getD i phi0).ins))
def InstsAt(w:World)(lo:Nat)(a:Option Addr)(l:List InstD):Prop :=
 l.length≤9223372036854775807∧(l=[]∨∃ b off,a=some ⟨b,off,none⟩∧lo≤b∧b<w.heap.size∧∀ i,i<l.length →
  w.cell? ⟨b,off+i*7,none⟩=some (.int .i64 (l.getD i inst0).op) ∧
  w.cell? ⟨b,off+i*7+1,none⟩=some (.int .i64 (l.getD i inst0).w) ∧
  w.cell? ⟨b,off+i*7+2,none⟩=some (.int .i64 (l.getD i inst0).a) ∧
  w.cell? ⟨b,off+i*7+3,none⟩=some (.int .i64 (l.getD i inst0).b) ∧
  w.cell? ⟨b,off+i*7+4,none⟩=some (.int .i64 (l.getD i inst0).c) ∧
  w.cell? ⟨b,off+i*7+5,none⟩=some (.int .i64 (l.getD i inst0).imm) ∧
  (∃ u c,w.cell? ⟨b,off+i*7+6,none⟩=some (.slice u (l.getD i inst0).args.length c)∧IntsAt w lo u (l.getD i inst0).args))
def zBA(w:World)(lo:Nat)(a:Option Addr)(l:List BlockD):Prop :=
 l.length≤9223372036854775807∧(l=[]∨∃ b off,a=some ⟨b,off,none⟩∧lo≤b∧b<w.heap.size∧∀ i,i<l.length →
  (∃ u c,w.cell? ⟨b,off+i*6,none⟩=some (.slice u (l.getD i block0).phis.length c)∧PhisAt w lo u (l.getD i block0).phis) ∧
  (∃ u c,w.cell? ⟨b,off+i*6+1,none⟩=some (.slice u (l.getD i block0).insts.length c)∧InstsAt w lo u (l.getD i block0).insts) ∧
  w.cell? ⟨b,off+i*6+2,none⟩=some (.int .i64 (l.getD i block0).term.kind) ∧
  w.cell? ⟨b,off+i*6+3,none⟩=some (.int .i64 (l.getD i block0).term.a) ∧
  w.cell? ⟨b,off+i*6+4,none⟩=some (.int .i64 (l.getD i block0).term.x) ∧
  w.cell? ⟨b,off+i*6+5,none⟩=some (.int .i64 (l.getD i block0).term.y))
def zFA(w:World)(lo:Nat)(a:Option Addr)(l:List FuncD):Prop :=
 l.length≤9223372036854775807∧(l=[]∨∃ b off,a=some ⟨b,off,none⟩∧lo≤b∧b<w.heap.size∧∀ i,i<l.length →
  (∃ u c,w.cell? ⟨b,off+i*3,none⟩=some (.slice u (l.getD i func0).params.length c)∧IntsAt w lo u (l.getD i func0).params) ∧
  w.cell? ⟨b,off+i*3+1,none⟩=some (.int .i64 (l.getD i func0).ret) ∧
  (∃ u c,w.cell? ⟨b,off+i*3+2,none⟩=some (.slice u (l.getD i func0).blocks.length c)∧zBA w lo u (l.getD i func0).blocks))
theorem IntsAt.keep{w w':World}{lo:Nat}{a:Option Addr}{l:List Int}(h:IntsAt w lo a l)(k:Agree lo w w'):IntsAt w' lo a l:=by
 obtain⟨hm,h⟩:=h
 refine⟨hm,?_⟩
 rcases h with h|⟨b,off,ha,hl,hb,hc⟩
 ·exact .inl h
 ·exact .inr ⟨b,off,ha,hl,Nat.lt_of_lt_of_le hb k.1,fun i hi=>(cell_agree k hl hb).trans (hc i hi)⟩
theorem IntsAt.low{w:World}{lo lo':Nat}{a:Option Addr}{l:List Int}(h:IntsAt w lo a l)(k:lo'≤lo):IntsAt w lo' a l:=by
 obtain⟨hm,h⟩:=h
 refine⟨hm,?_⟩
 rcases h with h|⟨b,off,ha,hl,hb,hc⟩
 ·exact .inl h
 ·exact .inr ⟨b,off,ha,Nat.le_trans k hl,hb,hc⟩
theorem PhisAt.keep{w w':World}{lo:Nat}{a:Option Addr}{l:List PhiD}(h:PhisAt w lo a l)(k:Agree lo w w'):PhisAt w' lo a l:=by
 obtain⟨hm,h⟩:=h
 refine⟨hm,?_⟩
 rcases h with h|⟨b,off,ha,hl,hb,hc⟩
 ·exact .inl h
 ·refine .inr ⟨b,off,ha,hl,Nat.lt_of_lt_of_le hb k.1,fun i hi=>?_⟩
  obtain⟨h0,⟨u1,c1,h1,k1⟩⟩:=hc i hi
  exact⟨(cell_agree k hl hb).trans h0,⟨u1,c1,(cell_agree k hl hb).trans h1,k1.keep k⟩⟩
theorem PhisAt.low{w:World}{lo lo':Nat}{a:Option Addr}{l:List PhiD}(h:PhisAt w lo a l)(k:lo'≤lo):PhisAt w lo' a l:=by
 obtain⟨hm,h⟩:=h
 refine⟨hm,?_⟩
 rcases h with h|⟨b,off,ha,hl,hb,hc⟩
 ·exact .inl h
 ·refine .inr ⟨b,off,ha,Nat.le_trans k hl,hb,fun i hi=>?_⟩
  obtain⟨h0,⟨u1,c1,h1,k1⟩⟩:=hc i hi
  exact⟨h0,⟨u1,c1,h1,k1.low k⟩⟩
theorem InstsAt.keep{w w':World}{lo:Nat}{a:Option Addr}{l:List InstD}(h:InstsAt w lo a l)(k:Agree lo w w'):InstsAt w' lo a l:=by
 obtain⟨hm,h⟩:=h
 refine⟨hm,?_⟩
 rcases h with h|⟨b,off,ha,hl,hb,hc⟩
 ·exact .inl h
 ·refine .inr ⟨b,off,ha,hl,Nat.lt_of_lt_of_le hb k.1,fun i hi=>?_⟩
  obtain⟨h0,h1,h2,h3,h4,h5,⟨u6,c6,h6,k6⟩⟩:=hc i hi
  exact⟨(cell_agree k hl hb).trans h0,(cell_agree k hl hb).trans h1,(cell_agree k hl hb).trans h2,(cell_agree k hl hb).trans h3,(cell_agree k hl hb).trans h4,(cell_agree k hl hb).trans h5,⟨u6,c6,(cell_agree k hl hb).trans h6,k6.keep k⟩⟩
theorem InstsAt.low{w:World}{lo lo':Nat}{a:Option Addr}{l:List InstD}(h:InstsAt w lo a l)(k:lo'≤lo):InstsAt w lo' a l:=by
 obtain⟨hm,h⟩:=h
 refine⟨hm,?_⟩
 rcases h with h|⟨b,off,ha,hl,hb,hc⟩
 ·exact .inl h
 ·refine .inr ⟨b,off,ha,Nat.le_trans k hl,hb,fun i hi=>?_⟩
  obtain⟨h0,h1,h2,h3,h4,h5,⟨u6,c6,h6,k6⟩⟩:=hc i hi
  exact⟨h0,h1,h2,h3,h4,h5,⟨u6,c6,h6,k6.low k⟩⟩
theorem zBA.keep{w w':World}{lo:Nat}{a:Option Addr}{l:List BlockD}(h:zBA w lo a l)(k:Agree lo w w'):zBA w' lo a l:=by
 obtain⟨hm,h⟩:=h
 refine⟨hm,?_⟩
 rcases h with h|⟨b,off,ha,hl,hb,hc⟩
 ·exact .inl h
 ·refine .inr ⟨b,off,ha,hl,Nat.lt_of_lt_of_le hb k.1,fun i hi=>?_⟩
  obtain⟨⟨u0,c0,h0,k0⟩,⟨u1,c1,h1,k1⟩,h2,h3,h4,h5⟩:=hc i hi
  exact⟨⟨u0,c0,(cell_agree k hl hb).trans h0,k0.keep k⟩,⟨u1,c1,(cell_agree k hl hb).trans h1,k1.keep k⟩,(cell_agree k hl hb).trans h2,(cell_agree k hl hb).trans h3,(cell_agree k hl hb).trans h4,(cell_agree k hl hb).trans h5⟩
theorem zBA.low{w:World}{lo lo':Nat}{a:Option Addr}{l:List BlockD}(h:zBA w lo a l)(k:lo'≤lo):zBA w lo' a l:=by
 obtain⟨hm,h⟩:=h
 refine⟨hm,?_⟩
 rcases h with h|⟨b,off,ha,hl,hb,hc⟩
 ·exact .inl h
 ·refine .inr ⟨b,off,ha,Nat.le_trans k hl,hb,fun i hi=>?_⟩
  obtain⟨⟨u0,c0,h0,k0⟩,⟨u1,c1,h1,k1⟩,h2,h3,h4,h5⟩:=hc i hi
  exact⟨⟨u0,c0,h0,k0.low k⟩,⟨u1,c1,h1,k1.low k⟩,h2,h3,h4,h5⟩
theorem zFA.keep{w w':World}{lo:Nat}{a:Option Addr}{l:List FuncD}(h:zFA w lo a l)(k:Agree lo w w'):zFA w' lo a l:=by
 obtain⟨hm,h⟩:=h
 refine⟨hm,?_⟩
 rcases h with h|⟨b,off,ha,hl,hb,hc⟩
 ·exact .inl h
 ·refine .inr ⟨b,off,ha,hl,Nat.lt_of_lt_of_le hb k.1,fun i hi=>?_⟩
  obtain⟨⟨u0,c0,h0,k0⟩,h1,⟨u2,c2,h2,k2⟩⟩:=hc i hi
  exact⟨⟨u0,c0,(cell_agree k hl hb).trans h0,k0.keep k⟩,(cell_agree k hl hb).trans h1,⟨u2,c2,(cell_agree k hl hb).trans h2,k2.keep k⟩⟩
theorem zFA.low{w:World}{lo lo':Nat}{a:Option Addr}{l:List FuncD}(h:zFA w lo a l)(k:lo'≤lo):zFA w lo' a l:=by
 obtain⟨hm,h⟩:=h
 refine⟨hm,?_⟩
 rcases h with h|⟨b,off,ha,hl,hb,hc⟩
 ·exact .inl h
 ·refine .inr ⟨b,off,ha,Nat.le_trans k hl,hb,fun i hi=>?_⟩
  obtain⟨⟨u0,c0,h0,k0⟩,h1,⟨u2,c2,h2,k2⟩⟩:=hc i hi
  exact⟨⟨u0,c0,h0,k0.low k⟩,h1,⟨u2,c2,h2,k2.low k⟩⟩
def SmPhi(d:PhiD):Prop:=d.ins.length≤1048576
def SmInst(d:InstD):Prop:=d.args.length≤1048576
def SmBlock(d:BlockD):Prop:=(d.phis.length≤1048576∧∀ p∈d.phis,SmPhi p)∧(d.insts.length≤1048576∧∀ p∈d.insts,SmInst p)
def SmFunc(d:FuncD):Prop:=d.params.length≤1048576∧(d.blocks.length≤1048576∧∀ p∈d.blocks,SmBlock p)
theorem ret_i{a b:Int}(h:a=b):Ending.returned (.int .i64 a)=.returned (.int .i64 b):=by rw[h]
theorem zhL(w:World)(o:Obj):(w.alloc o).heap[w.heap.size]?=some o:=by
 show (w.heap.push o)[w.heap.size]?=_
 simp
theorem zcH{w:World}{g o:Nat}{cur:Array Value}{t:TypeId}(h:w.heap[g]?=some (.cells cur t (0,0))):w.cell? ⟨g,o,none⟩=cur[o]?:=by
 unfold World.cell?;rw[h];rfl
theorem zfH{w:World}{g o:Nat}{cur:Array Value}{t:TypeId}(h:w.heap[g]?=some (.cells cur t (0,0))):w.frozen? ⟨g,o,none⟩=false:=by
 unfold World.frozen?;rw[h];rfl
theorem zhS{w:World}{g o:Nat}{cur:Array Value}{t:TypeId}{v:Value}(h:w.heap[g]?=some (.cells cur t (0,0))):(w.setCell ⟨g,o,none⟩ v).heap[g]?=some (.cells (cur.setIfInBounds o v) t (0,0)):=by
 show (w.heap.modify g _)[g]?=_
 rw[Array.getElem?_modify,if_pos rfl,h]
 rfl
theorem infoI:(Tryz.prog.info? 2).map (fun i=>(i.zero,i.size,i.bytes))=some (some (.int .i64 0),1,8):=by kernel_rfl
def zWd(w:Int):Bool:=w==1||w==8||w==16||w==32
def topZ(w:Int):Int:=if w=1 then 2 else if w=8 then 256 else if w=16 then 65536 else 4294967296
def valueB(w v:Int):Bool:=zWd w&&(decide (0≤v)&&decide (v<topZ w))
theorem width_yes{w:Int}(h:zWd w=true):w=1∨w=8∨w=16∨w=32:=by
 simp[zWd] at h;omega
theorem width_no{w:Int}(h:zWd w=false):(w==1)=false∧(w==8)=false∧(w==16)=false∧(w==32)=false:=by
 simp[zWd] at h;simp;omega
theorem top_pos(w:Int):2≤topZ w∧topZ w≤4294967296:=by
 unfold topZ;repeat' split
 all_goals omega
theorem widthS(a:Int)(w:World):Calls Tryz.prog 86 #[.int .i64 a] w fun e w'=>e=.returned (.bool (zWd a))∧w'=w:=by
 by_cases h:zWd a=true
 ·rw[h]
  rcases width_yes h with rfl|rfl|rfl|rfl
  all_goals
   clear h
   go_enter Tryz.func86,Tryz.ntmps86
   go_wp2
   go_ret
   exact⟨rfl,rfl⟩
 ·have h:zWd a=false:=by simpa using h
  rw[h]
  obtain⟨d1,d2,d3,d4⟩:=width_no h
  clear h
  go_enter Tryz.func86,Tryz.ntmps86
  go_wp2
  go_ret
  exact⟨rfl,rfl⟩
theorem widthI(a:Int)(w:World):Calls Tryz.prog 71 #[.int .i64 a] w fun e w'=>e=.returned (.bool (zWd a))∧w'=w:=by
 by_cases h:zWd a=true
 ·rw[h]
  rcases width_yes h with rfl|rfl|rfl|rfl
  all_goals
   clear h
   go_enter Tryz.func71,Tryz.ntmps71
   go_wp2
   go_ret
   exact⟨rfl,rfl⟩
 ·have h:zWd a=false:=by simpa using h
  rw[h]
  obtain⟨d1,d2,d3,d4⟩:=width_no h
  clear h
  go_enter Tryz.func71,Tryz.ntmps71
  go_wp2
  go_ret
  exact⟨rfl,rfl⟩
theorem topS(a:Int)(w:World)(h:zWd a=true):Calls Tryz.prog 159 #[.int .i64 a] w fun e w'=>e=.returned (.int .i64 (topZ a))∧w'=w:=by
 rcases width_yes h with rfl|rfl|rfl|rfl
 all_goals
  clear h
  go_enter Tryz.func159,Tryz.ntmps159
  go_wp2
  go_ret
  exact⟨rfl,rfl⟩
theorem topI(a:Int)(w:World)(h:zWd a=true):Calls Tryz.prog 182 #[.int .i64 a] w fun e w'=>e=.returned (.int .i64 (topZ a))∧w'=w:=by
 rcases width_yes h with rfl|rfl|rfl|rfl
 all_goals
  clear h
  go_enter Tryz.func182,Tryz.ntmps182
  go_wp2
  go_ret
  exact⟨rfl,rfl⟩
theorem zrB{a b:Bool}(h:a=b):Ending.returned (.bool a)=.returned (.bool b):=by rw[h]
theorem ret_int{k:IntKind}{a b:Int}(h:a=b):Ending.returned (.int k a)=.returned (.int k b):=by rw[h]
theorem inS(n lo hi:Int)(w:World):Calls Tryz.prog 49 #[.int .i64 n,.int .i64 lo,.int .i64 hi] w fun e w'=>e=.returned (.bool (decide (lo≤n)&&decide (n≤hi)))∧w'=w:=by
 by_cases h1:lo≤n
 ·by_cases h2:n≤hi
  ·have d1:decide (lo≤n)=true:=by simpa using h1
   have d2:decide (n≤hi)=true:=by simpa using h2
   go_enter Tryz.func49,Tryz.ntmps49
   go_wp2
   go_ret
   exact⟨zrB (by simp[h1,h2]),rfl⟩
  ·have d1:decide (lo≤n)=true:=by simpa using h1
   have d2:decide (n≤hi)=false:=by simpa using h2
   go_enter Tryz.func49,Tryz.ntmps49
   go_wp2
   go_ret
   exact⟨zrB (by simp),rfl⟩
 ·have d1:decide (lo≤n)=false:=by simpa using h1
  go_enter Tryz.func49,Tryz.ntmps49
  go_wp2
  go_ret
  exact⟨zrB (by simp),rfl⟩
theorem valueS_eq{a v:Int}(h:zWd a=true):(decide (0≤v)&&decide (v≤topZ a-1))=valueB a v:=by
 rw[valueB,h,Bool.true_and,Bool.eq_iff_iff];simp;omega
theorem valueS(a v:Int)(w:World):Calls Tryz.prog 126 #[.int .i64 a,.int .i64 v] w fun e w'=>e=.returned (.bool (valueB a v))∧w'=w:=by
 by_cases h:zWd a=true
 ·have tp:=top_pos a
  have HE:Hid ((decide (0≤v)&&decide (v≤topZ a-1))=valueB a v):=valueS_eq h
  go_enter Tryz.func126,Tryz.ntmps126
  go_wp2_with (first|(go_at_call 86;refine (widthS _ _).mono ?_;rintro e w' ⟨rfl,rfl⟩)|(go_at_call 159;refine (topS _ _ h).mono ?_;rintro e w' ⟨rfl,rfl⟩)|(go_at_call 49;refine (inS _ _ _ _).mono ?_;rintro e w' ⟨rfl,rfl⟩))
  go_ret
  exact⟨zrB HE.out,rfl⟩
 ·have h:zWd a=false:=by simpa using h
  have HE:Hid (false=valueB a v):=by simp[valueB,h,Hid]
  go_enter Tryz.func126,Tryz.ntmps126
  go_wp2_with (first|(go_at_call 86;refine (widthS _ _).mono ?_;rintro e w' ⟨rfl,rfl⟩))
  go_ret
  exact⟨zrB HE.out,rfl⟩
theorem valueI(a v:Int)(w:World):Calls Tryz.prog 165 #[.int .i64 a,.int .i64 v] w fun e w'=>e=.returned (.bool (valueB a v))∧w'=w:=by
 by_cases h:zWd a=true
 ·have tp:=top_pos a
  by_cases h1:0≤v
  ·have HE:Hid (decide (v<topZ a)=valueB a v):=by show _=_;rw[valueB,h];simp[h1]
   go_enter Tryz.func165,Tryz.ntmps165
   go_wp2_with (first|(go_at_call 71;refine (widthI _ _).mono ?_;rintro e w' ⟨rfl,rfl⟩)|(go_at_call 182;refine (topI _ _ h).mono ?_;rintro e w' ⟨rfl,rfl⟩))
   go_ret
   exact⟨zrB HE.out,rfl⟩
  ·have HE:Hid (false=valueB a v):=by show _=_;rw[valueB,h];simp[h1]
   have d1:decide (0≤v)=false:=by simpa using h1
   go_enter Tryz.func165,Tryz.ntmps165
   go_wp2_with (first|(go_at_call 71;refine (widthI _ _).mono ?_;rintro e w' ⟨rfl,rfl⟩))
   go_ret
   exact⟨zrB HE.out,rfl⟩
 ·have h:zWd a=false:=by simpa using h
  have HE:Hid (false=valueB a v):=by simp[valueB,h,Hid]
  go_enter Tryz.func165,Tryz.ntmps165
  go_wp2_with (first|(go_at_call 71;refine (widthI _ _).mono ?_;rintro e w' ⟨rfl,rfl⟩))
  go_ret
  exact⟨zrB HE.out,rfl⟩
def opB(op:Int):Bool:=decide (1≤op)&&decide (op≤17)
def resZ(op a:Int):Int:=if opB op=true∧zWd a=true then (if 14≤op then 1 else a) else 0
theorem opI(op:Int)(w:World):Calls Tryz.prog 164 #[.int .i64 op] w fun e w'=>e=.returned (.bool (opB op))∧w'=w:=by
 by_cases h1:1≤op
 ·have E:Hid (decide (op≤17)=opB op):=by show _=_;simp[opB,h1]
  go_enter Tryz.func164,Tryz.ntmps164
  go_wp2
  go_ret
  exact⟨zrB E.out,rfl⟩
 ·have E:Hid (false=opB op):=by show _=_;simp[opB,h1]
  have d1:decide (1≤op)=false:=by simpa using h1
  go_enter Tryz.func164,Tryz.ntmps164
  go_wp2
  go_ret
  exact⟨zrB E.out,rfl⟩
theorem resS(op a:Int)(w:World):Calls Tryz.prog 179 #[.int .i64 op,.int .i64 a] w fun e w'=>e=.returned (.int .i64 (resZ op a))∧w'=w:=by
 by_cases hw:zWd a=true
 ·by_cases ho:opB op=true
  ·have d:(decide (1≤op)&&decide (op≤17))=true:=ho
   by_cases h:14≤op
   ·have E:Hid (1=resZ op a):=by show _=_;simp[resZ,hw,ho,h]
    clear ho
    go_enter Tryz.func179,Tryz.ntmps179
    go_wp2_with (first|(go_at_call 86;refine (widthS _ _).mono ?_;rintro e w' ⟨rfl,rfl⟩)|(go_at_call 49;refine (inS _ _ _ _).mono ?_;rintro e w' ⟨rfl,rfl⟩))
    go_ret
    exact⟨ret_int E.out,rfl⟩
   ·have E:Hid (a=resZ op a):=by show _=_;simp[resZ,hw,ho,h]
    clear ho
    go_enter Tryz.func179,Tryz.ntmps179
    go_wp2_with (first|(go_at_call 86;refine (widthS _ _).mono ?_;rintro e w' ⟨rfl,rfl⟩)|(go_at_call 49;refine (inS _ _ _ _).mono ?_;rintro e w' ⟨rfl,rfl⟩))
    go_ret
    exact⟨ret_int E.out,rfl⟩
  ·have ho:opB op=false:=by simpa using ho
   have d:(decide (1≤op)&&decide (op≤17))=false:=ho
   have E:Hid (0=resZ op a):=by show _=_;simp[resZ,ho]
   clear ho
   go_enter Tryz.func179,Tryz.ntmps179
   go_wp2_with (first|(go_at_call 86;refine (widthS _ _).mono ?_;rintro e w' ⟨rfl,rfl⟩)|(go_at_call 49;refine (inS _ _ _ _).mono ?_;rintro e w' ⟨rfl,rfl⟩))
   go_ret
   exact⟨ret_int E.out,rfl⟩
 ·have hw:zWd a=false:=by simpa using hw
  have E:Hid (0=resZ op a):=by show _=_;simp[resZ,hw]
  go_enter Tryz.func179,Tryz.ntmps179
  go_wp2_with (first|(go_at_call 86;refine (widthS _ _).mono ?_;rintro e w' ⟨rfl,rfl⟩)|(go_at_call 49;refine (inS _ _ _ _).mono ?_;rintro e w' ⟨rfl,rfl⟩))
  go_ret
  exact⟨ret_int E.out,rfl⟩
set_option maxHeartbeats 2000000
set_option linter.unusedVariables false
def decB(n:Int):ByteArray:=⟨(Lib.itoa n).toArray⟩
theorem dec_small{u:Nat}(h:u<10):Lib.decDigits u=[UInt8.ofNat (48+u)]:=by rw[Lib.decDigits,dif_pos h]
theorem dec_big{u:Nat}(h:¬u<10):Lib.decDigits u=Lib.decDigits (u/10)++[UInt8.ofNat (48+u%10)]:=by rw[Lib.decDigits,dif_neg h]
theorem dec_len:∀ (k u:Nat),u<10 ^ (k+1)→(Lib.decDigits u).length≤k+1
 | 0,u,h=>by rw[dec_small (by simpa using h)];simp
 | k+1,u,h=>by
  by_cases h1:u<10
  ·rw[dec_small h1];simp
  ·rw[dec_big h1]
   have:=dec_len k (u/10) (by rw[Nat.pow_succ] at h;omega)
   simp;omega
theorem dec_pos(u:Nat):0<(Lib.decDigits u).length:=by
 rw[Lib.decDigits];split<;>simp
theorem itoa_nat(n:Nat):Lib.itoa (n:Int)=Lib.decDigits n:=by
 unfold Lib.itoa
 rw[if_neg (by omega),Int.toNat_natCast]
theorem decB_size{n:Nat}(h:n≤4294967295):(decB (n:Int)).size≤10:=by
 have:=dec_len 9 n (by omega)
 unfold decB
 rw[itoa_nat]
 simpa [ByteArray.size] using this
theorem conv_dig(v:World)(z:Int):(convert 22 9 (.slice (some ⟨v.heap.size,0,none⟩) 1 1)).run Tryz.prog (v.alloc (.cells #[.int .u8 z] 5))=.ok (.string ⟨#[UInt8.ofNat z.toNat]⟩) (v.alloc (.cells #[.int .u8 z] 5)):=by
 rw[run_convert_bytes_string _ _ _ 5 _ 1 1 Tryz.underlying22 Tryz.underlying5 Tryz.underlying9]
 have hl:=run_loadCells_list (P:=Tryz.prog) (v.alloc (.cells #[.int .u8 z] 5)) ⟨v.heap.size,0,none⟩ ([z].map (Value.int .u8)) (fun j x hj=>by
  rcases j with _|j
  ·simp at hj;subst hj;simp[Addr.add]
  ·simp at hj)
 rw[run_bytesToString _ _ 1 1 [z] hl]
 rfl
theorem decS(n:Nat)(w:World)(hn:n≤4294967295) :
  Calls Tryz.prog 51 #[.int .i64 (n:Int)] w fun e w'=>e=.returned (.string (decB n))∧Below w.heap.size w w':=by
 have HV:Hid (decB n=⟨(Lib.decDigits n).toArray⟩):=by show _=_;unfold decB;rw[itoa_nat]
 have h10:=dec_len 9 n (by omega)
 have HW:Hid (True):=trivial
 go_enter Tryz.func51,Tryz.ntmps51
 go_wp2_with fail
 go_loopw [0,3] (fun i st wr=>∃ (m:Nat) (l:List UInt8),m≤4294967295∧l.length≤10∧i=.int .i64 m∧st=.string ⟨l.toArray⟩∧Hid (Lib.decDigits n=Lib.decDigits m++l)∧Below w.heap.size w wr) (fun i _ _=>(intOf i).toNat)
 case atStart=>exact⟨n,[],hn,by simp,rfl,rfl,by show _=_;simp,Below.refl _ _⟩
 case round =>
  obtain⟨m,l,hm,hl,rfl,rfl,HL,hB⟩:=hrel
  have hcv:=conv_dig wr
  by_cases h1:m<10
  ·go_wp2_with fail
   go_ret
   refine⟨?_,hB.alloc hB.size _⟩
   rw[HV.out,HL.out,dec_small h1]
   refine congrArg (fun z=>Ending.returned (.string z)) ?_
   rw[show (48+UInt8.ofNat m:UInt8)=UInt8.ofNat (48+m) by simp]
   exact ByteArray.mk_append_mk _ _
  ·have h2:10≤m:=by omega
   have hlen:=congrArg List.length HL.out
   have hdp:=dec_pos (m/10)
   rw[dec_big h1] at hlen
   simp at hlen
   go_wp2_with fail
   refine⟨⟨m/10,UInt8.ofNat (48+m%10) :: l,by omega,by simp;omega,congrArg (Value.int .i64) (by omega),?_,?_,hB.alloc hB.size _⟩,by simp[intOf];omega⟩
   ·refine congrArg Value.string ?_
    rw[show (48+UInt8.ofNat (m%10):UInt8)=UInt8.ofNat (48+m%10) by simp]
    exact ByteArray.mk_append_mk _ _
   ·show _=_
    rw[HL.out,dec_big h1];simp
end Go.Proofs.YtkpmiikafconmaaGreatDoor
