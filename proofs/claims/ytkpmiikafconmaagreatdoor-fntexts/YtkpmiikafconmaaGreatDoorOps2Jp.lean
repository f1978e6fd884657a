import Derived.Test.YtkpmiikafconmaaGreatDoorKndJp
namespace Go.Proofs.YtkpmiikafconmaaGreatDoor
open Go.RowKit
set_option maxHeartbeats 1000000
theorem operS_18(iw a b c imm:Int)(args:List Int)(u:Option Addr)(q:Nat)(w:World) :
  Calls Tryz.prog 90 #[.agg #[.int .i64 18,.int .i64 iw,.int .i64 a,.int .i64 b,.int .i64 c,.int .i64 imm,.slice u args.length q]] w fun e w'=>∃ v r,e=.returned (.slice v 1 r)∧OwnAt w' w.heap.size v [a]∧Below w.heap.size w w':=by
 go_enter Tryz.func90,Tryz.ntmps90
 go_wp2_with (go_at_call 49;refine (inS _ _ _ _).mono ?_;rintro e w' ⟨rfl,rfl⟩)
 go_ret
 exact⟨_,_,rfl,own_mk2 rfl (by simp) (one_cells a),((Below.refl _ _).alloc (Nat.le_refl _) _).alloc (by simp) _⟩
theorem operS_19(iw a b c imm:Int)(args:List Int)(u:Option Addr)(q:Nat)(w:World) :
  Calls Tryz.prog 90 #[.agg #[.int .i64 19,.int .i64 iw,.int .i64 a,.int .i64 b,.int .i64 c,.int .i64 imm,.slice u args.length q]] w fun e w'=>∃ v r,e=.returned (.slice v 1 r)∧OwnAt w' w.heap.size v [a]∧Below w.heap.size w w':=by
 go_enter Tryz.func90,Tryz.ntmps90
 go_wp2_with (go_at_call 49;refine (inS _ _ _ _).mono ?_;rintro e w' ⟨rfl,rfl⟩)
 go_ret
 exact⟨_,_,rfl,own_mk2 rfl (by simp) (one_cells a),((Below.refl _ _).alloc (Nat.le_refl _) _).alloc (by simp) _⟩
theorem operS_20(iw a b c imm:Int)(args:List Int)(u:Option Addr)(q:Nat)(w:World) :
  Calls Tryz.prog 90 #[.agg #[.int .i64 20,.int .i64 iw,.int .i64 a,.int .i64 b,.int .i64 c,.int .i64 imm,.slice u args.length q]] w fun e w'=>∃ v r,e=.returned (.slice v 1 r)∧OwnAt w' w.heap.size v [a]∧Below w.heap.size w w':=by
 go_enter Tryz.func90,Tryz.ntmps90
 go_wp2_with (go_at_call 49;refine (inS _ _ _ _).mono ?_;rintro e w' ⟨rfl,rfl⟩)
 go_ret
 exact⟨_,_,rfl,own_mk2 rfl (by simp) (one_cells a),((Below.refl _ _).alloc (Nat.le_refl _) _).alloc (by simp) _⟩
theorem operS_21(iw a b c imm:Int)(args:List Int)(u:Option Addr)(q:Nat)(w:World) :
  Calls Tryz.prog 90 #[.agg #[.int .i64 21,.int .i64 iw,.int .i64 a,.int .i64 b,.int .i64 c,.int .i64 imm,.slice u args.length q]] w fun e w'=>∃ v r,e=.returned (.slice v 0 r)∧OwnAt w' w.heap.size v []∧Below w.heap.size w w':=by
 go_enter Tryz.func90,Tryz.ntmps90
 go_wp2_with (go_at_call 49;refine (inS _ _ _ _).mono ?_;rintro e w' ⟨rfl,rfl⟩)
 go_ret
 exact⟨_,_,rfl,own_mk2 rfl (by simp) (fun i hi=>by simp at hi),((Below.refl _ _).alloc (Nat.le_refl _) _).alloc (by simp) _⟩
theorem operS_22(iw a b c imm:Int)(args:List Int)(u:Option Addr)(q:Nat)(w:World) :
  Calls Tryz.prog 90 #[.agg #[.int .i64 22,.int .i64 iw,.int .i64 a,.int .i64 b,.int .i64 c,.int .i64 imm,.slice u args.length q]] w fun e w'=>∃ v r,e=.returned (.slice v 3 r)∧OwnAt w' w.heap.size v [a,b,c]∧Below w.heap.size w w':=by
 go_enter Tryz.func90,Tryz.ntmps90
 go_wp2_with (go_at_call 49;refine (inS _ _ _ _).mono ?_;rintro e w' ⟨rfl,rfl⟩)
 go_ret
 exact⟨_,_,rfl,own_mk2 rfl (by simp) (three_cells a b c),((Below.refl _ _).alloc (Nat.le_refl _) _).alloc (by simp) _⟩
theorem operS_23(iw a b c imm:Int)(args:List Int)(u:Option Addr)(q:Nat)(w:World) :
  Calls Tryz.prog 90 #[.agg #[.int .i64 23,.int .i64 iw,.int .i64 a,.int .i64 b,.int .i64 c,.int .i64 imm,.slice u args.length q]] w fun e w'=>∃ v r,e=.returned (.slice v 1 r)∧OwnAt w' w.heap.size v [a]∧Below w.heap.size w w':=by
 go_enter Tryz.func90,Tryz.ntmps90
 go_wp2_with (go_at_call 49;refine (inS _ _ _ _).mono ?_;rintro e w' ⟨rfl,rfl⟩)
 go_ret
 exact⟨_,_,rfl,own_mk2 rfl (by simp) (one_cells a),((Below.refl _ _).alloc (Nat.le_refl _) _).alloc (by simp) _⟩
theorem operS_24(iw a b c imm:Int)(args:List Int)(u:Option Addr)(q:Nat)(w:World) :
  Calls Tryz.prog 90 #[.agg #[.int .i64 24,.int .i64 iw,.int .i64 a,.int .i64 b,.int .i64 c,.int .i64 imm,.slice u args.length q]] w fun e w'=>∃ v r,e=.returned (.slice v 2 r)∧OwnAt w' w.heap.size v [a,b]∧Below w.heap.size w w':=by
 go_enter Tryz.func90,Tryz.ntmps90
 go_wp2_with (go_at_call 49;refine (inS _ _ _ _).mono ?_;rintro e w' ⟨rfl,rfl⟩)
 go_ret
 exact⟨_,_,rfl,own_mk2 rfl (by simp) (two_cells a b),((Below.refl _ _).alloc (Nat.le_refl _) _).alloc (by simp) _⟩
theorem operS_25(iw a b c imm:Int)(args:List Int)(u:Option Addr)(q:Nat)(w:World) :
  Calls Tryz.prog 90 #[.agg #[.int .i64 25,.int .i64 iw,.int .i64 a,.int .i64 b,.int .i64 c,.int .i64 imm,.slice u args.length q]] w fun e w'=>∃ v r,e=.returned (.slice v 1 r)∧OwnAt w' w.heap.size v [a]∧Below w.heap.size w w':=by
 go_enter Tryz.func90,Tryz.ntmps90
 go_wp2_with (go_at_call 49;refine (inS _ _ _ _).mono ?_;rintro e w' ⟨rfl,rfl⟩)
 go_ret
 exact⟨_,_,rfl,own_mk2 rfl (by simp) (one_cells a),((Below.refl _ _).alloc (Nat.le_refl _) _).alloc (by simp) _⟩
theorem operS_27(iw a b c imm:Int)(args:List Int)(u:Option Addr)(q:Nat)(w:World) :
  Calls Tryz.prog 90 #[.agg #[.int .i64 27,.int .i64 iw,.int .i64 a,.int .i64 b,.int .i64 c,.int .i64 imm,.slice u args.length q]] w fun e w'=>∃ v r,e=.returned (.slice v 1 r)∧OwnAt w' w.heap.size v [a]∧Below w.heap.size w w':=by
 go_enter Tryz.func90,Tryz.ntmps90
 go_wp2_with (go_at_call 49;refine (inS _ _ _ _).mono ?_;rintro e w' ⟨rfl,rfl⟩)
 go_ret
 exact⟨_,_,rfl,own_mk2 rfl (by simp) (one_cells a),((Below.refl _ _).alloc (Nat.le_refl _) _).alloc (by simp) _⟩
theorem operS_26(lo:Nat)(iw a b c imm:Int)(args:List Int)(u:Option Addr)(q:Nat)(w:World)(hs:args.length≤1048576)(k:IntsAt w lo u args) :
  Calls Tryz.prog 90 #[.agg #[.int .i64 26,.int .i64 iw,.int .i64 a,.int .i64 b,.int .i64 c,.int .i64 imm,.slice u args.length q]] w fun e w'=>∃ v r,e=.returned (.slice v args.length r)∧OwnAt w' w.heap.size v args∧Below w.heap.size w w':=by
 go_enter Tryz.func90,Tryz.ntmps90
 go_wp2_with (first|(go_at_call 49;refine (inS _ _ _ _).mono ?_;rintro e w' ⟨rfl,rfl⟩)|(go_at_call 127;refine (copyS_any lo _ _ _ _ hs (k.keep (zaA _ _ _))).mono ?_;rintro e w1 ⟨v,r,rfl,ho,hb1⟩))
 go_ret
 exact⟨_,_,rfl,ho.low (by simp),((Below.refl _ _).alloc (Nat.le_refl _) _).trans (hb1.mono (by simp))⟩
theorem operS_no(op iw a b c imm:Int)(args:List Int)(u:Option Addr)(q:Nat)(w:World)(h:op<1∨27<op) :
  Calls Tryz.prog 90 #[.agg #[.int .i64 op,.int .i64 iw,.int .i64 a,.int .i64 b,.int .i64 c,.int .i64 imm,.slice u args.length q]] w fun e w'=>∃ v r,e=.returned (.slice v 0 r)∧OwnAt w' w.heap.size v []∧Below w.heap.size w w':=by
 have d1:(decide (1≤op)&&decide (op≤17))=false:=by simp;omega
 have d2:(decide (18≤op)&&decide (op≤20))=false:=by simp;omega
 have e1:¬op=24:=by omega
 have e2:¬op=23:=by omega
 have e3:¬op=25:=by omega
 have e4:¬op=27:=by omega
 have e5:¬op=22:=by omega
 have e6:¬op=26:=by omega
 clear h
 go_enter Tryz.func90,Tryz.ntmps90
 go_wp2_with (go_at_call 49;refine (inS _ _ _ _).mono ?_;rintro e w' ⟨rfl,rfl⟩)
 go_ret
 exact⟨_,_,rfl,own_mk2 rfl (by simp) (fun i hi=>by simp at hi),((Below.refl _ _).alloc (Nat.le_refl _) _).alloc (by simp) _⟩
theorem operS(lo:Nat)(d:InstD)(u:Option Addr)(q:Nat)(w:World)(hs:d.args.length≤1048576)(k:IntsAt w lo u d.args) :
  Calls Tryz.prog 90 #[.agg #[.int .i64 d.op,.int .i64 d.w,.int .i64 d.a,.int .i64 d.b,.int .i64 d.c,.int .i64 d.imm,.slice u d.args.length q]] w fun e w'=>∃ v r,e=.returned (.slice v (opsD d).length r)∧OwnAt w' w.heap.size v (opsD d)∧Below w.heap.size w w':=by
 rcases op_split d.op with h|h
 ·exact operS_bin d u q w h
 obtain⟨op,iw,a,b,c,imm,args⟩:=d
 dsimp only at h hs k ⊢
 rcases h with h|h|h|h|h|h|h|h|h|h|⟨ho,h⟩
 ·subst h
  have E:opsD ⟨18,iw,a,b,c,imm,args⟩=[a]:=by rfl
  rw[E]
  exact operS_18 iw a b c imm args u q w
 ·subst h
  have E:opsD ⟨19,iw,a,b,c,imm,args⟩=[a]:=by rfl
  rw[E]
  exact operS_19 iw a b c imm args u q w
 ·subst h
  have E:opsD ⟨20,iw,a,b,c,imm,args⟩=[a]:=by rfl
  rw[E]
  exact operS_20 iw a b c imm args u q w
 ·subst h
  have E:opsD ⟨21,iw,a,b,c,imm,args⟩=[]:=by rfl
  rw[E]
  exact operS_21 iw a b c imm args u q w
 ·subst h
  have E:opsD ⟨22,iw,a,b,c,imm,args⟩=[a,b,c]:=by rfl
  rw[E]
  exact operS_22 iw a b c imm args u q w
 ·subst h
  have E:opsD ⟨23,iw,a,b,c,imm,args⟩=[a]:=by rfl
  rw[E]
  exact operS_23 iw a b c imm args u q w
 ·subst h
  have E:opsD ⟨24,iw,a,b,c,imm,args⟩=[a,b]:=by rfl
  rw[E]
  exact operS_24 iw a b c imm args u q w
 ·subst h
  have E:opsD ⟨25,iw,a,b,c,imm,args⟩=[a]:=by rfl
  rw[E]
  exact operS_25 iw a b c imm args u q w
 ·subst h
  have E:opsD ⟨26,iw,a,b,c,imm,args⟩=args:=by rfl
  rw[E]
  exact operS_26 lo iw a b c imm args u q w hs k
 ·subst h
  have E:opsD ⟨27,iw,a,b,c,imm,args⟩=[a]:=by rfl
  rw[E]
  exact operS_27 iw a b c imm args u q w
 ·have E:opsD ⟨op,iw,a,b,c,imm,args⟩=[]:=by
   have e0:¬opB op=true:=by rw[ho];decide
   unfold opsD
   dsimp only
   rw[if_neg (by simp only[not_or];exact⟨e0,by omega⟩),if_neg (by omega),if_neg (by omega),if_neg (by omega)]
  rw[E]
  exact operS_no op iw a b c imm args u q w h
theorem opsD_len(d:InstD)(hs:d.args.length≤1048576):(opsD d).length≤1048576:=by
 unfold opsD
 split
 ·simp
 ·split
  ·simp
  ·split
   ·simp
   ·split
    ·exact hs
    ·simp
set_option maxRecDepth 100000
theorem op1_unary(a:Int)(w:World):Calls Tryz.prog 209 #[.agg #[.int .i64 a]] w fun e w'=>∃ u c,e=.returned (.slice u 1 c)∧OwnAt w' w.heap.size u [a]∧Below w.heap.size w w':=by
 go_enter Tryz.func209,Tryz.ntmps209
 go_wp2_with fail
 go_ret
 exact⟨_,_,rfl,own_mk2 rfl (by simp) (one_cells a),((Below.refl _ _).alloc (Nat.le_refl _) _).alloc (by simp) _⟩
theorem op1_load(a:Int)(w:World):Calls Tryz.prog 212 #[.agg #[.int .i64 a]] w fun e w'=>∃ u c,e=.returned (.slice u 1 c)∧OwnAt w' w.heap.size u [a]∧Below w.heap.size w w':=by
 go_enter Tryz.func212,Tryz.ntmps212
 go_wp2_with fail
 go_ret
 exact⟨_,_,rfl,own_mk2 rfl (by simp) (one_cells a),((Below.refl _ _).alloc (Nat.le_refl _) _).alloc (by simp) _⟩
theorem op1_print(a:Int)(w:World):Calls Tryz.prog 214 #[.agg #[.int .i64 a]] w fun e w'=>∃ u c,e=.returned (.slice u 1 c)∧OwnAt w' w.heap.size u [a]∧Below w.heap.size w w':=by
 go_enter Tryz.func214,Tryz.ntmps214
 go_wp2_with fail
 go_ret
 exact⟨_,_,rfl,own_mk2 rfl (by simp) (one_cells a),((Below.refl _ _).alloc (Nat.le_refl _) _).alloc (by simp) _⟩
theorem op2_store(a b:Int)(w:World):Calls Tryz.prog 213 #[.agg #[.int .i64 a,.int .i64 b]] w fun e w'=>∃ u c,e=.returned (.slice u 2 c)∧OwnAt w' w.heap.size u [a,b]∧Below w.heap.size w w':=by
 go_enter Tryz.func213,Tryz.ntmps213
 go_wp2_with fail
 go_ret
 exact⟨_,_,rfl,own_mk2 rfl (by simp) (two_cells a b),((Below.refl _ _).alloc (Nat.le_refl _) _).alloc (by simp) _⟩
theorem op3_select(a b c:Int)(w:World):Calls Tryz.prog 211 #[.agg #[.int .i64 a,.int .i64 b,.int .i64 c]] w fun e w'=>∃ u q,e=.returned (.slice u 3 q)∧OwnAt w' w.heap.size u [a,b,c]∧Below w.heap.size w w':=by
 go_enter Tryz.func211,Tryz.ntmps211
 go_wp2_with fail
 go_ret
 exact⟨_,_,rfl,own_mk2 rfl (by simp) (three_cells a b c),((Below.refl _ _).alloc (Nat.le_refl _) _).alloc (by simp) _⟩
theorem op0_const(a:Int)(w:World):Calls Tryz.prog 210 #[.agg #[.int .i64 a]] w fun e w'=>∃ u c,e=.returned (.slice u 0 c)∧OwnAt w' w.heap.size u []∧Below w.heap.size w w':=by
 go_enter Tryz.func210,Tryz.ntmps210
 go_wp2_with fail
 go_ret
 exact⟨_,_,rfl,⟨by simp,.inl rfl⟩,by first|exact Below.refl _ _|exact (Below.refl _ _).alloc (Nat.le_refl _) _⟩
theorem op0_strange(w:World):Calls Tryz.prog 216 #[.agg #[]] w fun e w'=>∃ u c,e=.returned (.slice u 0 c)∧OwnAt w' w.heap.size u []∧Below w.heap.size w w':=by
 go_enter Tryz.func216,Tryz.ntmps216
 go_wp2_with fail
 go_ret
 exact⟨_,_,rfl,⟨by simp,.inl rfl⟩,by first|exact Below.refl _ _|exact (Below.refl _ _).alloc (Nat.le_refl _) _⟩
theorem append_nothing{t ty:TypeId}(a:Option Addr)(c:Nat)(w:World)(i:TypeInfo)(ht:Tryz.prog.underlying t=some (.slice 2))(hi:Tryz.prog.info? 2=some i) :
  (Builtin.append_ #[t,t] ty #[.slice none 0 0,.slice a 0 c]).run Tryz.prog w=.ok (.slice none 0 0) w:=by
 cases a<;>simp[Builtin.append_,run_underlying ht,sizeOf,typeInfo,hi,Builtin.lenOf,Builtin.firstCells,loadCells,loadCellsFrom]
theorem wp_append_nothing{w:World}{o:Oper}{a:Act}{K:Act→World→Prop}{Q:Exit→Act→World→Prop}(s x:Operand)(t:TypeId)
  (ho:o.op=.call { callee:=.builtin .append,args:=#[s,x],argTypes:=#[t,t] }) (i:TypeInfo) (ht:Tryz.prog.underlying t=some (.slice 2)) (hi:Tryz.prog.info? 2=some i)
  (hs:a.eval s=.slice none 0 0) (ad:Option Addr) (c:Nat) (hx:a.eval x=.slice ad 0 c) (h:K (a.put o.dst (.slice none 0 0)) w):o.wp Tryz.prog a w K Q:=by
 have hr:=append_nothing (ty:=o.type) ad c w i ht hi
 unfold Oper.wp execOp
 simp only[ho,resolve,invoke,builtin,Sem.run_bind,Sem.run_pure,Result.andThen_ok,List.map_toArray,List.map_cons,List.map_nil,hs,hx,hr]
 exact h
theorem wpList_append_nothing{w:World}{ops:Array Oper}{rest:List Oper}{o:Oper}{a:Act}{Q:Exit→Act→World→Prop}(hgd:o.guard=none)(s x:Operand)(t:TypeId)
  (ho:o.op=.call { callee:=.builtin .append,args:=#[s,x],argTypes:=#[t,t] }) (i:TypeInfo) (ht:Tryz.prog.underlying t=some (.slice 2)) (hi:Tryz.prog.info? 2=some i)
  (hs:a.eval s=.slice none 0 0) (ad:Option Addr) (c:Nat) (hx:a.eval x=.slice ad 0 c) (h:wpList Tryz.prog ops Q rest (a.put o.dst (.slice none 0 0)) w):wpList Tryz.prog ops Q (o :: rest) a w :=
 wpList_plain hgd fun _ hK=>wp_append_nothing s x t ho i ht hi hs ad c hx (hK _ _ h)
theorem ints_src{w:World}{lo:Nat}{u:Option Addr}{l:List Int}(h:IntsAt w lo u l)(hp:0<l.length):∃ ad,u=some ad∧∀ j x,(l.map (Value.int .i64))[j]?=some x→w.cell? (ad.add j)=some x:=by
 rcases h.2 with h|⟨b,off,ha,_,hb,hc⟩
 ·subst h;simp at hp
 ·refine⟨_,ha,fun j x hj=>?_⟩
  have hjl:j<l.length:=by
   have:=(List.getElem?_eq_some_iff.1 hj).1
   simpa using this
  have hat:(⟨b,off,none⟩:Addr).add j=⟨b,off+j,none⟩:=by unfold Addr.add;split<;>simp_all
  rw[hat,hc j hjl]
  simp[hjl] at hj
  rw[←hj];simp[List.getD,hjl]
theorem oi_row{w:World}{base g cap:Nat}{l:List Int}(hm:l.length≤1048576)(h:w.ownsRow base 2 1 (.slice (some ⟨g,0,none⟩) (0+l.length) cap) (0+l.length) ([]++l.map (Value.int .i64))):OwnAt w base (some ⟨g,0,none⟩) l:=by
 rw[Nat.zero_add,List.nil_append] at h
 obtain⟨u,c,e,ho⟩:=own_of_row hm h
 cases e
 exact ho
theorem opn_nil(imm:Int)(u:Option Addr)(q:Nat)(w:World):Calls Tryz.prog 215 #[.agg #[.int .i64 imm,.slice u 0 q]] w fun e w'=>∃ u c,e=.returned (.slice u 0 c)∧OwnAt w' w.heap.size u []∧Below w.heap.size w w':=by
 obtain⟨i0,hi,_,_,_⟩:=info_parts infoI
 have HI:Hid (Tryz.prog.info? 2=some i0):=hi
 clear hi
 go_enter Tryz.func215,Tryz.ntmps215
 go_wp2_with (at_builtin;refine wpList_append_nothing rfl _ _ 41 rfl i0 Tryz.underlying41 HI.out rfl u q rfl ?_)
 go_ret
 exact⟨_,_,rfl,⟨by simp,.inl rfl⟩,(Below.refl _ _).alloc (Nat.le_refl _) _⟩
theorem opn_call(lo:Nat)(imm:Int)(args:List Int)(u:Option Addr)(q:Nat)(w:World)(hs:args.length≤1048576)(k:IntsAt w lo u args):Calls Tryz.prog 215 #[.agg #[.int .i64 imm,.slice u args.length q]] w fun e w'=>∃ u c,e=.returned (.slice u args.length c)∧OwnAt w' w.heap.size u args∧Below w.heap.size w w':=by
 by_cases hp:0<args.length
 ·obtain⟨i0,hi,hz0,hz1,hz2⟩:=info_parts infoI
  have HI:Hid (Tryz.prog.info? 2=some i0):=hi
  have HZ0:Hid (i0.zero=some (.int .i64 0)):=hz0
  have HZ1:Hid (i0.size=1):=hz1
  have HZ2:Hid (i0.bytes=8):=hz2
  clear hi hz0 hz1 hz2
  obtain⟨ad,rfl,hn⟩:=ints_src (k.keep (zaA w (.cells #[.int .i64 imm,.slice u args.length q] 208) _)) hp
  have HN:Hid (∀ j x,(args.map (Value.int .i64))[j]?=some x→(w.alloc (.cells #[.int .i64 imm,.slice (some ad) args.length q] 208)).cell? (ad.add j)=some x):=hn
  clear hn
  go_enter Tryz.func215,Tryz.ntmps215
  go_wp2_with (at_builtin;refine wpList_append_lies _ rfl _ _ 41 rfl w.heap.size 2 i0 (.int .i64 0) 1 8 Tryz.underlying41 HI.out HZ0.out HZ1.out HZ2.out rfl (by decide) (.slice none 0 0) 0 [] rfl ⟨rfl,.inl ⟨rfl,rfl⟩⟩ ad args.length q (args.map (Value.int .i64)) rfl (by simp) (by exact HN.out) (by simp[Value.oneCell']) hp (by unfold maxLen;omega) (by omega) (by simp) _ rfl ?_;intro g cap w1 hown hgrow hat hlt;have ho:=oi_row hs hown)
  go_ret
  exact⟨_,_,rfl,ho,((Below.refl _ _).alloc (Nat.le_refl _) _).trans ⟨hgrow.os,hgrow.tape,hgrow.output,hgrow.size,fun k hk=>hgrow.block k (by simp;omega) (by simp[Value.ownBlock])⟩⟩
 ·have hz:args=[]:=List.length_eq_zero_iff.1 (by simpa using hp)
  subst hz
  exact opn_nil imm u q w
theorem meth_binary(a b:Int)(w:World):(method 347 197 (.agg #[.int .i64 a,.int .i64 b]) "loop.example/g00457/impl.operands").run Tryz.prog w=.ok (208,.agg #[.int .i64 a,.int .i64 b]) w:=by kernel_rfl
theorem meth_unary(a:Int)(w:World):(method 347 199 (.agg #[.int .i64 a]) "loop.example/g00457/impl.operands").run Tryz.prog w=.ok (209,.agg #[.int .i64 a]) w:=by kernel_rfl
theorem meth_const(a:Int)(w:World):(method 347 201 (.agg #[.int .i64 a]) "loop.example/g00457/impl.operands").run Tryz.prog w=.ok (210,.agg #[.int .i64 a]) w:=by kernel_rfl
theorem meth_select(a b c:Int)(w:World):(method 347 203 (.agg #[.int .i64 a,.int .i64 b,.int .i64 c]) "loop.example/g00457/impl.operands").run Tryz.prog w=.ok (211,.agg #[.int .i64 a,.int .i64 b,.int .i64 c]) w:=by kernel_rfl
theorem meth_load(a:Int)(w:World):(method 347 204 (.agg #[.int .i64 a]) "loop.example/g00457/impl.operands").run Tryz.prog w=.ok (212,.agg #[.int .i64 a]) w:=by kernel_rfl
theorem meth_store(a b:Int)(w:World):(method 347 205 (.agg #[.int .i64 a,.int .i64 b]) "loop.example/g00457/impl.operands").run Tryz.prog w=.ok (213,.agg #[.int .i64 a,.int .i64 b]) w:=by kernel_rfl
theorem meth_print(a:Int)(w:World):(method 347 206 (.agg #[.int .i64 a]) "loop.example/g00457/impl.operands").run Tryz.prog w=.ok (214,.agg #[.int .i64 a]) w:=by kernel_rfl
theorem meth_strange(w:World):(method 347 210 (.agg #[]) "loop.example/g00457/impl.operands").run Tryz.prog w=.ok (216,.agg #[]) w:=by kernel_rfl
theorem meth_call(a:Int)(u:Option Addr)(n q:Nat)(w:World):(method 347 208 (.agg #[.int .i64 a,.slice u n q]) "loop.example/g00457/impl.operands").run Tryz.prog w=.ok (215,.agg #[.int .i64 a,.slice u n q]) w:=by kernel_rfl
theorem box0{w w1:World}{o:Obj}(h:Below (w.alloc o).heap.size (w.alloc o) w1):Below (w.heap.size+1) (w.alloc o) w1:=h.mono (by simp)
theorem below_box{w w':World}{o:Obj}(h:Below (w.heap.size+1) (w.alloc o) w'):Below w.heap.size w w' :=
 ((Below.refl w.heap.size w).alloc (Nat.le_refl _) o).trans (h.mono (by omega))
structure Disp(d:InstD)(u:Option Addr)(q:Nat)(T:TypeId)(v:Value)(f:FuncId):Prop where
 kv:kindV d u q=.iface T v
 meth:∀ w:World,(method 347 T v "loop.example/g00457/impl.operands").run Tryz.prog w=.ok (f,v) w
 call:∀ w:World,(callFunc f #[v]).run Tryz.prog w=.ok (.enter f #[v]) w
 con:∀ (lo:Nat) (w:World),d.args.length≤1048576→IntsAt w lo u d.args→Calls Tryz.prog f #[v] w fun e w'=>∃ a r,e=.returned (.slice a (opsD d).length r)∧OwnAt w' w.heap.size a (opsD d)∧Below w.heap.size w w'
 as_strange:1≤d.op∧d.op≤27→∀ w:World,(Instr.typeAssert (.iface T v) 176 210 true).run Tryz.prog w=.ok (.tuple #[.agg #[],.bool false]) w
 as_store:¬d.op=24→∀ w:World,(Instr.typeAssert (.iface T v) 176 205 true).run Tryz.prog w=.ok (.tuple #[.agg #[.int .i64 0,.int .i64 0],.bool false]) w
 as_print:¬d.op=25→∀ w:World,(Instr.typeAssert (.iface T v) 176 206 true).run Tryz.prog w=.ok (.tuple #[.agg #[.int .i64 0],.bool false]) w
 as_load:¬d.op=23→∀ w:World,(Instr.typeAssert (.iface T v) 176 204 true).run Tryz.prog w=.ok (.tuple #[.agg #[.int .i64 0],.bool false]) w
 as_const:¬d.op=21→∀ w:World,(Instr.typeAssert (.iface T v) 176 201 true).run Tryz.prog w=.ok (.tuple #[.agg #[.int .i64 0],.bool false]) w
 as_call:¬d.op=26→∀ w:World,(Instr.typeAssert (.iface T v) 176 208 true).run Tryz.prog w=.ok (.tuple #[.agg #[.int .i64 0,.slice none 0 0],.bool false]) w
theorem disp(d:InstD)(u:Option Addr)(q:Nat):∃ T v f,Disp d u q T v f:=by
 obtain⟨op,iw,a,b,c,imm,args⟩:=d
 rcases op_split op with h|h|h|h|h|h|h|h|h|h|h|⟨ho,h⟩
 ·have E:opsD ⟨op,iw,a,b,c,imm,args⟩=[a,b]:=by simp[opsD,h]
  refine⟨_,_,_,⟨kv_bin h,fun w=>meth_binary a b w,fun w=>by kernel_rfl,fun lo w hs k=>by rw[E];exact bk_oper a b w,fun _ w=>as_binaryKind_strangeKind _ w,fun _ w=>as_binaryKind_storeKind _ w,fun _ w=>as_binaryKind_printKind _ w,fun _ w=>as_binaryKind_loadKind _ w,fun _ w=>as_binaryKind_constKind _ w,fun _ w=>as_binaryKind_callKind _ w⟩⟩
 ·subst h
  have E:opsD ⟨18,iw,a,b,c,imm,args⟩=[a]:=rfl
  refine⟨_,_,_,⟨kv_18 rfl,fun w=>meth_unary a w,fun w=>by kernel_rfl,fun lo w hs k=>by rw[E];exact op1_unary a w,fun _ w=>as_unaryKind_strangeKind _ w,fun _ w=>as_unaryKind_storeKind _ w,fun _ w=>as_unaryKind_printKind _ w,fun _ w=>as_unaryKind_loadKind _ w,fun _ w=>as_unaryKind_constKind _ w,fun _ w=>as_unaryKind_callKind _ w⟩⟩
 ·subst h
  have E:opsD ⟨19,iw,a,b,c,imm,args⟩=[a]:=rfl
  refine⟨_,_,_,⟨kv_19 rfl,fun w=>meth_unary a w,fun w=>by kernel_rfl,fun lo w hs k=>by rw[E];exact op1_unary a w,fun _ w=>as_unaryKind_strangeKind _ w,fun _ w=>as_unaryKind_storeKind _ w,fun _ w=>as_unaryKind_printKind _ w,fun _ w=>as_unaryKind_loadKind _ w,fun _ w=>as_unaryKind_constKind _ w,fun _ w=>as_unaryKind_callKind _ w⟩⟩
 ·subst h
  have E:opsD ⟨20,iw,a,b,c,imm,args⟩=[a]:=rfl
  refine⟨_,_,_,⟨kv_20 rfl,fun w=>meth_unary a w,fun w=>by kernel_rfl,fun lo w hs k=>by rw[E];exact op1_unary a w,fun _ w=>as_unaryKind_strangeKind _ w,fun _ w=>as_unaryKind_storeKind _ w,fun _ w=>as_unaryKind_printKind _ w,fun _ w=>as_unaryKind_loadKind _ w,fun _ w=>as_unaryKind_constKind _ w,fun _ w=>as_unaryKind_callKind _ w⟩⟩
 ·subst h
  have E:opsD ⟨21,iw,a,b,c,imm,args⟩=[]:=rfl
  refine⟨_,_,_,⟨kv_21 rfl,fun w=>meth_const imm w,fun w=>by kernel_rfl,fun lo w hs k=>by rw[E];exact op0_const imm w,fun _ w=>as_constKind_strangeKind _ w,fun _ w=>as_constKind_storeKind _ w,fun _ w=>as_constKind_printKind _ w,fun _ w=>as_constKind_loadKind _ w,fun hn=>by exact absurd rfl hn,fun _ w=>as_constKind_callKind _ w⟩⟩
 ·subst h
  have E:opsD ⟨22,iw,a,b,c,imm,args⟩=[a,b,c]:=rfl
  refine⟨_,_,_,⟨kv_22 rfl,fun w=>meth_select a b c w,fun w=>by kernel_rfl,fun lo w hs k=>by rw[E];exact op3_select a b c w,fun _ w=>as_selectKind_strangeKind _ w,fun _ w=>as_selectKind_storeKind _ w,fun _ w=>as_selectKind_printKind _ w,fun _ w=>as_selectKind_loadKind _ w,fun _ w=>as_selectKind_constKind _ w,fun _ w=>as_selectKind_callKind _ w⟩⟩
 ·subst h
  have E:opsD ⟨23,iw,a,b,c,imm,args⟩=[a]:=rfl
  refine⟨_,_,_,⟨kv_23 rfl,fun w=>meth_load a w,fun w=>by kernel_rfl,fun lo w hs k=>by rw[E];exact op1_load a w,fun _ w=>as_loadKind_strangeKind _ w,fun _ w=>as_loadKind_storeKind _ w,fun _ w=>as_loadKind_printKind _ w,fun hn=>by exact absurd rfl hn,fun _ w=>as_loadKind_constKind _ w,fun _ w=>as_loadKind_callKind _ w⟩⟩
 ·subst h
  have E:opsD ⟨24,iw,a,b,c,imm,args⟩=[a,b]:=rfl
  refine⟨_,_,_,⟨kv_24 rfl,fun w=>meth_store a b w,fun w=>by kernel_rfl,fun lo w hs k=>by rw[E];exact op2_store a b w,fun _ w=>as_storeKind_strangeKind _ w,fun hn=>by exact absurd rfl hn,fun _ w=>as_storeKind_printKind _ w,fun _ w=>as_storeKind_loadKind _ w,fun _ w=>as_storeKind_constKind _ w,fun _ w=>as_storeKind_callKind _ w⟩⟩
 ·subst h
  have E:opsD ⟨25,iw,a,b,c,imm,args⟩=[a]:=rfl
  refine⟨_,_,_,⟨kv_25 rfl,fun w=>meth_print a w,fun w=>by kernel_rfl,fun lo w hs k=>by rw[E];exact op1_print a w,fun _ w=>as_printKind_strangeKind _ w,fun _ w=>as_printKind_storeKind _ w,fun hn=>by exact absurd rfl hn,fun _ w=>as_printKind_loadKind _ w,fun _ w=>as_printKind_constKind _ w,fun _ w=>as_printKind_callKind _ w⟩⟩
 ·subst h
  have E:opsD ⟨26,iw,a,b,c,imm,args⟩=args:=rfl
  refine⟨_,_,_,⟨kv_26 rfl,fun w=>meth_call imm u args.length q w,fun w=>by kernel_rfl,fun lo w hs k=>by rw[E];exact opn_call lo imm args u q w hs k,fun _ w=>as_callKind_strangeKind _ w,fun _ w=>as_callKind_storeKind _ w,fun _ w=>as_callKind_printKind _ w,fun _ w=>as_callKind_loadKind _ w,fun _ w=>as_callKind_constKind _ w,fun hn=>by exact absurd rfl hn⟩⟩
 ·subst h
  have E:opsD ⟨27,iw,a,b,c,imm,args⟩=[a]:=rfl
  refine⟨_,_,_,⟨kv_27 rfl,fun w=>meth_unary a w,fun w=>by kernel_rfl,fun lo w hs k=>by rw[E];exact op1_unary a w,fun _ w=>as_unaryKind_strangeKind _ w,fun _ w=>as_unaryKind_storeKind _ w,fun _ w=>as_unaryKind_printKind _ w,fun _ w=>as_unaryKind_loadKind _ w,fun _ w=>as_unaryKind_constKind _ w,fun _ w=>as_unaryKind_callKind _ w⟩⟩
 ·have E:opsD ⟨op,iw,a,b,c,imm,args⟩=[]:=by
   have e0:¬opB op=true:=by rw[ho];decide
   unfold opsD
   dsimp only
   rw[if_neg (by simp only[not_or];exact⟨e0,by omega⟩),if_neg (by omega),if_neg (by omega),if_neg (by omega)]
  refine⟨_,_,_,⟨kv_no ho h,fun w=>meth_strange  w,fun w=>by kernel_rfl,fun lo w hs k=>by rw[E];exact op0_strange w,fun hn=>by exact absurd hn (by dsimp only;omega),fun _ w=>as_strangeKind_storeKind _ w,fun _ w=>as_strangeKind_printKind _ w,fun _ w=>as_strangeKind_loadKind _ w,fun _ w=>as_strangeKind_constKind _ w,fun _ w=>as_strangeKind_callKind _ w⟩⟩
theorem operI(lo:Nat)(d:InstD)(u:Option Addr)(q:Nat)(w:World)(hs:d.args.length≤1048576)(k:IntsAt w lo u d.args) :
  Calls Tryz.prog 112 #[.agg #[.int .i64 d.op,.int .i64 d.w,.int .i64 d.a,.int .i64 d.b,.int .i64 d.c,.int .i64 d.imm,.slice u d.args.length q]] w fun e w'=>∃ v r,e=.returned (.slice v (opsD d).length r)∧OwnAt w' w.heap.size v (opsD d)∧Below w.heap.size w w':=by
 obtain⟨T,V,f,D⟩:=disp d u q
 have E:=D.kv
 have K:=fun w=>kind_any d u q w
 rw[E] at K
 clear E
 have M:=D.meth
 have CF:=D.call
 have HC:Hid (∀ W,Below w.heap.size w W→Calls Tryz.prog f #[V] W fun e w'=>∃ a r,e=.returned (.slice a (opsD d).length r)∧OwnAt w' W.heap.size a (opsD d)∧Below W.heap.size W w'):=fun W hW=>D.con lo W hs (k.keep (zaB hW _))
 clear D hs k
 go_enter Tryz.func112,Tryz.ntmps112
 go_wp2_with fail
 refine (K _).mono ?_
 rintro e w1 ⟨rfl,hb1⟩
 have hB:=below_box (box0 hb1)
 go_wp2_with fail
 refine (HC.out _ hB).mono ?_
 rintro e w2 ⟨v,r,rfl,ho,hb2⟩
 go_wp2_with fail
 go_ret
 exact⟨_,_,rfl,ho.low hB.size,hB.trans (hb2.mono hB.size)⟩
set_option linter.unusedVariables false
def zBw(n c:Int):Bool:=decide (0≤n)&&decide (n<c)
def termB(t:TermD)(ids blocks:Int):Bool :=
 if t.kind=1 then zBw t.a ids&&t.x==0&&t.y==0
 else if t.kind=2 then zBw t.x blocks&&t.a==0&&t.y==0
 else if t.kind=3 then zBw t.a ids&&zBw t.x blocks&&zBw t.y blocks&&t.x !=t.y
 else t.kind==4&&t.a==0&&t.x==0&&t.y==0
theorem in_below(n c:Int):(decide (0≤n)&&decide (n≤c-1))=zBw n c:=by
 unfold zBw
 by_cases h:n<c
 ·rw[decide_eq_true h,decide_eq_true (show n≤c-1 by omega)]
 ·rw[decide_eq_false h,decide_eq_false (show ¬n≤c-1 by omega)]
theorem inB(n c:Int)(w:World):Calls Tryz.prog 49 #[.int .i64 n,.int .i64 0,.int .i64 (c-1)] w fun e w'=>e=.returned (.bool (zBw n c))∧w'=w:=by
 have h:=inS n 0 (c-1) w
 rw[in_below] at h
 exact h
theorem belowFI(n c:Int)(w:World):Calls Tryz.prog 137 #[.int .i64 n,.int .i64 c] w fun e w'=>e=.returned (.bool (zBw n c))∧w'=w:=by
 by_cases h0:0≤n
 ·by_cases h1:n<c
  ·have E:Hid (true=zBw n c):=by show _=_;rw[zBw,decide_eq_true h0,decide_eq_true h1];rfl
   go_enter Tryz.func137,Tryz.ntmps137
   go_wp2_with fail
   go_ret
   exact⟨zrB (by simpa [h0,h1] using E.out),rfl⟩
  ·have E:Hid (false=zBw n c):=by show _=_;rw[zBw,decide_eq_true h0,decide_eq_false h1];rfl
   go_enter Tryz.func137,Tryz.ntmps137
   go_wp2_with fail
   go_ret
   exact⟨zrB (by simpa [h0,h1] using E.out),rfl⟩
 ·have E:Hid (false=zBw n c):=by show _=_;rw[zBw,decide_eq_false h0];rfl
  go_enter Tryz.func137,Tryz.ntmps137
  go_wp2_with fail
  go_ret
  exact⟨zrB (by simpa [h0] using E.out),rfl⟩
theorem all_no{α:Type}(z:α){f:α→Bool}(l:List α)(k:Nat)(h:k<l.length)(hn:¬f (l.getD k z)=true):l.all f=false:=by
 rw[List.all_eq_false]
 exact⟨_,getD_mem z l k h,hn⟩
theorem all_yes{α:Type}(z:α){f:α→Bool}(l:List α)(h:∀ j,j<l.length→f (l.getD j z)=true):l.all f=true:=by
 rw[List.all_eq_true]
 intro x hx
 obtain⟨j,hj,e⟩:=List.getElem_of_mem hx
 have:=h j hj
 simp[List.getD,hj] at this
 rw[←e];exact this
theorem allBelowI(lo:Nat)(a:Option Addr)(cap:Nat)(l:List Int)(c:Int)(w:World)(hv:IntsAt w lo a l) :
  Calls Tryz.prog 108 #[.slice a l.length cap,.int .i64 c] w fun e w'=>e=.returned (.bool (l.all fun n=>zBw n c))∧w'=w:=by
 have hm:=hv.1
 go_enter Tryz.func108,Tryz.ntmps108
 go_wp2_with fail
 go_loop [9] (fun i=>∃ k:Nat,k≤l.length∧i=.int .i64 k∧Hid (∀ j,j<k→(fun n=>zBw n c) (l.getD j 0)=true)) (fun i=>l.length-(intOf i).toNat)
 case atStart=>exact⟨0,by omega,rfl,fun j hj=>by omega⟩
 case round =>
  obtain⟨k,hk,rfl,HD⟩:=hrel
  by_cases hlt:k<l.length
  ·rcases hv.2 with rfl|⟨b,off,rfl,hlo,hb,hcell⟩
   ·simp at hlt
   have e0:=hcell k hlt
   generalize hx:l.getD k 0=x at e0
   have HX:Hid (l.getD k 0=x):=hx
   clear hcell hx hv
   by_cases hp:(fun n=>zBw n c) x=true
   ·have HP:Hid ((fun n=>zBw n c) x=true):=hp
    dsimp only at hp
    go_wp2_with (go_at_call 137;refine (belowFI _ _ _).mono ?_;rintro e w' ⟨rfl,rfl⟩)
    exact⟨⟨k+1,by omega,by go_num,fun j hj=>by
     by_cases e:j=k
     ·subst e;rw[HX.out];exact HP.out
     ·exact HD.out j (by omega)⟩,by simp only[intOf];omega⟩
   ·have HP:Hid (¬(fun n=>zBw n c) x=true):=hp
    dsimp only at hp
    have hp2:=Bool.eq_false_iff.2 hp
    clear hp
    go_wp2_with (go_at_call 137;refine (belowFI _ _ _).mono ?_;rintro e w' ⟨rfl,rfl⟩)
    go_ret
    refine⟨zrB ?_,rfl⟩
    exact (all_no 0 l k hlt (by rw[HX.out];exact HP.out)).symm
  ·have hke:k=l.length:=by omega
   go_wp2_with fail
   go_ret
   exact⟨zrB (all_yes 0 l (fun j hj=>HD.out j (by omega))).symm,rfl⟩
theorem allWidthsI(lo:Nat)(a:Option Addr)(cap:Nat)(l:List Int)(w:World)(hv:IntsAt w lo a l) :
  Calls Tryz.prog 70 #[.slice a l.length cap] w fun e w'=>e=.returned (.bool (l.all fun n=>zWd n))∧w'=w:=by
 have hm:=hv.1
 go_enter Tryz.func70,Tryz.ntmps70
 go_wp2_with fail
 go_loop [7] (fun i=>∃ k:Nat,k≤l.length∧i=.int .i64 k∧Hid (∀ j,j<k→(fun n=>zWd n) (l.getD j 0)=true)) (fun i=>l.length-(intOf i).toNat)
 case atStart=>exact⟨0,by omega,rfl,fun j hj=>by omega⟩
 case round =>
  obtain⟨k,hk,rfl,HD⟩:=hrel
  by_cases hlt:k<l.length
  ·rcases hv.2 with rfl|⟨b,off,rfl,hlo,hb,hcell⟩
   ·simp at hlt
   have e0:=hcell k hlt
   generalize hx:l.getD k 0=x at e0
   have HX:Hid (l.getD k 0=x):=hx
   clear hcell hx hv
   by_cases hp:(fun n=>zWd n) x=true
   ·have HP:Hid ((fun n=>zWd n) x=true):=hp
    dsimp only at hp
    go_wp2_with (go_at_call 71;refine (widthI _ _).mono ?_;rintro e w' ⟨rfl,rfl⟩)
    exact⟨⟨k+1,by omega,by go_num,fun j hj=>by
     by_cases e:j=k
     ·subst e;rw[HX.out];exact HP.out
     ·exact HD.out j (by omega)⟩,by simp only[intOf];omega⟩
   ·have HP:Hid (¬(fun n=>zWd n) x=true):=hp
    dsimp only at hp
    have hp2:=Bool.eq_false_iff.2 hp
    clear hp
    go_wp2_with (go_at_call 71;refine (widthI _ _).mono ?_;rintro e w' ⟨rfl,rfl⟩)
    go_ret
    refine⟨zrB ?_,rfl⟩
    exact (all_no 0 l k hlt (by rw[HX.out];exact HP.out)).symm
  ·have hke:k=l.length:=by omega
   go_wp2_with fail
   go_ret
   exact⟨zrB (all_yes 0 l (fun j hj=>HD.out j (by omega))).symm,rfl⟩
theorem termShI1(a x y ids blocks funcs:Int)(w:World) :
  Calls Tryz.prog 110 #[.agg #[.int .i64 1,.int .i64 a,.int .i64 x,.int .i64 y],.agg #[.int .i64 ids,.int .i64 blocks,.int .i64 funcs]] w fun e w'=>e=.returned (.bool (termB ⟨1,a,x,y⟩ ids blocks))∧Below w.heap.size w w':=by
 go_enter Tryz.func110,Tryz.ntmps110
 go_wp2_with (go_at_call 137;refine (belowFI _ _ _).mono ?_;rintro e w' ⟨rfl,rfl⟩)
 all_goals
  go_ret
  refine⟨zrB ?_,((Below.refl _ _).alloc (Nat.le_refl _) _).alloc (by simp) _⟩
  simp_all [termB]
theorem termShS1(a x y ids blocks:Int)(w:World)(g0:0≤ids)(g1:ids≤4611686018427387904)(g2:0≤blocks)(g3:blocks≤4611686018427387904) :
  Calls Tryz.prog 88 #[.agg #[.int .i64 1,.int .i64 a,.int .i64 x,.int .i64 y],.int .i64 ids,.int .i64 blocks] w fun e w'=>e=.returned (.bool (termB ⟨1,a,x,y⟩ ids blocks))∧Below w.heap.size w w':=by
 go_enter Tryz.func88,Tryz.ntmps88
 go_wp2_with (go_at_call 49;refine (inB _ _ _).mono ?_;rintro e w' ⟨rfl,rfl⟩)
 all_goals
  go_ret
  refine⟨zrB ?_,(Below.refl _ _).alloc (Nat.le_refl _) _⟩
  simp_all [termB]
theorem termShI2(a x y ids blocks funcs:Int)(w:World) :
  Calls Tryz.prog 110 #[.agg #[.int .i64 2,.int .i64 a,.int .i64 x,.int .i64 y],.agg #[.int .i64 ids,.int .i64 blocks,.int .i64 funcs]] w fun e w'=>e=.returned (.bool (termB ⟨2,a,x,y⟩ ids blocks))∧Below w.heap.size w w':=by
 go_enter Tryz.func110,Tryz.ntmps110
 go_wp2_with (go_at_call 137;refine (belowFI _ _ _).mono ?_;rintro e w' ⟨rfl,rfl⟩)
 all_goals
  go_ret
  refine⟨zrB ?_,((Below.refl _ _).alloc (Nat.le_refl _) _).alloc (by simp) _⟩
  simp_all [termB]
theorem termShS2(a x y ids blocks:Int)(w:World)(g0:0≤ids)(g1:ids≤4611686018427387904)(g2:0≤blocks)(g3:blocks≤4611686018427387904) :
  Calls Tryz.prog 88 #[.agg #[.int .i64 2,.int .i64 a,.int .i64 x,.int .i64 y],.int .i64 ids,.int .i64 blocks] w fun e w'=>e=.returned (.bool (termB ⟨2,a,x,y⟩ ids blocks))∧Below w.heap.size w w':=by
 go_enter Tryz.func88,Tryz.ntmps88
 go_wp2_with (go_at_call 49;refine (inB _ _ _).mono ?_;rintro e w' ⟨rfl,rfl⟩)
 all_goals
  go_ret
  refine⟨zrB ?_,(Below.refl _ _).alloc (Nat.le_refl _) _⟩
  simp_all [termB]
theorem termShI3(a x y ids blocks funcs:Int)(w:World) :
  Calls Tryz.prog 110 #[.agg #[.int .i64 3,.int .i64 a,.int .i64 x,.int .i64 y],.agg #[.int .i64 ids,.int .i64 blocks,.int .i64 funcs]] w fun e w'=>e=.returned (.bool (termB ⟨3,a,x,y⟩ ids blocks))∧Below w.heap.size w w':=by
 go_enter Tryz.func110,Tryz.ntmps110
 go_wp2_with (go_at_call 137;refine (belowFI _ _ _).mono ?_;rintro e w' ⟨rfl,rfl⟩)
 all_goals
  go_ret
  refine⟨zrB ?_,((Below.refl _ _).alloc (Nat.le_refl _) _).alloc (by simp) _⟩
  simp_all [termB]
theorem termShS3(a x y ids blocks:Int)(w:World)(g0:0≤ids)(g1:ids≤4611686018427387904)(g2:0≤blocks)(g3:blocks≤4611686018427387904) :
  Calls Tryz.prog 88 #[.agg #[.int .i64 3,.int .i64 a,.int .i64 x,.int .i64 y],.int .i64 ids,.int .i64 blocks] w fun e w'=>e=.returned (.bool (termB ⟨3,a,x,y⟩ ids blocks))∧Below w.heap.size w w':=by
 go_enter Tryz.func88,Tryz.ntmps88
 go_wp2_with (go_at_call 49;refine (inB _ _ _).mono ?_;rintro e w' ⟨rfl,rfl⟩)
 all_goals
  go_ret
  refine⟨zrB ?_,(Below.refl _ _).alloc (Nat.le_refl _) _⟩
  simp_all [termB]
theorem termShI4(a x y ids blocks funcs:Int)(w:World) :
  Calls Tryz.prog 110 #[.agg #[.int .i64 4,.int .i64 a,.int .i64 x,.int .i64 y],.agg #[.int .i64 ids,.int .i64 blocks,.int .i64 funcs]] w fun e w'=>e=.returned (.bool (termB ⟨4,a,x,y⟩ ids blocks))∧Below w.heap.size w w':=by
 go_enter Tryz.func110,Tryz.ntmps110
 go_wp2_with (go_at_call 137;refine (belowFI _ _ _).mono ?_;rintro e w' ⟨rfl,rfl⟩)
 all_goals
  go_ret
  refine⟨zrB ?_,((Below.refl _ _).alloc (Nat.le_refl _) _).alloc (by simp) _⟩
  simp_all [termB]
theorem termShS4(a x y ids blocks:Int)(w:World)(g0:0≤ids)(g1:ids≤4611686018427387904)(g2:0≤blocks)(g3:blocks≤4611686018427387904) :
  Calls Tryz.prog 88 #[.agg #[.int .i64 4,.int .i64 a,.int .i64 x,.int .i64 y],.int .i64 ids,.int .i64 blocks] w fun e w'=>e=.returned (.bool (termB ⟨4,a,x,y⟩ ids blocks))∧Below w.heap.size w w':=by
 go_enter Tryz.func88,Tryz.ntmps88
 go_wp2_with (go_at_call 49;refine (inB _ _ _).mono ?_;rintro e w' ⟨rfl,rfl⟩)
 all_goals
  go_ret
  refine⟨zrB ?_,(Below.refl _ _).alloc (Nat.le_refl _) _⟩
  simp_all [termB]
theorem termShI0(k a x y ids blocks funcs:Int)(w:World)(h1:¬k=1)(h2:¬k=2)(h3:¬k=3)(h4:¬k=4) :
  Calls Tryz.prog 110 #[.agg #[.int .i64 k,.int .i64 a,.int .i64 x,.int .i64 y],.agg #[.int .i64 ids,.int .i64 blocks,.int .i64 funcs]] w fun e w'=>e=.returned (.bool (termB ⟨k,a,x,y⟩ ids blocks))∧Below w.heap.size w w':=by
 go_enter Tryz.func110,Tryz.ntmps110
 go_wp2_with (go_at_call 137;refine (belowFI _ _ _).mono ?_;rintro e w' ⟨rfl,rfl⟩)
 go_ret
 refine⟨zrB ?_,((Below.refl _ _).alloc (Nat.le_refl _) _).alloc (by simp) _⟩
 simp[termB,h1,h2,h3,h4]
theorem termShS0(k a x y ids blocks:Int)(w:World)(g0:0≤ids)(g1:ids≤4611686018427387904)(g2:0≤blocks)(g3:blocks≤4611686018427387904)(h1:¬k=1)(h2:¬k=2)(h3:¬k=3)(h4:¬k=4) :
  Calls Tryz.prog 88 #[.agg #[.int .i64 k,.int .i64 a,.int .i64 x,.int .i64 y],.int .i64 ids,.int .i64 blocks] w fun e w'=>e=.returned (.bool (termB ⟨k,a,x,y⟩ ids blocks))∧Below w.heap.size w w':=by
 have g4:(k==4)=false:=by simpa using h4
 go_enter Tryz.func88,Tryz.ntmps88
 go_wp2_with (go_at_call 49;refine (inB _ _ _).mono ?_;rintro e w' ⟨rfl,rfl⟩)
 all_goals
  go_ret
  refine⟨zrB ?_,(Below.refl _ _).alloc (Nat.le_refl _) _⟩
  simp_all [termB]
theorem termShI(t:TermD)(ids blocks funcs:Int)(w:World) :
  Calls Tryz.prog 110 #[.agg #[.int .i64 t.kind,.int .i64 t.a,.int .i64 t.x,.int .i64 t.y],.agg #[.int .i64 ids,.int .i64 blocks,.int .i64 funcs]] w fun e w'=>e=.returned (.bool (termB t ids blocks))∧Below w.heap.size w w':=by
 obtain⟨k,a,x,y⟩:=t
 by_cases h1:k=1
 ·subst h1;exact termShI1 a x y ids blocks funcs w
 by_cases h2:k=2
 ·subst h2;exact termShI2 a x y ids blocks funcs w
 by_cases h3:k=3
 ·subst h3;exact termShI3 a x y ids blocks funcs w
 by_cases h4:k=4
 ·subst h4;exact termShI4 a x y ids blocks funcs w
 exact termShI0 k a x y ids blocks funcs w h1 h2 h3 h4
theorem termShS(t:TermD)(ids blocks:Int)(w:World)(g0:0≤ids)(g1:ids≤4611686018427387904)(g2:0≤blocks)(g3:blocks≤4611686018427387904) :
  Calls Tryz.prog 88 #[.agg #[.int .i64 t.kind,.int .i64 t.a,.int .i64 t.x,.int .i64 t.y],.int .i64 ids,.int .i64 blocks] w fun e w'=>e=.returned (.bool (termB t ids blocks))∧Below w.heap.size w w':=by
 obtain⟨k,a,x,y⟩:=t
 by_cases h1:k=1
 ·subst h1;exact termShS1 a x y ids blocks w g0 g1 g2 g3
 by_cases h2:k=2
 ·subst h2;exact termShS2 a x y ids blocks w g0 g1 g2 g3
 by_cases h3:k=3
 ·subst h3;exact termShS3 a x y ids blocks w g0 g1 g2 g3
 by_cases h4:k=4
 ·subst h4;exact termShS4 a x y ids blocks w g0 g1 g2 g3
 exact termShS0 k a x y ids blocks w g0 g1 g2 g3 h1 h2 h3 h4
end Go.Proofs.YtkpmiikafconmaaGreatDoor
