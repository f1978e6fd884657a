import Derived.Test.YtkpmiikafconmaaGreatDoorOps2Jp
namespace Go.Proofs.YtkpmiikafconmaaGreatDoor
open Go.RowKit
set_option maxRecDepth 100000
set_option linter.unusedVariables false
def wB(d:InstD):Bool:=if d.op<1∨27<d.op then false else if d.op=24∨d.op=25 then d.w==0 else if d.op=23 then d.w==8 else zWd d.w
def iB(d:InstD)(funcs:Int):Bool:=if d.op=21 then valueB d.w d.imm else if d.op=26 then zBw d.imm funcs else d.imm==0
def fB(d:InstD):Bool :=
 if d.op=26 then decide (d.args.length≤4)&&d.a==0&&d.b==0&&d.c==0
 else decide (d.args.length=0)&&(decide (1≤(opsD d).length)||d.a==0)&&(decide (2≤(opsD d).length)||d.b==0)&&(decide (3≤(opsD d).length)||d.c==0)
def zIn(d:InstD)(ids funcs:Int):Bool:=wB d&&iB d funcs&&fB d&&(opsD d).all fun n=>zBw n ids
theorem wI_no(d:InstD)(u:Option Addr)(q:Nat)(w:World)(ho:opB d.op=false)(h:d.op<1∨27<d.op):Calls Tryz.prog 139 #[.agg #[.int .i64 d.op,.int .i64 d.w,.int .i64 d.a,.int .i64 d.b,.int .i64 d.c,.int .i64 d.imm,.slice u d.args.length q],kindV d u q] w fun e w'=>e=.returned (.bool (wB d))∧Below w.heap.size w w':=by
 rw[kv_no ho h]
 have E:Hid (false=wB d):=by show _=_;rw[wB,if_pos h]
 have A:=as_strangeKind_strangeKind
 go_enter Tryz.func139,Tryz.ntmps139
 go_wp2_with (go_at_call 71;refine (widthI _ _).mono ?_;rintro e w' ⟨rfl,rfl⟩)
 go_ret
 exact⟨zrB E.out,(Below.refl _ _).alloc (Nat.le_refl _) _⟩
theorem wI_24(d:InstD)(u:Option Addr)(q:Nat)(w:World)(h:d.op=24):Calls Tryz.prog 139 #[.agg #[.int .i64 d.op,.int .i64 d.w,.int .i64 d.a,.int .i64 d.b,.int .i64 d.c,.int .i64 d.imm,.slice u d.args.length q],kindV d u q] w fun e w'=>e=.returned (.bool (wB d))∧Below w.heap.size w w':=by
 rw[kv_24 h]
 have E:Hid ((d.w==0)=wB d):=by show _=_;rw[wB,h];rfl
 have A_strange:=as_storeKind_strangeKind
 have A_store:=as_storeKind_storeKind
 have A_print:=as_storeKind_printKind
 have A_load:=as_storeKind_loadKind
 go_enter Tryz.func139,Tryz.ntmps139
 go_wp2_with (go_at_call 71;refine (widthI _ _).mono ?_;rintro e w' ⟨rfl,rfl⟩)
 go_ret
 exact⟨zrB E.out,(Below.refl _ _).alloc (Nat.le_refl _) _⟩
theorem wI_25(d:InstD)(u:Option Addr)(q:Nat)(w:World)(h:d.op=25):Calls Tryz.prog 139 #[.agg #[.int .i64 d.op,.int .i64 d.w,.int .i64 d.a,.int .i64 d.b,.int .i64 d.c,.int .i64 d.imm,.slice u d.args.length q],kindV d u q] w fun e w'=>e=.returned (.bool (wB d))∧Below w.heap.size w w':=by
 rw[kv_25 h]
 have E:Hid ((d.w==0)=wB d):=by show _=_;rw[wB,h];rfl
 have A_strange:=as_printKind_strangeKind
 have A_store:=as_printKind_storeKind
 have A_print:=as_printKind_printKind
 have A_load:=as_printKind_loadKind
 go_enter Tryz.func139,Tryz.ntmps139
 go_wp2_with (go_at_call 71;refine (widthI _ _).mono ?_;rintro e w' ⟨rfl,rfl⟩)
 go_ret
 exact⟨zrB E.out,(Below.refl _ _).alloc (Nat.le_refl _) _⟩
theorem wI_23(d:InstD)(u:Option Addr)(q:Nat)(w:World)(h:d.op=23):Calls Tryz.prog 139 #[.agg #[.int .i64 d.op,.int .i64 d.w,.int .i64 d.a,.int .i64 d.b,.int .i64 d.c,.int .i64 d.imm,.slice u d.args.length q],kindV d u q] w fun e w'=>e=.returned (.bool (wB d))∧Below w.heap.size w w':=by
 rw[kv_23 h]
 have E:Hid ((d.w==8)=wB d):=by show _=_;rw[wB,h];rfl
 have A_strange:=as_loadKind_strangeKind
 have A_store:=as_loadKind_storeKind
 have A_print:=as_loadKind_printKind
 have A_load:=as_loadKind_loadKind
 go_enter Tryz.func139,Tryz.ntmps139
 go_wp2_with (go_at_call 71;refine (widthI _ _).mono ?_;rintro e w' ⟨rfl,rfl⟩)
 go_ret
 exact⟨zrB E.out,(Below.refl _ _).alloc (Nat.le_refl _) _⟩
theorem wI_more(d:InstD)(u:Option Addr)(q:Nat)(w:World)(h1:1≤d.op∧d.op≤27)(h4:¬d.op=24)(h5:¬d.op=25)(h3:¬d.op=23):Calls Tryz.prog 139 #[.agg #[.int .i64 d.op,.int .i64 d.w,.int .i64 d.a,.int .i64 d.b,.int .i64 d.c,.int .i64 d.imm,.slice u d.args.length q],kindV d u q] w fun e w'=>e=.returned (.bool (wB d))∧Below w.heap.size w w':=by
 obtain⟨T,v,f,D⟩:=disp d u q
 rw[D.kv]
 have E:Hid (zWd d.w=wB d):=by show _=_;rw[wB,if_neg (by omega),if_neg (by omega),if_neg h3]
 have A1:=D.as_strange h1
 have A2:=D.as_store h4
 have A3:=D.as_print h5
 have A4:=D.as_load h3
 clear D h1 h4 h5 h3
 go_enter Tryz.func139,Tryz.ntmps139
 go_wp2_with (go_at_call 71;refine (widthI _ _).mono ?_;rintro e w' ⟨rfl,rfl⟩)
 go_ret
 exact⟨zrB E.out,(Below.refl _ _).alloc (Nat.le_refl _) _⟩
theorem wI(d:InstD)(u:Option Addr)(q:Nat)(w:World):Calls Tryz.prog 139 #[.agg #[.int .i64 d.op,.int .i64 d.w,.int .i64 d.a,.int .i64 d.b,.int .i64 d.c,.int .i64 d.imm,.slice u d.args.length q],kindV d u q] w fun e w'=>e=.returned (.bool (wB d))∧Below w.heap.size w w':=by
 by_cases h:d.op<1∨27<d.op
 ·exact wI_no d u q w (by simp[opB];omega) h
 by_cases h4:d.op=24
 ·exact wI_24 d u q w h4
 by_cases h5:d.op=25
 ·exact wI_25 d u q w h5
 by_cases h3:d.op=23
 ·exact wI_23 d u q w h3
 exact wI_more d u q w (by omega) h4 h5 h3
theorem immI_21(d:InstD)(u:Option Addr)(q:Nat)(ids blocks funcs:Int)(w:World)(h:d.op=21):Calls Tryz.prog 140 #[.agg #[.int .i64 d.op,.int .i64 d.w,.int .i64 d.a,.int .i64 d.b,.int .i64 d.c,.int .i64 d.imm,.slice u d.args.length q],kindV d u q,.agg #[.int .i64 ids,.int .i64 blocks,.int .i64 funcs]] w fun e w'=>e=.returned (.bool (iB d funcs))∧Below w.heap.size w w':=by
 rw[kv_21 h]
 have E:Hid (valueB d.w d.imm=iB d funcs):=by show _=_;rw[iB,if_pos h]
 have A:=as_constKind_constKind
 go_enter Tryz.func140,Tryz.ntmps140
 go_wp2_with (go_at_call 165;refine (valueI _ _ _).mono ?_;rintro e w' ⟨rfl,rfl⟩)
 go_ret
 exact⟨zrB E.out,by first|exact ((Below.refl _ _).alloc (Nat.le_refl _) _).alloc (by simp) _|exact (((Below.refl _ _).alloc (Nat.le_refl _) _).alloc (by simp) _).alloc (by simp;omega) _|exact (Below.refl _ _).alloc (Nat.le_refl _) _⟩
theorem immI_26(d:InstD)(u:Option Addr)(q:Nat)(ids blocks funcs:Int)(w:World)(h:d.op=26):Calls Tryz.prog 140 #[.agg #[.int .i64 d.op,.int .i64 d.w,.int .i64 d.a,.int .i64 d.b,.int .i64 d.c,.int .i64 d.imm,.slice u d.args.length q],kindV d u q,.agg #[.int .i64 ids,.int .i64 blocks,.int .i64 funcs]] w fun e w'=>e=.returned (.bool (iB d funcs))∧Below w.heap.size w w':=by
 rw[kv_26 h]
 have E:Hid (zBw d.imm funcs=iB d funcs):=by show _=_;rw[iB,h];rfl
 have A:=as_callKind_constKind
 have A2:=as_callKind_callKind
 go_enter Tryz.func140,Tryz.ntmps140
 go_wp2_with (go_at_call 137;refine (belowFI _ _ _).mono ?_;rintro e w' ⟨rfl,rfl⟩)
 go_ret
 exact⟨zrB E.out,by first|exact ((Below.refl _ _).alloc (Nat.le_refl _) _).alloc (by simp) _|exact (((Below.refl _ _).alloc (Nat.le_refl _) _).alloc (by simp) _).alloc (by simp;omega) _|exact (Below.refl _ _).alloc (Nat.le_refl _) _⟩
theorem immI_more(d:InstD)(u:Option Addr)(q:Nat)(ids blocks funcs:Int)(w:World)(h1:¬d.op=21)(h6:¬d.op=26):Calls Tryz.prog 140 #[.agg #[.int .i64 d.op,.int .i64 d.w,.int .i64 d.a,.int .i64 d.b,.int .i64 d.c,.int .i64 d.imm,.slice u d.args.length q],kindV d u q,.agg #[.int .i64 ids,.int .i64 blocks,.int .i64 funcs]] w fun e w'=>e=.returned (.bool (iB d funcs))∧Below w.heap.size w w':=by
 obtain⟨T,v,f,D⟩:=disp d u q
 rw[D.kv]
 have E:Hid ((d.imm==0)=iB d funcs):=by show _=_;rw[iB,if_neg h1,if_neg h6]
 have A1:=D.as_const h1
 have A2:=D.as_call h6
 clear D h1 h6
 go_enter Tryz.func140,Tryz.ntmps140
 go_wp2_with fail
 go_ret
 exact⟨zrB E.out,by first|exact ((Below.refl _ _).alloc (Nat.le_refl _) _).alloc (by simp) _|exact (((Below.refl _ _).alloc (Nat.le_refl _) _).alloc (by simp) _).alloc (by simp;omega) _|exact (Below.refl _ _).alloc (Nat.le_refl _) _⟩
theorem immI(d:InstD)(u:Option Addr)(q:Nat)(ids blocks funcs:Int)(w:World):Calls Tryz.prog 140 #[.agg #[.int .i64 d.op,.int .i64 d.w,.int .i64 d.a,.int .i64 d.b,.int .i64 d.c,.int .i64 d.imm,.slice u d.args.length q],kindV d u q,.agg #[.int .i64 ids,.int .i64 blocks,.int .i64 funcs]] w fun e w'=>e=.returned (.bool (iB d funcs))∧Below w.heap.size w w':=by
 by_cases h1:d.op=21
 ·exact immI_21 d u q ids blocks funcs w h1
 by_cases h6:d.op=26
 ·exact immI_26 d u q ids blocks funcs w h6
 exact immI_more d u q ids blocks funcs w h1 h6
set_option maxHeartbeats 1000000
structure Noughts(n k:Nat)(a b c:Int):Prop where
 f0:n≤0→0<k→a=0
 f1:n≤1→1<k→b=0
 f2:n≤2→2<k→c=0
theorem Noughts.start(n:Nat)(a b c:Int):Noughts n n a b c:=⟨fun _ _=>by omega,fun _ _=>by omega,fun _ _=>by omega⟩
theorem Noughts.next0{n:Nat}{a b c:Int}(h:Noughts n 0 a b c)(e:a=0):Noughts n 1 a b c:=⟨fun _ _=>e,fun _ _=>by omega,fun _ _=>by omega⟩
theorem Noughts.next1{n:Nat}{a b c:Int}(h:Noughts n 1 a b c)(e:b=0):Noughts n 2 a b c:=⟨fun h1 _=>h.f0 h1 (by omega),fun _ _=>e,fun _ _=>by omega⟩
theorem Noughts.next2{n:Nat}{a b c:Int}(h:Noughts n 2 a b c)(e:c=0):Noughts n 3 a b c:=⟨fun h1 _=>h.f0 h1 (by omega),fun h1 _=>h.f1 h1 (by omega),fun _ _=>e⟩
theorem Noughts.full{n k:Nat}{a b c:Int}(h:Noughts n k a b c)(hk:3≤k):Noughts n 3 a b c:=⟨fun h1 _=>h.f0 h1 (by omega),fun h1 _=>h.f1 h1 (by omega),fun h1 _=>h.f2 h1 (by omega)⟩
theorem flds_yes{n:Nat}{a b c:Int}(h:Noughts n 3 a b c):(true&&(decide (1≤n)||a==0)&&(decide (2≤n)||b==0)&&(decide (3≤n)||c==0))=true:=by
 simp only[Bool.true_and,Bool.and_eq_true,Bool.or_eq_true,decide_eq_true_eq,beq_iff_eq]
 refine⟨⟨?_,?_⟩,?_⟩
 ·by_cases e:1≤n
  ·exact .inl e
  ·exact .inr (h.f0 (by omega) (by omega))
 ·by_cases e:2≤n
  ·exact .inl e
  ·exact .inr (h.f1 (by omega) (by omega))
 ·by_cases e:3≤n
  ·exact .inl e
  ·exact .inr (h.f2 (by omega) (by omega))
theorem cells3{w w':World}{o:Obj}{a b c:Int}{T:TypeId}(h:Below ((w.alloc o).alloc (.cells #[.int .i64 a,.int .i64 b,.int .i64 c] T)).heap.size ((w.alloc o).alloc (.cells #[.int .i64 a,.int .i64 b,.int .i64 c] T)) w') :
  w'.cell? ⟨w.heap.size+1,0,none⟩=some (.int .i64 a)∧w'.cell? ⟨w.heap.size+1,1,none⟩=some (.int .i64 b)∧w'.cell? ⟨w.heap.size+1,2,none⟩=some (.int .i64 c)∧Below w.heap.size w w':=by
 have hl:=zhL (w.alloc o) (.cells #[.int .i64 a,.int .i64 b,.int .i64 c] T)
 have e:(w.alloc o).heap.size=w.heap.size+1:=by simp
 rw[e] at hl
 have hb:=(h.block (w.heap.size+1) (by simp)).trans hl
 exact⟨(zcH hb).trans rfl,(zcH hb).trans rfl,(zcH hb).trans rfl,(((Below.refl _ _).alloc (Nat.le_refl _) _).alloc (by simp) _).trans (h.mono (by simp;omega))⟩
theorem fldI_more(lo:Nat)(d:InstD)(u:Option Addr)(q:Nat)(w:World)(h6:¬d.op=26)(hz:d.args.length=0)(hk:IntsAt w lo u d.args):Calls Tryz.prog 141 #[.agg #[.int .i64 d.op,.int .i64 d.w,.int .i64 d.a,.int .i64 d.b,.int .i64 d.c,.int .i64 d.imm,.slice u d.args.length q],kindV d u q] w fun e w'=>e=.returned (.bool (fB d))∧Below w.heap.size w w':=by
 obtain⟨T,v,f,D⟩:=disp d u q
 rw[D.kv]
 have A2:=D.as_call h6
 have M:=D.meth
 have C:=fun w=>D.con lo w (by omega)
 have F:=D.call
 have yes':Noughts (opsD d).length 3 d.a d.b d.c→true=fB d:=fun h=>by
  rw[fB,if_neg h6,decide_eq_true hz]
  exact (flds_yes h).symm
 have no0':(opsD d).length≤0→¬d.a=0→false=fB d:=fun h e=>by
  rw[fB,if_neg h6];simp[show ¬1≤(opsD d).length by omega,e]
 have no1':(opsD d).length≤1→¬d.b=0→false=fB d:=fun h e=>by
  rw[fB,if_neg h6];simp[show ¬2≤(opsD d).length by omega,e]
 have no2':(opsD d).length≤2→¬d.c=0→false=fB d:=fun h e=>by
  rw[fB,if_neg h6];simp[show ¬3≤(opsD d).length by omega,e]
 have yes:Hid (Noughts (opsD d).length 3 d.a d.b d.c→true=fB d):=yes'
 have no0:Hid ((opsD d).length≤0→¬d.a=0→false=fB d):=no0'
 have no1:Hid ((opsD d).length≤1→¬d.b=0→false=fB d):=no1'
 have no2:Hid ((opsD d).length≤2→¬d.c=0→false=fB d):=no2'
 clear yes' no0' no1' no2'
 clear D
 go_enter Tryz.func141,Tryz.ntmps141
 go_wp2_with fail
 refine (C _ (hk.keep ((zaA _ _ _).trans (zaA _ _ _)))).mono ?_
 rintro e w1 ⟨a,r,rfl,_,hb1⟩
 obtain⟨x0,x1,x2,hB⟩:=cells3 hb1
 clear hb1 C F M A2
 go_wp2_with fail
 go_loop [9] (fun i=>∃ k:Nat,i=.int .i64 k∧(opsD d).length≤k∧(k≤3∨k≤(opsD d).length)∧Hid (Noughts (opsD d).length k d.a d.b d.c)) (fun i=>3-(intOf i).toNat)
 case atStart=>exact⟨(opsD d).length,by go_num,by omega,by omega,Noughts.start _ _ _ _⟩
 case round =>
  obtain⟨k,rfl,hk0,hk1,HN⟩:=hrel
  by_cases hlt:k<3
  ·rcases (show k=0∨k=1∨k=2 by omega) with rfl|rfl|rfl
   ·by_cases h0:d.a=0
    ·have HM:Hid (Noughts (opsD d).length 1 d.a d.b d.c):=HN.out.next0 h0
     go_wp2_with fail
     exact⟨⟨1,by go_num,by omega,by omega,HM.out⟩,by simp only[intOf];omega⟩
    ·have HF:Hid (false=fB d):=no0.out (by omega) h0
     go_wp2_with fail
     go_ret
     exact⟨zrB HF.out,hB⟩
   ·by_cases h0:d.b=0
    ·have HM:Hid (Noughts (opsD d).length 2 d.a d.b d.c):=HN.out.next1 h0
     go_wp2_with fail
     exact⟨⟨2,by go_num,by omega,by omega,HM.out⟩,by simp only[intOf];omega⟩
    ·have HF:Hid (false=fB d):=no1.out (by omega) h0
     go_wp2_with fail
     go_ret
     exact⟨zrB HF.out,hB⟩
   ·by_cases h0:d.c=0
    ·have HM:Hid (Noughts (opsD d).length 3 d.a d.b d.c):=HN.out.next2 h0
     go_wp2_with fail
     exact⟨⟨3,by go_num,by omega,by omega,HM.out⟩,by simp only[intOf];omega⟩
    ·have HF:Hid (false=fB d):=no2.out (by omega) h0
     go_wp2_with fail
     go_ret
     exact⟨zrB HF.out,hB⟩
  ·have HF:Hid (true=fB d):=yes.out (HN.out.full (by omega))
   go_wp2_with fail
   go_ret
   exact⟨zrB HF.out,hB⟩
theorem fldI_full(d:InstD)(u:Option Addr)(q:Nat)(w:World)(h6:¬d.op=26)(hz:¬d.args.length=0)(hm:d.args.length≤1048576):Calls Tryz.prog 141 #[.agg #[.int .i64 d.op,.int .i64 d.w,.int .i64 d.a,.int .i64 d.b,.int .i64 d.c,.int .i64 d.imm,.slice u d.args.length q],kindV d u q] w fun e w'=>e=.returned (.bool (fB d))∧Below w.heap.size w w':=by
 obtain⟨T,v,f,D⟩:=disp d u q
 rw[D.kv]
 have A2:=D.as_call h6
 have HF:Hid (false=fB d):=by show _=_;rw[fB,if_neg h6,decide_eq_false hz];rfl
 have hz2:(0:Int)<d.args.length:=by omega
 clear D
 go_enter Tryz.func141,Tryz.ntmps141
 go_wp2_with fail
 go_ret
 exact⟨zrB HF.out,((Below.refl _ _).alloc (Nat.le_refl _) _).alloc (by simp) _⟩
theorem fldI_26(d:InstD)(u:Option Addr)(q:Nat)(w:World)(h6:d.op=26)(hm:d.args.length≤1048576):Calls Tryz.prog 141 #[.agg #[.int .i64 d.op,.int .i64 d.w,.int .i64 d.a,.int .i64 d.b,.int .i64 d.c,.int .i64 d.imm,.slice u d.args.length q],kindV d u q] w fun e w'=>e=.returned (.bool (fB d))∧Below w.heap.size w w':=by
 rw[kv_26 h6]
 have A2:=as_callKind_callKind
 by_cases h4:4<d.args.length
 ·have HF:Hid (false=fB d):=by show _=_;rw[fB,if_pos h6,decide_eq_false (by omega)];rfl
  have h42:(4:Int)<d.args.length:=by omega
  go_enter Tryz.func141,Tryz.ntmps141
  go_wp2_with fail
  go_ret
  exact⟨zrB HF.out,by first|exact ((Below.refl _ _).alloc (Nat.le_refl _) _).alloc (by simp) _|exact (((Below.refl _ _).alloc (Nat.le_refl _) _).alloc (by simp) _).alloc (by simp;omega) _|exact (Below.refl _ _).alloc (Nat.le_refl _) _⟩
 ·have yes':Noughts 0 3 d.a d.b d.c→true=fB d:=fun h=>by
   rw[fB,if_pos h6,decide_eq_true (by omega),h.f0 (by omega) (by omega),h.f1 (by omega) (by omega),h.f2 (by omega) (by omega)];rfl
  have no0':0≤0→¬d.a=0→false=fB d:=fun _ e=>by rw[fB,if_pos h6];simp[e]
  have no1':0≤1→¬d.b=0→false=fB d:=fun _ e=>by rw[fB,if_pos h6];simp[e]
  have no2':0≤2→¬d.c=0→false=fB d:=fun _ e=>by rw[fB,if_pos h6];simp[e]
  have yes:Hid (Noughts 0 3 d.a d.b d.c→true=fB d):=yes'
  have no0:Hid (0≤0→¬d.a=0→false=fB d):=no0'
  have no1:Hid (0≤1→¬d.b=0→false=fB d):=no1'
  have no2:Hid (0≤2→¬d.c=0→false=fB d):=no2'
  clear yes' no0' no1' no2'
  have h42:¬(4:Int)<d.args.length:=by omega
  go_enter Tryz.func141,Tryz.ntmps141
  go_wp2_with fail
  go_loop [9] (fun i=>∃ k:Nat,i=.int .i64 k∧k≤3∧Hid (Noughts 0 k d.a d.b d.c)) (fun i=>3-(intOf i).toNat)
  case atStart=>exact⟨0,by go_num,by omega,Noughts.start _ _ _ _⟩
  case round =>
   obtain⟨k,rfl,hk1,HN⟩:=hrel
   by_cases hlt:k<3
   ·rcases (show k=0∨k=1∨k=2 by omega) with rfl|rfl|rfl
    ·by_cases h0:d.a=0
     ·have HM:Hid (Noughts 0 1 d.a d.b d.c):=HN.out.next0 h0
      go_wp2_with fail
      exact⟨⟨1,by go_num,by omega,by first|exact HM.out|(have hm:=HM.out;rw[h0] at hm;exact hm)⟩,by simp only[intOf];omega⟩
     ·have HF:Hid (false=fB d):=no0.out (by omega) h0
      go_wp2_with fail
      go_ret
      exact⟨zrB HF.out,by first|exact ((Below.refl _ _).alloc (Nat.le_refl _) _).alloc (by simp) _|exact (((Below.refl _ _).alloc (Nat.le_refl _) _).alloc (by simp) _).alloc (by simp;omega) _|exact (Below.refl _ _).alloc (Nat.le_refl _) _⟩
    ·by_cases h0:d.b=0
     ·have HM:Hid (Noughts 0 2 d.a d.b d.c):=HN.out.next1 h0
      go_wp2_with fail
      exact⟨⟨2,by go_num,by omega,by first|exact HM.out|(have hm:=HM.out;rw[h0] at hm;exact hm)⟩,by simp only[intOf];omega⟩
     ·have HF:Hid (false=fB d):=no1.out (by omega) h0
      go_wp2_with fail
      go_ret
      exact⟨zrB HF.out,by first|exact ((Below.refl _ _).alloc (Nat.le_refl _) _).alloc (by simp) _|exact (((Below.refl _ _).alloc (Nat.le_refl _) _).alloc (by simp) _).alloc (by simp;omega) _|exact (Below.refl _ _).alloc (Nat.le_refl _) _⟩
    ·by_cases h0:d.c=0
     ·have HM:Hid (Noughts 0 3 d.a d.b d.c):=HN.out.next2 h0
      go_wp2_with fail
      exact⟨⟨3,by go_num,by omega,by first|exact HM.out|(have hm:=HM.out;rw[h0] at hm;exact hm)⟩,by simp only[intOf];omega⟩
     ·have HF:Hid (false=fB d):=no2.out (by omega) h0
      go_wp2_with fail
      go_ret
      exact⟨zrB HF.out,by first|exact ((Below.refl _ _).alloc (Nat.le_refl _) _).alloc (by simp) _|exact (((Below.refl _ _).alloc (Nat.le_refl _) _).alloc (by simp) _).alloc (by simp;omega) _|exact (Below.refl _ _).alloc (Nat.le_refl _) _⟩
   ·have HF:Hid (true=fB d):=yes.out (HN.out.full (by omega))
    go_wp2_with fail
    go_ret
    exact⟨zrB HF.out,by first|exact ((Below.refl _ _).alloc (Nat.le_refl _) _).alloc (by simp) _|exact (((Below.refl _ _).alloc (Nat.le_refl _) _).alloc (by simp) _).alloc (by simp;omega) _|exact (Below.refl _ _).alloc (Nat.le_refl _) _⟩
theorem fldI(lo:Nat)(d:InstD)(u:Option Addr)(q:Nat)(w:World)(hm:d.args.length≤1048576)(hk:IntsAt w lo u d.args):Calls Tryz.prog 141 #[.agg #[.int .i64 d.op,.int .i64 d.w,.int .i64 d.a,.int .i64 d.b,.int .i64 d.c,.int .i64 d.imm,.slice u d.args.length q],kindV d u q] w fun e w'=>e=.returned (.bool (fB d))∧Below w.heap.size w w':=by
 by_cases h6:d.op=26
 ·exact fldI_26 d u q w h6 hm
 by_cases hz:d.args.length=0
 ·exact fldI_more lo d u q w h6 hz hk
 exact fldI_full d u q w h6 hz hm
end Go.Proofs.YtkpmiikafconmaaGreatDoor
