import Derived.Deep.RegionWith
import Derived.WalkSmall
import Derived.Test.YtkpmiikafconmaaGreatDoorShelfJp
namespace Go.Proofs.YtkpmiikafconmaaGreatDoor
open Go.RowKit
set_option maxHeartbeats 2000000
def kindV(d:InstD)(u:Option Addr)(q:Nat):Value :=
 if opB d.op=true then .iface 197 (.agg #[.int .i64 d.a,.int .i64 d.b])
 else if d.op=18∨d.op=19∨d.op=20∨d.op=27 then .iface 199 (.agg #[.int .i64 d.a])
 else if d.op=21 then .iface 201 (.agg #[.int .i64 d.imm])
 else if d.op=22 then .iface 203 (.agg #[.int .i64 d.a,.int .i64 d.b,.int .i64 d.c])
 else if d.op=23 then .iface 204 (.agg #[.int .i64 d.a])
 else if d.op=24 then .iface 205 (.agg #[.int .i64 d.a,.int .i64 d.b])
 else if d.op=25 then .iface 206 (.agg #[.int .i64 d.a])
 else if d.op=26 then .iface 208 (.agg #[.int .i64 d.imm,.slice u d.args.length q])
 else .iface 210 (.agg #[])
theorem kv_bin{d:InstD}{u:Option Addr}{q:Nat}(h:opB d.op=true):kindV d u q=.iface 197 (.agg #[.int .i64 d.a,.int .i64 d.b]):=by rw[kindV,if_pos h]
theorem kv_18{d:InstD}{u:Option Addr}{q:Nat}(h:d.op=18):kindV d u q=.iface 199 (.agg #[.int .i64 d.a]):=by
 have ho:opB 18=false:=by decide
 simp[kindV,h,ho]
theorem kv_19{d:InstD}{u:Option Addr}{q:Nat}(h:d.op=19):kindV d u q=.iface 199 (.agg #[.int .i64 d.a]):=by
 have ho:opB 19=false:=by decide
 simp[kindV,h,ho]
theorem kv_20{d:InstD}{u:Option Addr}{q:Nat}(h:d.op=20):kindV d u q=.iface 199 (.agg #[.int .i64 d.a]):=by
 have ho:opB 20=false:=by decide
 simp[kindV,h,ho]
theorem kv_27{d:InstD}{u:Option Addr}{q:Nat}(h:d.op=27):kindV d u q=.iface 199 (.agg #[.int .i64 d.a]):=by
 have ho:opB 27=false:=by decide
 simp[kindV,h,ho]
theorem kv_21{d:InstD}{u:Option Addr}{q:Nat}(h:d.op=21):kindV d u q=.iface 201 (.agg #[.int .i64 d.imm]):=by
 have ho:opB 21=false:=by decide
 simp[kindV,h,ho]
theorem kv_22{d:InstD}{u:Option Addr}{q:Nat}(h:d.op=22):kindV d u q=.iface 203 (.agg #[.int .i64 d.a,.int .i64 d.b,.int .i64 d.c]):=by
 have ho:opB 22=false:=by decide
 simp[kindV,h,ho]
theorem kv_23{d:InstD}{u:Option Addr}{q:Nat}(h:d.op=23):kindV d u q=.iface 204 (.agg #[.int .i64 d.a]):=by
 have ho:opB 23=false:=by decide
 simp[kindV,h,ho]
theorem kv_24{d:InstD}{u:Option Addr}{q:Nat}(h:d.op=24):kindV d u q=.iface 205 (.agg #[.int .i64 d.a,.int .i64 d.b]):=by
 have ho:opB 24=false:=by decide
 simp[kindV,h,ho]
theorem kv_25{d:InstD}{u:Option Addr}{q:Nat}(h:d.op=25):kindV d u q=.iface 206 (.agg #[.int .i64 d.a]):=by
 have ho:opB 25=false:=by decide
 simp[kindV,h,ho]
theorem kv_26{d:InstD}{u:Option Addr}{q:Nat}(h:d.op=26):kindV d u q=.iface 208 (.agg #[.int .i64 d.imm,.slice u d.args.length q]):=by
 have ho:opB 26=false:=by decide
 simp[kindV,h,ho]
theorem kv_no{d:InstD}{u:Option Addr}{q:Nat}(h0:opB d.op=false)(h:d.op<1∨27<d.op):kindV d u q=.iface 210 (.agg #[]):=by
 rw[kindV,if_neg (by simp[h0]),if_neg (by omega),if_neg (by omega),if_neg (by omega),if_neg (by omega),if_neg (by omega),if_neg (by omega),if_neg (by omega)]
theorem kind_bin(d:InstD)(u:Option Addr)(q:Nat)(w:World)(h:opB d.op=true) :
  Calls Tryz.prog 138 #[.agg #[.int .i64 d.op,.int .i64 d.w,.int .i64 d.a,.int .i64 d.b,.int .i64 d.c,.int .i64 d.imm,.slice u d.args.length q]] w fun e w'=>e=.returned (kindV d u q)∧Below w.heap.size w w':=by
 have E:=kv_bin (u:=u) (q:=q) h
 generalize kindV d u q=V at E
 subst E
 go_enter Tryz.func138,Tryz.ntmps138
 go_wp2_with (go_at_call 164;refine (opI _ _).mono ?_;rintro e w' ⟨rfl,rfl⟩)
 go_ret
 exact⟨rfl,(Below.refl _ _).alloc (Nat.le_refl _) _⟩
theorem kind_18(d:InstD)(u:Option Addr)(q:Nat)(w:World)(h:d.op=18) :
  Calls Tryz.prog 138 #[.agg #[.int .i64 d.op,.int .i64 d.w,.int .i64 d.a,.int .i64 d.b,.int .i64 d.c,.int .i64 d.imm,.slice u d.args.length q]] w fun e w'=>e=.returned (kindV d u q)∧Below w.heap.size w w':=by
 have E:=kv_18 (u:=u) (q:=q) h
 generalize kindV d u q=V at E
 subst E
 have ho:opB d.op=false:=by rw[h];decide
 have ho2:opB 18=false:=by decide
 go_enter Tryz.func138,Tryz.ntmps138
 go_wp2_with (go_at_call 164;refine (opI _ _).mono ?_;rintro e w' ⟨rfl,rfl⟩)
 go_ret
 exact⟨rfl,(Below.refl _ _).alloc (Nat.le_refl _) _⟩
theorem kind_19(d:InstD)(u:Option Addr)(q:Nat)(w:World)(h:d.op=19) :
  Calls Tryz.prog 138 #[.agg #[.int .i64 d.op,.int .i64 d.w,.int .i64 d.a,.int .i64 d.b,.int .i64 d.c,.int .i64 d.imm,.slice u d.args.length q]] w fun e w'=>e=.returned (kindV d u q)∧Below w.heap.size w w':=by
 have E:=kv_19 (u:=u) (q:=q) h
 generalize kindV d u q=V at E
 subst E
 have ho:opB d.op=false:=by rw[h];decide
 have ho2:opB 19=false:=by decide
 go_enter Tryz.func138,Tryz.ntmps138
 go_wp2_with (go_at_call 164;refine (opI _ _).mono ?_;rintro e w' ⟨rfl,rfl⟩)
 go_ret
 exact⟨rfl,(Below.refl _ _).alloc (Nat.le_refl _) _⟩
theorem kind_20(d:InstD)(u:Option Addr)(q:Nat)(w:World)(h:d.op=20) :
  Calls Tryz.prog 138 #[.agg #[.int .i64 d.op,.int .i64 d.w,.int .i64 d.a,.int .i64 d.b,.int .i64 d.c,.int .i64 d.imm,.slice u d.args.length q]] w fun e w'=>e=.returned (kindV d u q)∧Below w.heap.size w w':=by
 have E:=kv_20 (u:=u) (q:=q) h
 generalize kindV d u q=V at E
 subst E
 have ho:opB d.op=false:=by rw[h];decide
 have ho2:opB 20=false:=by decide
 go_enter Tryz.func138,Tryz.ntmps138
 go_wp2_with (go_at_call 164;refine (opI _ _).mono ?_;rintro e w' ⟨rfl,rfl⟩)
 go_ret
 exact⟨rfl,(Below.refl _ _).alloc (Nat.le_refl _) _⟩
theorem kind_27(d:InstD)(u:Option Addr)(q:Nat)(w:World)(h:d.op=27) :
  Calls Tryz.prog 138 #[.agg #[.int .i64 d.op,.int .i64 d.w,.int .i64 d.a,.int .i64 d.b,.int .i64 d.c,.int .i64 d.imm,.slice u d.args.length q]] w fun e w'=>e=.returned (kindV d u q)∧Below w.heap.size w w':=by
 have E:=kv_27 (u:=u) (q:=q) h
 generalize kindV d u q=V at E
 subst E
 have ho:opB d.op=false:=by rw[h];decide
 have ho2:opB 27=false:=by decide
 go_enter Tryz.func138,Tryz.ntmps138
 go_wp2_with (go_at_call 164;refine (opI _ _).mono ?_;rintro e w' ⟨rfl,rfl⟩)
 go_ret
 exact⟨rfl,(Below.refl _ _).alloc (Nat.le_refl _) _⟩
theorem kind_21(d:InstD)(u:Option Addr)(q:Nat)(w:World)(h:d.op=21) :
  Calls Tryz.prog 138 #[.agg #[.int .i64 d.op,.int .i64 d.w,.int .i64 d.a,.int .i64 d.b,.int .i64 d.c,.int .i64 d.imm,.slice u d.args.length q]] w fun e w'=>e=.returned (kindV d u q)∧Below w.heap.size w w':=by
 have E:=kv_21 (u:=u) (q:=q) h
 generalize kindV d u q=V at E
 subst E
 have ho:opB d.op=false:=by rw[h];decide
 have ho2:opB 21=false:=by decide
 go_enter Tryz.func138,Tryz.ntmps138
 go_wp2_with (go_at_call 164;refine (opI _ _).mono ?_;rintro e w' ⟨rfl,rfl⟩)
 go_ret
 exact⟨rfl,(Below.refl _ _).alloc (Nat.le_refl _) _⟩
theorem kind_22(d:InstD)(u:Option Addr)(q:Nat)(w:World)(h:d.op=22) :
  Calls Tryz.prog 138 #[.agg #[.int .i64 d.op,.int .i64 d.w,.int .i64 d.a,.int .i64 d.b,.int .i64 d.c,.int .i64 d.imm,.slice u d.args.length q]] w fun e w'=>e=.returned (kindV d u q)∧Below w.heap.size w w':=by
 have E:=kv_22 (u:=u) (q:=q) h
 generalize kindV d u q=V at E
 subst E
 have ho:opB d.op=false:=by rw[h];decide
 have ho2:opB 22=false:=by decide
 go_enter Tryz.func138,Tryz.ntmps138
 go_wp2_with (go_at_call 164;refine (opI _ _).mono ?_;rintro e w' ⟨rfl,rfl⟩)
 go_ret
 exact⟨rfl,(Below.refl _ _).alloc (Nat.le_refl _) _⟩
theorem kind_23(d:InstD)(u:Option Addr)(q:Nat)(w:World)(h:d.op=23) :
  Calls Tryz.prog 138 #[.agg #[.int .i64 d.op,.int .i64 d.w,.int .i64 d.a,.int .i64 d.b,.int .i64 d.c,.int .i64 d.imm,.slice u d.args.length q]] w fun e w'=>e=.returned (kindV d u q)∧Below w.heap.size w w':=by
 have E:=kv_23 (u:=u) (q:=q) h
 generalize kindV d u q=V at E
 subst E
 have ho:opB d.op=false:=by rw[h];decide
 have ho2:opB 23=false:=by decide
 go_enter Tryz.func138,Tryz.ntmps138
 go_wp2_with (go_at_call 164;refine (opI _ _).mono ?_;rintro e w' ⟨rfl,rfl⟩)
 go_ret
 exact⟨rfl,(Below.refl _ _).alloc (Nat.le_refl _) _⟩
theorem kind_24(d:InstD)(u:Option Addr)(q:Nat)(w:World)(h:d.op=24) :
  Calls Tryz.prog 138 #[.agg #[.int .i64 d.op,.int .i64 d.w,.int .i64 d.a,.int .i64 d.b,.int .i64 d.c,.int .i64 d.imm,.slice u d.args.length q]] w fun e w'=>e=.returned (kindV d u q)∧Below w.heap.size w w':=by
 have E:=kv_24 (u:=u) (q:=q) h
 generalize kindV d u q=V at E
 subst E
 have ho:opB d.op=false:=by rw[h];decide
 have ho2:opB 24=false:=by decide
 go_enter Tryz.func138,Tryz.ntmps138
 go_wp2_with (go_at_call 164;refine (opI _ _).mono ?_;rintro e w' ⟨rfl,rfl⟩)
 go_ret
 exact⟨rfl,(Below.refl _ _).alloc (Nat.le_refl _) _⟩
theorem kind_25(d:InstD)(u:Option Addr)(q:Nat)(w:World)(h:d.op=25) :
  Calls Tryz.prog 138 #[.agg #[.int .i64 d.op,.int .i64 d.w,.int .i64 d.a,.int .i64 d.b,.int .i64 d.c,.int .i64 d.imm,.slice u d.args.length q]] w fun e w'=>e=.returned (kindV d u q)∧Below w.heap.size w w':=by
 have E:=kv_25 (u:=u) (q:=q) h
 generalize kindV d u q=V at E
 subst E
 have ho:opB d.op=false:=by rw[h];decide
 have ho2:opB 25=false:=by decide
 go_enter Tryz.func138,Tryz.ntmps138
 go_wp2_with (go_at_call 164;refine (opI _ _).mono ?_;rintro e w' ⟨rfl,rfl⟩)
 go_ret
 exact⟨rfl,(Below.refl _ _).alloc (Nat.le_refl _) _⟩
theorem kind_26(d:InstD)(u:Option Addr)(q:Nat)(w:World)(h:d.op=26) :
  Calls Tryz.prog 138 #[.agg #[.int .i64 d.op,.int .i64 d.w,.int .i64 d.a,.int .i64 d.b,.int .i64 d.c,.int .i64 d.imm,.slice u d.args.length q]] w fun e w'=>e=.returned (kindV d u q)∧Below w.heap.size w w':=by
 have E:=kv_26 (u:=u) (q:=q) h
 generalize kindV d u q=V at E
 subst E
 have ho:opB d.op=false:=by rw[h];decide
 have ho2:opB 26=false:=by decide
 go_enter Tryz.func138,Tryz.ntmps138
 go_wp2_with (go_at_call 164;refine (opI _ _).mono ?_;rintro e w' ⟨rfl,rfl⟩)
 go_ret
 exact⟨rfl,(Below.refl _ _).alloc (Nat.le_refl _) _⟩
theorem kind_no(d:InstD)(u:Option Addr)(q:Nat)(w:World)(ho:opB d.op=false)(h:d.op<1∨27<d.op) :
  Calls Tryz.prog 138 #[.agg #[.int .i64 d.op,.int .i64 d.w,.int .i64 d.a,.int .i64 d.b,.int .i64 d.c,.int .i64 d.imm,.slice u d.args.length q]] w fun e w'=>e=.returned (kindV d u q)∧Below w.heap.size w w':=by
 have E:=kv_no (u:=u) (q:=q) ho h
 generalize kindV d u q=V at E
 subst E
 have n18:(d.op==18)=false:=by simp;omega
 have n19:(d.op==19)=false:=by simp;omega
 have n20:(d.op==20)=false:=by simp;omega
 have n21:(d.op==21)=false:=by simp;omega
 have n22:(d.op==22)=false:=by simp;omega
 have n23:(d.op==23)=false:=by simp;omega
 have n24:(d.op==24)=false:=by simp;omega
 have n25:(d.op==25)=false:=by simp;omega
 have n26:(d.op==26)=false:=by simp;omega
 have n27:(d.op==27)=false:=by simp;omega
 clear h
 go_enter Tryz.func138,Tryz.ntmps138
 go_wp2_with (go_at_call 164;refine (opI _ _).mono ?_;rintro e w' ⟨rfl,rfl⟩)
 go_ret
 exact⟨rfl,(Below.refl _ _).alloc (Nat.le_refl _) _⟩
theorem op_split(n:Int):opB n=true∨n=18∨n=19∨n=20∨n=21∨n=22∨n=23∨n=24∨n=25∨n=26∨n=27∨(opB n=false∧(n<1∨27<n)):=by
 by_cases h:opB n=true
 ·exact .inl h
 ·have h':opB n=false:=by simpa using h
  have h2:n<1∨17<n:=by simp[opB] at h;omega
  have h3:n=18∨n=19∨n=20∨n=21∨n=22∨n=23∨n=24∨n=25∨n=26∨n=27∨(n<1∨27<n):=by omega
  rcases h3 with h3|h3|h3|h3|h3|h3|h3|h3|h3|h3|h3
  all_goals first|(simp[h3];done)|exact .inr (.inr (.inr (.inr (.inr (.inr (.inr (.inr (.inr (.inr (.inr ⟨h',h3⟩))))))))))
theorem kind_any(d:InstD)(u:Option Addr)(q:Nat)(w:World) :
  Calls Tryz.prog 138 #[.agg #[.int .i64 d.op,.int .i64 d.w,.int .i64 d.a,.int .i64 d.b,.int .i64 d.c,.int .i64 d.imm,.slice u d.args.length q]] w fun e w'=>e=.returned (kindV d u q)∧Below w.heap.size w w':=by
 rcases op_split d.op with h|h|h|h|h|h|h|h|h|h|h|⟨ho,h⟩
 ·exact kind_bin d u q w h
 ·exact kind_18 d u q w h
 ·exact kind_19 d u q w h
 ·exact kind_20 d u q w h
 ·exact kind_21 d u q w h
 ·exact kind_22 d u q w h
 ·exact kind_23 d u q w h
 ·exact kind_24 d u q w h
 ·exact kind_25 d u q w h
 ·exact kind_26 d u q w h
 ·exact kind_27 d u q w h
 ·exact kind_no d u q w ho h
abbrev AsN(S B:TypeId)(z:Value):Prop:=∀ (v:Value) (w:World),(Instr.typeAssert (.iface S v) 176 B true).run Tryz.prog w=.ok (.tuple #[z,.bool false]) w
abbrev AsY(S:TypeId):Prop:=∀ (v:Value) (w:World),(Instr.typeAssert (.iface S v) 176 S true).run Tryz.prog w=.ok (.tuple #[v,.bool true]) w
theorem as_binaryKind_constKind:AsN 197 201 (.agg #[.int .i64 0]):=fun _ _=>by kernel_rfl
theorem as_binaryKind_loadKind:AsN 197 204 (.agg #[.int .i64 0]):=fun _ _=>by kernel_rfl
theorem as_binaryKind_storeKind:AsN 197 205 (.agg #[.int .i64 0,.int .i64 0]):=fun _ _=>by kernel_rfl
theorem as_binaryKind_printKind:AsN 197 206 (.agg #[.int .i64 0]):=fun _ _=>by kernel_rfl
theorem as_binaryKind_callKind:AsN 197 208 (.agg #[.int .i64 0,.slice none 0 0]):=fun _ _=>by kernel_rfl
theorem as_binaryKind_strangeKind:AsN 197 210 (.agg #[]):=fun _ _=>by kernel_rfl
theorem as_unaryKind_constKind:AsN 199 201 (.agg #[.int .i64 0]):=fun _ _=>by kernel_rfl
theorem as_unaryKind_loadKind:AsN 199 204 (.agg #[.int .i64 0]):=fun _ _=>by kernel_rfl
theorem as_unaryKind_storeKind:AsN 199 205 (.agg #[.int .i64 0,.int .i64 0]):=fun _ _=>by kernel_rfl
theorem as_unaryKind_printKind:AsN 199 206 (.agg #[.int .i64 0]):=fun _ _=>by kernel_rfl
theorem as_unaryKind_callKind:AsN 199 208 (.agg #[.int .i64 0,.slice none 0 0]):=fun _ _=>by kernel_rfl
theorem as_unaryKind_strangeKind:AsN 199 210 (.agg #[]):=fun _ _=>by kernel_rfl
theorem as_constKind_constKind:AsY 201:=fun _ _=>by kernel_rfl
theorem as_constKind_loadKind:AsN 201 204 (.agg #[.int .i64 0]):=fun _ _=>by kernel_rfl
theorem as_constKind_storeKind:AsN 201 205 (.agg #[.int .i64 0,.int .i64 0]):=fun _ _=>by kernel_rfl
theorem as_constKind_printKind:AsN 201 206 (.agg #[.int .i64 0]):=fun _ _=>by kernel_rfl
theorem as_constKind_callKind:AsN 201 208 (.agg #[.int .i64 0,.slice none 0 0]):=fun _ _=>by kernel_rfl
theorem as_constKind_strangeKind:AsN 201 210 (.agg #[]):=fun _ _=>by kernel_rfl
theorem as_selectKind_constKind:AsN 203 201 (.agg #[.int .i64 0]):=fun _ _=>by kernel_rfl
theorem as_selectKind_loadKind:AsN 203 204 (.agg #[.int .i64 0]):=fun _ _=>by kernel_rfl
theorem as_selectKind_storeKind:AsN 203 205 (.agg #[.int .i64 0,.int .i64 0]):=fun _ _=>by kernel_rfl
theorem as_selectKind_printKind:AsN 203 206 (.agg #[.int .i64 0]):=fun _ _=>by kernel_rfl
theorem as_selectKind_callKind:AsN 203 208 (.agg #[.int .i64 0,.slice none 0 0]):=fun _ _=>by kernel_rfl
theorem as_selectKind_strangeKind:AsN 203 210 (.agg #[]):=fun _ _=>by kernel_rfl
theorem as_loadKind_constKind:AsN 204 201 (.agg #[.int .i64 0]):=fun _ _=>by kernel_rfl
theorem as_loadKind_loadKind:AsY 204:=fun _ _=>by kernel_rfl
theorem as_loadKind_storeKind:AsN 204 205 (.agg #[.int .i64 0,.int .i64 0]):=fun _ _=>by kernel_rfl
theorem as_loadKind_printKind:AsN 204 206 (.agg #[.int .i64 0]):=fun _ _=>by kernel_rfl
theorem as_loadKind_callKind:AsN 204 208 (.agg #[.int .i64 0,.slice none 0 0]):=fun _ _=>by kernel_rfl
theorem as_loadKind_strangeKind:AsN 204 210 (.agg #[]):=fun _ _=>by kernel_rfl
theorem as_storeKind_constKind:AsN 205 201 (.agg #[.int .i64 0]):=fun _ _=>by kernel_rfl
theorem as_storeKind_loadKind:AsN 205 204 (.agg #[.int .i64 0]):=fun _ _=>by kernel_rfl
theorem as_storeKind_storeKind:AsY 205:=fun _ _=>by kernel_rfl
theorem as_storeKind_printKind:AsN 205 206 (.agg #[.int .i64 0]):=fun _ _=>by kernel_rfl
theorem as_storeKind_callKind:AsN 205 208 (.agg #[.int .i64 0,.slice none 0 0]):=fun _ _=>by kernel_rfl
theorem as_storeKind_strangeKind:AsN 205 210 (.agg #[]):=fun _ _=>by kernel_rfl
theorem as_printKind_constKind:AsN 206 201 (.agg #[.int .i64 0]):=fun _ _=>by kernel_rfl
theorem as_printKind_loadKind:AsN 206 204 (.agg #[.int .i64 0]):=fun _ _=>by kernel_rfl
theorem as_printKind_storeKind:AsN 206 205 (.agg #[.int .i64 0,.int .i64 0]):=fun _ _=>by kernel_rfl
theorem as_printKind_printKind:AsY 206:=fun _ _=>by kernel_rfl
theorem as_printKind_callKind:AsN 206 208 (.agg #[.int .i64 0,.slice none 0 0]):=fun _ _=>by kernel_rfl
theorem as_printKind_strangeKind:AsN 206 210 (.agg #[]):=fun _ _=>by kernel_rfl
theorem as_callKind_constKind:AsN 208 201 (.agg #[.int .i64 0]):=fun _ _=>by kernel_rfl
theorem as_callKind_loadKind:AsN 208 204 (.agg #[.int .i64 0]):=fun _ _=>by kernel_rfl
theorem as_callKind_storeKind:AsN 208 205 (.agg #[.int .i64 0,.int .i64 0]):=fun _ _=>by kernel_rfl
theorem as_callKind_printKind:AsN 208 206 (.agg #[.int .i64 0]):=fun _ _=>by kernel_rfl
theorem as_callKind_callKind:AsY 208:=fun _ _=>by kernel_rfl
theorem as_callKind_strangeKind:AsN 208 210 (.agg #[]):=fun _ _=>by kernel_rfl
theorem as_strangeKind_constKind:AsN 210 201 (.agg #[.int .i64 0]):=fun _ _=>by kernel_rfl
theorem as_strangeKind_loadKind:AsN 210 204 (.agg #[.int .i64 0]):=fun _ _=>by kernel_rfl
theorem as_strangeKind_storeKind:AsN 210 205 (.agg #[.int .i64 0,.int .i64 0]):=fun _ _=>by kernel_rfl
theorem as_strangeKind_printKind:AsN 210 206 (.agg #[.int .i64 0]):=fun _ _=>by kernel_rfl
theorem as_strangeKind_callKind:AsN 210 208 (.agg #[.int .i64 0,.slice none 0 0]):=fun _ _=>by kernel_rfl
theorem as_strangeKind_strangeKind:AsY 210:=fun _ _=>by kernel_rfl
def instW(d:InstD):Int:=if opB d.op=true then resZ d.op d.w else d.w
theorem instS_any(d:InstD)(u:Option Addr)(q:Nat)(w:World) :
  Calls Tryz.prog 160 #[.agg #[.int .i64 d.op,.int .i64 d.w,.int .i64 d.a,.int .i64 d.b,.int .i64 d.c,.int .i64 d.imm,.slice u d.args.length q]] w fun e w'=>e=.returned (.int .i64 (instW d))∧Below w.heap.size w w':=by
 by_cases h:opB d.op=true
 ·have HR:Hid (resZ d.op d.w=instW d):=by show _=_;rw[instW,if_pos h]
  have dd:(decide (1≤d.op)&&decide (d.op≤17))=true:=h
  clear h
  go_enter Tryz.func160,Tryz.ntmps160
  go_wp2_with (first|(go_at_call 49;refine (inS _ _ _ _).mono ?_;rintro e w' ⟨rfl,rfl⟩)|(go_at_call 179;refine (resS _ _ _).mono ?_;rintro e w' ⟨rfl,rfl⟩))
  go_ret
  exact⟨ret_int HR.out,(Below.refl _ _).alloc (Nat.le_refl _) _⟩
 ·have h':opB d.op=false:=by simpa using h
  have HR:Hid (d.w=instW d):=by show _=_;rw[instW,if_neg h]
  have dd:(decide (1≤d.op)&&decide (d.op≤17))=false:=h'
  clear h h'
  go_enter Tryz.func160,Tryz.ntmps160
  go_wp2_with (first|(go_at_call 49;refine (inS _ _ _ _).mono ?_;rintro e w' ⟨rfl,rfl⟩))
  go_ret
  exact⟨ret_int HR.out,(Below.refl _ _).alloc (Nat.le_refl _) _⟩
def cntB(d:BlockD):Nat:=d.phis.length+d.insts.length
def cntL:List BlockD→Nat
 | []=>0
 | d :: r=>cntB d+cntL r
def cntF(d:FuncD):Nat:=d.params.length+cntL d.blocks
theorem cntL_append(a b:List BlockD):cntL (a++b)=cntL a+cntL b:=by
 induction a with
 | nil=>simp[cntL]
 | cons d r ih=>simp[cntL,ih];omega
theorem cntL_take(l:List BlockD)(k:Nat)(h:k<l.length):cntL (l.take (k+1))=cntL (l.take k)+cntB (l.getD k block0):=by
 rw[List.take_succ_eq_append_getElem h,cntL_append]
 simp[cntL,List.getD,h]
theorem cntL_le(l:List BlockD)(hs:∀ d∈l,SmBlock d):cntL l≤l.length*2097152:=by
 induction l with
 | nil=>simp[cntL]
 | cons d r ih =>
  have h1:=ih fun x hx=>hs x (List.mem_cons_of_mem _ hx)
  have h2:=hs d (List.mem_cons_self ..)
  have h3:=h2.1.1
  have h4:=h2.2.1
  simp only[cntL,cntB,List.length_cons];omega
theorem cnt_take_le(l:List BlockD)(k:Nat)(hl:l.length≤1048576)(hs:∀ d∈l,SmBlock d):cntL (l.take k)≤2199023255552:=by
 have h:=cntL_le (l.take k) fun d hd=>hs d (List.mem_of_mem_take hd)
 have:(l.take k).length≤1048576:=by simp;omega
 omega
theorem countS_any(lo:Nat)(d:FuncD)(u0:Option Addr)(c0:Nat)(u2:Option Addr)(c2:Nat)(w:World)(hs:SmFunc d)(k2:zBA w lo u2 d.blocks) :
  Calls Tryz.prog 59 #[.agg #[.slice u0 d.params.length c0,.int .i64 d.ret,.slice u2 d.blocks.length c2]] w fun e w'=>e=.returned (.int .i64 (cntF d))∧Below w.heap.size w w':=by
 have hp:=hs.1
 have hbl:=hs.2.1
 have HS:Hid (∀ p∈d.blocks,SmBlock p):=hs.2.2
 clear hs
 go_enter Tryz.func59,Tryz.ntmps59
 go_wp2_with fail
 go_loopw [3,4] (fun n i wr=>∃ k:Nat,k≤d.blocks.length∧i=.int .i64 k∧n=.int .i64 ((d.params.length:Int)+(cntL (d.blocks.take k):Int))∧Below (w.heap.size+1) (w.alloc (.cells #[.slice u0 d.params.length c0,.int .i64 d.ret,.slice u2 d.blocks.length c2] 55)) wr) (fun _ i _=>d.blocks.length-(intOf i).toNat)
 case atStart=>exact⟨0,by omega,rfl,by simp[cntL],Below.refl _ _⟩
 case round =>
  obtain⟨k,hk,rfl,rfl,hB⟩:=hrel
  have b2:wr.cell? ⟨w.heap.size,2,none⟩=some (.slice u2 d.blocks.length c2):=(zcB (hB.block w.heap.size (by omega))).trans (by simp)
  have hW:Below w.heap.size w wr:=((Below.refl w.heap.size w).alloc (Nat.le_refl _) _).trans (hB.mono (by omega))
  have hct:=cnt_take_le d.blocks k hbl HS.out
  by_cases hlt:k<d.blocks.length
  ·rcases k2.2 with hn|⟨b,off,rfl,hlo,hb,hcell⟩
   ·simp[hn] at hlt
   obtain⟨⟨v0,q0,h0,_⟩,⟨v1,q1,h1,_⟩,_⟩:=hcell k hlt
   have htk:=cntL_take d.blocks k hlt
   have hsm:=HS.out _ (getD_mem block0 d.blocks k hlt)
   generalize d.blocks.getD k block0=x at h0 h1 htk hsm
   have e0:wr.cell? ⟨b,off+k*6,none⟩=some (.slice v0 x.phis.length q0):=(zcB (hW.block b hb)).trans h0
   have e1:wr.cell? ⟨b,off+k*6+1,none⟩=some (.slice v1 x.insts.length q1):=(zcB (hW.block b hb)).trans h1
   have s0:=hsm.1.1
   have s1:=hsm.2.1
   have HT:Hid (cntL (d.blocks.take (k+1))=cntL (d.blocks.take k)+cntB x):=htk
   have HB:Hid (Below (w.heap.size+1) (w.alloc (.cells #[.slice u0 d.params.length c0,.int .i64 d.ret,.slice (some ⟨b,off,none⟩) d.blocks.length c2] 55)) wr):=hB
   clear hcell h0 h1 htk hsm hB hW k2
   go_wp2_with fail
   go_quiet (fail)
   go_wp2_with fail
   go_roundw
   case rel=>exact⟨k+1,by omega,by go_num,congrArg (Value.int .i64) (by rw[HT.out];unfold cntB;omega),below_drewN HB.out _⟩
   case measure=>simp[intOf];omega
  ·have hke:k=d.blocks.length:=by omega
   clear hB
   go_wp2_with fail
   go_ret
   exact⟨ret_i (by rw[hke,List.take_length];unfold cntF;omega),hW⟩
theorem countI_any(lo:Nat)(d:FuncD)(u0:Option Addr)(c0:Nat)(u2:Option Addr)(c2:Nat)(w:World)(hs:SmFunc d)(k2:zBA w lo u2 d.blocks) :
  Calls Tryz.prog 72 #[.agg #[.slice u0 d.params.length c0,.int .i64 d.ret,.slice u2 d.blocks.length c2]] w fun e w'=>e=.returned (.int .i64 (cntF d))∧Below w.heap.size w w':=by
 have hp:=hs.1
 have hbl:=hs.2.1
 have HS:Hid (∀ p∈d.blocks,SmBlock p):=hs.2.2
 clear hs
 go_enter Tryz.func72,Tryz.ntmps72
 go_wp2_with fail
 go_loopw [3,12] (fun n i wr=>∃ k:Nat,k≤d.blocks.length∧i=.int .i64 k∧n=.int .i64 ((d.params.length:Int)+(cntL (d.blocks.take k):Int))∧Below w.heap.size w wr) (fun _ i _=>d.blocks.length-(intOf i).toNat)
 case atStart=>exact⟨0,by omega,rfl,by simp[cntL],(Below.refl _ _).alloc (Nat.le_refl _) _⟩
 case round =>
  obtain⟨k,hk,rfl,rfl,hW⟩:=hrel
  have hct:=cnt_take_le d.blocks k hbl HS.out
  by_cases hlt:k<d.blocks.length
  ·rcases k2.2 with hn|⟨b,off,rfl,hlo,hb,hcell⟩
   ·simp[hn] at hlt
   obtain⟨⟨v0,q0,h0,_⟩,⟨v1,q1,h1,_⟩,h2,h3,h4,h5⟩:=hcell k hlt
   have htk:=cntL_take d.blocks k hlt
   have hsm:=HS.out _ (getD_mem block0 d.blocks k hlt)
   generalize d.blocks.getD k block0=x at h0 h1 h2 h3 h4 h5 htk hsm
   have e0:wr.cell? ⟨b,off+k*6,none⟩=some (.slice v0 x.phis.length q0):=(zcB (hW.block b hb)).trans h0
   have e1:wr.cell? ⟨b,off+k*6+1,none⟩=some (.slice v1 x.insts.length q1):=(zcB (hW.block b hb)).trans h1
   have e2:wr.cell? ⟨b,off+k*6+2,none⟩=some (.int .i64 x.term.kind):=(zcB (hW.block b hb)).trans h2
   have e3:wr.cell? ⟨b,off+k*6+3,none⟩=some (.int .i64 x.term.a):=(zcB (hW.block b hb)).trans h3
   have e4:wr.cell? ⟨b,off+k*6+4,none⟩=some (.int .i64 x.term.x):=(zcB (hW.block b hb)).trans h4
   have e5:wr.cell? ⟨b,off+k*6+5,none⟩=some (.int .i64 x.term.y):=(zcB (hW.block b hb)).trans h5
   have s0:=hsm.1.1
   have s1:=hsm.2.1
   have HT:Hid (cntL (d.blocks.take (k+1))=cntL (d.blocks.take k)+cntB x):=htk
   have HB:Hid (Below w.heap.size w wr):=hW
   clear hcell h0 h1 h2 h3 h4 h5 htk hsm hW k2
   go_wp2_with fail
   go_roundw
   case rel=>exact⟨k+1,by omega,by go_num,congrArg (Value.int .i64) (by rw[HT.out];unfold cntB;omega),HB.out.alloc HB.out.size _⟩
   case measure=>simp[intOf];omega
  ·have hke:k=d.blocks.length:=by omega
   go_wp2_with fail
   go_ret
   exact⟨ret_i (by rw[hke,List.take_length];unfold cntF;omega),hW⟩
set_option maxHeartbeats 1000000
def opsD(d:InstD):List Int :=
 if opB d.op=true∨d.op=24 then [d.a,d.b] else if d.op=18∨d.op=19∨d.op=20∨d.op=23∨d.op=25∨d.op=27 then [d.a] else if d.op=22 then [d.a,d.b,d.c] else if d.op=26 then d.args else []
theorem own_mk{w:World}{l:List Int}{cs:Array Value}{v:List Int}(e:v=l)(hm:l.length≤1000)(hc:∀ i,i<l.length→cs[i]?=some (.int .i64 (l.getD i 0))):OwnAt (w.alloc (.cells cs 2)) w.heap.size (some ⟨w.heap.size,0,none⟩) v:=by
 subst e;exact own_lit w _ hm cs hc
theorem own_mk2{w:World}{o:Obj}{l:List Int}{cs:Array Value}{v:List Int}(e:v=l)(hm:l.length≤1000)(hc:∀ i,i<l.length→cs[i]?=some (.int .i64 (l.getD i 0))):OwnAt ((w.alloc o).alloc (.cells cs 2)) w.heap.size (some ⟨w.heap.size+1,0,none⟩) v:=by
 have h:=own_mk (w:=w.alloc o) e hm hc
 have hz:(w.alloc o).heap.size=w.heap.size+1:=by simp
 rw[hz] at h
 exact h.low (by omega)
theorem two_cells(a b:Int):∀ i,i<[a,b].length→(#[Value.int .i64 a,Value.int .i64 b]:Array Value)[i]?=some (.int .i64 ([a,b].getD i 0)):=by
 intro i hi
 match i,hi with
 | 0,_=>rfl
 | 1,_=>rfl
theorem one_cells(a:Int):∀ i,i<[a].length→(#[Value.int .i64 a]:Array Value)[i]?=some (.int .i64 ([a].getD i 0)):=by
 intro i hi
 match i,hi with
 | 0,_=>rfl
theorem three_cells(a b c:Int):∀ i,i<[a,b,c].length→(#[Value.int .i64 a,Value.int .i64 b,Value.int .i64 c]:Array Value)[i]?=some (.int .i64 ([a,b,c].getD i 0)):=by
 intro i hi
 match i,hi with
 | 0,_=>rfl
 | 1,_=>rfl
 | 2,_=>rfl
theorem operS_bin(d:InstD)(u:Option Addr)(q:Nat)(w:World)(h:opB d.op=true) :
  Calls Tryz.prog 90 #[.agg #[.int .i64 d.op,.int .i64 d.w,.int .i64 d.a,.int .i64 d.b,.int .i64 d.c,.int .i64 d.imm,.slice u d.args.length q]] w fun e w'=>∃ u c,e=.returned (.slice u (opsD d).length c)∧OwnAt w' w.heap.size u (opsD d)∧Below w.heap.size w w':=by
 have E:opsD d=[d.a,d.b]:=by simp[opsD,h]
 rw[E];clear E
 have dd:(decide (1≤d.op)&&decide (d.op≤17))=true:=h
 clear h
 go_enter Tryz.func90,Tryz.ntmps90
 go_wp2_with (go_at_call 49;refine (inS _ _ _ _).mono ?_;rintro e w' ⟨rfl,rfl⟩)
 go_ret
 refine⟨_,_,rfl,own_mk2 rfl (by simp) (two_cells d.a d.b),((Below.refl _ _).alloc (Nat.le_refl _) _).alloc (by simp) _⟩
theorem bk_oper(a b:Int)(w:World):Calls Tryz.prog 208 #[.agg #[.int .i64 a,.int .i64 b]] w fun e w'=>∃ u c,e=.returned (.slice u 2 c)∧OwnAt w' w.heap.size u [a,b]∧Below w.heap.size w w':=by
 go_enter Tryz.func208,Tryz.ntmps208
 go_wp2_with fail
 go_ret
 refine⟨_,_,rfl,own_mk2 rfl (by simp) (two_cells a b),((Below.refl _ _).alloc (Nat.le_refl _) _).alloc (by simp) _⟩
end Go.Proofs.YtkpmiikafconmaaGreatDoor
