import Derived.Test.YtkpmiikafconmaaGreatDoorFmBJp
import Derived.Test.YtkpmiikafconmaaGreatDoorAbvJp
namespace Go.Proofs.YtkpmiikafconmaaGreatDoor
open Go.RowKit
set_option maxHeartbeats 2000000
set_option maxRecDepth 100000
set_option linter.unusedVariables false
structure Room(d:InstD)(u:Option Addr)(q:Nat)(ids blocks funcs:Int)(w w1:World):Prop where
 cells:w1.cell? ⟨w.heap.size,0,none⟩=some (.int .i64 d.op)∧w1.cell? ⟨w.heap.size,1,none⟩=some (.int .i64 d.w)∧w1.cell? ⟨w.heap.size,2,none⟩=some (.int .i64 d.a)∧w1.cell? ⟨w.heap.size,3,none⟩=some (.int .i64 d.b)∧w1.cell? ⟨w.heap.size,4,none⟩=some (.int .i64 d.c)∧w1.cell? ⟨w.heap.size,5,none⟩=some (.int .i64 d.imm)∧w1.cell? ⟨w.heap.size,6,none⟩=some (.slice u d.args.length q)∧w1.cell? ⟨w.heap.size+1,0,none⟩=some (.int .i64 ids)∧w1.cell? ⟨w.heap.size+1,1,none⟩=some (.int .i64 blocks)∧w1.cell? ⟨w.heap.size+1,2,none⟩=some (.int .i64 funcs)
 below:Below w.heap.size w w1
 size:w.heap.size+2≤w1.heap.size
theorem Room.keep{d:InstD}{u:Option Addr}{q:Nat}{ids blocks funcs:Int}{w w1 w2:World}(h:Room d u q ids blocks funcs w w1)(k:Below w1.heap.size w1 w2):Room d u q ids blocks funcs w w2:=by
 have hz:=h.size
 have e0:∀ o,w2.cell? ⟨w.heap.size,o,none⟩=w1.cell? ⟨w.heap.size,o,none⟩:=fun o=>zcB (k.block _ (by omega))
 have e1:∀ o,w2.cell? ⟨w.heap.size+1,o,none⟩=w1.cell? ⟨w.heap.size+1,o,none⟩:=fun o=>zcB (k.block _ (by omega))
 refine⟨?_,h.below.trans (k.mono (by omega)),Nat.le_trans hz k.size⟩
 simp only[e0,e1]
 exact h.cells
theorem Room.start{d:InstD}{u:Option Addr}{q:Nat}{ids blocks funcs:Int}{w w1:World}(k:Below ((w.alloc (.cells #[.int .i64 d.op,.int .i64 d.w,.int .i64 d.a,.int .i64 d.b,.int .i64 d.c,.int .i64 d.imm,.slice u d.args.length q] 95)).alloc (.cells #[.int .i64 ids,.int .i64 blocks,.int .i64 funcs] 117)).heap.size ((w.alloc (.cells #[.int .i64 d.op,.int .i64 d.w,.int .i64 d.a,.int .i64 d.b,.int .i64 d.c,.int .i64 d.imm,.slice u d.args.length q] 95)).alloc (.cells #[.int .i64 ids,.int .i64 blocks,.int .i64 funcs] 117)) w1):Room d u q ids blocks funcs w w1:=by
 refine Room.keep (w1:=(w.alloc (.cells #[.int .i64 d.op,.int .i64 d.w,.int .i64 d.a,.int .i64 d.b,.int .i64 d.c,.int .i64 d.imm,.slice u d.args.length q] 95)).alloc (.cells #[.int .i64 ids,.int .i64 blocks,.int .i64 funcs] 117)) ⟨?_,((Below.refl _ _).alloc (Nat.le_refl _) _).alloc (by simp) _,by simp⟩ k
 have hb:=(Below.heap_alloc _ (.cells #[.int .i64 ids,.int .i64 blocks,.int .i64 funcs] 117) _ (by simp)).trans (zhL w (.cells #[.int .i64 d.op,.int .i64 d.w,.int .i64 d.a,.int .i64 d.b,.int .i64 d.c,.int .i64 d.imm,.slice u d.args.length q] 95))
 have hl:=zhL (w.alloc (.cells #[.int .i64 d.op,.int .i64 d.w,.int .i64 d.a,.int .i64 d.b,.int .i64 d.c,.int .i64 d.imm,.slice u d.args.length q] 95)) (.cells #[.int .i64 ids,.int .i64 blocks,.int .i64 funcs] 117)
 have e:(w.alloc (.cells #[.int .i64 d.op,.int .i64 d.w,.int .i64 d.a,.int .i64 d.b,.int .i64 d.c,.int .i64 d.imm,.slice u d.args.length q] 95)).heap.size=w.heap.size+1:=by simp
 rw[e] at hl
 exact⟨(zcH hb).trans rfl,(zcH hb).trans rfl,(zcH hb).trans rfl,(zcH hb).trans rfl,(zcH hb).trans rfl,(zcH hb).trans rfl,(zcH hb).trans rfl,(zcH hl).trans rfl,(zcH hl).trans rfl,(zcH hl).trans rfl⟩
theorem drop_drew{w w':World}(h:Below w.drew.heap.size w.drew w'):Below w.heap.size w w':=⟨h.os,h.tape,h.output,h.size,h.block⟩
theorem instShI_w(lo:Nat)(d:InstD)(u:Option Addr)(q:Nat)(ids blocks funcs:Int)(w:World)(hm:d.args.length≤1048576)(hk:IntsAt w lo u d.args)(hw:wB d=false) :
  Calls Tryz.prog 109 #[.agg #[.int .i64 d.op,.int .i64 d.w,.int .i64 d.a,.int .i64 d.b,.int .i64 d.c,.int .i64 d.imm,.slice u d.args.length q],.agg #[.int .i64 ids,.int .i64 blocks,.int .i64 funcs]] w fun e w'=>e=.returned (.bool (zIn d ids funcs))∧Below w.heap.size w w':=by
 obtain⟨T,v,f,D⟩:=disp d u q
 have M:=D.meth
 have C:=fun lo w=>D.con lo w hm
 have F:=D.call
 have W:=fun w=>wI d u q w
 have N:=fun w=>immI d u q ids blocks funcs w
 have G:=fun lo w=>fldI lo d u q w hm
 have K:=fun w=>kind_any d u q w
 rw[D.kv] at W N G K
 rw[hw] at W
 have hol:=opsD_len d hm
 have HR:Hid (false=zIn d ids funcs):=by show _=_;simp[zIn,hw]
 clear D
 go_enter Tryz.func109,Tryz.ntmps109
 go_wp2_with fail
 refine (K _).mono ?_
 rintro e w1 ⟨rfl,hb1⟩
 have r1:=Room.start hb1
 clear hb1
 go_wp2_with fail
 refine wp_region_abv (fun v=>Below w1.heap.size w1 v) (by kernel_rfl) (by kernel_rfl) (drew_below (Below.refl _ _)) ?_
 have hne:Nonempty (Abv (fun v=>Below w1.heap.size w1 v)):=abv_ne (Below.refl _ _)
 have z0:=fun x:Abv (fun v=>Below w1.heap.size w1 v)=>(r1.keep x.ok).cells.1
 have z1:=fun x:Abv (fun v=>Below w1.heap.size w1 v)=>(r1.keep x.ok).cells.2.1
 have z2:=fun x:Abv (fun v=>Below w1.heap.size w1 v)=>(r1.keep x.ok).cells.2.2.1
 have z3:=fun x:Abv (fun v=>Below w1.heap.size w1 v)=>(r1.keep x.ok).cells.2.2.2.1
 have z4:=fun x:Abv (fun v=>Below w1.heap.size w1 v)=>(r1.keep x.ok).cells.2.2.2.2.1
 have z5:=fun x:Abv (fun v=>Below w1.heap.size w1 v)=>(r1.keep x.ok).cells.2.2.2.2.2.1
 have z6:=fun x:Abv (fun v=>Below w1.heap.size w1 v)=>(r1.keep x.ok).cells.2.2.2.2.2.2.1
 have z7:=fun x:Abv (fun v=>Below w1.heap.size w1 v)=>(r1.keep x.ok).cells.2.2.2.2.2.2.2.1
 have z8:=fun x:Abv (fun v=>Below w1.heap.size w1 v)=>(r1.keep x.ok).cells.2.2.2.2.2.2.2.2.1
 have z9:=fun x:Abv (fun v=>Below w1.heap.size w1 v)=>(r1.keep x.ok).cells.2.2.2.2.2.2.2.2.2
 repeat (go_big_quiet_step ((go_at_call 139;exact abv_call _ (W _))))
 refine wpQuiet_nil ?_
 rintro w9 ⟨⟨w9,h9⟩,rfl⟩
 have r9:=r1.keep h9
 clear hne z0 z1 z2 z3 z4 z5 z6 z7 z8 z9
 go_wp2_with fail
 go_ret
 exact⟨zrB HR.out,r9.below⟩
theorem instShI_i(lo:Nat)(d:InstD)(u:Option Addr)(q:Nat)(ids blocks funcs:Int)(w:World)(hm:d.args.length≤1048576)(hk:IntsAt w lo u d.args)(hw:wB d=true)(hi:iB d funcs=false) :
  Calls Tryz.prog 109 #[.agg #[.int .i64 d.op,.int .i64 d.w,.int .i64 d.a,.int .i64 d.b,.int .i64 d.c,.int .i64 d.imm,.slice u d.args.length q],.agg #[.int .i64 ids,.int .i64 blocks,.int .i64 funcs]] w fun e w'=>e=.returned (.bool (zIn d ids funcs))∧Below w.heap.size w w':=by
 obtain⟨T,v,f,D⟩:=disp d u q
 have M:=D.meth
 have C:=fun lo w=>D.con lo w hm
 have F:=D.call
 have W:=fun w=>wI d u q w
 have N:=fun w=>immI d u q ids blocks funcs w
 have G:=fun lo w=>fldI lo d u q w hm
 have K:=fun w=>kind_any d u q w
 rw[D.kv] at W N G K
 rw[hw] at W
 rw[hi] at N
 have hol:=opsD_len d hm
 have HR:Hid (false=zIn d ids funcs):=by show _=_;simp[zIn,hw,hi]
 clear D
 go_enter Tryz.func109,Tryz.ntmps109
 go_wp2_with fail
 refine (K _).mono ?_
 rintro e w1 ⟨rfl,hb1⟩
 have r1:=Room.start hb1
 clear hb1
 go_wp2_with fail
 refine wp_region_abv (fun v=>Below w1.heap.size w1 v) (by kernel_rfl) (by kernel_rfl) (drew_below (Below.refl _ _)) ?_
 have hne:Nonempty (Abv (fun v=>Below w1.heap.size w1 v)):=abv_ne (Below.refl _ _)
 have z0:=fun x:Abv (fun v=>Below w1.heap.size w1 v)=>(r1.keep x.ok).cells.1
 have z1:=fun x:Abv (fun v=>Below w1.heap.size w1 v)=>(r1.keep x.ok).cells.2.1
 have z2:=fun x:Abv (fun v=>Below w1.heap.size w1 v)=>(r1.keep x.ok).cells.2.2.1
 have z3:=fun x:Abv (fun v=>Below w1.heap.size w1 v)=>(r1.keep x.ok).cells.2.2.2.1
 have z4:=fun x:Abv (fun v=>Below w1.heap.size w1 v)=>(r1.keep x.ok).cells.2.2.2.2.1
 have z5:=fun x:Abv (fun v=>Below w1.heap.size w1 v)=>(r1.keep x.ok).cells.2.2.2.2.2.1
 have z6:=fun x:Abv (fun v=>Below w1.heap.size w1 v)=>(r1.keep x.ok).cells.2.2.2.2.2.2.1
 have z7:=fun x:Abv (fun v=>Below w1.heap.size w1 v)=>(r1.keep x.ok).cells.2.2.2.2.2.2.2.1
 have z8:=fun x:Abv (fun v=>Below w1.heap.size w1 v)=>(r1.keep x.ok).cells.2.2.2.2.2.2.2.2.1
 have z9:=fun x:Abv (fun v=>Below w1.heap.size w1 v)=>(r1.keep x.ok).cells.2.2.2.2.2.2.2.2.2
 repeat (go_big_quiet_step ((first|(go_at_call 139;exact abv_call _ (W _))|(go_at_call 140;exact abv_call _ (N _)))))
 refine wpQuiet_nil ?_
 rintro w9 ⟨⟨w9,h9⟩,rfl⟩
 have r9:=r1.keep h9
 clear hne z0 z1 z2 z3 z4 z5 z6 z7 z8 z9
 go_wp2_with fail
 go_ret
 exact⟨zrB HR.out,r9.below⟩
theorem instShI_f(lo:Nat)(d:InstD)(u:Option Addr)(q:Nat)(ids blocks funcs:Int)(w:World)(hm:d.args.length≤1048576)(hk:IntsAt w lo u d.args)(hw:wB d=true)(hi:iB d funcs=true)(hf:fB d=false) :
  Calls Tryz.prog 109 #[.agg #[.int .i64 d.op,.int .i64 d.w,.int .i64 d.a,.int .i64 d.b,.int .i64 d.c,.int .i64 d.imm,.slice u d.args.length q],.agg #[.int .i64 ids,.int .i64 blocks,.int .i64 funcs]] w fun e w'=>e=.returned (.bool (zIn d ids funcs))∧Below w.heap.size w w':=by
 obtain⟨T,v,f,D⟩:=disp d u q
 have M:=D.meth
 have C:=fun lo w=>D.con lo w hm
 have F:=D.call
 have W:=fun w=>wI d u q w
 have N:=fun w=>immI d u q ids blocks funcs w
 have G:=fun lo w=>fldI lo d u q w hm
 have K:=fun w=>kind_any d u q w
 rw[D.kv] at W N G K
 rw[hw] at W
 rw[hi] at N
 rw[hf] at G
 have hol:=opsD_len d hm
 have HR:Hid (false=zIn d ids funcs):=by show _=_;simp[zIn,hw,hi,hf]
 clear D
 go_enter Tryz.func109,Tryz.ntmps109
 go_wp2_with fail
 refine (K _).mono ?_
 rintro e w1 ⟨rfl,hb1⟩
 have r1:=Room.start hb1
 clear hb1
 go_wp2_with fail
 refine wp_region_abv (fun v=>Below w1.heap.size w1 v) (by kernel_rfl) (by kernel_rfl) (drew_below (Below.refl _ _)) ?_
 have hne:Nonempty (Abv (fun v=>Below w1.heap.size w1 v)):=abv_ne (Below.refl _ _)
 have z0:=fun x:Abv (fun v=>Below w1.heap.size w1 v)=>(r1.keep x.ok).cells.1
 have z1:=fun x:Abv (fun v=>Below w1.heap.size w1 v)=>(r1.keep x.ok).cells.2.1
 have z2:=fun x:Abv (fun v=>Below w1.heap.size w1 v)=>(r1.keep x.ok).cells.2.2.1
 have z3:=fun x:Abv (fun v=>Below w1.heap.size w1 v)=>(r1.keep x.ok).cells.2.2.2.1
 have z4:=fun x:Abv (fun v=>Below w1.heap.size w1 v)=>(r1.keep x.ok).cells.2.2.2.2.1
 have z5:=fun x:Abv (fun v=>Below w1.heap.size w1 v)=>(r1.keep x.ok).cells.2.2.2.2.2.1
 have z6:=fun x:Abv (fun v=>Below w1.heap.size w1 v)=>(r1.keep x.ok).cells.2.2.2.2.2.2.1
 have z7:=fun x:Abv (fun v=>Below w1.heap.size w1 v)=>(r1.keep x.ok).cells.2.2.2.2.2.2.2.1
 have z8:=fun x:Abv (fun v=>Below w1.heap.size w1 v)=>(r1.keep x.ok).cells.2.2.2.2.2.2.2.2.1
 have z9:=fun x:Abv (fun v=>Below w1.heap.size w1 v)=>(r1.keep x.ok).cells.2.2.2.2.2.2.2.2.2
 repeat (go_big_quiet_step ((first|(go_at_call 139;exact abv_call _ (W _))|(go_at_call 140;exact abv_call _ (N _))|(go_at_call 141;exact abv_call _ (G lo _ (hk.keep (zaB (r1.keep (Abv.ok _)).below _)))))))
 refine wpQuiet_nil ?_
 rintro w9 ⟨⟨w9,h9⟩,rfl⟩
 have r9:=r1.keep h9
 clear hne z0 z1 z2 z3 z4 z5 z6 z7 z8 z9
 go_wp2_with fail
 go_ret
 exact⟨zrB HR.out,r9.below⟩
theorem instShI_b(lo:Nat)(d:InstD)(u:Option Addr)(q:Nat)(ids blocks funcs:Int)(w:World)(hm:d.args.length≤1048576)(hk:IntsAt w lo u d.args)(hw:wB d=true)(hi:iB d funcs=true)(hf:fB d=true) :
  Calls Tryz.prog 109 #[.agg #[.int .i64 d.op,.int .i64 d.w,.int .i64 d.a,.int .i64 d.b,.int .i64 d.c,.int .i64 d.imm,.slice u d.args.length q],.agg #[.int .i64 ids,.int .i64 blocks,.int .i64 funcs]] w fun e w'=>e=.returned (.bool (zIn d ids funcs))∧Below w.heap.size w w':=by
 obtain⟨T,v,f,D⟩:=disp d u q
 have M:=D.meth
 have C:=fun lo w=>D.con lo w hm
 have F:=D.call
 have W:=fun w=>wI d u q w
 have N:=fun w=>immI d u q ids blocks funcs w
 have G:=fun lo w=>fldI lo d u q w hm
 have K:=fun w=>kind_any d u q w
 rw[D.kv] at W N G K
 rw[hw] at W
 rw[hi] at N
 rw[hf] at G
 have hol:=opsD_len d hm
 have HR:Hid (((opsD d).all fun n=>zBw n ids)=zIn d ids funcs):=by show _=_;simp[zIn,hw,hi,hf]
 clear D
 go_enter Tryz.func109,Tryz.ntmps109
 go_wp2_with fail
 refine (K _).mono ?_
 rintro e w1 ⟨rfl,hb1⟩
 have r1:=Room.start hb1
 have s1:=(r1.keep (Below.refl _ _).drew).cells
 clear hb1
 go_wp2_with fail
 go_region_held2 (fun w'=>w'.cell? ⟨w.heap.size,0,none⟩=some (.int .i64 d.op)∧w'.cell? ⟨w.heap.size,1,none⟩=some (.int .i64 d.w)∧w'.cell? ⟨w.heap.size,2,none⟩=some (.int .i64 d.a)∧w'.cell? ⟨w.heap.size,3,none⟩=some (.int .i64 d.b)∧w'.cell? ⟨w.heap.size,4,none⟩=some (.int .i64 d.c)∧w'.cell? ⟨w.heap.size,5,none⟩=some (.int .i64 d.imm)∧w'.cell? ⟨w.heap.size,6,none⟩=some (.slice u d.args.length q)∧w'.cell? ⟨w.heap.size+1,0,none⟩=some (.int .i64 ids)∧w'.cell? ⟨w.heap.size+1,1,none⟩=some (.int .i64 blocks)∧w'.cell? ⟨w.heap.size+1,2,none⟩=some (.int .i64 funcs)) (first|with_reducible exact s1|with_reducible exact s2|with_reducible exact s3|with_reducible exact s4|with_reducible exact s5) (first|(go_at_call 139;refine (W _).mono ?_;rintro e w2 ⟨rfl,hb2⟩;have r2:=r1.keep (drop_drew hb2);have s2:=r2.cells)|(go_at_call 140;refine (N _).mono ?_;rintro e w3 ⟨rfl,hb3⟩;have r3:=r2.keep hb3;have s3:=r3.cells)|(go_at_call 141;refine (G lo _ (by exact hk.keep (zaB r3.below _))).mono ?_;rintro e w4 ⟨rfl,hb4⟩;have r4:=r3.keep hb4;have s4:=r4.cells)|(go_at_call 108;refine (allBelowI _ _ _ _ _ _ n5.ints).mono ?_;rintro e w6 ⟨rfl,rfl⟩)|(refine (C lo _ (by exact hk.keep (zaB r4.below _))).mono ?_;rintro e w5 ⟨a5,c5,rfl,n5,hb5⟩;have r5:=r4.keep hb5;have s5:=r5.cells))
 all_goals
  go_wp2_with fail
  go_ret
  exact⟨zrB HR.out,r5.below⟩
theorem instShI(lo:Nat)(d:InstD)(u:Option Addr)(q:Nat)(ids blocks funcs:Int)(w:World)(hm:d.args.length≤1048576)(hk:IntsAt w lo u d.args) :
  Calls Tryz.prog 109 #[.agg #[.int .i64 d.op,.int .i64 d.w,.int .i64 d.a,.int .i64 d.b,.int .i64 d.c,.int .i64 d.imm,.slice u d.args.length q],.agg #[.int .i64 ids,.int .i64 blocks,.int .i64 funcs]] w fun e w'=>e=.returned (.bool (zIn d ids funcs))∧Below w.heap.size w w':=by
 cases hw:wB d with
 | false=>exact instShI_w lo d u q ids blocks funcs w hm hk hw
 | true =>
  cases hi:iB d funcs with
  | false=>exact instShI_i lo d u q ids blocks funcs w hm hk hw hi
  | true =>
   cases hf:fB d with
   | false=>exact instShI_f lo d u q ids blocks funcs w hm hk hw hi hf
   | true=>exact instShI_b lo d u q ids blocks funcs w hm hk hw hi hf
end Go.Proofs.YtkpmiikafconmaaGreatDoor
