import Derived.Test.YtkpmiikafconmaaGreatDoorGnPJp
import Derived.Test.YtkpmiikafconmaaGreatDoorMtSJp
namespace Go.Proofs.YtkpmiikafconmaaGreatDoor
open Go.RowKit
set_option maxHeartbeats 4000000
set_option maxRecDepth 100000
set_option linter.unusedVariables false
theorem formS(lo:Nat)(d:InstD)(u:Option Addr)(q:Nat)(w:World)(hm:d.args.length≤1048576)(hk:IntsAt w lo u d.args) :
  Calls Tryz.prog 134 #[.agg #[.int .i64 d.op,.int .i64 d.w,.int .i64 d.a,.int .i64 d.b,.int .i64 d.c,.int .i64 d.imm,.slice u d.args.length q]] w fun e w'=>e=.returned (.bool (zIn d 60 3))∧Below w.heap.size w w':=by
 have B0:IBox d u q w _:=IBox.start (T:=95)
 go_enter Tryz.func134,Tryz.ntmps134
 go_wp2_with fail
 refine (instShS lo d u q 60 3 _ (by decide) (by decide) (by decide) (by decide) hm (hk.keep (zaB B0.below lo))).mono ?_
 rintro e w1 ⟨rfl,b1⟩
 have I1:=B0.keep (b1.mono B0.size)
 go_wp2_with fail
 go_ret
 exact⟨rfl,I1.below⟩
theorem l5instS(lo:Nat)(d:InstD)(u:Option Addr)(q:Nat)(w:World)(hF:InF d)(hk:IntsAt w lo u d.args) :
  Calls Tryz.prog 53 #[.agg #[.int .i64 d.op,.int .i64 d.w,.int .i64 d.a,.int .i64 d.b,.int .i64 d.c,.int .i64 d.imm,.slice u d.args.length q]] w fun e w'=>e=.returned (.string (instTx d))∧Below w.heap.size w w':=by
 obtain⟨n,hn⟩:∃ n:Nat,d.op=n:=⟨d.op.toNat,by have:=hF.op1;omega⟩
 have hn28:n<28:=by have:=hF.op27;omega
 have hn28':(n:Int)<28:=by omega
 have hop:some (Value.int .i64 d.op)=some (.int .i64 (n:Int)):=by rw[hn]
 obtain⟨m,hwm0,hm9⟩:=hF.w0
 have hwm:some (Value.int .i64 d.w)=some (.int .i64 (m:Int)):=by rw[hwm0]
 obtain⟨im,him,him9⟩:=hF.imm0
 have hopl:=hF.len
 have hops:=hF.ops
 have hargs:=hF.args
 have e1:d.op.toNat=n:=by omega
 have e2:numsL [d.w]=32 :: Lib.itoa (m:Int):=by simp[numsL,hwm0]
 have HTt:Hid (immB n=true→instTx d=opW n++⟨#[32]⟩++decB m++⟨#[32]⟩++decB im++bs (numsL (opsD d))):=by
  intro h
  have e3:numsL [d.imm]=32 :: Lib.itoa (im:Int):=by simp[numsL,him]
  unfold instTx instN
  rw[e1,nums_append,nums_append,hn,if_pos h,e2,e3,bs_blank,decB_bs,decB_bs]
  unfold opW
  simp only[bs_append,List.append_assoc,List.cons_append,List.nil_append]
 have HTf:Hid (¬immB n=true→instTx d=opW n++⟨#[32]⟩++decB m++bs (numsL (opsD d))):=by
  intro h
  have e4:numsL []=[]:=rfl
  unfold instTx instN
  rw[e1,nums_append,nums_append,hn,if_neg h,e2,e4,bs_blank,decB_bs]
  unfold opW
  simp only[bs_append,List.append_assoc,List.cons_append,List.nil_append]
 clear e1 e2
 have B0:IBox d u q w _:=IBox.start (T:=95)
 have hDm:=decB_size hm9
 have hDi:=decB_size him9
 have hW6:=opW_size n
 have h32:(⟨#[32]⟩:ByteArray).size=1:=rfl
 have hA1:(opW n++⟨#[32]⟩:ByteArray).size≤7:=by rw[ByteArray.size_append];omega
 have hA2:(opW n++⟨#[32]⟩++decB m:ByteArray).size≤17:=by rw[ByteArray.size_append];omega
 have HDM:Hid (∀ w1,Calls Tryz.prog 51 #[.int .i64 (m:Int)] w1 fun e w'=>e=.returned (.string (decB m))∧Below w1.heap.size w1 w'):=fun w1=>decS m w1 hm9
 have HDI:Hid (∀ w1,Calls Tryz.prog 51 #[.int .i64 (im:Int)] w1 fun e w'=>e=.returned (.string (decB im))∧Below w1.heap.size w1 w'):=fun w1=>decS im w1 him9
 have HIM:Hid (d.imm=im):=him
 have HOP:Hid (d.op=n):=hn
 have hNs:(bs (numsL (opsD d))).size≤44:=by rw[bs_size];have:=nums_len _ hops;omega
 have hA3:(opW n++⟨#[32]⟩++decB m++⟨#[32]⟩:ByteArray).size≤18:=by rw[ByteArray.size_append];omega
 have hA4:(opW n++⟨#[32]⟩++decB m++⟨#[32]⟩++decB im:ByteArray).size≤28:=by rw[ByteArray.size_append];omega
 have HNU:Hid (∀ a c w1 lo,IntsAt w1 lo a (opsD d)→Calls Tryz.prog 52 #[.slice a (opsD d).length c] w1 fun e w'=>e=.returned (.string (bs (numsL (opsD d))))∧Below w1.heap.size w1 w'):=fun a c w1 lo h=>numsS lo a c (opsD d) w1 h (by omega) hops
 have HOS:Hid (∀ w1 lo,IntsAt w1 lo u d.args→Calls Tryz.prog 90 #[.agg #[.int .i64 (n:Int),.int .i64 (m:Int),.int .i64 d.a,.int .i64 d.b,.int .i64 d.c,.int .i64 (im:Int),.slice u d.args.length q]] w1 fun e w'=>∃ v r,e=.returned (.slice v (opsD d).length r)∧OwnAt w' w1.heap.size v (opsD d)∧Below w1.heap.size w1 w'):=fun w1 lo h=>by have h9:=operS lo d u q w1 (by omega) h;rw[hn,hwm0,him] at h9;exact h9
 generalize hZ:opW n=Z at *
 have HZ:Hid (opW n=Z):=hZ
 clear hZ
 generalize bs (numsL (opsD d))=N at *
 generalize hD1:decB (m:Int)=D1 at *
 generalize hD2:decB (im:Int)=D2 at *
 have him':some (Value.int .i64 d.imm)=some (.int .i64 (im:Int)):=by rw[him]
 clear hD1 hD2 him hwm0 hn
 go_enter Tryz.func53,Tryz.ntmps53
 go_wp2_with fail
 generalize (w.alloc (.cells #[.int .i64 d.op,.int .i64 d.w,.int .i64 d.a,.int .i64 d.b,.int .i64 d.c,.int .i64 d.imm,.slice u d.args.length q] 95))=W at B0 ⊢
 refine wp_region_held_drew (S:=fun w'=>Below W.heap.size W w') (by kernel_rfl) ((Below.refl _ _).drew) (fun hHeld=>?_)
 refine wpAnyH_take (i:=1) (v:=?_) rfl (by kernel_rfl) (by kernel_rfl) (by kernel_rfl) (fun _ _ _ h=>h) (Or.inl ⟨by rfl,?_⟩) hHeld ?_
 rotate_left
 ·intro w9 hS9
  go_simp
  try with_reducible rfl
 show wpAnyH _ _ _ _ _ _ _ (Act.put _ (some _) _) _
 simp only[Act.put,List.setIfInBounds_toArray,List.set_cons_zero,List.set_cons_succ]
 refine wpAnyH_take (i:=2) (v:=?_) rfl (by kernel_rfl) (by kernel_rfl) (by kernel_rfl) (fun _ _ _ h=>h) (Or.inl ⟨by rfl,?_⟩) hHeld ?_
 rotate_left
 ·intro w9 hS9
  have g0:=(zcB (o:=0) (hS9.block w.heap.size (by have:=B0.size;omega))).trans (B0.c0.trans hop)
  go_simp
  try with_reducible rfl
 show wpAnyH _ _ _ _ _ _ _ (Act.put _ (some _) _) _
 simp only[Act.put,List.setIfInBounds_toArray,List.set_cons_zero,List.set_cons_succ]
 refine wpAnyH_take (i:=6) (v:=?_) rfl (by kernel_rfl) (by kernel_rfl) (by kernel_rfl) (fun _ _ _ h=>h) (Or.inl ⟨by rfl,?_⟩) hHeld ?_
 rotate_left
 ·intro w9 hS9
  go_simp
  try with_reducible rfl
 show wpAnyH _ _ _ _ _ _ _ (Act.put _ (some _) _) _
 simp only[Act.put,List.setIfInBounds_toArray,List.set_cons_zero,List.set_cons_succ]
 refine wpAnyH_take (i:=7) (v:=?_) rfl (by kernel_rfl) (by kernel_rfl) (by kernel_rfl) (fun _ _ _ h=>h) (Or.inl ⟨by rfl,?_⟩) hHeld ?_
 rotate_left
 ·intro w9 hS9
  have g0:=(zcB (o:=1) (hS9.block w.heap.size (by have:=B0.size;omega))).trans (B0.c1.trans hwm)
  go_simp
  try with_reducible rfl
 show wpAnyH _ _ _ _ _ _ _ (Act.put _ (some _) _) _
 simp only[Act.put,List.setIfInBounds_toArray,List.set_cons_zero,List.set_cons_succ]
 refine wpAnyH_ready (rs:=[0]) (by kernel_rfl) (by simp) ?_
 refine AllReadyH.cons rfl (fun K hK=>?_) AllReadyH.nil
 ·go_simp
  go_wp2_with (go_at_call 89;refine (opWordsS W.drew W.heap.size rfl).mono ?_;rintro e wA ⟨rfl,hc1,hz1,bA'⟩;have bA:=hHeld.trans (bA'.mono hHeld.size);have f1:=(hc1 n hn28).trans (congrArg (fun z=>some (Value.string z)) HZ.out);have hzA:=hHeld.size;clear hc1)
  refine hK.out _ _ ?_ (fun hHeld2=>?_)
  ·exact bA
  clear hK K hHeld
  have hHeld:=hHeld2
  clear hHeld2
  try simp only[Act.put,List.setIfInBounds_toArray,List.set_cons_zero,List.set_cons_succ]
  refine wpAnyH_take (i:=3) (v:=?_) rfl (by kernel_rfl) (by kernel_rfl) (by kernel_rfl) (fun _ _ _ h=>h) (Or.inl ⟨by rfl,?_⟩) hHeld ?_
  rotate_left
  ·intro w9 hS9
   go_simp
   try with_reducible rfl
  show wpAnyH _ _ _ _ _ _ _ (Act.put _ (some _) _) _
  simp only[Act.put,List.setIfInBounds_toArray,List.set_cons_zero,List.set_cons_succ]
  refine wpAnyH_ready (rs:=[4,8]) (by kernel_rfl) (by simp) ?_
  refine AllReadyH.cons rfl (fun K hK=>?_) (AllReadyH.cons rfl (fun K hK=>?_) AllReadyH.nil)
  ·go_simp
   refine hK.out _ _ ?_ (fun hHeld2=>?_)
   ·exact hHeld
   clear hK K hHeld
   have hHeld:=hHeld2
   clear hHeld2
   try simp only[Act.put,List.setIfInBounds_toArray,List.set_cons_zero,List.set_cons_succ]
   refine wpAnyH_take (i:=5) (v:=?_) rfl (by kernel_rfl) (by kernel_rfl) (by kernel_rfl) (fun _ _ _ h=>h) (Or.inl ⟨by rfl,?_⟩) hHeld ?_
   rotate_left
   ·intro w9 hS9
    go_simp
    rw[if_neg (by omega)]
    try with_reducible rfl
   show wpAnyH _ _ _ _ _ _ _ (Act.put _ (some _) _) _
   simp only[Act.put,List.setIfInBounds_toArray,List.set_cons_zero,List.set_cons_succ]
   refine wpAnyH_ready (rs:=[8]) (by kernel_rfl) (by simp) ?_
   refine AllReadyH.cons rfl (fun K hK=>?_) AllReadyH.nil
   go_simp
   go_wp2_with (go_at_call 51;refine (HDM.out _).mono ?_;rintro e wB ⟨rfl,bB'⟩;have bB:=hHeld.trans (bB'.mono hHeld.size))
   refine hK.out _ _ ?_ (fun hHeld2=>?_)
   ·exact bB
   clear hK K hHeld
   have hHeld:=hHeld2
   clear hHeld2
   try simp only[Act.put,List.setIfInBounds_toArray,List.set_cons_zero,List.set_cons_succ]
   refine wpAnyH_take (i:=9) (v:=?_) rfl (by kernel_rfl) (by kernel_rfl) (by kernel_rfl) (fun _ _ _ h=>h) (Or.inl ⟨by rfl,?_⟩) hHeld ?_
   rotate_left
   ·intro w9 hS9
    go_simp
    rw[if_neg (by omega)]
    try with_reducible rfl
   show wpAnyH _ _ _ _ _ _ _ (Act.put _ (some _) _) _
   simp only[Act.put,List.setIfInBounds_toArray,List.set_cons_zero,List.set_cons_succ]
   refine wpAnyH_take (i:=10) (v:=?_) rfl (by kernel_rfl) (by kernel_rfl) (by kernel_rfl) (fun _ _ _ h=>h) (Or.inl ⟨by rfl,?_⟩) hHeld ?_
   rotate_left
   ·intro w9 hS9
    go_simp
    try with_reducible rfl
   show wpAnyH _ _ _ _ _ _ _ (Act.put _ (some _) _) _
   simp only[Act.put,List.setIfInBounds_toArray,List.set_cons_zero,List.set_cons_succ]
   refine wpAnyH_done (by kernel_rfl) ?_ _
   have IF:=B0.keep (hHeld.mono B0.size)
   clear hHeld
   have y0:=IF.c0.trans hop
   have y1:=IF.c1.trans hwm
   have y2:=IF.c2
   have y3:=IF.c3
   have y4:=IF.c4
   have y5:=IF.c5.trans him'
   have y6:=IF.c6
   by_cases hc1:(n:Int)=21
   ·have n1:((n:Int)==21)=true:=by simpa using hc1
    have HT:Hid (instTx d=_):=HTt.out (by simp[immB,hc1])
    clear hc1
    go_wp2_with fail
    refine (HDI.out _).mono ?_
    rintro e wE ⟨rfl,bE⟩
    have IE:=IF.keep (bE.mono IF.size)
    clear y0 y1 y2 y3 y4 y5 y6
    have y0:=IE.c0.trans hop
    have y1:=IE.c1.trans hwm
    have y2:=IE.c2
    have y3:=IE.c3
    have y4:=IE.c4
    have y5:=IE.c5.trans him'
    have y6:=IE.c6
    go_wp2_with fail
    refine (HOS.out _ lo (hk.keep (zaB IE.below lo))).mono ?_
    rintro e wC ⟨v,r,rfl,hoC,bC⟩
    have IC:=IE.keep (bC.mono IE.size)
    go_wp2_with fail
    refine (HNU.out v r wC _ hoC.ints).mono ?_
    rintro e wD ⟨rfl,bD⟩
    have ID:=IC.keep (bD.mono IC.size)
    go_wp2_with fail
    go_ret
    exact⟨by rw[HT.out];rfl,ID.below⟩
   ·by_cases hc2:(n:Int)=26
    ·have n1:((n:Int)==21)=false:=by simpa using hc1
     have n2:((n:Int)==26)=true:=by simpa using hc2
     have HT:Hid (instTx d=_):=HTt.out (by simp[immB,hc2])
     clear hc1 hc2
     go_wp2_with fail
     refine (HDI.out _).mono ?_
     rintro e wE ⟨rfl,bE⟩
     have IE:=IF.keep (bE.mono IF.size)
     clear y0 y1 y2 y3 y4 y5 y6
     have y0:=IE.c0.trans hop
     have y1:=IE.c1.trans hwm
     have y2:=IE.c2
     have y3:=IE.c3
     have y4:=IE.c4
     have y5:=IE.c5.trans him'
     have y6:=IE.c6
     go_wp2_with fail
     refine (HOS.out _ lo (hk.keep (zaB IE.below lo))).mono ?_
     rintro e wC ⟨v,r,rfl,hoC,bC⟩
     have IC:=IE.keep (bC.mono IE.size)
     go_wp2_with fail
     refine (HNU.out v r wC _ hoC.ints).mono ?_
     rintro e wD ⟨rfl,bD⟩
     have ID:=IC.keep (bD.mono IC.size)
     go_wp2_with fail
     go_ret
     exact⟨by rw[HT.out];rfl,ID.below⟩
    ·have n1:((n:Int)==21)=false:=by simpa using hc1
     have n2:((n:Int)==26)=false:=by simpa using hc2
     have HT:Hid (instTx d=_):=HTf.out (by simp[immB,hc1,hc2])
     clear hc1 hc2
     go_wp2_with fail
     refine (HOS.out _ lo (hk.keep (zaB IF.below lo))).mono ?_
     rintro e wC ⟨v,r,rfl,hoC,bC⟩
     have IC:=IF.keep (bC.mono IF.size)
     go_wp2_with fail
     refine (HNU.out v r wC _ hoC.ints).mono ?_
     rintro e wD ⟨rfl,bD⟩
     have ID:=IC.keep (bD.mono IC.size)
     go_wp2_with fail
     go_ret
     exact⟨by rw[HT.out];rfl,ID.below⟩
  ·go_simp
   go_wp2_with (go_at_call 51;refine (HDM.out _).mono ?_;rintro e wB ⟨rfl,bB'⟩;have bB:=hHeld.trans (bB'.mono hHeld.size);have f2:=(zcB (o:=n) (bB'.block _ (by omega))).trans f1)
   refine hK.out _ _ ?_ (fun hHeld2=>?_)
   ·exact bB
   clear hK K hHeld
   have hHeld:=hHeld2
   clear hHeld2
   try simp only[Act.put,List.setIfInBounds_toArray,List.set_cons_zero,List.set_cons_succ]
   refine wpAnyH_ready (rs:=[4]) (by kernel_rfl) (by simp) ?_
   refine AllReadyH.cons rfl (fun K hK=>?_) AllReadyH.nil
   go_simp
   refine hK.out _ _ ?_ (fun hHeld2=>?_)
   ·exact hHeld
   clear hK K hHeld
   have hHeld:=hHeld2
   clear hHeld2
   try simp only[Act.put,List.setIfInBounds_toArray,List.set_cons_zero,List.set_cons_succ]
   refine wpAnyH_take (i:=5) (v:=?_) rfl (by kernel_rfl) (by kernel_rfl) (by kernel_rfl) (fun _ _ _ h=>h) (Or.inl ⟨by rfl,?_⟩) hHeld ?_
   rotate_left
   ·intro w9 hS9
    go_simp
    rw[if_neg (by omega)]
    try with_reducible rfl
   show wpAnyH _ _ _ _ _ _ _ (Act.put _ (some _) _) _
   simp only[Act.put,List.setIfInBounds_toArray,List.set_cons_zero,List.set_cons_succ]
   refine wpAnyH_take (i:=9) (v:=?_) rfl (by kernel_rfl) (by kernel_rfl) (by kernel_rfl) (fun _ _ _ h=>h) (Or.inl ⟨by rfl,?_⟩) hHeld ?_
   rotate_left
   ·intro w9 hS9
    go_simp
    rw[if_neg (by omega)]
    try with_reducible rfl
   show wpAnyH _ _ _ _ _ _ _ (Act.put _ (some _) _) _
   simp only[Act.put,List.setIfInBounds_toArray,List.set_cons_zero,List.set_cons_succ]
   refine wpAnyH_take (i:=10) (v:=?_) rfl (by kernel_rfl) (by kernel_rfl) (by kernel_rfl) (fun _ _ _ h=>h) (Or.inl ⟨by rfl,?_⟩) hHeld ?_
   rotate_left
   ·intro w9 hS9
    go_simp
    try with_reducible rfl
   show wpAnyH _ _ _ _ _ _ _ (Act.put _ (some _) _) _
   simp only[Act.put,List.setIfInBounds_toArray,List.set_cons_zero,List.set_cons_succ]
   refine wpAnyH_done (by kernel_rfl) ?_ _
   have IF:=B0.keep (hHeld.mono B0.size)
   clear hHeld
   have y0:=IF.c0.trans hop
   have y1:=IF.c1.trans hwm
   have y2:=IF.c2
   have y3:=IF.c3
   have y4:=IF.c4
   have y5:=IF.c5.trans him'
   have y6:=IF.c6
   by_cases hc1:(n:Int)=21
   ·have n1:((n:Int)==21)=true:=by simpa using hc1
    have HT:Hid (instTx d=_):=HTt.out (by simp[immB,hc1])
    clear hc1
    go_wp2_with fail
    refine (HDI.out _).mono ?_
    rintro e wE ⟨rfl,bE⟩
    have IE:=IF.keep (bE.mono IF.size)
    clear y0 y1 y2 y3 y4 y5 y6
    have y0:=IE.c0.trans hop
    have y1:=IE.c1.trans hwm
    have y2:=IE.c2
    have y3:=IE.c3
    have y4:=IE.c4
    have y5:=IE.c5.trans him'
    have y6:=IE.c6
    go_wp2_with fail
    refine (HOS.out _ lo (hk.keep (zaB IE.below lo))).mono ?_
    rintro e wC ⟨v,r,rfl,hoC,bC⟩
    have IC:=IE.keep (bC.mono IE.size)
    go_wp2_with fail
    refine (HNU.out v r wC _ hoC.ints).mono ?_
    rintro e wD ⟨rfl,bD⟩
    have ID:=IC.keep (bD.mono IC.size)
    go_wp2_with fail
    go_ret
    exact⟨by rw[HT.out];rfl,ID.below⟩
   ·by_cases hc2:(n:Int)=26
    ·have n1:((n:Int)==21)=false:=by simpa using hc1
     have n2:((n:Int)==26)=true:=by simpa using hc2
     have HT:Hid (instTx d=_):=HTt.out (by simp[immB,hc2])
     clear hc1 hc2
     go_wp2_with fail
     refine (HDI.out _).mono ?_
     rintro e wE ⟨rfl,bE⟩
     have IE:=IF.keep (bE.mono IF.size)
     clear y0 y1 y2 y3 y4 y5 y6
     have y0:=IE.c0.trans hop
     have y1:=IE.c1.trans hwm
     have y2:=IE.c2
     have y3:=IE.c3
     have y4:=IE.c4
     have y5:=IE.c5.trans him'
     have y6:=IE.c6
     go_wp2_with fail
     refine (HOS.out _ lo (hk.keep (zaB IE.below lo))).mono ?_
     rintro e wC ⟨v,r,rfl,hoC,bC⟩
     have IC:=IE.keep (bC.mono IE.size)
     go_wp2_with fail
     refine (HNU.out v r wC _ hoC.ints).mono ?_
     rintro e wD ⟨rfl,bD⟩
     have ID:=IC.keep (bD.mono IC.size)
     go_wp2_with fail
     go_ret
     exact⟨by rw[HT.out];rfl,ID.below⟩
    ·have n1:((n:Int)==21)=false:=by simpa using hc1
     have n2:((n:Int)==26)=false:=by simpa using hc2
     have HT:Hid (instTx d=_):=HTf.out (by simp[immB,hc1,hc2])
     clear hc1 hc2
     go_wp2_with fail
     refine (HOS.out _ lo (hk.keep (zaB IF.below lo))).mono ?_
     rintro e wC ⟨v,r,rfl,hoC,bC⟩
     have IC:=IF.keep (bC.mono IF.size)
     go_wp2_with fail
     refine (HNU.out v r wC _ hoC.ints).mono ?_
     rintro e wD ⟨rfl,bD⟩
     have ID:=IC.keep (bD.mono IC.size)
     go_wp2_with fail
     go_ret
     exact⟨by rw[HT.out];rfl,ID.below⟩
set_option maxHeartbeats 8000000
set_option linter.unusedSimpArgs false
theorem xIns_eq(d:InstD):instTx d++(⟨#[10]⟩:ByteArray)=bs (xIns d):=by
 unfold instTx opW xIns lnT insL
 rw[bs_append,show (⟨#[10]⟩:ByteArray)=bs [10] from rfl,bs_append]
theorem xTrm_eq(t:TermD):bs (trmT t)++(⟨#[10]⟩:ByteArray)=bs (xTrm t):=by
 unfold trmT xTrm lnT trmL
 rw[show (⟨#[10]⟩:ByteArray)=bs [10] from rfl,bs_append]
theorem head_eq(n:Int)(l:List Int):(⟨#[102,117,110,99,32]⟩:ByteArray)++bs (Lib.itoa n)++bs (numsL l)++(⟨#[10]⟩:ByteArray)=bs (lnT ([102,117,110,99],n :: l)):=by
 unfold lnT
 rw[show (⟨#[102,117,110,99,32]⟩:ByteArray)=bs [102,117,110,99,32] from rfl,show (⟨#[10]⟩:ByteArray)=bs [10] from rfl,bs_append,bs_append,bs_append]
 simp[numsL]
theorem phi_eq(n:Int)(l:List Int):(⟨#[112,104,105,32]⟩:ByteArray)++bs (Lib.itoa n)++bs (numsL l)++(⟨#[10]⟩:ByteArray)=bs (lnT ([112,104,105],n :: l)):=by
 unfold lnT
 rw[show (⟨#[112,104,105,32]⟩:ByteArray)=bs [112,104,105,32] from rfl,show (⟨#[10]⟩:ByteArray)=bs [10] from rfl,bs_append,bs_append,bs_append]
 simp[numsL]
theorem app5(T a b c d:ByteArray):T++a++b++c++d=T++(a++b++c++d):=by simp only[ByteArray.append_assoc]
theorem instTx_size{d:InstD}(h:InF d):(instTx d).size≤100:=by
 have h1:=nums_len (instN d) (instN_sm h)
 have h2:=instN_len h
 have h3:=opWL_len d.op.toNat
 unfold instTx opW
 rw[ByteArray.size_append,bs_size,bs_size];omega
theorem ln_parts{w:List UInt8}{n:Int}{l:List Int}(h:LnOk (w,n :: l)):(∃ k:Nat,n=k∧k≤4294967295)∧SmN l∧l.length≤19 :=
 ⟨h.s n (by simp),fun x hx=>h.s x (by simp[hx]),by have:=h.n;simp at this;omega⟩
theorem l5TextS(lo:Nat)(l:List FuncD)(u:Option Addr)(c:Nat)(w:World)(hs:SmMod l)(hm:modB l=true)(k0:zFA w lo u l) :
  Calls Tryz.prog 26 #[.agg #[.slice u l.length c]] w fun e w'=>e=.returned (.string (bs (xMod l)))∧Below w.heap.size w w':=by
 have hlen:=xMod_len hm
 obtain⟨hl3,hf3⟩:=mod_ok hm
 have HF:Hid (∀ d∈l,FnOk d):=hf3
 have HS:Hid (∀ d∈l,SmFunc d):=hs.2
 have K0:Hid (zFA w lo u l):=k0
 have hM:(xMod l).length=(l.flatMap xFun).length:=rfl
 clear hm hf3 hs k0
 have X0:=Box1.new w l.length u c 26
 have hB0:Below w.heap.size w (w.alloc (.cells #[.slice u l.length c] 26)):=(Below.refl _ w).alloc (Nat.le_refl _) _
 go_enter Tryz.func26,Tryz.ntmps26
 go_wp2_with fail
 generalize (w.alloc (.cells #[.slice u l.length c] 26))=W at X0 hB0 ⊢
 have HX1:Hid (Box1 W w.heap.size l.length u c):=X0
 have HB1:Hid (Below w.heap.size w W):=hB0
 clear X0 hB0
 go_loopw [3,4] (fun st i wr=>∃ (k:Nat) (T:ByteArray),k≤l.length∧i=.int .i64 k∧st=.string T∧Hid (T=bs ((l.take k).flatMap xFun))∧Hid (Below w.heap.size w wr)∧Hid (Box1 wr w.heap.size l.length u c)) (fun _ i _=>l.length-(intOf i).toNat)
 case atStart=>exact⟨0,_,by omega,rfl,rfl,by show _=_;rfl,HB1,HX1⟩
 case round =>
  obtain⟨k,T,hk,rfl,rfl,HT,HB,HX⟩:=hrel
  obtain⟨wo,hwo⟩:∃ wo,wo=wr:=⟨_,rfl⟩
  subst hwo
  clear HB1 HX1
  have y0:=HX.out.2
  by_cases hlt:k<l.length
  ·rcases (K0.out.keep (zaB HB.out lo)).2 with hn|⟨bb,off,rfl,hlo,hbb,hcell⟩
   ·simp[hn] at hlt
   obtain⟨⟨p0,q0,e0,m0⟩,e1,⟨p2,q2,e2,m2⟩⟩:=hcell k hlt
   have hfb:=HF.out _ (getD_mem func0 l k hlt)
   have hsm:=HS.out _ (getD_mem func0 l k hlt)
   have hfs:=flat_snocX (z:=func0) xFun hlt
   have hfl:=flat_leX l xFun (k+1)
   rw[hfs,List.length_append] at hfl
   have HN:Hid ((l.take (k+1)).flatMap xFun=(l.take k).flatMap xFun++xFun (l.getD k func0)):=hfs
   generalize hP:(l.take k).flatMap xFun=P at hfl HN HT
   generalize l.getD k func0=f at e0 e1 e2 m0 m2 hfb hsm HN hfl
   have HFB:Hid (FnOk f):=hfb
   have hb10:=hfb.b10
   have HSB:Hid (∀ x∈f.blocks,SmBlock x):=hsm.2.2
   have hFM:(xFun f).length=(xHead f).length+(f.blocks.flatMap xBlk).length:=by unfold xFun;rw[List.length_append]
   clear hP hfs hcell hfb hsm
   have hTs:T.size≤51000:=by rw[HT.out,bs_size];omega
   have A0:=At.new wo #[.slice p0 f.params.length q0,.int .i64 f.ret,.slice p2 f.blocks.length q2] 55
   have B0:Below wo.heap.size wo (wo.alloc (.cells #[.slice p0 f.params.length q0,.int .i64 f.ret,.slice p2 f.blocks.length q2] 55)):=(Below.refl _ _).alloc (Nat.le_refl _) _
   have M0:=m0.keep (zaB B0 lo)
   have M2:=m2.keep (zaB B0 lo)
   have HBf:Hid (Below w.heap.size w (wo.alloc (.cells #[.slice p0 f.params.length q0,.int .i64 f.ret,.slice p2 f.blocks.length q2] 55))):=HB.out.trans (B0.mono HB.out.size)
   have HXf:Hid (Box1 (wo.alloc (.cells #[.slice p0 f.params.length q0,.int .i64 f.ret,.slice p2 f.blocks.length q2] 55)) w.heap.size l.length (some ⟨bb,off,none⟩) c):=HX.out.below B0
   go_wp2_with fail
   generalize (wo.alloc (.cells #[.slice p0 f.params.length q0,.int .i64 f.ret,.slice p2 f.blocks.length q2] 55))=wf at A0 M0 M2 HBf HXf ⊢
   clear e0 e1 e2 m0 m2 HB HX y0 B0
   have lf:=A0.lt
   obtain⟨n1,n2,n3⟩:=ln_parts HFB.out.h
   have V1:=fun xx=>dec_gives f.ret wf n1 xx
   have V2:=fun xx=>nums_gives lo p0 q0 f.params wf (by omega) n2 M0 xx
   have HT2:Hid (T++(⟨#[102,117,110,99,32]⟩:ByteArray)++bs (Lib.itoa f.ret)++bs (numsL f.params)++(⟨#[10]⟩:ByteArray)=bs (P++xHead f)):=by
    show _=_
    rw[app5,head_eq,HT.out,bs_append];rfl
   have r1:=itoa_sz n1
   have r2:(bs (numsL f.params)).size≤220:=by rw[bs_size];have:=nums_len f.params n2;omega
   generalize bs (Lib.itoa f.ret)=A1 at *
   generalize bs (numsL f.params)=A2 at *
   have l0:(⟨#[102,117,110,99,32]⟩:ByteArray).size=5:=rfl
   have l1:(⟨#[10]⟩:ByteArray).size=1:=rfl
   have z0:(T++(⟨#[102,117,110,99,32]⟩:ByteArray)).size≤51005:=by rw[ByteArray.size_append];omega
   have z1:(T++(⟨#[102,117,110,99,32]⟩:ByteArray)++A1).size≤51015:=by rw[ByteArray.size_append];omega
   have z2:(T++(⟨#[102,117,110,99,32]⟩:ByteArray)++A1++A2).size≤51300:=by rw[ByteArray.size_append];omega
   have z3:(T++(⟨#[102,117,110,99,32]⟩:ByteArray)++A1++A2++(⟨#[10]⟩:ByteArray)).size≤51400:=by rw[ByteArray.size_append];omega
   have hne:Nonempty (Abv (fun v=>Below wf.heap.size wf v)):=abv_ne (Below.refl _ _)
   have t0:=fun xx:Abv (fun v=>Below wf.heap.size wf v)=>(bcell xx.ok wo.heap.size 0 lf).trans ((A0.cell 0).trans rfl)
   have t1:=fun xx:Abv (fun v=>Below wf.heap.size wf v)=>(bcell xx.ok wo.heap.size 1 lf).trans ((A0.cell 1).trans rfl)
   have t2:=fun xx:Abv (fun v=>Below wf.heap.size wf v)=>(bcell xx.ok wo.heap.size 2 lf).trans ((A0.cell 2).trans rfl)
   refine wp_region_abv (fun v=>Below wf.heap.size wf v) (by kernel_rfl) (by kernel_rfl) (drew_below (Below.refl _ _)) ?_
   repeat (go_big_quiet_step (first|(go_at_call 51;with_reducible exact V1 _)|(go_at_call 52;with_reducible exact V2 _)))
   refine wpQuiet_nil ?_
   rintro w9 ⟨⟨w9,h9⟩,rfl⟩
   have HB9:Hid (Below w.heap.size w w9):=HBf.out.trans (h9.mono HBf.out.size)
   have HX9:Hid (Box1 w9 w.heap.size l.length (some ⟨bb,off,none⟩) c):=HXf.out.below h9
   have A9:=A0.below h9
   have K2:Hid (zBA w9 lo p2 f.blocks):=M2.keep (zaB h9 lo)
   clear h9 hne t0 t1 t2 V1 V2 r1 r2 z0 z1 z2 HBf HXf M0 M2 lf A0 hTs n1 n2 n3
   generalize T++(⟨#[102,117,110,99,32]⟩:ByteArray)++A1++A2++(⟨#[10]⟩:ByteArray)=T2 at HT2 z3 ⊢
   have y2:=(A9.cell 2).trans rfl
   generalize hQ:P++xHead f=Q at HT2
   have HQ:Hid (P++xHead f=Q):=hQ
   have hQl:Q.length=P.length+(xHead f).length:=by rw[←hQ];simp
   clear hQ
   go_wp2_with fail
   go_loopw [3,6] (fun st i wr=>∃ (j:Nat) (T:ByteArray),j≤f.blocks.length∧i=.int .i64 j∧st=.string T∧Hid (T=bs (Q++(f.blocks.take j).flatMap xBlk))∧Hid (Below w9.heap.size w9 wr)) (fun _ i _=>f.blocks.length-(intOf i).toNat)
   case atStart=>exact⟨0,_,by omega,rfl,rfl,by show _=_;rw[HT2.out];simp,Below.refl _ _⟩
   case round =>
    obtain⟨j,T,hj,rfl,rfl,HTb,HBb⟩:=hrel
    obtain⟨wb,hwb⟩:∃ wb,wb=wr:=⟨_,rfl⟩
    subst hwb
    clear y2
    have y2:wb.cell? ⟨wo.heap.size,2,none⟩=some (.slice p2 f.blocks.length q2):=((A9.below HBb.out).cell 2).trans rfl
    by_cases hjl:j<f.blocks.length
    ·rcases (K2.out.keep (zaB HBb.out lo)).2 with hn|⟨bc,of2,rfl,hlo2,hbc,hcell⟩
     ·simp[hn] at hjl
     obtain⟨⟨v0,r0,e0,m0⟩,⟨v1,r1,e1,m1⟩,e2,e3,e4,e5⟩:=hcell j hjl
     have hxb:=HFB.out.b _ (getD_mem block0 f.blocks j hjl)
     have hsm:=HSB.out _ (getD_mem block0 f.blocks j hjl)
     have hfs:=flat_snocX (z:=block0) xBlk hjl
     have hfl2:=flat_leX f.blocks xBlk (j+1)
     rw[hfs,List.length_append] at hfl2
     have HNb:Hid ((f.blocks.take (j+1)).flatMap xBlk=(f.blocks.take j).flatMap xBlk++xBlk (f.blocks.getD j block0)):=hfs
     generalize hR:(f.blocks.take j).flatMap xBlk=R at hfl2 HNb HTb
     generalize f.blocks.getD j block0=x at e0 e1 e2 e3 e4 e5 m0 m1 hxb hsm HNb hfl2
     have HXB:Hid (BkOk x):=hxb
     have hxp:=hsm.1.1
     have hxi:=hsm.2.1
     have HSI:Hid (∀ p∈x.insts,SmInst p):=hsm.2.2
     have hBM:(xBlk x).length=6+(x.phis.flatMap xPhi).length+(x.insts.flatMap xIns).length+(xTrm x.term).length:=by simp only[xBlk,List.length_append,List.length_cons,List.length_nil]
     clear hR hfs hcell hxb hsm
     have hTs:T.size≤51000:=by rw[HTb.out,bs_size,List.length_append];omega
     have A0:=At.new wb #[.slice v0 x.phis.length r0,.slice v1 x.insts.length r1,.int .i64 x.term.kind,.int .i64 x.term.a,.int .i64 x.term.x,.int .i64 x.term.y] 74
     have B0:Below wb.heap.size wb (wb.alloc (.cells #[.slice v0 x.phis.length r0,.slice v1 x.insts.length r1,.int .i64 x.term.kind,.int .i64 x.term.a,.int .i64 x.term.x,.int .i64 x.term.y] 74)):=(Below.refl _ _).alloc (Nat.le_refl _) _
     have M0:=m0.keep (zaB B0 lo)
     have M1:=m1.keep (zaB B0 lo)
     have HBf:Hid (Below w9.heap.size w9 (wb.alloc (.cells #[.slice v0 x.phis.length r0,.slice v1 x.insts.length r1,.int .i64 x.term.kind,.int .i64 x.term.a,.int .i64 x.term.x,.int .i64 x.term.y] 74))):=HBb.out.trans (B0.mono HBb.out.size)
     have lb:(⟨#[98,108,111,99,107,10]⟩:ByteArray).size=6:=rfl
     have zb:(T++(⟨#[98,108,111,99,107,10]⟩:ByteArray)).size≤51010:=by rw[ByteArray.size_append];omega
     have HT3:Hid (T++(⟨#[98,108,111,99,107,10]⟩:ByteArray)=bs (Q++R++[98,108,111,99,107,10])):=by show _=_;rw[HTb.out,show (⟨#[98,108,111,99,107,10]⟩:ByteArray)=bs [98,108,111,99,107,10] from rfl,bs_append]
     have x0:(wb.alloc (.cells #[.slice v0 x.phis.length r0,.slice v1 x.insts.length r1,.int .i64 x.term.kind,.int .i64 x.term.a,.int .i64 x.term.x,.int .i64 x.term.y] 74)).cell? ⟨wb.heap.size,0,none⟩=some (.slice v0 x.phis.length r0):=A0.cell 0
     go_wp2_with fail
     generalize (wb.alloc (.cells #[.slice v0 x.phis.length r0,.slice v1 x.insts.length r1,.int .i64 x.term.kind,.int .i64 x.term.a,.int .i64 x.term.x,.int .i64 x.term.y] 74))=w3 at A0 M0 M1 HBf x0 ⊢
     clear e0 e1 e2 e3 e4 e5 m0 m1 B0 y2 HBb
     have A3x:=A0
     have HB3:Hid (Below w9.heap.size w9 w3):=HBf
     have K3:Hid (PhisAt w3 lo v0 x.phis):=M0
     have K4:Hid (InstsAt w3 lo v1 x.insts):=M1
     clear M0 M1 A0 HBf
     generalize T++(⟨#[98,108,111,99,107,10]⟩:ByteArray)=T4 at HT3 zb ⊢
     go_loopw [3,8] (fun st i wr=>∃ (n:Nat) (T:ByteArray),n≤x.phis.length∧i=.int .i64 n∧st=.string T∧Hid (T=bs (Q++R++[98,108,111,99,107,10]++(x.phis.take n).flatMap xPhi))∧Hid (Below w3.heap.size w3 wr)) (fun _ i _=>x.phis.length-(intOf i).toNat)
     case atStart=>exact⟨0,_,by omega,rfl,rfl,by show _=_;rw[HT3.out];simp,Below.refl _ _⟩
     case round =>
      obtain⟨n,T5,hn,rfl,rfl,HTp,HBp⟩:=hrel
      obtain⟨wp,hwp⟩:∃ wp,wp=wr:=⟨_,rfl⟩
      subst hwp
      clear x0
      have x0:wp.cell? ⟨wb.heap.size,0,none⟩=some (.slice v0 x.phis.length r0):=((A3x.below HBp.out).cell 0).trans rfl
      by_cases hnl:n<x.phis.length
      ·rcases (K3.out.keep (zaB HBp.out lo)).2 with hz|⟨bp,op,rfl,hlop,hbp,hcell⟩
       ·simp[hz] at hnl
       obtain⟨e0,⟨i0,j0,e1,m1⟩⟩:=hcell n hnl
       have hpb:=HXB.out.p _ (getD_mem phi0 x.phis n hnl)
       have hfs:=flat_snocX (z:=phi0) xPhi hnl
       have hfl3:=flat_leX x.phis xPhi (n+1)
       rw[hfs,List.length_append] at hfl3
       have HNp:Hid ((x.phis.take (n+1)).flatMap xPhi=(x.phis.take n).flatMap xPhi++xPhi (x.phis.getD n phi0)):=hfs
       generalize hR:(x.phis.take n).flatMap xPhi=R2 at hfl3 HNp HTp
       generalize x.phis.getD n phi0=y at e0 e1 m1 hpb HNp hfl3
       obtain⟨n1,n2,n3⟩:=ln_parts hpb
       clear hR hfs hcell hpb
       have hTs5:T5.size≤51000:=by rw[HTp.out,bs_size];simp only[List.length_append,List.length_cons,List.length_nil];omega
       have V1:=fun xx=>dec_gives y.w wp n1 xx
       have V2:=fun xx=>nums_gives lo i0 j0 y.ins wp (by omega) n2 m1 xx
       have HT6:Hid (T5++(⟨#[112,104,105,32]⟩:ByteArray)++bs (Lib.itoa y.w)++bs (numsL y.ins)++(⟨#[10]⟩:ByteArray)=bs (Q++R++[98,108,111,99,107,10]++(x.phis.take (n+1)).flatMap xPhi)):=by
        show _=_
        rw[app5,phi_eq,HTp.out,bs_append,HNp.out]
        unfold xPhi phiL
        simp
       have s1:=itoa_sz n1
       have s2:(bs (numsL y.ins)).size≤220:=by rw[bs_size];have:=nums_len y.ins n2;omega
       generalize bs (Lib.itoa y.w)=A1 at *
       generalize bs (numsL y.ins)=A2 at *
       have l0:(⟨#[112,104,105,32]⟩:ByteArray).size=4:=rfl
       have l1:(⟨#[10]⟩:ByteArray).size=1:=rfl
       have z0:(T5++(⟨#[112,104,105,32]⟩:ByteArray)).size≤51005:=by rw[ByteArray.size_append];omega
       have z1:(T5++(⟨#[112,104,105,32]⟩:ByteArray)++A1).size≤51015:=by rw[ByteArray.size_append];omega
       have z2:(T5++(⟨#[112,104,105,32]⟩:ByteArray)++A1++A2).size≤51300:=by rw[ByteArray.size_append];omega
       have z3:(T5++(⟨#[112,104,105,32]⟩:ByteArray)++A1++A2++(⟨#[10]⟩:ByteArray)).size≤51400:=by rw[ByteArray.size_append];omega
       have hne:Nonempty (Abv (fun v=>Below wp.heap.size wp v)):=abv_ne (Below.refl _ _)
       have lb2:wb.heap.size<wp.heap.size:=(A3x.below HBp.out).lt
       have t0:=fun xx:Abv (fun v=>Below wp.heap.size wp v)=>(bcell xx.ok wb.heap.size 0 lb2).trans x0
       have t1:=fun xx:Abv (fun v=>Below wp.heap.size wp v)=>(bcell xx.ok bp _ hbp).trans e0
       have t2:=fun xx:Abv (fun v=>Below wp.heap.size wp v)=>(bcell xx.ok bp _ hbp).trans e1
       go_wp2_with fail
       refine wp_region_abv (fun v=>Below wp.heap.size wp v) (by kernel_rfl) (by kernel_rfl) (drew_below (Below.refl _ _)) ?_
       repeat (go_big_quiet_step (first|(go_at_call 51;with_reducible exact V1 _)|(go_at_call 52;with_reducible exact V2 _)))
       refine wpQuiet_nil ?_
       rintro w8 ⟨⟨w8,h8⟩,rfl⟩
       have HB8:Hid (Below w3.heap.size w3 w8):=HBp.out.trans (h8.mono HBp.out.size)
       clear h8 hne t0 t1 t2 V1 V2
       go_wp2_with fail
       go_roundw
       case rel=>exact⟨n+1,_,by omega,by go_num,rfl,HT6.out,HB8⟩
       case measure=>simp[intOf];omega
      ·have x1:wp.cell? ⟨wb.heap.size,1,none⟩=some (.slice v1 x.insts.length r1):=((A3x.below HBp.out).cell 1).trans rfl
       have HTq:Hid (T5=bs (Q++R++[98,108,111,99,107,10]++x.phis.flatMap xPhi)):=by
        show _=_
        rw[HTp.out,flat_allX x.phis xPhi hnl]
       have hTs5:T5.size≤51000:=by rw[HTq.out,bs_size];simp only[List.length_append,List.length_cons,List.length_nil];omega
       have HB4:Hid (Below w3.heap.size w3 wp):=HBp
       clear HTp HT3 zb hTs HTb
       go_wp2_with fail
       go_loopw [3,9] (fun st i wr=>∃ (n:Nat) (T:ByteArray),n≤x.insts.length∧i=.int .i64 n∧st=.string T∧Hid (T=bs (Q++R++[98,108,111,99,107,10]++x.phis.flatMap xPhi++(x.insts.take n).flatMap xIns))∧Hid (Below w3.heap.size w3 wr)) (fun _ i _=>x.insts.length-(intOf i).toNat)
       case atStart=>exact⟨0,_,by omega,rfl,rfl,by show _=_;rw[HTq.out];simp,HB4⟩
       case round =>
        obtain⟨m,T8,hm,rfl,rfl,HTi,HBi⟩:=hrel
        obtain⟨wi,hwi⟩:∃ wi,wi=wr:=⟨_,rfl⟩
        subst hwi
        clear x1 x0
        have Ai:=A3x.below HBi.out
        have x1:wi.cell? ⟨wb.heap.size,1,none⟩=some (.slice v1 x.insts.length r1):=(Ai.cell 1).trans rfl
        by_cases hml:m<x.insts.length
        ·rcases (K4.out.keep (zaB HBi.out lo)).2 with hz|⟨bi,oi,rfl,hloi,hbi,hcell⟩
         ·simp[hz] at hml
         obtain⟨e0,e1,e2,e3,e4,e5,⟨i0,j0,e6,m6⟩⟩:=hcell m hml
         have hib:=HXB.out.i _ (getD_mem inst0 x.insts m hml)
         have hfs:=flat_snocX (z:=inst0) xIns hml
         have hfl4:=flat_leX x.insts xIns (m+1)
         rw[hfs,List.length_append] at hfl4
         have HNi:Hid ((x.insts.take (m+1)).flatMap xIns=(x.insts.take m).flatMap xIns++xIns (x.insts.getD m inst0)):=hfs
         generalize hR:(x.insts.take m).flatMap xIns=R3 at hfl4 HNi HTi
         generalize x.insts.getD m inst0=y at e0 e1 e2 e3 e4 e5 e6 m6 hib HNi hfl4
         have hIF:=instB_inF hib
         clear hR hfs hcell hib
         have hTs8:T8.size≤51000:=by rw[HTi.out,bs_size];simp only[List.length_append,List.length_cons,List.length_nil];omega
         have P1:=l5instS lo y i0 j0 wi hIF m6
         have s2:=instTx_size hIF
         have HT9:Hid (T8++instTx y++(⟨#[10]⟩:ByteArray)=bs (Q++R++[98,108,111,99,107,10]++x.phis.flatMap xPhi++(x.insts.take (m+1)).flatMap xIns)):=by
          show _=_
          rw[ByteArray.append_assoc,xIns_eq,HTi.out,bs_append,HNi.out]
          simp
         generalize instTx y=A6 at P1 s2 HT9
         have l1:(⟨#[10]⟩:ByteArray).size=1:=rfl
         have z1:(T8++A6).size≤51200:=by rw[ByteArray.size_append];omega
         have z2:(T8++A6++(⟨#[10]⟩:ByteArray)).size≤51300:=by rw[ByteArray.size_append];omega
         clear hIF
         go_wp2_with fail
         refine P1.mono ?_
         rintro e w5 ⟨rfl,b5⟩
         have HB5:Hid (Below w3.heap.size w3 w5):=HBi.out.trans (b5.mono HBi.out.size)
         clear b5
         go_wp2_with fail
         go_roundw
         case rel=>exact⟨m+1,_,by omega,by go_num,rfl,HT9.out,HB5⟩
         case measure=>simp[intOf];omega
        ·have HTr:Hid (T8=bs (Q++R++[98,108,111,99,107,10]++x.phis.flatMap xPhi++x.insts.flatMap xIns)):=by
          show _=_
          rw[HTi.out,flat_allX x.insts xIns hml]
         have hTs8:T8.size≤51000:=by rw[HTr.out,bs_size];simp only[List.length_append,List.length_cons,List.length_nil];omega
         have x2:wi.cell? ⟨wb.heap.size,2,none⟩=some (.int .i64 x.term.kind):=(Ai.cell 2).trans rfl
         have x3:wi.cell? ⟨wb.heap.size,3,none⟩=some (.int .i64 x.term.a):=(Ai.cell 3).trans rfl
         have x4:wi.cell? ⟨wb.heap.size,4,none⟩=some (.int .i64 x.term.x):=(Ai.cell 4).trans rfl
         have x5:wi.cell? ⟨wb.heap.size,5,none⟩=some (.int .i64 x.term.y):=(Ai.cell 5).trans rfl
         have P1:=l5termS x.term wi HXB.out.t
         have s2:(bs (trmT x.term)).size≤60:=by rw[bs_size];exact trmT_len HXB.out.t
         have HT9:Hid (T8++bs (trmT x.term)++(⟨#[10]⟩:ByteArray)=bs (Q++(f.blocks.take (j+1)).flatMap xBlk)):=by
          show _=_
          rw[ByteArray.append_assoc,xTrm_eq,HTr.out,bs_append,HNb.out]
          unfold xBlk
          simp
         generalize bs (trmT x.term)=A6 at P1 s2 HT9
         have l1:(⟨#[10]⟩:ByteArray).size=1:=rfl
         have z1:(T8++A6).size≤51200:=by rw[ByteArray.size_append];omega
         have z2:(T8++A6++(⟨#[10]⟩:ByteArray)).size≤51300:=by rw[ByteArray.size_append];omega
         clear HTi HTq
         go_wp2_with fail
         refine P1.mono ?_
         rintro e w5 ⟨rfl,b5⟩
         have HB5:Hid (Below w9.heap.size w9 w5):=HB3.out.trans ((HBi.out.trans (b5.mono HBi.out.size)).mono HB3.out.size)
         clear b5
         go_wp2_with fail
         go_roundw
         case rel=>exact⟨j+1,_,by omega,by go_num,rfl,HT9.out,HB5⟩
         case measure=>simp[intOf];omega
    ·have HT3:Hid (T=bs ((l.take (k+1)).flatMap xFun)):=by
      show _=_
      rw[HTb.out,flat_allX f.blocks xBlk hjl,HN.out,←HQ.out]
      unfold xFun
      simp
     have HBk:Hid (Below w.heap.size w wb):=HB9.out.trans (HBb.out.mono HB9.out.size)
     have HXk:Hid (Box1 wb w.heap.size l.length (some ⟨bb,off,none⟩) c):=HX9.out.below HBb.out
     clear HTb HT2
     go_wp2_with fail
     go_roundw
     case rel=>exact⟨k+1,_,by omega,by go_num,rfl,HT3,HBk,HXk⟩
     case measure=>simp[intOf];omega
  ·have HE:Hid (bs (xMod l)=T):=by
    show _=_
    rw[HT.out,flat_allX l xFun hlt];rfl
   go_wp2_with fail
   go_ret
   exact⟨by rw[HE.out];rfl,HB.out⟩
def modText(l:List FuncD):ByteArray:=if modB l=true then bs (xMod l) else ⟨#[]⟩
theorem byte_app(a b:List UInt8):Lib.byteCells a++Lib.strCells (bs b)=Lib.byteCells (a++b):=by unfold bs;rw[Lib.strCells_toArray];unfold Lib.byteCells;rw[List.map_append]
theorem ints_moved{w w':World}{lo b B:Nat}{a:Option Addr}{l:List Int}(h:IntsAt w lo a l)(hb:b<lo)(hw:w.heap.size≤B)(k:BxB b B w w'):IntsAt w' lo a l:=by
 refine⟨h.1,?_⟩
 rcases h.2 with he|⟨c,off,ha,hlo,hlt,hc⟩
 ·exact .inl he
 ·exact .inr ⟨c,off,ha,hlo,by have:=k.size;omega,fun i hi=>(zcB (k.block c (by omega) (by omega))).trans (hc i hi)⟩
theorem modText_no(lo:Nat)(l:List FuncD)(u:Option Addr)(c:Nat)(w:World)(hs:SmMod l)(k0:zFA w lo u l)(hm:modB l=false) :
  Calls Tryz.prog 7 #[.agg #[.slice u l.length c]] w fun e w'=>e=.returned (.string ⟨#[]⟩)∧Below w.heap.size w w':=by
 have P1:=modShI lo l u c (w.alloc (.cells #[.slice u l.length c] 26)) hs (k0.keep (zaA _ _ _))
 rw[hm] at P1
 have B0:Below w.heap.size w (w.alloc (.cells #[.slice u l.length c] 26)):=(Below.refl _ w).alloc (Nat.le_refl _) _
 go_enter Tryz.func7,Tryz.ntmps7
 go_wp2_with fail
 refine P1.mono ?_
 rintro e w1 ⟨rfl,b1⟩
 go_wp2_with fail
 go_ret
 exact⟨rfl,B0.trans (b1.mono B0.size)⟩
theorem modText_yes(lo:Nat)(l:List FuncD)(u:Option Addr)(c:Nat)(w:World)(hs:SmMod l)(k0:zFA w lo u l)(hm:modB l=true)(hO:OpsAt w)(hT:TmsAt w)(hP:PowAt w) :
  Calls Tryz.prog 7 #[.agg #[.slice u l.length c]] w fun e w'=>e=.returned (.string (bs (xMod l)))∧Below w.heap.size w w':=by
 have P1:=modShI lo l u c (w.alloc (.cells #[.slice u l.length c] 26)) hs (k0.keep (zaA _ _ _))
 rw[hm] at P1
 have hlen:=xMod_len hm
 have hLl:=modL_len hm
 have hLk:Hid (∀ x∈modL l,LnOk x):=mod_lnok hm
 have hLe:Hid ((modL l).flatMap lnT=xMod l):=mod_lines l
 have P2:=fun W (k:Below w.heap.size w W)=>moduleLinesI lo l u c W hs hm (k0.keep (zaB k lo)) (hO.keep k) (hT.keep k)
 have HP:Hid (PowAt w):=hP
 have A0:=At.new w #[.slice u l.length c] 26
 have B0:Below w.heap.size w (w.alloc (.cells #[.slice u l.length c] 26)):=(Below.refl _ w).alloc (Nat.le_refl _) _
 have hmp:0<(modL l).length:=by
  have hpos:1≤l.length:=by simp only[modB,Bool.and_eq_true,decide_eq_true_eq] at hm;exact hm.1.1
  obtain⟨f,r,rfl⟩:∃ f r,l=f :: r:=by cases l with|nil=>simp at hpos|cons f r=>exact⟨f,r,rfl⟩
  unfold modL funL
  simp
 clear hO hT hP hs k0 hm
 go_enter Tryz.func7,Tryz.ntmps7
 go_wp2_with fail
 refine P1.mono ?_
 rintro e w1 ⟨rfl,b1⟩
 have A1:=A0.below b1
 have B1:=B0.trans (b1.mono B0.size)
 have bx:Below w1.heap.size w1 (w1.alloc (.cells #[.pointer none,.slice none 0 0] 38)):=(Below.refl _ _).alloc (Nat.le_refl _) _
 have AB:=At.new w1 #[.pointer none,.slice none 0 0] 38
 have ex:(w1.alloc (.cells #[.pointer none,.slice none 0 0] 38)).heap.size=w1.heap.size+1:=by simp
 have A2:=A1.below bx
 have B2:=B1.trans (bx.mono B1.size)
 have y0:(w1.alloc (.cells #[.pointer none,.slice none 0 0] 38)).cell? ⟨w.heap.size,0,none⟩=some (.slice u l.length c):=A2.cell 0
 have y1:w1.cell? ⟨w.heap.size,0,none⟩=some (.slice u l.length c):=A1.cell 0
 have z1:w.heap.size<w1.heap.size:=A1.lt
 clear P1 A0 B0
 go_wp2_with fail
 have P3:=P2 _ B2
 generalize (w1.alloc (.cells #[.pointer none,.slice none 0 0] 38))=W2 at P3 AB ex A2 B2 y0 bx ⊢
 clear y0 y1 P2 A1 b1 A2
 refine P3.mono ?_
 rintro e w3 ⟨⟨g,c3,xs,rfl,hL⟩,b3⟩
 have HB3:Hid (Below w.heap.size w w3):=B2.trans (b3.mono B2.size)
 have HA:Hid (At w3 w1.heap.size #[.pointer none,.slice none 0 0] 38):=AB.below b3
 have HL:Hid (Lns w3 W2.heap.size (.slice (some ⟨g,0,none⟩) (modL l).length c3) (modL l) xs):=hL
 have z3:W2.heap.size≤w3.heap.size:=b3.size
 have hg:=(hL.row.lt g rfl)
 have hBl:BlA w3 w3.heap.size w1.heap.size (Lib.byteCells (([]:List Ln).flatMap lnT)):=.inr ⟨rfl,⟨HA.out,World.ownsRow_nil _ _ _ _,by simp[Value.ownBlock]⟩⟩
 have HBl:Hid (BlA w3 w3.heap.size w1.heap.size (Lib.byteCells (([]:List Ln).flatMap lnT))):=hBl
 generalize modL l=L at hLl hLk hLe HL hmp ⊢
 generalize hXe:xMod l=X at hlen hLe
 have HXe:Hid (xMod l=X):=hXe
 clear hXe
 clear hL b3 P3 AB B1 B2 hBl HA bx
 go_wp2_with fail
 go_loopw [12] (fun i wr=>∃ (j:Nat),j≤L.length∧i=.int .i64 j∧Hid (BlA wr w3.heap.size w1.heap.size (Lib.byteCells ((L.take j).flatMap lnT)))∧Hid (BxB w1.heap.size w3.heap.size w3 wr)) (fun i _=>L.length-(intOf i).toNat)
 case atStart=>exact⟨0,by omega,rfl,HBl,BxB.refl _ _ _⟩
 case round =>
  obtain⟨j,hj,rfl,HBl,HX⟩:=hrel
  obtain⟨wo,hwo⟩:∃ wo,wo=wr:=⟨_,rfl⟩
  subst hwo
  by_cases hlt:j<L.length
  ·obtain⟨a,cc,h1,h2,h3⟩:=HL.out.cells j hlt
   have hok:=hLk.out _ (getD_mem ln0 L j hlt)
   have hfs:=flat_snocX (z:=ln0) lnT hlt
   have hfl:=flat_leX L lnT (j+1)
   rw[hfs,List.length_append] at hfl
   have HN:Hid ((L.take (j+1)).flatMap lnT=(L.take j).flatMap lnT++lnT (L.getD j ln0)):=hfs
   have hXl:(L.flatMap lnT).length≤51000:=by rw[hLe.out];exact hlen
   generalize (L.take j).flatMap lnT=P at hfl HN HBl
   generalize L.getD j ln0=x at h1 h2 h3 hok HN hfl
   have e1:wo.cell? ⟨g,j*2,none⟩=some (.string (bs x.1)):=(zcB (HX.out.block g hg.2 (by omega))).trans ((congrArg w3.cell? (by simp[Addr.add])).trans (HL.out.row.cells (g:=g) rfl (j*2) _ h1))
   have e2:wo.cell? ⟨g,j*2+1,none⟩=some (.slice a x.2.length cc):=(zcB (HX.out.block g hg.2 (by omega))).trans ((congrArg w3.cell? (by simp[Addr.add])).trans (HL.out.row.cells (g:=g) rfl (j*2+1) _ h2))
   have hI:IntsAt wo W2.heap.size a x.2:=ints_moved h3.ints (by omega) (Nat.le_refl _) HX.out
   have bx:Below wo.heap.size wo (wo.alloc (.cells #[.string (bs x.1),.slice a x.2.length cc] 43)):=(Below.refl _ _).alloc (Nat.le_refl _) _
   have hBw:Below w.heap.size w wo:=HB3.out.trans ⟨HX.out.os,HX.out.tape,HX.out.output,HX.out.size,fun i hi=>HX.out.block i (by have:=HB3.out.size;omega) (by omega)⟩
   have P4:=textI W2.heap.size a cc (bs x.1) x.2 _ (hI.keep (zaB bx _)) hok.n hok.s (by rw[bs_size];exact hok.w) (HP.out.keep (hBw.trans (bx.mono hBw.size)))
   have hxl:(lnT x).length=x.1.length+(numsL x.2).length+1:=by unfold lnT;simp only[List.length_append,List.length_cons,List.length_nil]
   have HY:Hid (lnT x=(x.1++numsL x.2)++[10]):=by show _=_;unfold lnT;rfl
   rw[bs_append] at P4
   have hts:(x.1++numsL x.2).length≤51000:=by rw[List.length_append];omega
   have hPt:P.length+(x.1++numsL x.2).length≤51000:=by rw[List.length_append];omega
   generalize x.1++numsL x.2=t at P4 HY hts hPt
   have zo:w3.heap.size≤wo.heap.size:=HX.out.size
   have HBx:Hid (BlA (wo.alloc (.cells #[.string (bs x.1),.slice a x.2.length cc] 43)) w3.heap.size w1.heap.size (Lib.byteCells P)):=HBl.out.keep bx
   have HXx:Hid (BxB w1.heap.size w3.heap.size w3 (wo.alloc (.cells #[.string (bs x.1),.slice a x.2.length cc] 43))):=HX.out.below bx zo
   have ex2:(wo.alloc (.cells #[.string (bs x.1),.slice a x.2.length cc] 43)).heap.size=wo.heap.size+1:=by simp
   clear h1 h2 h3 hok hfs hI bx hBw HBl HX
   go_wp2_with fail
   generalize (wo.alloc (.cells #[.string (bs x.1),.slice a x.2.length cc] 43))=wx at P4 HBx HXx ex2 ⊢
   clear e1 e2
   refine P4.mono ?_
   rintro e w4 ⟨rfl,b4⟩
   have z4:w3.heap.size≤w4.heap.size:=by have:=b4.size;omega
   have P5:=writeA w4 w3.heap.size w1.heap.size (Lib.byteCells P) (bs t) (HBx.out.keep b4) (by rw[Lib.byteCells_length,bs_size];omega) z4
   have HX4:Hid (BxB w1.heap.size w3.heap.size w3 w4):=HXx.out.below b4 (by omega)
   rw[byte_app] at P5
   clear b4 HBx HXx P4
   generalize hbt:bs t=tb at P5 ⊢
   have hbz:tb.size≤51000:=by rw[←hbt,bs_size];exact hts
   clear hbt
   go_wp2_with fail
   refine P5.mono ?_
   rintro e w5 ⟨rfl,hv5,hx5⟩
   have HX5:Hid (BxB w1.heap.size w3.heap.size w3 w5):=HX4.out.trans hx5
   have z5:w3.heap.size≤w5.heap.size:=by have:=hx5.size;omega
   have P6:=writeA w5 w3.heap.size w1.heap.size (Lib.byteCells (P++t)) (bs [10]) (.inl hv5) (by rw[Lib.byteCells_length,bs_size,List.length_append];show P.length+t.length+1≤_;omega) z5
   rw[byte_app,List.append_assoc,←HY.out,←HN.out] at P6
   clear hv5 hx5 P5 HX4
   go_wp2_with fail
   refine P6.mono ?_
   rintro e w6 ⟨rfl,hv6,hx6⟩
   have HX6:Hid (BxB w1.heap.size w3.heap.size w3 w6):=HX5.out.trans hx6
   have HB6:Hid (BlA w6 w3.heap.size w1.heap.size (Lib.byteCells ((L.take (j+1)).flatMap lnT))):=.inl hv6
   clear hv6 hx6 P6 HX5
   go_wp2_with fail
   go_roundw
   case rel=>exact⟨j+1,by omega,by go_num,HB6,HX6⟩
   case measure=>simp[intOf];omega
  ·have hE:(L.take j).flatMap lnT=X:=by rw[flat_allX L lnT hlt];exact hLe.out
   have hB:=HBl.out
   rw[hE] at hB
   have hX0:X≠[]:=by
    intro h0
    have h1:=hLe.out
    rw[h0] at h1
    cases L with
    | nil=>simp at hmp
    | cons y r=>rw[List.flatMap_cons] at h1;unfold lnT at h1;simp at h1
   obtain⟨v,hv⟩:∃ v,Bl2 wo w3.heap.size w1.heap.size (.pointer (some ⟨w1.heap.size,0,none⟩)) v (Lib.byteCells X):=by
    rcases hB with h|⟨h,_⟩
    ·exact h
    ·exact absurd (by simpa [Lib.byteCells] using h) hX0
   have P7:=stringU wo w3.heap.size w1.heap.size _ v X hv hX0
   have HBw:Hid (Below w.heap.size w wo):=HB3.out.trans ⟨HX.out.os,HX.out.tape,HX.out.output,HX.out.size,fun i hi=>HX.out.block i (by have:=HB3.out.size;omega) (by omega)⟩
   have hown:=fun k (e:v.ownBlock=some k)=>(hv.row.lt k e).1
   clear hE hB hv HBl HX
   go_wp2_with fail
   refine P7.mono ?_
   rintro e w8 ⟨rfl,g8,hg8,h8⟩
   have hB8:Below w.heap.size w (wo.drew.freeze ⟨g8,0,none⟩ X.length):=Lib.below_freeze (Below.drew HBw.out) (p:=⟨g8,0,none⟩) (by have:=hown g8 hg8;have:=HB3.out.size;show w.heap.size≤g8;omega) _
   rw[←h8] at hB8
   clear h8 hown hg8 P7
   go_wp2_with fail
   go_ret
   exact⟨by rw[HXe.out];rfl,hB8⟩
theorem modTextI(lo:Nat)(l:List FuncD)(u:Option Addr)(c:Nat)(w:World)(hs:SmMod l)(k0:zFA w lo u l)(hO:OpsAt w)(hT:TmsAt w)(hP:PowAt w) :
  Calls Tryz.prog 7 #[.agg #[.slice u l.length c]] w fun e w'=>e=.returned (.string (modText l))∧Below w.heap.size w w':=by
 unfold modText
 by_cases hm:modB l=true
 ·rw[if_pos hm];exact modText_yes lo l u c w hs k0 hm hO hT hP
 ·rw[if_neg hm];exact modText_no lo l u c w hs k0 (by simpa using hm)
set_option maxHeartbeats 4000000
theorem instTextS(lo:Nat)(d:InstD)(u:Option Addr)(q:Nat)(w:World)(hm:d.args.length≤1048576)(hk:IntsAt w lo u d.args) :
  Calls Tryz.prog 100 #[.agg #[.int .i64 d.op,.int .i64 d.w,.int .i64 d.a,.int .i64 d.b,.int .i64 d.c,.int .i64 d.imm,.slice u d.args.length q]] w fun e w'=>e=.returned (.string (instText d))∧Below w.heap.size w w':=by
 have B0:IBox d u q w _:=IBox.start (T:=95)
 go_enter Tryz.func100,Tryz.ntmps100
 go_wp2_with fail
 generalize (w.alloc (.cells #[.int .i64 d.op,.int .i64 d.w,.int .i64 d.a,.int .i64 d.b,.int .i64 d.c,.int .i64 d.imm,.slice u d.args.length q] 95))=W at B0 ⊢
 refine (formS lo d u q W hm (hk.keep (zaB B0.below lo))).mono ?_
 rintro e w1 ⟨rfl,b1⟩
 have I1:=B0.keep (b1.mono B0.size)
 obtain⟨y0,y1,y2,y3,y4,y5,y6,_,_⟩:=id I1
 cases hok:zIn d 60 3 with
 | false =>
  have E:Hid (instText d=⟨#[]⟩):=by show _=_;unfold instText;rw[hok];rfl
  go_wp2_with fail
  go_ret
  exact⟨by rw[E.out];rfl,I1.below⟩
 | true =>
  have hF:=instB_inF hok
  have E:Hid (instText d=instTx d):=by show _=_;unfold instText;rw[if_pos hok]
  have LI:=l5instS lo d u q w1 hF (hk.keep (zaB I1.below lo))
  clear hok
  rw[←E.out] at LI
  clear E
  generalize hY:instText d=Y at LI
  have HY:Hid (instText d=Y):=hY
  clear hY
  go_wp2_with fail
  refine LI.mono ?_
  rintro e w3 ⟨rfl,b3⟩
  have I3:=I1.keep (b3.mono I1.size)
  go_wp2_with fail
  go_ret
  exact⟨by rw[HY.out];rfl,I3.below⟩
end Go.Proofs.YtkpmiikafconmaaGreatDoor
