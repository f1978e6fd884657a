import Derived.Test.YtkpmiikafconmaaGreatDoorReDJp
import Derived.Test.YtkpmiikafconmaaGreatDoorReAJp
import Derived.Test.YtkpmiikafconmaaGreatDoorRiHJp
namespace Go.Proofs.YtkpmiikafconmaaGreatDoor
open Go.RowKit
set_option maxHeartbeats 4000000
set_option maxRecDepth 100000
set_option linter.unusedVariables false
set_option linter.unusedSimpArgs false
def tmNumB(b:ByteArray):Int:=opNumL b tmWL 0
theorem tmNum_hit{b:ByteArray}{k:Nat}(hk:k<5)(h:tmW k=b):opNumL b (tmWL.drop k) k=k:=by
 rw[List.drop_eq_getElem_cons (show k<tmWL.length from hk),opNumL,if_pos]
 have:tmWL.getD k []=tmWL[k]'(show k<tmWL.length from hk):=by rw[List.getD,List.getElem?_eq_getElem (show k<tmWL.length from hk)];rfl
 rw[←this];exact h
theorem tmNum_miss{b:ByteArray}{k:Nat}(hk:k<5)(h:¬tmW k=b):opNumL b (tmWL.drop k) k=opNumL b (tmWL.drop (k+1)) (k+1):=by
 rw[List.drop_eq_getElem_cons (show k<tmWL.length from hk),opNumL,if_neg]
 have:tmWL.getD k []=tmWL[k]'(show k<tmWL.length from hk):=by rw[List.getD,List.getElem?_eq_getElem (show k<tmWL.length from hk)];rfl
 rw[←this];exact h
def tmArr:Array Value:=((List.range 5).map fun k=>Value.string (tmW k)).toArray
theorem tw_arr(k:Nat)(hk:k<5):tmArr[k]?=some (.string (tmW k)):=by simp[tmArr,hk]
theorem tw_cells{w:World}(h:TmsAt w):∀ j v,tmArr[j]?=some v→w.cell? ⟨0,0+j,none⟩=some v:=fun j v hj=>by
 have hlt:j<5:=by have:=(Array.getElem?_eq_some_iff.1 hj).1;simpa [tmArr] using this
 rw[tw_arr j hlt] at hj
 rw[Nat.zero_add,h.2 j hlt,hj]
theorem infoTw:(Tryz.prog.info? 120).map (·.size)=some tmArr.size:=by kernel_rfl
theorem idxT(arr:Array Value)(k:Nat)(v:ByteArray)(hk:k<5)(hv:arr[k]?=some (.string v))(W:World):(Instr.index 120 (.agg arr) (.int .i64 (k:Int))).run Tryz.prog W=.ok (.string v) W:=by
 obtain⟨i,hi,_,hs,_⟩:=info_parts infoSr
 simp[Instr.index,asIntOf,run_underlying Tryz.underlying120,part,isAgg,run_underlying Tryz.underlying9,sizeOf,typeInfo,hi,hs,hv]
 intro h;omega
theorem kindOfI(b:ByteArray)(w:World)(hW:TmsAt w):Calls Tryz.prog 157 #[.string b] w fun e w'=>e=.returned (.int .i64 (tmNumB b))∧w'=w:=by
 have HX:Hid (∀ k:Nat,k<5→(Instr.index 120 (.agg tmArr) (.int .i64 (k:Int))).run Tryz.prog w=.ok (.string (tmW k)) w):=fun k hk=>idxT _ k _ hk (tw_arr k hk) w
 have HC:Hid (∀ j v,tmArr[j]?=some v→w.cell? ⟨0,0+j,none⟩=some v):=tw_cells hW
 go_enter Tryz.func157,Tryz.ntmps157
 go_wp2_with (refine wpList_load_part rfl 120 _ rfl 0 0 rfl tmArr _ HC.out Tryz.underlying120 rfl infoTw ?_)
 go_loop [6] (fun i=>∃ k:Nat,k≤5∧i=.int .i64 k∧Hid (opNumL b (tmWL.drop k) k=tmNumB b)) (fun i=>5-(intOf i).toNat)
 case atStart=>exact⟨0,by omega,rfl,rfl⟩
 case round =>
  obtain⟨k,hk,rfl,HN⟩:=hrel
  clear hW HC
  by_cases hlt:k<5
  ·have hi:=HX.out k hlt
   by_cases hx:tmW k=b
   ·have HE:Hid (tmNumB b=k):=by show _=_;rw[←HN.out,tmNum_hit hlt hx]
    clear HN
    go_wp2_with fail
    go_ret
    exact⟨by rw[HE.out];rfl,rfl⟩
   ·have HE:Hid (opNumL b (tmWL.drop (k+1)) (k+1)=tmNumB b):=by show _=_;rw[←HN.out,tmNum_miss hlt hx]
    have hx2:=str_ne hx
    clear HN
    go_wp2_with fail
    go_round
    case rel=>exact⟨k+1,by omega,by go_num,HE.out⟩
    case measure=>simp[intOf];omega
  ·have hke:k=5:=by omega
   subst hke
   go_wp2_with fail
   go_ret
   exact⟨by rw[←HN.out];rfl,rfl⟩
def NmIn(B R:Nat)(w:World)(v:Value)(l:List Int):Prop:=Row w 0 v l∧l.length≤20000∧Pos l∧∀ g,v.ownBlock=some g→g<B∧g≠R
def LwIn(B R:Nat)(w:World)(L:List Ln):Prop :=
 (L=[]∧At w R #[.slice none 0 0] 83)∨∃ b off c,At w R #[.slice (some ⟨b,off,none⟩) L.length c] 83∧L.length≤c∧c≤9223372036854775807∧b≠R∧(b<B∧B≤w.heap.size)∧∀ i,i<L.length→w.cell? ⟨b,off+i*2,none⟩=some (.string (bs (L.getD i ln0).1))∧∃ v,w.cell? ⟨b,off+i*2+1,none⟩=some v∧NmIn B R w v (L.getD i ln0).2
theorem LwIn.lt{B R:Nat}{w:World}{L:List Ln}(h:LwIn B R w L):R<w.heap.size:=by
 rcases h with⟨_,h⟩|⟨b,off,c,h,_⟩
 ·exact h.lt
 ·exact h.lt
theorem NmIn.low{B R N:Nat}{w w2:World}{v:Value}{l:List Int}(h:NmIn B R w v l)(hB:B≤N)(k:∀ b,b<N→w2.heap[b]?=w.heap[b]?):NmIn B R w2 v l :=
 ⟨h.1.block fun g hg _=>k g (by have:=(h.2.2.2 g hg).1;omega),h.2.1,h.2.2.1,h.2.2.2⟩
theorem LwIn.lower{B R N:Nat}{w w2:World}{L:List Ln}(h:LwIn B R w L)(hR:R<N)(hB:B≤N)(hz:w.heap.size≤w2.heap.size)(k:∀ b,b<N→w2.heap[b]?=w.heap[b]?):LwIn B R w2 L:=by
 rcases h with⟨e,h1⟩|⟨b,off,c,h0,h1,h2,h3,h4,h5⟩
 ·exact .inl ⟨e,(k R hR).trans h1⟩
 ·refine .inr ⟨b,off,c,(k R hR).trans h0,h1,h2,h3,⟨h4.1,Nat.le_trans h4.2 hz⟩,fun i hi=>?_⟩
  obtain⟨k1,v,k2,k3⟩:=h5 i hi
  exact⟨(zcB (k b (by omega))).trans k1,v,(zcB (k b (by omega))).trans k2,k3.low hB k⟩
theorem LwIn.keep{B R:Nat}{w w':World}{L:List Ln}(h:LwIn B R w L)(hB:B≤w.heap.size)(k:Below w.heap.size w w'):LwIn B R w' L:=h.lower h.lt hB k.size k.block
theorem LwIn.row_{B R:Nat}{w:World}{L:List Ln}(h:LwIn B R w L):∃ v,At w R #[v] 83:=by
 rcases h with⟨_,h⟩|⟨b,off,c,h,_⟩
 ·exact⟨_,h⟩
 ·exact⟨_,h⟩
theorem Still.lns{R B:Nat}{w w':World}{L:List Ln}(h:OnlyR R w w')(hR:LwIn B R w L):Still 9 w w':=fun b cur T hb hT=>by
 refine (h.block b (Array.getElem?_eq_some_iff.1 hb).1 (fun e=>?_)).trans hb
 obtain⟨v,hv⟩:=hR.row_
 rw[e,show w.heap[R]?=_ from hv] at hb
 cases hb
 exact absurd hT (by decide)
def LTook{α:Type}(p:List Ln→Option (α × List Ln))(a:Addr)(B R:Nat)(L:List Ln)(w:World)(A:α→Ending→World→Prop)(e:Ending)(w':World):Prop :=
 OnlyR R w w'∧((∃ x L',p L=some (x,L')∧A x e w'∧LwIn B R w' L')∨(p L=none∧Gone a e))
def qNext:List Ln→Option (Ln × List Ln)
 | []=>none
 | x :: r=>some (x,r)
theorem wordT(B R:Nat)(L:List Ln)(w:World)(h:LwIn B R w L) :
  Calls Tryz.prog 81 #[.pointer (some ⟨R,0,none⟩)] w fun e w'=>e=.returned (.string (bs (wordOf L)))∧w'=w:=by
 cases L with
 | nil =>
  obtain⟨u,c,c0⟩:∃ u c,w.cell? ⟨R,0,none⟩=some (.slice u 0 c):=by
   rcases h with⟨_,h⟩|⟨b,off,c,h,_⟩
   ·exact⟨none,0,h.cell 0⟩
   ·exact⟨_,_,h.cell 0⟩
  clear h
  go_enter Tryz.func81,Tryz.ntmps81
  go_wp2_with fail
  go_ret
  exact⟨rfl,rfl⟩
 | cons x r =>
  rcases h with⟨e,_⟩|⟨b,off,c,h0,h1,h2,h3,h4,h5⟩
  ·cases e
  ·have c0:w.cell? ⟨R,0,none⟩=some (.slice (some ⟨b,off,none⟩) (r.length+1) c):=h0.cell 0
   have c1:w.cell? ⟨b,off,none⟩=some (.string (bs x.1)):=by simpa using (h5 0 (by simp)).1
   have hc:r.length+1≤c:=h1
   clear h0 h1 h2 h3 h4 h5
   go_enter Tryz.func81,Tryz.ntmps81
   go_wp2_with fail
   go_ret
   exact⟨rfl,rfl⟩
theorem NmIn.only{B R:Nat}{w w':World}{v:Value}{l:List Int}(h:NmIn B R w v l)(k:OnlyR R w w'):NmIn B R w' v l:=⟨h.1.block fun g hg hlt=>k.block g hlt (h.2.2.2 g hg).2,h.2⟩
theorem take_box(w:World)(R:Nat)(v:Value)(cs:Array Value)(T:TypeId):At (((w.setCell ⟨R,0,none⟩ v).alloc (.cells cs T)).alloc (.cells cs T)) w.heap.size cs T:=by
 have h:=At.new (w.setCell ⟨R,0,none⟩ v) cs T
 rw[World.size_setCell] at h
 exact h.below ((Below.refl _ _).alloc (Nat.le_refl _) _)
theorem takeLnT(a:Addr)(B R:Nat)(L:List Ln)(w:World)(h:LwIn B R w L)(hv:Gv w 1 (errV a))(hB:B≤w.heap.size)(hRB:R<B) :
  Calls Tryz.prog 82 #[.pointer (some ⟨R,0,none⟩)] w fun e w'=>LTook qNext a B R L w (fun x e w'=>∃ v,e=.returned (.agg #[.string (bs x.1),v])∧NmIn B R w' v x.2) e w':=by
 have hR:=h.lt
 have A0:At (w.alloc (.cells #[.string ⟨#[]⟩,.slice none 0 0] 43)) w.heap.size #[.string ⟨#[]⟩,.slice none 0 0] 43:=At.new _ _ _
 have B0:Below w.heap.size w (w.alloc (.cells #[.string ⟨#[]⟩,.slice none 0 0] 43)):=(Below.refl _ _).alloc (Nat.le_refl _) _
 cases L with
 | nil =>
  have HO:Hid (OnlyR R w (w.alloc (.cells #[.string ⟨#[]⟩,.slice none 0 0] 43))):=OnlyR.below B0
  have W:=wantN a _ (hv.keep B0)
  obtain⟨u,c,c0⟩:∃ u c,(w.alloc (.cells #[.string ⟨#[]⟩,.slice none 0 0] 43)).cell? ⟨R,0,none⟩=some (.slice u 0 c):=by
   rcases h with⟨_,h⟩|⟨b,off,c,h,_⟩
   ·exact⟨none,0,(h.below B0).cell 0⟩
   ·exact⟨_,_,(h.below B0).cell 0⟩
  clear h hv A0 B0
  go_enter Tryz.func82,Tryz.ntmps82
  go_wp2_with fail
  refine W.mono ?_
  rintro e w1 ⟨rfl,h9⟩
  rw[←h9] at HO
  clear h9 W c0
  go_wp2_with fail
  exact⟨rfl,HO.out,.inr ⟨rfl,rfl⟩⟩
 | cons x r =>
  rcases h with⟨e,_⟩|⟨b,off,c,h0,h1,h2,h3,h4,h5⟩
  ·cases e
  have W:=wantY (w.alloc (.cells #[.string ⟨#[]⟩,.slice none 0 0] 43))
  obtain⟨k1,v,k2,k3⟩:=h5 0 (by simp)
  have k1':w.cell? ⟨b,off,none⟩=some (.string (bs x.1)):=by simpa using k1
  have k2':w.cell? ⟨b,off+1,none⟩=some v:=by simpa using k2
  have HV:Hid (NmIn B R w v x.2):=k3
  have HL:Hid (∀ i,i<r.length→w.cell? ⟨b,off+2+i*2,none⟩=some (.string (bs (r.getD i ln0).1))∧∃ v,w.cell? ⟨b,off+2+i*2+1,none⟩=some v∧NmIn B R w v (r.getD i ln0).2):=fun i hi=>by
   have:=h5 (i+1) (by simpa using hi)
   rw[Nat.add_mul,Nat.one_mul,Nat.add_comm (i*2) 2,←Nat.add_assoc] at this
   simpa using this
  obtain⟨vu,vc,rfl⟩:=k3.1.slice
  have HA:Hid (At w R #[.slice (some ⟨b,off,none⟩) (r.length+1) c] 83):=h0
  have hc:r.length+1≤c:=h1
  have hbR:b<w.heap.size:=by omega
  have d1:(w.alloc (.cells #[.string ⟨#[]⟩,.slice none 0 0] 43)).cell? ⟨b,off,none⟩=some (.string (bs x.1)):=(zcB (B0.block b hbR)).trans k1'
  have d2:(w.alloc (.cells #[.string ⟨#[]⟩,.slice none 0 0] 43)).cell? ⟨b,off+1,none⟩=some (.slice vu x.2.length vc):=(zcB (B0.block b hbR)).trans k2'
  have HA1:Hid (At (w.alloc (.cells #[.string ⟨#[]⟩,.slice none 0 0] 43)) R #[.slice (some ⟨b,off,none⟩) (r.length+1) c] 83):=h0.below B0
  have c0:(w.alloc (.cells #[.string ⟨#[]⟩,.slice none 0 0] 43)).cell? ⟨R,0,none⟩=some (.slice (some ⟨b,off,none⟩) (r.length+1) c):=HA1.out.cell 0
  have HR0:Hid (At (w.alloc (.cells #[.string ⟨#[]⟩,.slice none 0 0] 43)) w.heap.size #[.string ⟨#[]⟩,.slice none 0 0] 43):=A0
  have f0:(w.alloc (.cells #[.string ⟨#[]⟩,.slice none 0 0] 43)).frozen? ⟨R,0,none⟩=false:=zfH HA1.out
  have f1:w.frozen? ⟨R,0,none⟩=false:=zfH HA.out
  have HR1:Hid (R<w.heap.size):=hR
  clear h0 h1 h5 k1 k2 k3 hv A0 B0 k1' k2'
  go_enter Tryz.func82,Tryz.ntmps82
  go_wp2_with fail
  refine W.mono ?_
  rintro e w1 ⟨rfl,h9⟩
  have h8:=h9.symm
  clear h9 W
  subst h8
  go_wp2_with fail
  ·have hr0:r=[]:=List.length_eq_zero_iff.1 (by omega)
   subst hr0
   have HO:OnlyR R w (((w.setCell ⟨R,0,none⟩ (Value.slice (some ⟨b,off,none⟩) 0 0)).alloc (.cells #[.string (bs x.1),.slice vu x.2.length vc] 43)).alloc (.cells #[.string (bs x.1),.slice vu x.2.length vc] 43)):=((OnlyR.refl R w).set 0 (Value.slice (some ⟨b,off,none⟩) 0 0)).trans (OnlyR.below (((Below.refl _ _).alloc (Nat.le_refl _) _).alloc (by simp) _))
   have HX:At (((w.setCell ⟨R,0,none⟩ (Value.slice (some ⟨b,off,none⟩) 0 0)).alloc (.cells #[.string (bs x.1),.slice vu x.2.length vc] 43)).alloc (.cells #[.string (bs x.1),.slice vu x.2.length vc] 43)) w.heap.size #[.string (bs x.1),.slice vu x.2.length vc] 43:=take_box _ _ _ _ _
   have HS:At (((w.setCell ⟨R,0,none⟩ (Value.slice (some ⟨b,off,none⟩) 0 0)).alloc (.cells #[.string (bs x.1),.slice vu x.2.length vc] 43)).alloc (.cells #[.string (bs x.1),.slice vu x.2.length vc] 43)) R #[(Value.slice (some ⟨b,off,none⟩) 0 0)] 83:=(At.set0 HA.out _).below (((Below.refl _ _).alloc (Nat.le_refl _) _).alloc (by simp) _)
   exact bodyPost_ret (v:=.agg #[.string (bs x.1),.slice vu x.2.length vc]) ((results_cell_row Tryz.results82 _ _ w.heap.size 43 _ (0,0) _ rfl HX Tryz.underlying43 rfl (by kernel_rfl)).trans (by rfl)) rfl ⟨HO,.inl ⟨x,[],rfl,⟨_,rfl,HV.out.only HO⟩,.inr ⟨b,off,0,HS,Nat.le_refl _,by omega,h3,⟨h4.1,Nat.le_trans h4.2 HO.size⟩,fun i hi=>absurd hi (by simp)⟩⟩⟩
  ·have HO:OnlyR R w (((w.setCell ⟨R,0,none⟩ (Value.slice (some ⟨b,off+2,none⟩) r.length (c-1))).alloc (.cells #[.string (bs x.1),.slice vu x.2.length vc] 43)).alloc (.cells #[.string (bs x.1),.slice vu x.2.length vc] 43)):=((OnlyR.refl R w).set 0 (Value.slice (some ⟨b,off+2,none⟩) r.length (c-1))).trans (OnlyR.below (((Below.refl _ _).alloc (Nat.le_refl _) _).alloc (by simp) _))
   have HX:At (((w.setCell ⟨R,0,none⟩ (Value.slice (some ⟨b,off+2,none⟩) r.length (c-1))).alloc (.cells #[.string (bs x.1),.slice vu x.2.length vc] 43)).alloc (.cells #[.string (bs x.1),.slice vu x.2.length vc] 43)) w.heap.size #[.string (bs x.1),.slice vu x.2.length vc] 43:=take_box _ _ _ _ _
   have HS:At (((w.setCell ⟨R,0,none⟩ (Value.slice (some ⟨b,off+2,none⟩) r.length (c-1))).alloc (.cells #[.string (bs x.1),.slice vu x.2.length vc] 43)).alloc (.cells #[.string (bs x.1),.slice vu x.2.length vc] 43)) R #[(Value.slice (some ⟨b,off+2,none⟩) r.length (c-1))] 83:=(At.set0 HA.out _).below (((Below.refl _ _).alloc (Nat.le_refl _) _).alloc (by simp) _)
   exact bodyPost_ret (v:=.agg #[.string (bs x.1),.slice vu x.2.length vc]) ((results_cell_row Tryz.results82 _ _ w.heap.size 43 _ (0,0) _ rfl HX Tryz.underlying43 rfl (by kernel_rfl)).trans (by rfl)) rfl ⟨HO,.inl ⟨x,r,rfl,⟨_,rfl,HV.out.only HO⟩,.inr ⟨b,off+2,c-1,HS,by omega,by omega,h3,⟨h4.1,Nat.le_trans h4.2 HO.size⟩,fun i hi=>by
    obtain⟨g1,v1,g2,g3⟩:=HL.out i hi
    exact⟨(zcB (HO.block b hbR h3)).trans g1,v1,(zcB (HO.block b hbR h3)).trans g2,g3.only HO⟩⟩⟩⟩
end Go.Proofs.YtkpmiikafconmaaGreatDoor
