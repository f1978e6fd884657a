import Derived.Below
import Derived.Test.YtkpmiikafconmaaGreatDoorRdr2Jp
import Derived.Deep.AppendLies
import Derived.Deep.DeepAppendRoom
import Derived.ArgAppend
import Derived.Deep.RegionHeld2
import Derived.Test.YtkpmiikafconmaaGreatDoorMemJp
namespace Go.Proofs.YtkpmiikafconmaaGreatDoor
open Go.RowKit
structure Abv(C:World→Prop) where
 v:World
 ok:C v
theorem wp_region_abv{P:Program}{id:Nat}{Q:Exit→Act→World→Prop}{a:Act}{w:World}{l:List Oper}(C:World→Prop)(hm:P.follows .mixedOrders=true)(hB:Region.lexB .any l.toArray=true)(h0:C w.drew)
  (h:wpQuiet P l.toArray (fun w'=>∃ x:Abv C,w'=x.v) (fun a'=>∀ w',(∃ x:Abv C,w'=x.v)→Q .normal a' w') l a):(Code.region id l.toArray true).wp P Q a w :=
 wp_region_quiet (C:=fun w'=>∃ x:Abv C,w'=x.v) hm hB ⟨⟨w.drew,h0⟩,rfl⟩ (by simpa using h)
theorem abv_ne{C:World→Prop}{w:World}(h:C w):Nonempty (Abv C):=⟨⟨w,h⟩⟩
theorem drew_below{b:Nat}{w w':World}(h:Below b w w'):Below b w w'.drew:=⟨h.os,h.tape,h.output,h.size,h.block⟩
theorem abv_call{P:Program}{f:FuncId}{args:Array Value}{w:World}{v:Value}(x:Abv (fun v=>Below w.heap.size w v))
  (h:Calls P f args x.v fun e w'=>e=.returned v∧Below x.v.heap.size x.v w'):Calls P f args x.v fun e w''=>e=.returned v∧∃ y:Abv (fun v=>Below w.heap.size w v),w''=y.v :=
 h.mono fun _ w' ⟨he,hb⟩=>⟨he,⟨w',x.ok.trans (hb.mono x.ok.size)⟩,rfl⟩
set_option linter.unusedVariables false
abbrev Tmap:=Nat→Option (TypeId × Nat)
def szT(T:TypeId):Nat:=if T=2 then 1 else if T=41 then 1 else if T=92 then 2 else if T=95 then 7 else 6
def SlN(M:Tmap)(T:TypeId)(v:Value)(n:Nat):Prop:=∃ u c,v=.slice u n c∧(n=0∨∃ g m,u=some ⟨g,0,none⟩∧M g=some (T,m)∧n≤m)
def SlV(M:Tmap)(N:Nat)(T:TypeId)(v:Value):Prop:=∃ n,n≤N∧SlN M T v n
def SlV1(M:Tmap)(N:Nat)(T:TypeId)(v:Value):Prop:=∃ n,1≤n∧n≤N∧SlN M T v n
theorem SlV1.slv{M:Tmap}{N:Nat}{T:TypeId}{v:Value}(h:SlV1 M N T v):SlV M N T v:=by
 obtain⟨n,_,h2,h3⟩:=h
 exact⟨n,h2,h3⟩
def ElOk(M:Tmap)(N:Nat)(T:TypeId)(c:Nat→Option Value):Prop :=
 (T=2→∃ z:Int,c 0=some (.int .i64 z))∧(T=41→∃ v,c 0=some v∧SlV M N 2 v) ∧
 (T=92→(∃ z:Int,c 0=some (.int .i64 z))∧∃ v,c 1=some v∧SlV1 M N 2 v) ∧
 (T=95→(∀ j,j<6→∃ z:Int,c j=some (.int .i64 z))∧∃ v,c 6=some v∧SlV M N 2 v) ∧
 (T=74→(∃ v,c 0=some v∧SlV M N 92 v)∧(∃ v,c 1=some v∧SlV M N 95 v)∧∀ j,2≤j→j<6→∃ z:Int,c j=some (.int .i64 z))
def TH(base:Nat)(M:Tmap)(N:Nat)(v:World):Prop:=∀ b T m,M b=some (T,m)→base≤b∧∃ cur,v.heap[b]?=some (.cells cur T (0,0))∧∀ i,i<m→ElOk M N T (fun j=>cur[i*szT T+j]?)
def Ext(M M':Tmap):Prop:=∀ b T m,M b=some (T,m)→∃ m',m≤m'∧M' b=some (T,m')
theorem Ext.refl(M:Tmap):Ext M M:=fun _ _ m h=>⟨m,Nat.le_refl _,h⟩
theorem Ext.trans{A B C:Tmap}(h:Ext A B)(k:Ext B C):Ext A C:=fun b T m hb=>by
 obtain⟨m1,h1,h2⟩:=h b T m hb
 obtain⟨m2,k1,k2⟩:=k b T m1 h2
 exact⟨m2,Nat.le_trans h1 k1,k2⟩
theorem SlN.ext{M M':Tmap}{T:TypeId}{v:Value}{n:Nat}(h:SlN M T v n)(k:Ext M M'):SlN M' T v n:=by
 obtain⟨u,c,hv,h⟩:=h
 refine⟨u,c,hv,?_⟩
 rcases h with h|⟨g,m,hu,hg,hm⟩
 ·exact .inl h
 ·obtain⟨m',h1,h2⟩:=k g T m hg
  exact .inr ⟨g,m',hu,h2,Nat.le_trans hm h1⟩
theorem SlV.ext{M M':Tmap}{N N':Nat}{T:TypeId}{v:Value}(h:SlV M N T v)(k:Ext M M')(hn:N≤N'):SlV M' N' T v:=by
 obtain⟨n,h1,h2⟩:=h
 exact⟨n,Nat.le_trans h1 hn,h2.ext k⟩
theorem SlV1.ext{M M':Tmap}{N N':Nat}{T:TypeId}{v:Value}(h:SlV1 M N T v)(k:Ext M M')(hn:N≤N'):SlV1 M' N' T v:=by
 obtain⟨n,h0,h1,h2⟩:=h
 exact⟨n,h0,Nat.le_trans h1 hn,h2.ext k⟩
theorem ElOk.ext{M M':Tmap}{N N':Nat}{T:TypeId}{c:Nat→Option Value}(h:ElOk M N T c)(k:Ext M M')(hn:N≤N'):ElOk M' N' T c:=by
 obtain⟨h1,h2,h3,h4,h5⟩:=h
 refine⟨h1,fun e=>?_,fun e=>?_,fun e=>?_,fun e=>?_⟩
 ·obtain⟨v,a,b⟩:=h2 e;exact⟨v,a,b.ext k hn⟩
 ·obtain⟨z,v,a,b⟩:=h3 e;exact⟨z,v,a,b.ext k hn⟩
 ·obtain⟨z,v,a,b⟩:=h4 e;exact⟨z,v,a,b.ext k hn⟩
 ·obtain⟨⟨v,a,b⟩,⟨v',a',b'⟩,z⟩:=h5 e;exact⟨⟨v,a,b.ext k hn⟩,⟨v',a',b'.ext k hn⟩,z⟩
def put(M:Tmap)(g:Nat)(T:TypeId)(m:Nat):Tmap:=fun b=>if b=g then some (T,m) else M b
theorem put_ext{M:Tmap}{g:Nat}{T:TypeId}{m:Nat}(h:M g=none∨∃ m0,m0≤m∧M g=some (T,m0)):Ext M (put M g T m):=fun b T' m' hb=>by
 unfold put
 by_cases e:b=g
 ·subst e
  rcases h with h|⟨m0,h1,h2⟩
  ·rw[h] at hb;cases hb
  ·rw[h2] at hb
   cases hb
   exact⟨m,h1,by rw[if_pos rfl]⟩
 ·exact⟨m',Nat.le_refl _,by rw[if_neg e];exact hb⟩
theorem TH.put{base g m N N':Nat}{M:Tmap}{T:TypeId}{v v':World}{cur:Array Value}(h:TH base M N v)(hn:N≤N')(hg:base≤g)(hM:M g=none∨∃ m0,m0≤m∧M g=some (T,m0))(hc:v'.heap[g]?=some (.cells cur T (0,0)))
  (ho:∀ b,b≠g→(∃ p,M b=some p)→v'.heap[b]?=v.heap[b]?) (he:∀ i,i<m→ElOk (put M g T m) N' T (fun j=>cur[i*szT T+j]?)):TH base (put M g T m) N' v':=fun b T' m' hb=>by
 unfold Proofs.YtkpmiikafconmaaGreatDoor.put at hb
 by_cases e:b=g
 ·subst e
  rw[if_pos rfl] at hb
  cases hb
  exact⟨hg,cur,hc,he⟩
 ·rw[if_neg e] at hb
  obtain⟨h1,cur',h2,h3⟩:=h b T' m' hb
  exact⟨h1,cur',(ho b e ⟨_,hb⟩).trans h2,fun i hi=>(h3 i hi).ext (put_ext hM) hn⟩
theorem TH.keep{base N N':Nat}{M:Tmap}{v v':World}(h:TH base M N v)(hn:N≤N')(ho:∀ b,(∃ p,M b=some p)→v'.heap[b]?=v.heap[b]?):TH base M N' v':=fun b T m hb=>by
 obtain⟨h1,cur,h2,h3⟩:=h b T m hb
 exact⟨h1,cur,(ho b ⟨_,hb⟩).trans h2,fun i hi=>(h3 i hi).ext (Ext.refl _) hn⟩
theorem TH.lt{base N b:Nat}{M:Tmap}{v:World}(h:TH base M N v)(hb:∃ p,M b=some p):base≤b∧b<v.heap.size:=by
 obtain⟨⟨T,m⟩,hb⟩:=hb
 obtain⟨h1,cur,h2,_⟩:=h b T m hb
 exact⟨h1,(Array.getElem?_eq_some_iff.1 h2).1⟩
theorem TH.none{base N b:Nat}{M:Tmap}{v:World}(h:TH base M N v)(hb:v.heap.size≤b):M b=none:=by
 cases e:M b with
 | none=>rfl
 | some p=>have:=(h.lt ⟨p,e⟩).2;omega
def RowT(base:Nat)(M:Tmap)(T:TypeId)(s:Value)(n:Nat)(v:World):Prop :=
 (s=.slice none 0 0∧n=0)∨∃ g cap cur,s=.slice (some ⟨g,0,none⟩) n cap∧base≤g∧M g=some (T,n)∧v.heap[g]?=some (.cells cur T (0,0))∧n≤cap∧cap≤maxLen∧cur.size=cap*szT T
theorem RowT.own{base n:Nat}{M:Tmap}{T:TypeId}{s:Value}{v:World}(h:RowT base M T s n v):∃ xs,v.ownsRow base T (szT T) s n xs:=by
 rcases h with⟨rfl,rfl⟩|⟨g,cap,cur,rfl,hg,_,hc,hn,hm,hs⟩
 ·exact⟨[],by simp,.inl ⟨rfl,rfl⟩⟩
 ·refine⟨cur.toList.take (n*szT T),?_,.inr ⟨g,cap,cur,rfl,hg,hc,hn,hm,hs,rfl⟩⟩
  have h9:=Nat.mul_le_mul_right (szT T) hn
  rw[List.length_take,Array.length_toList,hs]
  exact Nat.min_eq_left h9
theorem RowT.sl{base n:Nat}{M:Tmap}{T:TypeId}{s:Value}{v:World}(h:RowT base M T s n v):SlN M T s n:=by
 rcases h with⟨rfl,rfl⟩|⟨g,cap,cur,rfl,hg,hM,hc,hn,hm,hs⟩
 ·exact⟨none,0,rfl,.inl rfl⟩
 ·exact⟨_,cap,rfl,.inr ⟨g,n,rfl,hM,Nat.le_refl _⟩⟩
theorem RowT.keep{base n:Nat}{M:Tmap}{T:TypeId}{s:Value}{v v':World}(h:RowT base M T s n v)(ho:∀ b,(∃ p,M b=some p)→v'.heap[b]?=v.heap[b]?):RowT base M T s n v':=by
 rcases h with h|⟨g,cap,cur,hv,hg,hM,hc,hn,hm,hs⟩
 ·exact .inl h
 ·exact .inr ⟨g,cap,cur,hv,hg,hM,(ho g ⟨_,hM⟩).trans hc,hn,hm,hs⟩
theorem ElOk.congr{M:Tmap}{N:Nat}{T:TypeId}{c d:Nat→Option Value}(hT:T=2∨T=41∨T=92∨T=95∨T=74)(h:ElOk M N T c)(e:∀ j,j<szT T→d j=c j):ElOk M N T d:=by
 obtain⟨h1,h2,h3,h4,h5⟩:=h
 refine⟨fun q=>?_,fun q=>?_,fun q=>?_,fun q=>?_,fun q=>?_⟩
 ·rw[e 0 (by rw[q];decide)];exact h1 q
 ·rw[e 0 (by rw[q];decide)];exact h2 q
 ·rw[e 0 (by rw[q];decide),e 1 (by rw[q];decide)];exact h3 q
 ·rw[e 6 (by rw[q];decide)]
  exact⟨fun j hj=>by rw[e j (by rw[q,show szT 95=7 by decide];omega)];exact (h4 q).1 j hj,(h4 q).2⟩
 ·rw[e 0 (by rw[q];decide),e 1 (by rw[q];decide)]
  exact⟨(h5 q).1,(h5 q).2.1,fun j h2 hj=>by rw[e j (by rw[q,show szT 74=6 by decide];omega)];exact (h5 q).2.2 j h2 hj⟩
theorem szT_pos(T:TypeId):0<szT T:=by unfold szT;split<;>(try split)<;>(try split)<;>(try split)<;>omega
theorem own_low{w:World}{b b':Nat}{e:TypeId}{s:Nat}{v:Value}{n:Nat}{xs:List Value}(h:w.ownsRow b e s v n xs)(k:b'≤b):w.ownsRow b' e s v n xs:=by
 obtain⟨h1,h2⟩:=h
 refine⟨h1,?_⟩
 rcases h2 with h2|⟨g,cap,cur,hv,hb,r⟩
 ·exact .inl h2
 ·exact .inr ⟨g,cap,cur,hv,Nat.le_trans k hb,r⟩
theorem RowT.push{base n N N' g' cap':Nat}{M:Tmap}{T:TypeId}{s:Value}{v w':World}{xs news:List Value}(h:RowT base M T s n v)(th:TH base M N v)(hN:N≤N')(hT:T=2∨T=41∨T=92∨T=95∨T=74)
  (hx:v.ownsRow base T (szT T) s n xs) (hb:base≤v.heap.size) (ho:w'.ownsRow base T (szT T) (.slice (some ⟨g',0,none⟩) (n+1) cap') (n+1) (xs++news)) (hg:(s.ownBlock=some g'∧v.grownBy w' (some g'))∨(v.heap.size≤g'∧v.grownBy w' none))
  (hl:news.length=szT T) (he:ElOk (put M g' T (n+1)) N' T (fun j=>news[j]?)) :
  TH base (put M g' T (n+1)) N' w'∧RowT base (put M g' T (n+1)) T (.slice (some ⟨g',0,none⟩) (n+1) cap') (n+1) w'∧Ext M (put M g' T (n+1))∧(∀ b,b<v.heap.size→M b=none→w'.heap[b]?=v.heap[b]?∧put M g' T (n+1) b=none)∧(∀ b,b≠g'→(∃ p,M b=some p)→w'.heap[b]?=v.heap[b]?):=by
 obtain⟨hlen,ho2⟩:=ho
 rcases ho2 with⟨hbad,_⟩|⟨g1,cap1,cur1,hv1,hb1,hc1,hn1,hm1,hs1,ht1⟩
 ·cases hbad
 cases hv1
 have hM:M g'=none∨∃ m0,m0≤n+1∧M g'=some (T,m0):=by
  rcases hg with⟨hl,_⟩|⟨hl,_⟩
  ·rcases h with⟨rfl,_⟩|⟨g,cap,cur,rfl,hg0,hM,hc,hn0,hm0,hs0⟩
   ·simp[Value.ownBlock] at hl
   ·simp[Value.ownBlock] at hl
    subst hl
    exact .inr ⟨n,by omega,hM⟩
  ·exact .inl (th.none hl)
 have hother:∀ b,b≠g'→b<v.heap.size→w'.heap[b]?=v.heap[b]?:=fun b hbg hbl=>by
  rcases hg with⟨_,hg⟩|⟨_,hg⟩
  ·exact hg.block b hbl (by simp;omega)
  ·exact hg.block b hbl (by simp)
 have hel:∀ i,i<n+1→ElOk (put M g' T (n+1)) N' T (fun j=>cur1[i*szT T+j]?):=fun i hi=>by
  have hrow:∀ k,k<(n+1)*szT T→cur1[k]?=(xs++news)[k]?:=fun k hk=>by
   rw[←ht1,List.getElem?_take,if_pos hk];simp
  have hxl:=hx.1
  by_cases e:i=n
  ·subst e
   refine he.congr hT fun j hj=>?_
   rw[hrow _ (by rw[Nat.add_mul];omega),List.getElem?_append_right (by omega),hxl,Nat.add_sub_cancel_left]
  ·have hin:i<n:=by omega
   have hmul:=Nat.mul_le_mul_right (szT T) (show i+1≤n by omega)
   rw[Nat.add_mul] at hmul
   rcases h with⟨_,h0⟩|⟨g,cap,cur,rfl,hg0,hM0,hc,hn0,hm0,hs0⟩
   ·omega
   obtain⟨_,cur2,hc2,h3⟩:=th g T n hM0
   rw[hc] at hc2
   cases hc2
   refine ((h3 i hin).ext (put_ext hM) hN).congr hT fun j hj=>?_
   have hlt:i*szT T+j<n*szT T:=by omega
   rw[hrow _ (by rw[Nat.add_mul];omega),List.getElem?_append_left (by omega)]
   rcases hx.2 with⟨hbad,_⟩|⟨g3,cap3,cur3,hv3,_,hc3,_,_,_,ht3⟩
   ·cases hbad
   ·cases hv3
    rw[hc] at hc3
    cases hc3
    rw[←ht3,List.getElem?_take,if_pos hlt]
    simp
 refine⟨th.put hN hb1 hM hc1 (fun b hbg hp=>hother b hbg (th.lt hp).2) hel,.inr ⟨g',cap',cur1,rfl,hb1,by simp[put],hc1,hn1,hm1,hs1⟩,put_ext hM,fun b hbl hbn=>?_,fun b hbg hp=>hother b hbg (th.lt hp).2⟩
 have hbg:b≠g':=fun e=>by
  subst e
  rcases hM with hM|⟨m0,_,hM⟩
  ·rcases hg with⟨hl,_⟩|⟨hl,_⟩
   ·rcases h with⟨rfl,_⟩|⟨g,cap,cur,rfl,hg0,hM0,_⟩
    ·simp[Value.ownBlock] at hl
    ·simp[Value.ownBlock] at hl
     subst hl
     rw[hM0] at hbn;cases hbn
   ·omega
  ·rw[hM] at hbn;cases hbn
 exact⟨hother b hbg hbl,by simp[put,hbg,hbn]⟩
structure Pushed(base:Nat)(M M':Tmap)(N':Nat)(T:TypeId)(n:Nat)(v w':World)(s':Value):Prop where
 th:TH base M' N' w'
 row:RowT base M' T s' (n+1) w'
 ext:Ext M M'
 out:∀ b,b<v.heap.size→M b=none→w'.heap[b]?=v.heap[b]?∧M' b=none
 other:∀ b T' m',M b=some (T',m')→T'≠T→w'.heap[b]?=v.heap[b]?∧M' b=some (T',m')
 os:w'.os=v.os
 tape:w'.tape=v.tape
 output:w'.output=v.output
 size:v.heap.size≤w'.heap.size
theorem RowT.pushed{base n N N' g' cap':Nat}{M:Tmap}{T:TypeId}{s:Value}{v w':World}{xs news:List Value}(h:RowT base M T s n v)(th:TH base M N v)(hN:N≤N')(hT:T=2∨T=41∨T=92∨T=95∨T=74)
  (hx:v.ownsRow base T (szT T) s n xs) (hb:base≤v.heap.size) (ho:w'.ownsRow base T (szT T) (.slice (some ⟨g',0,none⟩) (n+1) cap') (n+1) (xs++news)) (hg:(s.ownBlock=some g'∧v.grownBy w' (some g'))∨(v.heap.size≤g'∧v.grownBy w' none))
  (hl:news.length=szT T) (he:∀ M',Ext M M'→ElOk M' N' T (fun j=>news[j]?)):Pushed base M (put M g' T (n+1)) N' T n v w' (.slice (some ⟨g',0,none⟩) (n+1) cap'):=by
 have hM:M g'=none∨∃ m0,m0≤n+1∧M g'=some (T,m0):=by
  rcases hg with⟨hl,_⟩|⟨hl,_⟩
  ·rcases h with⟨rfl,_⟩|⟨g,cap,cur,rfl,hg0,hM,_⟩
   ·simp[Value.ownBlock] at hl
   ·simp[Value.ownBlock] at hl
    subst hl
    exact .inr ⟨n,by omega,hM⟩
  ·exact .inl (th.none hl)
 obtain⟨h1,h2,h3,h4,h5⟩:=h.push th hN hT hx hb ho hg hl (he _ (put_ext hM))
 have hne:∀ b T' m',M b=some (T',m')→T'≠T→b≠g':=fun b T' m' hb hT e=>by
  subst e
  rcases hM with hM|⟨m0,_,hM⟩
  ·rw[hM] at hb;cases hb
  ·rw[hM] at hb
   cases hb
   exact hT rfl
 refine⟨h1,h2,h3,h4,fun b T' m' hb hT=>⟨h5 b (hne b T' m' hb hT) ⟨_,hb⟩,by unfold put;rw[if_neg (hne b T' m' hb hT)];exact hb⟩,?_,?_,?_,?_⟩
 all_goals rcases hg with⟨_,hg⟩|⟨_,hg⟩
 ·exact hg.os
 ·exact hg.os
 ·exact hg.tape
 ·exact hg.tape
 ·exact hg.output
 ·exact hg.output
 ·exact hg.size
 ·exact hg.size
theorem Pushed.row2{base N' n n2:Nat}{M M':Tmap}{T T2:TypeId}{v w':World}{s' s2:Value}(h:Pushed base M M' N' T n v w' s')(k:RowT base M T2 s2 n2 v)(hT:T2≠T):RowT base M' T2 s2 n2 w':=by
 rcases k with k|⟨g,cap,cur,hv,hg,hM,hc,hn,hm,hs⟩
 ·exact .inl k
 ·obtain⟨e1,e2⟩:=h.other g T2 n2 hM hT
  exact .inr ⟨g,cap,cur,hv,hg,e2,e1.trans hc,hn,hm,hs⟩
theorem run_row{base n N N':Nat}{M:Tmap}{T t ty:TypeId}{s:Value}{v:World}(i:TypeInfo)(z:Value)(bytes:Nat)(ht:Tryz.prog.underlying t=some (.slice T))(hi:Tryz.prog.info? T=some i)(hz:i.zero=some z)(hsz:i.size=szT T)(hby:i.bytes=bytes)(hzs:z.cells.size=szT T)(hbm:bytes≤1000)
  (h:RowT base M T s n v) (th:TH base M N v) (hN:N≤N') (hT:T=2∨T=41∨T=92∨T=95∨T=74) (hb:base≤v.heap.size) (hn:n≤100000)
  (ad:Addr) (c:Nat) (news:List Value) (hl:news.length=szT T) (hnews:∀ j u,news[j]?=some u→v.cell? (ad.add j)=some u) (h1:∀ u∈news,u.oneCell'=true) (he:∀ M',Ext M M'→ElOk M' N' T (fun j=>news[j]?)) :
  ∃ s' w' M',(Builtin.append_ #[t,t] ty #[s,.slice (some ad) 1 c]).run Tryz.prog v=.ok s' w'∧Pushed base M M' N' T n v w' s':=by
 have hmul:(n+1)*bytes≤140737488355328:=Nat.le_trans (Nat.mul_le_mul (show n+1≤100001 by omega) hbm) (by decide)
 obtain⟨xs,hx⟩:=h.own
 rcases h with⟨rfl,rfl⟩|⟨g,cap,cur,rfl,hg,hM,hc,hnc,hm,hs⟩
 ·have hx0:xs=[]:=by have:=hx.1;simpa using this
  subst hx0
  obtain⟨v',w',hr,h2,h3,_,_⟩:=run_append_own_at (P:=Tryz.prog) v v.heap.size t ty T i z (szT T) bytes ht hi hz hsz hby hzs (szT_pos T) (.slice none 0 0) 0 [] ⟨by simp,.inl ⟨rfl,rfl⟩⟩ ad 1 c news (by omega) hnews h1 (by unfold maxLen;omega) (by simpa using hmul) (Nat.le_refl _)
  obtain⟨g',cap',rfl,hg',_⟩:=h2.form (by omega)
  refine⟨_,w',_,hr,RowT.pushed (xs:=[]) (news:=news) (.inl ⟨rfl,rfl⟩) th hN hT hx hb ?_ (.inr ⟨hg',h3⟩) hl he⟩
  exact own_low (by simpa using h2) hb
 ·by_cases hroom:n+1≤cap
  ·obtain⟨w',hr,h2,h3⟩:=run_append_own_spare (P:=Tryz.prog) v base t ty T i (szT T) ht hi hsz g n cap xs hx ad 1 c news (by omega) hnews h1 hroom
   exact⟨_,w',_,hr,RowT.pushed (.inr ⟨g,cap,cur,rfl,hg,hM,hc,hnc,hm,hs⟩) th hN hT hx hb h2 (.inl ⟨rfl,h3⟩) hl he⟩
  ·have hxl:=hx.1
   obtain⟨v',w',hr,h2,h3⟩:=run_append_arg_grows (P:=Tryz.prog) v t ty T i z (szT T) bytes ht hi hz hsz hby hzs (szT_pos T) ⟨g,0,none⟩ n cap xs hxl (hx.cells rfl) ad 1 c news (by omega) hnews (by omega) (by unfold maxLen;omega) hmul
   obtain⟨g',cap',rfl,hg',_⟩:=h2.form (by omega)
   exact⟨_,w',_,hr,RowT.pushed (.inr ⟨g,cap,cur,rfl,hg,hM,hc,hnc,hm,hs⟩) th hN hT hx hb (own_low h2 hb) (.inr ⟨hg',h3⟩) hl he⟩
theorem wp_row{w:World}{o:Oper}{a:Act}{K:Act→World→Prop}{Q:Exit→Act→World→Prop}(s x:Operand)(t:TypeId)(ho:o.op=.call { callee:=.builtin .append,args:=#[s,x],argTypes:=#[t,t] })
  {sv xv:Value} (hs:a.eval s=sv) (hx:a.eval x=xv) {R:World→Value→Tmap→Prop} (hr:∀ ty,∃ s' w' M',(Builtin.append_ #[t,t] ty #[sv,xv]).run Tryz.prog w=.ok s' w'∧R w' s' M') (h:∀ s' w' M',R w' s' M'→K (a.put o.dst s') w'):o.wp Tryz.prog a w K Q:=by
 obtain⟨s',w',M',hr,hR⟩:=hr o.type
 unfold Oper.wp execOp
 simp only[ho,resolve,invoke,builtin,Sem.run_bind,Sem.run_pure,Result.andThen_ok,List.map_toArray,List.map_cons,List.map_nil,hs,hx,hr]
 exact h s' w' M' hR
theorem wpList_row{w:World}{ops:Array Oper}{rest:List Oper}{o:Oper}{a:Act}{Q:Exit→Act→World→Prop}(hgd:o.guard=none)(s x:Operand)(t:TypeId)(ho:o.op=.call { callee:=.builtin .append,args:=#[s,x],argTypes:=#[t,t] })
  {sv xv:Value} (hs:a.eval s=sv) (hx:a.eval x=xv) {R:World→Value→Tmap→Prop} (hr:∀ ty,∃ s' w' M',(Builtin.append_ #[t,t] ty #[sv,xv]).run Tryz.prog w=.ok s' w'∧R w' s' M') (h:∀ s' w' M',R w' s' M'→wpList Tryz.prog ops Q rest (a.put o.dst s') w'):wpList Tryz.prog ops Q (o :: rest) a w :=
 wpList_plain hgd fun _ hK=>wp_row s x t ho hs hx hr fun s' w' M' hR=>hK _ _ (h s' w' M' hR)
theorem step_row{w:World}{ops:Array Oper}{o:Oper}{a:Act}{K:Act→World→Prop}{Q:Exit→Act→World→Prop}{E:Prop}(hgd:o.guard=none)(s x:Operand)(t:TypeId)(ho:o.op=.call { callee:=.builtin .append,args:=#[s,x],argTypes:=#[t,t] })
  {sv xv:Value} (hs:a.eval s=sv) (hx:a.eval x=xv) {R:World→Value→Tmap→Prop} (hr:∀ ty,∃ s' w' M',(Builtin.append_ #[t,t] ty #[sv,xv]).run Tryz.prog w=.ok s' w'∧R w' s' M') (h:∀ s' w' M',R w' s' M'→K (a.put o.dst s') w') :
  if Region.wanted o (yielded ops a.tmps)=true then Oper.wp Tryz.prog o a w K Q else E:=by
 rw[if_pos (by simp[Region.wanted,hgd])]
 exact wp_row s x t ho hs hx hr h
structure GRec where
 pv:Value
 bv:Value
 phv:Value
 iv:Value
 idv:Value
 wsv:Value
 rv:Value
 sv:Value
 np:Nat
 nb:Nat
 nph:Nat
 ni:Nat
 nid:Nat
 nr:Nat
 ret:Int
 kd:Int
 ta:Int
 tx:Int
 ty:Int
 nx:Int
def gcells(g:Nat)(S:GRec):Array Value:=#[.pointer (some ⟨g,0,none⟩),S.pv,.int .i64 S.ret,S.bv,S.phv,S.iv,.int .i64 S.kd,.int .i64 S.ta,.int .i64 S.tx,.int .i64 S.ty,.int .i64 S.nx,S.idv,S.wsv,S.rv,S.sv]
structure Gok(base g G:Nat)(a0:Option Addr)(len cap:Nat)(M:Tmap)(N:Nat)(S:GRec)(v:World):Prop where
 rd:Rd g a0 len cap v
 gb:g<base
 bv:base≤v.heap.size
 mG:M G=none
 nG:base≤G
 cells:v.heap[G]?=some (.cells (gcells g S) 141 (0,0))
 th:TH base M N v
 p:RowT base M 2 S.pv S.np v
 b:RowT base M 74 S.bv S.nb v
 ph:RowT base M 92 S.phv S.nph v
 i:RowT base M 95 S.iv S.ni v
 ids:(S.idv=.slice none 0 0∧S.wsv=.slice none 0 0∧S.nid=0)∨(0<S.nid∧SlN M 2 S.idv S.nid∧SlN M 2 S.wsv S.nid)
 rets:SlN M 2 S.rv S.nr
 pars:SlN M 41 S.sv S.nr
 bn:S.np≤N∧S.nb≤N∧S.nph≤N∧S.ni≤N∧S.nid≤N∧S.nr≤2∧0≤S.nx∧S.nx≤N∧N≤10000
structure Mov(g G:Nat)(M M':Tmap)(v v':World):Prop where
 ext:Ext M M'
 out:∀ b,b<v.heap.size→b≠g→b≠G→M b=none→v'.heap[b]?=v.heap[b]?∧M' b=none
 hold:∀ b T m,M b=some (T,m)→T≠95→v'.heap[b]?=v.heap[b]?∧M' b=some (T,m)
 os:v'.os=v.os
 tape:v'.tape=v.tape
 output:v'.output=v.output
 size:v.heap.size≤v'.heap.size
theorem Mov.refl(g G:Nat)(M:Tmap)(v:World):Mov g G M M v v:=⟨Ext.refl _,fun _ _ _ _ h=>⟨rfl,h⟩,fun _ _ _ h _=>⟨rfl,h⟩,rfl,rfl,rfl,Nat.le_refl _⟩
theorem Mov.trans{g G:Nat}{A B C:Tmap}{a b c:World}(h:Mov g G A B a b)(k:Mov g G B C b c):Mov g G A C a c :=
 ⟨h.ext.trans k.ext,fun x hx h1 h2 h3=>by
  obtain⟨e1,e2⟩:=h.out x hx h1 h2 h3
  obtain⟨f1,f2⟩:=k.out x (Nat.lt_of_lt_of_le hx h.size) h1 h2 e2
  exact⟨f1.trans e1,f2⟩,fun x T m hx hT=>by
  obtain⟨e1,e2⟩:=h.hold x T m hx hT
  obtain⟨f1,f2⟩:=k.hold x T m e2 hT
  exact⟨f1.trans e1,f2⟩,k.os.trans h.os,k.tape.trans h.tape,k.output.trans h.output,Nat.le_trans h.size k.size⟩
theorem Gok.read{base g G len cap N:Nat}{a0:Option Addr}{M:Tmap}{S:GRec}{v v':World}(h:Gok base g G a0 len cap M N S v)(hr:Rd g a0 len cap v')(k:v.grownBy v' (some g)):Gok base g G a0 len cap M N S v'∧Mov g G M M v v':=by
 have hgG:g<G:=Nat.lt_of_lt_of_le h.gb h.nG
 have hG:=(Array.getElem?_eq_some_iff.1 h.cells).1
 have hk:∀ b,(∃ p,M b=some p)→v'.heap[b]?=v.heap[b]?:=fun b hb=>by
  obtain⟨h1,h2⟩:=h.th.lt hb
  exact k.block b h2 (by have:=h.gb;simp;omega)
 refine⟨⟨hr,h.gb,Nat.le_trans h.bv k.size,h.mG,h.nG,(k.block G hG (by simp;omega)).trans h.cells,h.th.keep (Nat.le_refl _) hk,h.p.keep hk,h.b.keep hk,h.ph.keep hk,h.i.keep hk,h.ids,h.rets,h.pars,h.bn⟩,⟨Ext.refl _,fun b hb h1 h2 h3=>⟨k.block b hb (by simp;omega),h3⟩,fun b T m hb hT=>⟨hk b ⟨_,hb⟩,hb⟩,k.os,k.tape,k.output,k.size⟩⟩
theorem rd_keep{g:Nat}{a0:Option Addr}{len cap:Nat}{w w':World}(h:Rd g a0 len cap w)(hz:w.heap.size≤w'.heap.size)(hk:∀ b:Nat,b≤g→w'.heap[b]?=w.heap[b]?):Rd g a0 len cap w':=by
 obtain⟨hg,hl,hc,p,hp,hb⟩:=h
 refine⟨by omega,hl,?_,p,hp,by rw[hk g (Nat.le_refl _)];exact hb⟩
 rcases hc with h|⟨b,off,ha,hb,hc⟩
 ·exact .inl h
 ·refine .inr ⟨b,off,ha,hb,fun i hi=>?_⟩
  obtain⟨n,h0,h1,h2⟩:=hc i hi
  exact⟨n,h0,h1,by rw[cell_blk (hk b (by omega))];exact h2⟩
theorem Gok.grew{base g G len cap N N':Nat}{a0:Option Addr}{M M':Tmap}{S S':GRec}{v v':World}(h:Gok base g G a0 len cap M N S v)(hN:N≤N')(hB:∀ b,b<v.heap.size→b≠G→v'.heap[b]?=v.heap[b]?)(hz:v.heap.size≤v'.heap.size)(e1:v'.os=v.os)(e2:v'.tape=v.tape)(e3:v'.output=v.output)
  (hM:∀ b,b<v.heap.size→M' b=M b) (hnew:∀ b T m,v.heap.size≤b→M' b=some (T,m)→T=2∧∃ cur,v'.heap[b]?=some (.cells cur 2 (0,0))∧∀ i,i<m→∃ z:Int,cur[i]?=some (.int .i64 z))
  (hG:v'.heap[G]?=some (.cells (gcells g S') 141 (0,0))) (hs:S'.pv=S.pv∧S'.np=S.np∧S'.bv=S.bv∧S'.nb=S.nb∧S'.phv=S.phv∧S'.nph=S.nph∧S'.iv=S.iv∧S'.ni=S.ni∧S'.rv=S.rv∧S'.nr=S.nr∧S'.sv=S.sv)
  (hids:(S'.idv=.slice none 0 0∧S'.wsv=.slice none 0 0∧S'.nid=0)∨(0<S'.nid∧SlN M' 2 S'.idv S'.nid∧SlN M' 2 S'.wsv S'.nid)) (hb:S'.nid≤N'∧0≤S'.nx∧S'.nx≤N'∧N'≤10000):Gok base g G a0 len cap M' N' S' v'∧Mov g G M M' v v':=by
 have hGl:=(Array.getElem?_eq_some_iff.1 h.cells).1
 have hgG:g<G:=Nat.lt_of_lt_of_le h.gb h.nG
 have hext:Ext M M':=fun b T m hb=>⟨m,Nat.le_refl _,by rw[hM b (h.th.lt ⟨_,hb⟩).2];exact hb⟩
 have hne:∀ b,(∃ p,M b=some p)→b≠G:=fun b hb e=>by
  obtain⟨p,hb⟩:=hb
  rw[e,h.mG] at hb;cases hb
 have hk:∀ b,(∃ p,M b=some p)→v'.heap[b]?=v.heap[b]?:=fun b hb=>hB b (h.th.lt hb).2 (hne b hb)
 have hrow:∀ {T:TypeId} {s:Value} {n:Nat},RowT base M T s n v→RowT base M' T s n v':=fun {T s n} k=>by
  rcases k with k|⟨q,c,cur,hv,hq,hq2,hc,hn,hm,hs⟩
  ·exact .inl k
  ·exact .inr ⟨q,c,cur,hv,hq,by rw[hM q (h.th.lt ⟨_,hq2⟩).2];exact hq2,(hk q ⟨_,hq2⟩).trans hc,hn,hm,hs⟩
 have hth:TH base M' N' v':=fun b T m hb'=>by
  by_cases hl:b<v.heap.size
  ·rw[hM b hl] at hb'
   obtain⟨t1,cur,t2,t3⟩:=h.th b T m hb'
   exact⟨t1,cur,(hk b ⟨_,hb'⟩).trans t2,fun i hi=>(t3 i hi).ext hext hN⟩
  ·obtain⟨rfl,cur,t2,t3⟩:=hnew b T m (by omega) hb'
   refine⟨by have:=h.bv;omega,cur,t2,fun i hi=>?_⟩
   obtain⟨z,hz⟩:=t3 i hi
   refine⟨fun _=>⟨z,by simpa [szT] using hz⟩,fun q=>?_,fun q=>?_,fun q=>?_,fun q=>?_⟩
   all_goals exact absurd q (by decide)
 obtain⟨s1,s2,s3,s4,s5,s6,s7,s8,s9,s10,s11⟩:=hs
 have hbn:=h.bn
 refine⟨⟨rd_keep h.rd hz fun b hb=>hB b (by have:=h.gb;have:=h.bv;omega) (by omega),h.gb,Nat.le_trans h.bv hz,by rw[hM G hGl];exact h.mG,h.nG,hG,hth,by rw[s1,s2];exact hrow h.p,by rw[s3,s4];exact hrow h.b,by rw[s5,s6];exact hrow h.ph,by rw[s7,s8];exact hrow h.i,hids,by rw[s9,s10];exact h.rets.ext hext,by rw[s11,s10];exact h.pars.ext hext,by rw[s2,s4,s6,s8,s10];omega⟩,⟨hext,fun b hl h1 h2 h3=>⟨hB b hl h2,by rw[hM b hl];exact h3⟩,fun b T m hb hT=>⟨hk b ⟨_,hb⟩,by rw[hM b (h.th.lt ⟨_,hb⟩).2];exact hb⟩,e1,e2,e3,hz⟩⟩
theorem zgc{g G:Nat}{S:GRec}{v:World}(h:v.heap[G]?=some (.cells (gcells g S) 141 (0,0)))(j:Nat):v.cell? ⟨G,j,none⟩=(gcells g S)[j]?∧v.frozen? ⟨G,j,none⟩=false:=⟨zcH h,zfH h⟩
end Go.Proofs.YtkpmiikafconmaaGreatDoor
