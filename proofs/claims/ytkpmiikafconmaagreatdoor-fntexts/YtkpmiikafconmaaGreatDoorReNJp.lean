import Derived.Test.YtkpmiikafconmaaGreatDoorReMJp
import Derived.Deep.Upon
import Derived.Deep.AppendSrc
namespace Go.Proofs.YtkpmiikafconmaaGreatDoor
open Go.RowKit
set_option linter.unusedVariables false
set_option linter.unusedSimpArgs false
def setsA(cur:Array Value):Nat→List Value→Array Value
 | _,[]=>cur
 | o,v :: r=>setsA (cur.setIfInBounds o v) (o+1) r
theorem setsA_size:∀ (vs:List Value) (o:Nat) (cur:Array Value),(setsA cur o vs).size=cur.size
 | [],_,_=>rfl
 | v :: r,o,cur=>by rw[setsA,setsA_size r];simp
theorem setsA_get:∀ (vs:List Value) (o:Nat) (cur:Array Value),o+vs.length≤cur.size→∀ i,(setsA cur o vs)[i]?=if o≤i∧i<o+vs.length then vs[i-o]? else cur[i]?
 | [],o,cur,_,i=>by rw[if_neg (by simp)];rfl
 | v :: r,o,cur,h,i=>by
  simp only[List.length_cons] at h
  rw[setsA,setsA_get r (o+1) _ (by simp;omega) i]
  by_cases h1:i=o
  ·subst h1
   rw[if_neg (by omega),if_pos (by simp),Nat.sub_self]
   simp[show i<cur.size by omega]
  ·by_cases h2:o≤i∧i<o+(r.length+1)
   ·rw[if_pos (by omega),if_pos (by simp only[List.length_cons];exact h2)]
    obtain⟨j,rfl⟩:∃ j,i=o+1+j:=⟨i-(o+1),by omega⟩
    rw[show o+1+j-(o+1)=j by omega,show o+1+j-o=j+1 by omega]
    simp
   ·rw[if_neg (by omega),if_neg (by simp only[List.length_cons];exact h2),Array.getElem?_setIfInBounds_ne (by omega)]
theorem heap_setCells{g:Nat}{T:TypeId}:∀ (vs:List Value) (o:Nat) (w:World) (cur:Array Value),w.heap[g]?=some (.cells cur T (0,0))→(w.setCells g o vs).heap[g]?=some (.cells (setsA cur o vs) T (0,0))
 | [],_,_,_,h=>h
 | v :: r,o,w,cur,h=>heap_setCells r (o+1) _ _ (zhS h)
structure Stay(S:List Nat)(w w':World):Prop where
 size:w.heap.size≤w'.heap.size
 block:∀ b,b<w.heap.size→¬b∈S→w'.heap[b]?=w.heap[b]?
theorem Stay.refl(S:List Nat)(w:World):Stay S w w:=⟨Nat.le_refl _,fun _ _ _=>rfl⟩
theorem Stay.below{S:List Nat}{w w' w2:World}(h:Stay S w w')(k:Below w'.heap.size w' w2):Stay S w w2:=⟨Nat.le_trans h.size k.size,fun b hb hn=>(k.block b (Nat.lt_of_lt_of_le hb h.size)).trans (h.block b hb hn)⟩
theorem Stay.set{S:List Nat}{w w':World}{g o:Nat}{v:Value}(h:Stay S w w')(hg:g∈S∨w.heap.size≤g):Stay S w (w'.setCell ⟨g,o,none⟩ v):=⟨by simpa using h.size,fun b hb hn=>(Below.heap_setCell _ _ _ _ (by
 show b≠g
 rintro rfl
 rcases hg with hg|hg
 ·exact hn hg
 ·omega)).trans (h.block b hb hn)⟩
theorem Stay.sets{S:List Nat}{w:World}{g:Nat}:∀ (vs:List Value) (o:Nat) {w':World},Stay S w w'→(g∈S∨w.heap.size≤g)→Stay S w (w'.setCells g o vs)
 | [],_,_,h,_=>h
 | _ :: r,o,_,h,hg=>Stay.sets r (o+1) (h.set hg) hg
theorem Stay.grown{S:List Nat}{w w' w2:World}{r:Option Nat}(h:Stay S w w')(k:w'.grownBy w2 r)(hr:∀ g,r=some g→g∈S∨w.heap.size≤g):Stay S w w2:=⟨Nat.le_trans h.size k.size,fun b hb hn=>(k.block b (Nat.lt_of_lt_of_le hb h.size) (fun e=>by
 rcases hr b e.symm with h1|h1
 ·exact hn h1
 ·omega)).trans (h.block b hb hn)⟩
theorem RowS.stay{α:Type}{T:TypeId}{s:Nat}{C:α→List Value}{w w':World}{base:Nat}{v:Value}{es:List α}{S:List Nat}(h:RowS T s C w base v es)(k:Stay S w w')(hn:∀ g,v.ownBlock=some g→¬g∈S):RowS T s C w' base v es:=by
 refine⟨h.1,?_⟩
 rcases h.2 with h2|⟨g,cap,cur,hv,hb,hg,r⟩
 ·exact .inl h2
 ·exact .inr ⟨g,cap,cur,hv,hb,(k.block g (Array.getElem?_eq_some_iff.1 hg).1 (hn g (by rw[hv];rfl))).trans hg,r⟩
def Lv(k:Nat)(w:World)(b:Nat):Prop:=∀ cur T,w.heap[b]?=some (.cells cur T (0,0))→k≤lvT T
theorem Lv.of{k:Nat}{w:World}{b:Nat}{cur:Array Value}{T:TypeId}{fz:Nat × Nat}(h:w.heap[b]?=some (.cells cur T fz))(hk:k≤lvT T):Lv k w b:=fun c2 T2 h2=>by
 rw[h] at h2
 cases h2
 exact hk
theorem Lv.low{k j:Nat}{w:World}{b:Nat}(h:Lv k w b)(hj:j≤k):Lv j w b:=fun cur T e=>Nat.le_trans hj (h cur T e)
theorem IntO.stay{w w':World}{lo hi:Nat}{u:Option Addr}{l:List Int}{S:List Nat}(h:IntO w lo hi u l)(k:Stay S w w')(hS:∀ b,b∈S→hi≤b∨Lv 1 w b):IntO w' lo hi u l:=by
 refine⟨h.1,?_⟩
 rcases h.2 with h|⟨g,o,cur,e,k1,k2,k3,k4⟩
 ·exact .inl h
 ·refine .inr ⟨g,o,cur,e,k1,k2,(k.block g (Array.getElem?_eq_some_iff.1 k3).1 (fun hm=>?_)).trans k3,k4⟩
  rcases hS g hm with h1|h1
  ·omega
  ·exact absurd (h1 _ _ k3) (by decide)
def SL{α:Type}(T:TypeId)(s:Nat)(C:α→List Value)(O:World→Nat→Nat→α→Prop)(w:World)(lo hi:Nat)(u:Option Addr)(es:List α):Prop :=
 es.length≤1048576∧(es=[]∨∃ g cur,u=some ⟨g,0,none⟩∧lo≤g∧g<hi∧w.heap[g]?=some (.cells cur T (0,0))∧∀ i e,es[i]?=some e→∀ j,j<s→cur[i*s+j]?=(C e)[j]?)∧∀ e,e∈es→O w lo hi e
theorem SL.wide{α:Type}{T:TypeId}{s:Nat}{C:α→List Value}{O:World→Nat→Nat→α→Prop}{w:World}{lo hi lo' hi':Nat}{u:Option Addr}{es:List α}(h:SL T s C O w lo hi u es)(h1:lo'≤lo)(h2:hi≤hi')(hO:∀ e,O w lo hi e→O w lo' hi' e):SL T s C O w lo' hi' u es:=by
 refine⟨h.1,?_,fun e he=>hO e (h.2.2 e he)⟩
 rcases h.2.1 with h|⟨g,cur,e,k1,k2,k3⟩
 ·exact .inl h
 ·exact .inr ⟨g,cur,e,by omega,by omega,k3⟩
theorem SL.stay{α:Type}{T:TypeId}{s:Nat}{C:α→List Value}{O:World→Nat→Nat→α→Prop}{w w':World}{lo hi:Nat}{u:Option Addr}{es:List α}{S:List Nat}(h:SL T s C O w lo hi u es)(k:Stay S w w')(hT:lvT T<4)(hS:∀ b,b∈S→hi≤b∨Lv 4 w b)(hO:∀ e,O w lo hi e→O w' lo hi e):SL T s C O w' lo hi u es:=by
 refine⟨h.1,?_,fun e he=>hO e (h.2.2 e he)⟩
 rcases h.2.1 with h|⟨g,cur,e,k1,k2,k3,k4⟩
 ·exact .inl h
 ·refine .inr ⟨g,cur,e,k1,k2,(k.block g (Array.getElem?_eq_some_iff.1 k3).1 (fun hm=>?_)).trans k3,k4⟩
  rcases hS g hm with h1|h1
  ·omega
  ·have:=h1 _ _ k3
   omega
theorem RowS.sl{α:Type}{T:TypeId}{s:Nat}{C:α→List Value}{O:World→Nat→Nat→α→Prop}{w:World}{base lo hi:Nat}{u:Option Addr}{c:Nat}{es:List α}(hC:∀ e,(C e).length=s)(hm:es.length≤1048576)(h:RowS T s C w base (.slice u es.length c) es)(hs:∀ e,e∈es→O w lo hi e)(h1:lo≤base)(h2:w.heap.size≤hi):SL T s C O w lo hi u es:=by
 refine⟨hm,?_,hs⟩
 rcases h.2 with⟨_,hn⟩|⟨g,cap,cur,hv,hb,hg,hnc,_,hcs,htk⟩
 ·exact .inl (List.length_eq_zero_iff.1 hn)
 ·cases hv
  have hlt:=(Array.getElem?_eq_some_iff.1 hg).1
  refine .inr ⟨g,cur,rfl,by omega,by omega,hg,fun i e he j hj=>?_⟩
  have hil:=(List.getElem?_eq_some_iff.1 he).1
  rw[←flat_at hC es i j e he hj,←htk,List.getElem?_take,if_pos (by
   have:=Nat.mul_le_mul_right s (show i+1≤es.length from hil)
   rw[Nat.succ_mul] at this
   omega)]
  simp
theorem RowS.last{α:Type}{T:TypeId}{s:Nat}{C:α→List Value}{w w':World}{base:Nat}{g cap:Nat}{es:List α}{e e2:α}(hC:∀ e,(C e).length=s)(h:RowS T s C w base (.slice (some ⟨g,0,none⟩) (es.length+1) cap) (es++[e]))(hw:∀ cur,w.heap[g]?=some (.cells cur T (0,0))→w'.heap[g]?=some (.cells (setsA cur (es.length*s) (C e2)) T (0,0))):RowS T s C w' base (.slice (some ⟨g,0,none⟩) (es.length+1) cap) (es++[e2]):=by
 have hl:∀ l:List α,(l.flatMap C).length=l.length*s:=fun l=>by
  induction l with
  | nil=>simp
  | cons x l ih=>rw[List.flatMap_cons,List.length_append,ih,hC,List.length_cons,Nat.succ_mul];omega
 refine⟨by rw[hl],.inr ?_⟩
 rcases h.2 with⟨hv,_⟩|⟨g',cap',cur,hv,hb,hg,hnc,hcm,hcs,htk⟩
 ·cases hv
 ·simp only[Value.slice.injEq,Option.some.injEq,Addr.mk.injEq] at hv
  obtain⟨⟨rfl,_,_⟩,_,rfl⟩:=hv
  rw[List.length_append,List.length_singleton] at hnc htk
  have hmul:(es.length+1)*s≤cap*s:=Nat.mul_le_mul_right s hnc
  rw[Nat.succ_mul] at hmul htk
  refine⟨g,cap,_,by rw[List.length_append,List.length_singleton],hb,hw cur hg,by rw[List.length_append,List.length_singleton];exact hnc,hcm,by rw[setsA_size];exact hcs,?_⟩
  rw[List.length_append,List.length_singleton,Nat.succ_mul]
  have hsz:es.length*s+(C e2).length≤cur.size:=by rw[hC];omega
  have hL:=hl es
  apply List.ext_getElem?
  intro i
  rw[List.getElem?_take,List.flatMap_append]
  have hold:cur.toList.take (es.length*s)=es.flatMap C:=by
   have h0:=congrArg (List.take (es.length*s)) htk
   rw[List.take_take,Nat.min_eq_left (by omega),List.flatMap_append] at h0
   rw[h0,←hL]
   simp
  by_cases h1:i<es.length*s
  ·rw[if_pos (by omega),Array.getElem?_toList,setsA_get _ _ _ hsz,if_neg (by omega),List.getElem?_append_left (by omega),←hold,List.getElem?_take,if_pos h1,Array.getElem?_toList]
  ·rw[List.getElem?_append_right (by omega),hL,List.flatMap_cons,List.flatMap_nil,List.append_nil]
   by_cases h2:i<es.length*s+s
   ·rw[if_pos h2,Array.getElem?_toList,setsA_get _ _ _ hsz,if_pos (by rw[hC];omega)]
   ·rw[if_neg h2,List.getElem?_eq_none (by rw[hC];omega)]
def SPh(w:World)(lo hi:Nat)(e:PhE):Prop:=IntO w lo hi e.2.1 e.1.ins
def SIn(w:World)(lo hi:Nat)(e:InE):Prop:=IntO w lo hi e.2.1 e.1.args
def SBk(w:World)(lo hi:Nat)(b:BkE):Prop:=SL 92 2 phC SPh w lo hi b.pu b.ps∧SL 95 7 inC SIn w lo hi b.iu b.is
def SFn(w:World)(lo hi:Nat)(f:FnE):Prop:=IntO w lo hi f.pu f.pars∧SL 74 6 bkC SBk w lo hi f.bu f.bs
theorem SBk.wide{w:World}{lo hi lo' hi':Nat}{b:BkE}(h:SBk w lo hi b)(h1:lo'≤lo)(h2:hi≤hi'):SBk w lo' hi' b:=⟨h.1.wide h1 h2 fun _ k=>IntO.wide k h1 h2,h.2.wide h1 h2 fun _ k=>IntO.wide k h1 h2⟩
theorem SFn.wide{w:World}{lo hi lo' hi':Nat}{f:FnE}(h:SFn w lo hi f)(h1:lo'≤lo)(h2:hi≤hi'):SFn w lo' hi' f:=⟨h.1.wide h1 h2,h.2.wide h1 h2 fun _ k=>k.wide h1 h2⟩
theorem lv_one{w:World}{hi:Nat}{S:List Nat}(h:∀ b,b∈S→hi≤b∨Lv 4 w b):∀ b,b∈S→hi≤b∨Lv 1 w b:=fun b hb=>(h b hb).imp id fun k=>k.low (by decide)
theorem SBk.stay{w w':World}{lo hi:Nat}{b:BkE}{S:List Nat}(h:SBk w lo hi b)(k:Stay S w w')(hS:∀ b,b∈S→hi≤b∨Lv 4 w b):SBk w' lo hi b:=⟨h.1.stay k (by decide) hS fun _ e=>IntO.stay e k (lv_one hS),h.2.stay k (by decide) hS fun _ e=>IntO.stay e k (lv_one hS)⟩
theorem SFn.stay{w w':World}{lo hi:Nat}{f:FnE}{S:List Nat}(h:SFn w lo hi f)(k:Stay S w w')(hS:∀ b,b∈S→hi≤b∨Lv 4 w b):SFn w' lo hi f:=⟨h.1.stay k (lv_one hS),h.2.stay k (by decide) hS fun _ e=>e.stay k hS⟩
theorem SPhs.at_{w:World}{lo hi:Nat}{u:Option Addr}{es:List PhE}(h:SL 92 2 phC SPh w lo hi u es):PhisAt w lo u (es.map (·.1)):=by
 refine⟨by rw[List.length_map];have:=h.1;omega,?_⟩
 rcases h.2.1 with e|⟨g,cur,rfl,h1,_,hg,hc⟩
 ·exact .inl (by rw[e];rfl)
 ·refine .inr ⟨g,0,rfl,h1,(Array.getElem?_eq_some_iff.1 hg).1,fun i hi=>?_⟩
  rw[List.length_map] at hi
  obtain⟨e,he⟩:∃ e,es[i]?=some e:=⟨es[i],List.getElem?_eq_getElem hi⟩
  have hc':=hc i e he
  have ho:=h.2.2 e (List.mem_of_getElem? he)
  rw[map_get (·.1) phi0 he]
  refine⟨by rw[zcH hg,Nat.zero_add];exact hc' 0 (by decide),e.2.1,e.2.2,by rw[zcH hg,Nat.zero_add];exact hc' 1 (by decide),IntO.ints ho⟩
theorem SIns.at_{w:World}{lo hi:Nat}{u:Option Addr}{es:List InE}(h:SL 95 7 inC SIn w lo hi u es):InstsAt w lo u (es.map (·.1)):=by
 refine⟨by rw[List.length_map];have:=h.1;omega,?_⟩
 rcases h.2.1 with e|⟨g,cur,rfl,h1,_,hg,hc⟩
 ·exact .inl (by rw[e];rfl)
 ·refine .inr ⟨g,0,rfl,h1,(Array.getElem?_eq_some_iff.1 hg).1,fun i hi=>?_⟩
  rw[List.length_map] at hi
  obtain⟨e,he⟩:∃ e,es[i]?=some e:=⟨es[i],List.getElem?_eq_getElem hi⟩
  have hc':=hc i e he
  have ho:=h.2.2 e (List.mem_of_getElem? he)
  rw[map_get (·.1) inst0 he]
  have key:∀ j,j<7→w.cell? ⟨g,0+i*7+j,none⟩=(inC e)[j]?:=fun j hj=>by rw[zcH hg,Nat.zero_add];exact hc' j hj
  exact⟨key 0 (by decide),key 1 (by decide),key 2 (by decide),key 3 (by decide),key 4 (by decide),key 5 (by decide),e.2.1,e.2.2,key 6 (by decide),IntO.ints ho⟩
theorem SBks.at_{w:World}{lo hi:Nat}{u:Option Addr}{es:List BkE}(h:SL 74 6 bkC SBk w lo hi u es):zBA w lo u (es.map BkE.d):=by
 refine⟨by rw[List.length_map];have:=h.1;omega,?_⟩
 rcases h.2.1 with e|⟨g,cur,rfl,h1,_,hg,hc⟩
 ·exact .inl (by rw[e];rfl)
 ·refine .inr ⟨g,0,rfl,h1,(Array.getElem?_eq_some_iff.1 hg).1,fun i hi=>?_⟩
  rw[List.length_map] at hi
  obtain⟨e,he⟩:∃ e,es[i]?=some e:=⟨es[i],List.getElem?_eq_getElem hi⟩
  have hc':=hc i e he
  obtain⟨g3,g4⟩:=h.2.2 e (List.mem_of_getElem? he)
  rw[map_get BkE.d block0 he]
  have key:∀ j,j<6→w.cell? ⟨g,0+i*6+j,none⟩=(bkC e)[j]?:=fun j hj=>by rw[zcH hg,Nat.zero_add];exact hc' j hj
  have l1:(e.ps.map (·.1)).length=e.ps.length:=List.length_map ..
  have l2:(e.is.map (·.1)).length=e.is.length:=List.length_map ..
  refine⟨⟨e.pu,e.pc,?_,SPhs.at_ g3⟩,⟨e.iu,e.ic,?_,SIns.at_ g4⟩,key 2 (by decide),key 3 (by decide),key 4 (by decide),key 5 (by decide)⟩
  ·show _=some (Value.slice e.pu (e.ps.map (·.1)).length e.pc)
   rw[l1];exact key 0 (by decide)
  ·show _=some (Value.slice e.iu (e.is.map (·.1)).length e.ic)
   rw[l2];exact key 1 (by decide)
theorem SFns.at_{w:World}{lo hi:Nat}{u:Option Addr}{es:List FnE}(h:SL 55 3 fnC SFn w lo hi u es):zFA w lo u (es.map FnE.d):=by
 refine⟨by rw[List.length_map];have:=h.1;omega,?_⟩
 rcases h.2.1 with e|⟨g,cur,rfl,h1,_,hg,hc⟩
 ·exact .inl (by rw[e];rfl)
 ·refine .inr ⟨g,0,rfl,h1,(Array.getElem?_eq_some_iff.1 hg).1,fun i hi=>?_⟩
  rw[List.length_map] at hi
  obtain⟨e,he⟩:∃ e,es[i]?=some e:=⟨es[i],List.getElem?_eq_getElem hi⟩
  have hc':=hc i e he
  obtain⟨g3,g4⟩:=h.2.2 e (List.mem_of_getElem? he)
  rw[map_get FnE.d func0 he]
  have key:∀ j,j<3→w.cell? ⟨g,0+i*3+j,none⟩=(fnC e)[j]?:=fun j hj=>by rw[zcH hg,Nat.zero_add];exact hc' j hj
  have l1:(e.bs.map BkE.d).length=e.bs.length:=List.length_map ..
  refine⟨⟨e.pu,e.pc,key 0 (by decide),IntO.ints g3⟩,key 1 (by decide),e.bu,e.bc,?_,SBks.at_ g4⟩
  show _=some (Value.slice e.bu (e.bs.map BkE.d).length e.bc)
  rw[l1];exact key 2 (by decide)
theorem SFns.sm{w:World}{lo hi:Nat}{u:Option Addr}{es:List FnE}(h:SL 55 3 fnC SFn w lo hi u es):SmMod (es.map FnE.d):=by
 refine⟨by rw[List.length_map];exact h.1,fun d hd=>?_⟩
 obtain⟨f,hf,rfl⟩:=List.mem_map.1 hd
 obtain⟨g3,g4⟩:=h.2.2 f hf
 refine⟨g3.1,by show (f.bs.map BkE.d).length≤_;rw[List.length_map];exact g4.1,fun b hb=>?_⟩
 obtain⟨x,hx,rfl⟩:=List.mem_map.1 hb
 obtain⟨k3,k4⟩:=g4.2.2 x hx
 refine⟨⟨by show (x.ps.map (·.1)).length≤_;rw[List.length_map];exact k3.1,fun p hp=>?_⟩,by show (x.is.map (·.1)).length≤_;rw[List.length_map];exact k4.1,fun p hp=>?_⟩
 ·obtain⟨y,hy,rfl⟩:=List.mem_map.1 hp
  exact (k3.2.2 y hy).1
 ·obtain⟨y,hy,rfl⟩:=List.mem_map.1 hp
  exact (k4.2.2 y hy).1
structure ClS(w:World)(R n:Nat)(fs:List FnE)(v:Value):Prop where
 box:At w R #[v,.bool false] 62
 row:RowS 55 3 fnC w (R+1) v fs
 fsv:∀ f,f∈fs→SFn w (R+1) w.heap.size f
 len:fs.length≤n
 bl:∀ f,f∈fs→f.bs.length≤n
structure OpS(w:World)(R T n:Nat)(fs:List FnE)(f:FnE)(bs:List BkE)(x:BkE)(v:Value):Prop where
 box:At w R #[v,.bool true] 62
 row:RowS 55 3 fnC w (R+1) v (fs++[f])
 fsv:∀ f,f∈fs→SFn w (R+1) T f
 par:IntO w (R+1) T f.pu f.pars
 blk:RowS 74 6 bkC w T (.slice f.bu f.bs.length f.bc) f.bs
 fbs:f.bs=bs++[x]
 bsv:∀ b,b∈bs→SBk w (R+1) T b
 phr:RowS 92 2 phC w T (.slice x.pu x.ps.length x.pc) x.ps
 isr:RowS 95 7 inC w T (.slice x.iu x.is.length x.ic) x.is
 phE:∀ p,p∈x.ps→SPh w (R+1) w.heap.size p
 isE:∀ p,p∈x.is→SIn w (R+1) w.heap.size p
 tk:x.t=⟨0,0,0,0⟩
 hR:R<T
 hT:T≤w.heap.size
 len:fs.length+1≤n
 bl:∀ f,f∈fs→f.bs.length≤n
 lb:f.bs.length≤n
 lp:x.ps.length≤n
 li:x.is.length≤n
def stC(fs:List FnE):PSt:=.cl (fs.map FnE.d)
def stO(fs:List FnE)(f:FnE)(bs:List BkE)(x:BkE):PSt:=.op (fs.map FnE.d) f.pars f.ret (bs.map BkE.d) (x.ps.map (·.1)) (x.is.map (·.1))
def StH(w:World)(R n:Nat)(p:PSt):Prop:=(∃ fs v,ClS w R n fs v∧p=stC fs)∨∃ T fs f bs x v,OpS w R T n fs f bs x v∧p=stO fs f bs x
theorem ClS.at_{w:World}{R n:Nat}{fs:List FnE}{v:Value}(h:ClS w R n fs v)(hn:n≤1048576):∃ u c,v=.slice u fs.length c∧zFA w (R+1) u (fs.map FnE.d)∧SmMod (fs.map FnE.d):=by
 obtain⟨u,c,rfl⟩:=h.row.slice
 have k:=RowS.sl (C:=fnC) (s:=3) (O:=SFn) (fun _=>rfl) (by have:=h.len;omega) h.row h.fsv (Nat.le_refl _) (Nat.le_refl _)
 exact⟨u,c,rfl,SFns.at_ k,SFns.sm k⟩
set_option maxHeartbeats 8000000
set_option maxRecDepth 100000
theorem wd_yes{word:ByteArray}{u:List UInt8}(h:word=bs u):(word.toList==u)=true:=by rw[h,bs_listT];exact beq_self_eq_true u
theorem wd_no{word:ByteArray}{u:List UInt8}(h:¬word=bs u):(word.toList==u)=false:=by
 refine beq_eq_false_iff_ne.2 fun e=>h ?_
 rw[←e]
 exact ba_ext (by simp[bs,ByteArray.toList_eq])
theorem list_runP{P:Program}{ops:Array Oper}{rest:List Oper}{o:Oper}{a:Act}{w w1:World}{Q:Exit→Act→World→Prop}{v':Value}(hgd:o.guard=none)(s x:Operand)(t:TypeId)
  (ho:o.op=.call { callee:=.builtin .append,args:=#[s,x],argTypes:=#[t,t] }) {v1 v2:Value} (h1:a.eval s=v1) (h2:a.eval x=v2) (hrun:(Builtin.append_ #[t,t] o.type #[v1,v2]).run P w=.ok v' w1) (h:wpList P ops Q rest (a.put o.dst v') w1):wpList P ops Q (o :: rest) a w :=
 wpList_plain hgd fun K hK=>by
  unfold Oper.wp execOp
  simp only[ho,resolve,invoke,builtin,Sem.run_bind,Sem.run_pure,Result.andThen_ok,List.map_toArray,List.map_cons,List.map_nil,h1,h2,hrun]
  exact hK _ _ h
theorem RowS.cellAt{α:Type}{T:TypeId}{s:Nat}{C:α→List Value}{w:World}{base:Nat}{u:Option Addr}{m c:Nat}{es:List α}(hC:∀ e,(C e).length=s)(h:RowS T s C w base (.slice u m c) es){i:Nat}{e:α}(he:es[i]?=some e):∃ g cur,u=some ⟨g,0,none⟩∧base≤g∧w.heap[g]?=some (.cells cur T (0,0))∧∀ j,j<s→w.cell? ⟨g,i*s+j,none⟩=(C e)[j]?:=by
 have hil:=(List.getElem?_eq_some_iff.1 he).1
 rcases h.2 with⟨_,hn⟩|⟨g,cap,cur,hv,hb,hg,hnc,_,hcs,htk⟩
 ·omega
 ·cases hv
  refine⟨g,cur,rfl,hb,hg,fun j hj=>?_⟩
  rw[zcH hg,←flat_at hC es i j e he hj,←htk,List.getElem?_take,if_pos (by
   have:=Nat.mul_le_mul_right s (show i+1≤es.length from hil)
   rw[Nat.succ_mul] at this
   omega)]
  simp
theorem infoBkM:(Tryz.prog.info? 74).map (fun i=>(i.zero,i.size,i.bytes))=some (some (.agg #[.slice none 0 0,.slice none 0 0,.int .i64 0,.int .i64 0,.int .i64 0,.int .i64 0]),6,80):=by kernel_rfl
theorem bkC_one(b:BkE):∀ u,u∈bkC b→u.oneCell'=true:=fun u hu=>by
 simp only[bkC,List.mem_cons,List.not_mem_nil,or_false] at hu
 rcases hu with rfl|rfl|rfl|rfl|rfl|rfl<;>rfl
theorem flat_len{α:Type}{C:α→List Value}{s:Nat}(hC:∀ e,(C e).length=s):∀ l:List α,(l.flatMap C).length=l.length*s
 | []=>by simp
 | x :: l=>by rw[List.flatMap_cons,List.length_append,flat_len hC l,hC,List.length_cons,Nat.succ_mul];omega
theorem copyBks{w:World}{N lo hi:Nat}{O:World→Nat→Nat→BkE→Prop}{u:Option Addr}{c:Nat}{es:List BkE}(hN:At w N #[] 74)(hs:SL 74 6 bkC O w lo hi u es)(hl:es.length≤20001):∃ u' c' w',(Builtin.append_ #[53,53] 53 #[.slice (some ⟨N,0,none⟩) 0 0,.slice u es.length c]).run Tryz.prog w=.ok (.slice (some ⟨u',0,none⟩) es.length c') w'∧RowS 74 6 bkC w' N (.slice (some ⟨u',0,none⟩) es.length c') es∧w.grownBy w' (some N)∧u'<w'.heap.size:=by
 obtain⟨iB,hiB,zBk,sB',bB⟩:=info_three infoBkM
 have h0:RowS 74 6 bkC w N (.slice (some ⟨N,0,none⟩) 0 0) []:=⟨rfl,.inr ⟨N,0,#[],rfl,Nat.le_refl _,hN,Nat.le_refl _,Nat.zero_le _,rfl,rfl⟩⟩
 have hNl:=hN.lt
 cases es with
 | nil =>
  refine⟨N,0,w,run_append_nothing w _ _ _ _ iB Tryz.underlying53 hiB _ 0 0 (Nat.le_refl _) _ ?_,h0,⟨rfl,rfl,rfl,Nat.le_refl _,fun _ _ _=>rfl⟩,hNl⟩
  cases u with
  | none=>exact Src.ofNil w Tryz.underlying53 c
  | some a=>exact Src.ofSlice w Tryz.underlying53 a 0 c [] (by simp) (fun j u h=>by simp at h) (fun u h=>by cases h)
 | cons b es =>
  rcases hs.2.1 with e|⟨g,cur,rfl,k1,k2,k3,k4⟩
  ·cases e
  ·obtain⟨g6,cap6,wa,hrun,hown6,hgr6,_,hlt6⟩:=run_append_lies (P:=Tryz.prog) w 53 53 N 74 iB (.agg #[.slice none 0 0,.slice none 0 0,.int .i64 0,.int .i64 0,.int .i64 0,.int .i64 0]) 6 80 Tryz.underlying53 hiB zBk sB' bB rfl (by decide) (.slice (some ⟨N,0,none⟩) 0 0) 0 [] h0 ⟨g,0,none⟩ (b :: es).length c ((b :: es).flatMap bkC) (flat_len (C:=bkC) (s:=6) (fun _=>rfl) _) (fun j z hz=>by
    have hjl:=(List.getElem?_eq_some_iff.1 hz).1
    rw[flat_len (C:=bkC) (s:=6) (fun _=>rfl)] at hjl
    have hi:j/6<(b :: es).length:=by omega
    have he:(b :: es)[j/6]?=some ((b :: es)[j/6]'hi):=List.getElem?_eq_getElem hi
    have h1:=flat_at (C:=bkC) (s:=6) (fun _=>rfl) (b :: es) (j/6) (j%6) _ he (Nat.mod_lt _ (by decide))
    have h2:=k4 _ _ he (j%6) (Nat.mod_lt _ (by decide))
    rw[show j/6*6+j%6=j by omega] at h1 h2
    have hadd:(⟨g,0,none⟩:Addr).add j=⟨g,j,none⟩:=by unfold Addr.add;split<;>simp_all
    rw[hadd,zcH k3,h2,←h1,hz]) (fun z hz=>by
    obtain⟨e,_,h1⟩:=List.mem_flatMap.1 hz
    exact bkC_one e z h1) (by simp) (by unfold maxLen;omega) (by omega) (Nat.le_of_lt hNl) _ rfl
   rw[Nat.zero_add] at hrun hown6
   rw[List.nil_append] at hown6
   exact⟨g6,cap6,wa,hrun,hown6,hgr6,hlt6⟩
theorem ClS.keep{w w2:World}{R n:Nat}{fs:List FnE}{v:Value}(h:ClS w R n fs v)(k:Below w.heap.size w w2):ClS w2 R n fs v :=
 ⟨h.box.below k,h.row.stay (Stay.below (Stay.refl [] w) k) (fun _ _ hm=>by cases hm),fun f hf=>((h.fsv f hf).stay (Stay.below (Stay.refl [] w) k) (fun _ hb=>by cases hb)).wide (Nat.le_refl _) k.size,h.len,h.bl⟩
def inR(R:Nat)(v:Value):List Nat:=R :: v.ownBlock.toList
theorem inR_lv{w:World}{R:Nat}{v:Value}{cs:Array Value}{es:List FnE}(hb:At w R cs 62)(hr:RowS 55 3 fnC w (R+1) v es):∀ b,b∈inR R v→Lv 4 w b:=fun b hm=>by
 rcases List.mem_cons.1 hm with rfl|hm
 ·exact Lv.of hb (by decide)
 ·obtain⟨_,cur,hc⟩:=hr.ge (by simpa [Option.mem_toList] using hm)
  exact Lv.of hc (by decide)
def LineT(R n:Nat)(s:ByteArray)(p:PSt)(w:World)(e:Ending)(w':World):Prop :=
 ((∃ q,e=.returned (.bool true)∧StH w' R (n+1) q∧∀ x q',LineIs s x→LnOk x→Step p x q'→q'=q)∨(e=.returned (.bool false)∧∀ x q',LineIs s x→LnOk x→¬Step p x q'))∧Below R w w'
theorem lastS(R:Nat)(u:Option Addr)(m c:Nat)(b:Bool)(w:World)(h:At w R #[.slice u m c,.bool b] 62)(hm:m≤1048576) :
  Calls Tryz.prog 61 #[.pointer (some ⟨R,0,none⟩)] w fun e w'=>e=.returned (.int .i64 ((m:Int)-1))∧w'=w:=by
 have c0:w.cell? ⟨R,0,none⟩=some (.slice u m c):=h.cell 0
 clear h
 go_enter Tryz.func61,Tryz.ntmps61
 go_wp2_with fail
 go_ret
 exact⟨rfl,rfl⟩
theorem lineC(R n:Nat)(fs:List FnE)(v:Value)(s:ByteArray)(w:World)(h:ClS w R n fs v)(hn:n≤20000)(hs:s.size≤1048576) :
  Calls Tryz.prog 33 #[.pointer (some ⟨R,0,none⟩),.string s] w fun e w'=>LineT R n s (stC fs) w e w':=by
 obtain⟨iF,hiF,zF,sF',bF⟩:=info_three infoFnL
 obtain⟨vu,vc,rfl⟩:=h.row.slice
 have hfl:fs.length≤n:=h.len
 have hR:R<w.heap.size:=h.box.lt
 have HS:Hid (ClS w R n fs (.slice vu fs.length vc)):=h
 have SP:=splitL s w hs
 clear h hs
 go_enter Tryz.func33,Tryz.ntmps33
 go_wp2_with fail
 refine SP.mono ?_
 rintro e w1 ⟨⟨word,l,lu,lc,ok,rfl,hrow,hll,_,hT⟩,b1⟩
 have HT:Hid (LnTold s word l ok):=hT
 have HB1:Hid (Below w.heap.size w w1):=b1
 have HA1:Hid (At w1 R #[.slice vu fs.length vc,.bool false] 62):=HS.out.box.below b1
 have z1:w.heap.size≤w1.heap.size:=b1.size
 obtain⟨HI0,hlc,hcm⟩:=IntsB2.of hrow
 have HI:Hid (IntsB2 w1 w.heap.size w1.heap.size lu l):=HI0
 clear SP hrow hT b1 HI0
 go_wp2_with fail
 refine (lastS R vu fs.length vc false w1 HA1.out (by omega)).mono ?_
 rintro e w2 ⟨rfl,h9⟩
 have h8:=h9.symm
 clear h9
 subst h8
 have c1:w1.cell? ⟨R,1,none⟩=some (.bool false):=HA1.out.cell 1
 have HBR:Hid (Below R w w1):=HB1.out.mono (by omega)
 cases hok:ok
 ·subst hok
  have HNo:Hid (∀ x q',LineIs s x→LnOk x→¬Step (stC fs) x q'):=fun x q' hx hk _=>absurd (HT.out x hx hk).1 (by simp)
  go_wp2_with fail
  go_ret
  exact⟨.inr ⟨rfl,HNo.out⟩,HBR.out⟩
 subst hok
 by_cases hf:word=bs wFun
 ·have q1:(word.toList==[102,117,110,99])=true:=wd_yes (u:=wFun) hf
  have HF:Hid (word=bs wFun):=hf
  clear hf
  by_cases hl0:l=[]
  ·have HNo:Hid (∀ x q',LineIs s x→LnOk x→¬Step (stC fs) x q'):=fun x q' hx hk hst=>by
    rcases st_cl hst with⟨_,r,ps,h2,_⟩|⟨h1,_⟩
    ·rw[←(HT.out x hx hk).2.2,hl0] at h2
     cases h2
    ·have h3:=(HT.out x hx hk).2.1
     rw[HF.out,h1] at h3
     exact absurd (bs_inj h3) (by decide)
   have q2:((l.length:Int)==0)=true:=by rw[hl0];rfl
   clear hl0
   go_wp2_with fail
   go_ret
   exact⟨.inr ⟨rfl,HNo.out⟩,HBR.out⟩
  ·obtain⟨r,ps,hlr⟩:∃ r ps,l=r :: ps:=by
    cases l with
    | nil=>exact absurd rfl hl0
    | cons r ps=>exact⟨r,ps,rfl⟩
   have HL:Hid (l=r :: ps):=hlr
   have hl1:l.length-1=ps.length:=by rw[hlr];simp
   have hl2:0<l.length:=by rw[hlr];simp
   have hl3:(1:Int)≤(l.length:Int):=by omega
   obtain⟨b,lcur,rfl,hb1,hb2,_,hb3,hb4⟩:∃ b cur,lu=some ⟨b,0,none⟩∧w.heap.size≤b∧b<w1.heap.size∧w1.heap.size≤w1.heap.size∧w1.heap[b]?=some (.cells cur 2 (0,0))∧∀ i,i<l.length→cur[i]?=some (.int .i64 (l.getD i 0)):=by
    rcases HI.out with h|h
    ·exact absurd h hl0
    ·exact h
   have cb:w1.cell? ⟨b,0,none⟩=some (.int .i64 r):=by rw[zcH hb3,hb4 0 (by omega),hlr];rfl
   obtain⟨pu,hpu⟩:∃ pu:Option Addr,(if lc=1 then some (⟨b,0,none⟩:Addr) else some ⟨b,1,none⟩)=pu:=⟨_,rfl⟩
   have HTl:Hid (IntA2 w1 w.heap.size pu ps):=by
    have k:IntA2 w1 w.heap.size (some ⟨b,1,none⟩) ps:=IntsB2.tail1 (x:=r) (by have:=HI.out;rw[hlr] at this;exact this) (by omega)
    by_cases h1:lc=1
    ·have e:ps=[]:=List.eq_nil_of_length_eq_zero (by omega)
     rw[e]
     exact IntO.nil _ _ _ _
    ·rw[←hpu,if_neg h1]
     exact k
   have HS1:Hid (ClS w1 R n fs (.slice vu fs.length vc)):=HS.out.keep HB1.out
   have q2:((l.length:Int)==0)=false:=by simp;omega
   have c0:w1.cell? ⟨R,0,none⟩=some (.slice vu fs.length vc):=HA1.out.cell 0
   have HLb1:Hid (w1.heap[b]?=some (.cells lcur 2 (0,0))):=hb3
   clear hlr hl0 hb3 hb4 HI HS
   go_wp2_with fail
   refine startX (fun w'=>w'.cell? ⟨R,0,none⟩=some (.slice vu fs.length vc)∧w'.cell? ⟨b,0,none⟩=some (.int .i64 r)) (fun i=>decide (i=17)) (by kernel_rfl) ?_
   refine takeX 0 (v:=?_) rfl rfl (by kernel_rfl) (fun _ _ _ h=>h) (yesH (by rfl) ?_) ⟨c0,cb⟩ ?_
   rotate_left
   ·intro w9 hS9
    obtain⟨g0,g1⟩:=hS9
    go_simp
    try with_reducible rfl
   try simp only[Act.put,sA,sB,sC]
   refine takeX 1 (v:=?_) rfl rfl (by kernel_rfl) (fun _ _ _ h=>h) (yesH (by rfl) ?_) ⟨c0,cb⟩ ?_
   rotate_left
   ·intro w9 hS9
    obtain⟨g0,g1⟩:=hS9
    go_simp
    try with_reducible rfl
   try simp only[Act.put,sA,sB,sC]
   refine takeX 2 (v:=?_) rfl rfl (by kernel_rfl) (fun _ _ _ h=>h) (yesH (by rfl) ?_) ⟨c0,cb⟩ ?_
   rotate_left
   ·intro w9 hS9
    obtain⟨g0,g1⟩:=hS9
    go_simp
    try with_reducible rfl
   try simp only[Act.put,sA,sB,sC]
   refine takeX 3 (v:=?_) rfl rfl (by kernel_rfl) (fun _ _ _ h=>h) (yesH (by rfl) ?_) ⟨c0,cb⟩ ?_
   rotate_left
   ·intro w9 hS9
    obtain⟨g0,g1⟩:=hS9
    go_simp
    try with_reducible rfl
   try simp only[Act.put,sA,sB,sC]
   refine takeX 4 (v:=?_) rfl rfl (by kernel_rfl) (fun _ _ _ h=>h) (yesH (by rfl) ?_) ⟨c0,cb⟩ ?_
   rotate_left
   ·intro w9 hS9
    obtain⟨g0,g1⟩:=hS9
    go_simp
    try with_reducible rfl
   try simp only[Act.put,sA,sB,sC]
   refine takeX 5 (v:=?_) rfl rfl (by kernel_rfl) (fun _ _ _ h=>h) (yesH (by rfl) ?_) ⟨c0,cb⟩ ?_
   rotate_left
   ·intro w9 hS9
    obtain⟨g0,g1⟩:=hS9
    go_simp
    try with_reducible rfl
   try simp only[Act.put,sA,sB,sC]
   refine takeX 6 (v:=?_) rfl rfl (by kernel_rfl) (fun _ _ _ h=>h) (yesH (by rfl) ?_) ⟨c0,cb⟩ ?_
   rotate_left
   ·intro w9 hS9
    obtain⟨g0,g1⟩:=hS9
    go_simp
    try with_reducible rfl
   try simp only[Act.put,sA,sB,sC]
   refine takeX 7 (v:=?_) rfl rfl (by kernel_rfl) (fun _ _ _ h=>h) (yesH (by rfl) ?_) ⟨c0,cb⟩ ?_
   rotate_left
   ·intro w9 hS9
    obtain⟨g0,g1⟩:=hS9
    go_simp
    try with_reducible rfl
   try simp only[Act.put,sA,sB,sC]
   refine takeX 8 (v:=?_) rfl rfl (by kernel_rfl) (fun _ _ _ h=>h) (yesH (by rfl) ?_) ⟨c0,cb⟩ ?_
   rotate_left
   ·intro w9 hS9
    obtain⟨g0,g1⟩:=hS9
    go_simp
    try with_reducible rfl
   try simp only[Act.put,sA,sB,sC]
   refine takeX 9 (v:=?_) rfl rfl (by kernel_rfl) (fun _ _ _ h=>h) (yesH (by rfl) ?_) ⟨c0,cb⟩ ?_
   rotate_left
   ·intro w9 hS9
    obtain⟨g0,g1⟩:=hS9
    go_simp
    try with_reducible rfl
   try simp only[Act.put,sA,sB,sC]
   refine takeX 10 (v:=?_) rfl rfl (by kernel_rfl) (fun _ _ _ h=>h) (yesH (by rfl) ?_) ⟨c0,cb⟩ ?_
   rotate_left
   ·intro w9 hS9
    obtain⟨g0,g1⟩:=hS9
    go_simp
    try with_reducible rfl
   try simp only[Act.put,sA,sB,sC]
   refine takeX 11 (v:=?_) rfl rfl (by kernel_rfl) (fun _ _ _ h=>h) (yesH (by rfl) ?_) ⟨c0,cb⟩ ?_
   rotate_left
   ·intro w9 hS9
    obtain⟨g0,g1⟩:=hS9
    go_simp
    try with_reducible rfl
   try simp only[Act.put,sA,sB,sC]
   have HW2:Hid (ClS w1.drew R n fs (.slice vu fs.length vc)):=⟨HS1.out.box,HS1.out.row,HS1.out.fsv,HS1.out.len,HS1.out.bl⟩
   have HT2:Hid (IntA2 w1.drew w.heap.size pu ps):=HTl.out
   have HB2:Hid (Below R w w1.drew):=HBR.out.drew
   have d0:w1.drew.cell? ⟨R,0,none⟩=some (.slice vu fs.length vc):=c0
   have d1:w1.drew.cell? ⟨b,0,none⟩=some (.int .i64 r):=cb
   have hbz:b<w1.drew.heap.size:=hb2
   have HLb:Hid (w1.drew.heap[b]?=some (.cells lcur 2 (0,0))):=HLb1.out
   have hz2:w.heap.size≤w1.drew.heap.size:=z1
   clear HLb1 HS1 HTl HBR HB1 HA1 c0 cb c1 hb2 z1
   generalize w1.drew=W2 at *
   have b6:Below W2.heap.size W2 (W2.alloc (.cells #[.slice pu ps.length (lc-1),.int .i64 r,.slice none 0 0] 55)):=(Below.refl _ _).alloc (Nat.le_refl _) _
   have HR6:Hid (RowS 55 3 fnC (W2.alloc (.cells #[.slice pu ps.length (lc-1),.int .i64 r,.slice none 0 0] 55)) (R+1) (.slice vu fs.length vc) fs):=HW2.out.row.stay (Stay.below (Stay.refl [] _) b6) (fun _ _ hm=>by cases hm)
   have c5:(W2.alloc (.cells #[.slice pu ps.length (lc-1),.int .i64 r,.slice none 0 0] 55)).cell? ⟨R,0,none⟩=some (.slice vu fs.length vc):=(b6.cell (by show R<_;omega)).trans d0
   have c6:(W2.alloc (.cells #[.slice pu ps.length (lc-1),.int .i64 r,.slice none 0 0] 55)).cell? ⟨b,0,none⟩=some (.int .i64 r):=(b6.cell (by show b<_;omega)).trans d1
   obtain⟨g6,cap6,wa,hrun,hown6,hgr6,_,_⟩:=run_append_lies (P:=Tryz.prog) (W2.alloc (.cells #[.slice pu ps.length (lc-1),.int .i64 r,.slice none 0 0] 55)) 24 24 (R+1) 55 iF (.agg #[.slice none 0 0,.int .i64 0,.slice none 0 0]) 3 56 Tryz.underlying24 hiF zF sF' bF rfl (by decide) (.slice vu fs.length vc) fs.length (fs.flatMap fnC) HR6.out ⟨W2.heap.size,0,none⟩ 1 1 [.slice pu ps.length (lc-1),.int .i64 r,.slice none 0 0] rfl (World.news_of_block (At.new W2 #[.slice pu ps.length (lc-1),.int .i64 r,.slice none 0 0] 55)) (by simp[Value.oneCell']) (by decide) (by unfold maxLen;omega) (by omega) (by have:=b6.size;omega) _ rfl
   have LV:=inR_lv HW2.out.box HW2.out.row
   have lvR:Lv 4 W2 R:=LV R (List.mem_cons_self ..)
   have hown:∀ g,(Value.slice vu fs.length vc).ownBlock=some g→g∈inR R (.slice vu fs.length vc):=fun g e=>List.mem_cons_of_mem _ (by rw[e];simp)
   have STa:Stay (inR R (.slice vu fs.length vc)) W2 wa:=Stay.grown (Stay.below (Stay.refl _ _) b6) hgr6 fun g e=>.inl (hown g e)
   have hne:∀ g,(Value.slice vu fs.length vc).ownBlock=some g→g≠R∧g≠b:=fun g e=>by
    have hR1:=(HW2.out.row.ge e).1
    refine⟨by omega,?_⟩
    rintro rfl
    exact absurd (LV g (hown g e) _ _ HLb.out) (by decide)
   have HRa:Hid (RowS 55 3 fnC wa (R+1) (.slice (some ⟨g6,0,none⟩) (fs.length+1) cap6) (fs++[⟨ps,pu,lc-1,r,[],none,0⟩])):=RowS.push hown6
   have HAa:Hid (At wa R #[.slice vu fs.length vc,.bool false] 62):=(hgr6.block R (by have:=b6.size;omega) (fun e=>(hne R e.symm).1 rfl)).trans ((b6.block R (by omega)).trans HW2.out.box)
   have e0:wa.cell? ⟨R,0,none⟩=some (.slice vu fs.length vc):=HAa.out.cell 0
   have ef:∀ o,wa.frozen? ⟨R,o,none⟩=false:=fun o=>zfH HAa.out
   have e1:wa.cell? ⟨b,0,none⟩=some (.int .i64 r):=(zcB (hgr6.block b (by have:=b6.size;omega) (fun e=>(hne b e.symm).2 rfl))).trans c6
   have ST9:Stay (inR R (.slice vu fs.length vc)) W2 (wa.setCell ⟨R,0,none⟩ (.slice (some ⟨g6,0,none⟩) (fs.length+1) cap6)):=STa.set (.inl (List.mem_cons_self ..))
   have HBa:Hid (Below R w (wa.setCell ⟨R,0,none⟩ (.slice (some ⟨g6,0,none⟩) (fs.length+1) cap6))):=((HB2.out.trans (b6.mono (by omega))).grown hgr6 (by have:=b6.size;omega) (fun q hq=>by have:=(HW2.out.row.ge hq).1;omega)).setCell (Nat.le_refl _) _
   have HC:Hid (ClS (wa.setCell ⟨R,0,none⟩ (.slice (some ⟨g6,0,none⟩) (fs.length+1) cap6)) R (n+1) (fs++[⟨ps,pu,lc-1,r,[],none,0⟩]) (.slice (some ⟨g6,0,none⟩) (fs.length+1) cap6)):=by
    refine⟨zhS (o:=0) HAa.out,HRa.out.stay (S:=[R]) ((Stay.refl _ _).set (.inl (List.mem_singleton.2 rfl))) (fun g e hm=>?_),fun f hf=>?_,by rw[List.length_append,List.length_singleton];omega,fun f hf=>?_⟩
    ·have:=(HRa.out.ge e).1
     have:=List.mem_singleton.1 hm
     omega
    ·rcases List.mem_append.1 hf with hf|hf
     ·exact ((HW2.out.fsv f hf).stay ST9 fun b hb=>.inr (LV b hb)).wide (Nat.le_refl _) ST9.size
     ·obtain rfl:=List.mem_singleton.1 hf
      exact⟨(HT2.out.stay ST9 fun b hb=>.inr ((LV b hb).low (by decide))).wide (by omega) ST9.size,by simp,.inl rfl,fun e he=>by cases he⟩
    ·rcases List.mem_append.1 hf with hf|hf
     ·have:=HW2.out.bl f hf
      omega
     ·obtain rfl:=List.mem_singleton.1 hf
      exact Nat.zero_le _
   have HQ:Hid (∀ x q',LineIs s x→LnOk x→Step (stC fs) x q'→q'=stC (fs++[⟨ps,pu,lc-1,r,[],none,0⟩])):=fun x q' hx hk hst=>by
    rcases st_cl hst with⟨_,r',ps',h2,h3⟩|⟨h1,_⟩
    ·rw[←(HT.out x hx hk).2.2,HL.out] at h2
     cases h2
     rw[h3]
     unfold stC
     rw[List.map_append]
     rfl
    ·have h3:=(HT.out x hx hk).2.1
     rw[HF.out,h1] at h3
     exact absurd (bs_inj h3) (by decide)
   clear HLb b6 HR6 hown6 hgr6 LV lvR hown STa hne HRa HAa ST9 HW2 HT2 HB2 HT HL HF
   refine readyX 12 rfl (by kernel_rfl) (fun K hK=>?_)
   go_simp
   refine hK.out _ _ (.inr ⟨c5,c6⟩) ?_
   clear hK K
   try simp only[Act.put,sA,sB,sC]
   refine readyX 13 rfl (by kernel_rfl) (fun K hK=>?_)
   refine step_runP rfl _ _ _ rfl rfl rfl hrun ?_
   refine hK.out _ _ (.inr ⟨e0,e1⟩) ?_
   clear hK K hrun
   try simp only[Act.put,sA,sB,sC]
   refine readyX 14 rfl (by kernel_rfl) (fun K hK=>?_)
   go_simp
   refine hK.out _ _ (.inr ⟨e0,e1⟩) ?_
   clear hK K
   try simp only[Act.put,sA,sB,sC]
   refine readyX 15 rfl (by kernel_rfl) (fun K hK=>?_)
   go_simp
   refine hK.out _ _ (.inr ⟨e0,e1⟩) ?_
   clear hK K
   try simp only[Act.put,sA,sB,sC]
   refine readyX 16 rfl (by kernel_rfl) (fun K hK=>?_)
   go_simp
   refine hK.out _ _ (.inr ⟨e0,e1⟩) ?_
   clear hK K
   try simp only[Act.put,sA,sB,sC]
   refine readyX 17 rfl (by kernel_rfl) (fun K hK=>?_)
   go_simp
   refine hK.out _ _ (.inl rfl) ?_
   clear hK K
   refine doneX (by kernel_rfl) ?_ _
   go_wp2_with fail
   go_ret
   exact⟨.inl ⟨_,rfl,.inl ⟨_,_,HC.out,rfl⟩,HQ.out⟩,HBa.out⟩
 ·have q1:(word.toList==[102,117,110,99])=false:=wd_no (u:=wFun) hf
  by_cases h0:fs=[]
  ·have HNo:Hid (∀ x q',LineIs s x→LnOk x→¬Step (stC fs) x q'):=fun x q' hx hk hst=>by
    rcases st_cl hst with⟨h1,_⟩|⟨_,_,l2,ps,r,bs,h2,_⟩
    ·exact hf (by rw[(HT.out x hx hk).2.1,h1])
    ·rw[h0] at h2
     simp at h2
   have q2:((fs.length:Int)-1)<0:=by rw[h0];simp
   clear h0
   go_wp2_with fail
   go_ret
   exact⟨.inr ⟨rfl,HNo.out⟩,HBR.out⟩
  ·have hpos:=List.length_pos_iff.2 h0
   have q2:¬((fs.length:Int)-1)<0:=by omega
   by_cases hb:word=bs wBlk
   ·have q3:(word.toList==[98,108,111,99,107])=true:=wd_yes (u:=wBlk) hb
    have HF:Hid (¬word=bs wFun):=hf
    have HBk:Hid (word=bs wBlk):=hb
    obtain⟨iB,hiB,zBk,sB',bB⟩:=info_three infoBkM
    obtain⟨fl,f,hff⟩:∃ fl f,fs=fl++[f]:=⟨fs.dropLast,fs.getLast h0,(List.dropLast_concat_getLast h0).symm⟩
    have HFF:Hid (fs=fl++[f]):=hff
    have hfn:fs.length=fl.length+1:=by rw[hff];simp
    have HS1:Hid (ClS w1 R n fs (.slice vu fs.length vc)):=HS.out.keep HB1.out
    obtain⟨g,gcur,hgv,hgb,hgh,hgc⟩:=RowS.cellAt (C:=fnC) (s:=3) (fun _=>rfl) HS1.out.row (i:=fl.length) (e:=f) (by rw[hff];simp)
    subst hgv
    have x0:w1.cell? ⟨g,fl.length*3,none⟩=some (.slice f.pu f.pars.length f.pc):=hgc 0 (by decide)
    have x1:w1.cell? ⟨g,fl.length*3+1,none⟩=some (.int .i64 f.ret):=hgc 1 (by decide)
    have x2:w1.cell? ⟨g,fl.length*3+2,none⟩=some (.slice f.bu f.bs.length f.bc):=hgc 2 (by decide)
    have c0:w1.cell? ⟨R,0,none⟩=some (.slice (some ⟨g,0,none⟩) fs.length vc):=HA1.out.cell 0
    have hk1:((fs.length:Int)-1)=(fl.length:Int):=by omega
    have hk2:(fl.length:Int)<(fs.length:Int):=by omega
    have hk3:(0:Int)≤(fl.length:Int):=by omega
    have hk4:(fl.length:Int)<(fl.length:Int)+1:=by omega
    have hfm:f∈fs:=by rw[hff];simp
    have hbl:f.bs.length≤n:=HS.out.bl f hfm
    have HGH:Hid (w1.heap[g]?=some (.cells gcur 55 (0,0))):=hgh
    have HFv:Hid (SFn w1 (R+1) w1.heap.size f):=HS1.out.fsv f hfm
    clear hf hb h0 hff hfm hgc hgh q2 hpos
    have b2:Below w1.heap.size w1 ((w1.alloc (.cells #[.slice f.pu f.pars.length f.pc,.int .i64 f.ret,.slice f.bu f.bs.length f.bc] 55)).alloc (.cells #[] 74)):=((Below.refl _ _).alloc (Nat.le_refl _) _).alloc (by simp) _
    have zA:(w1.alloc (.cells #[.slice f.pu f.pars.length f.pc,.int .i64 f.ret,.slice f.bu f.bs.length f.bc] 55)).heap.size=w1.heap.size+1:=by simp
    have zB2:((w1.alloc (.cells #[.slice f.pu f.pars.length f.pc,.int .i64 f.ret,.slice f.bu f.bs.length f.bc] 55)).alloc (.cells #[] 74)).heap.size=w1.heap.size+2:=by simp
    have aF0:At ((w1.alloc (.cells #[.slice f.pu f.pars.length f.pc,.int .i64 f.ret,.slice f.bu f.bs.length f.bc] 55)).alloc (.cells #[] 74)) w1.heap.size #[.slice f.pu f.pars.length f.pc,.int .i64 f.ret,.slice f.bu f.bs.length f.bc] 55:=(At.new w1 _ _).below ((Below.refl _ _).alloc (Nat.le_refl _) _)
    have aN:At ((w1.alloc (.cells #[.slice f.pu f.pars.length f.pc,.int .i64 f.ret,.slice f.bu f.bs.length f.bc] 55)).alloc (.cells #[] 74)) (w1.heap.size+1) #[] 74:=by
     have:=At.new (w1.alloc (.cells #[.slice f.pu f.pars.length f.pc,.int .i64 f.ret,.slice f.bu f.bs.length f.bc] 55)) #[] 74
     rwa [zA] at this
    have SLB:SL 74 6 bkC SBk w1 (R+1) w1.heap.size f.bu f.bs:=HFv.out.2
    have SLB2:SL 74 6 bkC SBk ((w1.alloc (.cells #[.slice f.pu f.pars.length f.pc,.int .i64 f.ret,.slice f.bu f.bs.length f.bc] 55)).alloc (.cells #[] 74)) (R+1) w1.heap.size f.bu f.bs:=SLB.stay (Stay.below (Stay.refl [] _) b2) (by decide) (fun _ h=>by cases h) fun _ k=>k.stay (Stay.below (Stay.refl [] _) b2) (fun _ h=>by cases h)
    have hbl2:f.bs.length≤20001:=by omega
    have CP:=copyBks (c:=f.bc) aN SLB2 hbl2
    obtain⟨u1,cap1,wC,hrun1,hR1,hg1,hu1⟩:=CP
    have hu1N:w1.heap.size+1≤u1:=(hR1.ge rfl).1
    have bC:Below w1.heap.size w1 wC:=b2.grown hg1 (by rw[zB2];omega) (fun q e=>by cases e;omega)
    have zC:w1.heap.size+2≤wC.heap.size:=by have:=hg1.size;omega
    have aFC:At wC w1.heap.size #[.slice f.pu f.pars.length f.pc,.int .i64 f.ret,.slice f.bu f.bs.length f.bc] 55:=(hg1.block _ (by rw[zB2];omega) (fun e=>by injection e with e;omega)).trans aF0
    have b3:Below wC.heap.size wC (wC.alloc (.cells #[.slice none 0 0,.slice none 0 0,.int .i64 0,.int .i64 0,.int .i64 0,.int .i64 0] 74)):=(Below.refl _ _).alloc (Nat.le_refl _) _
    have hR2:RowS 74 6 bkC (wC.alloc (.cells #[.slice none 0 0,.slice none 0 0,.int .i64 0,.int .i64 0,.int .i64 0,.int .i64 0] 74)) (w1.heap.size+1) (.slice (some ⟨u1,0,none⟩) f.bs.length cap1) f.bs:=hR1.stay (Stay.below (Stay.refl [] _) b3) (fun _ _ hm=>by cases hm)
    obtain⟨g6,cap6,wE,hrun2,hown6,hgr6,_,_⟩:=run_append_lies (P:=Tryz.prog) (wC.alloc (.cells #[.slice none 0 0,.slice none 0 0,.int .i64 0,.int .i64 0,.int .i64 0,.int .i64 0] 74)) 53 53 (w1.heap.size+1) 74 iB (.agg #[.slice none 0 0,.slice none 0 0,.int .i64 0,.int .i64 0,.int .i64 0,.int .i64 0]) 6 80 Tryz.underlying53 hiB zBk sB' bB rfl (by decide) (.slice (some ⟨u1,0,none⟩) f.bs.length cap1) f.bs.length (f.bs.flatMap bkC) hR2 ⟨wC.heap.size,0,none⟩ 1 1 [.slice none 0 0,.slice none 0 0,.int .i64 0,.int .i64 0,.int .i64 0,.int .i64 0] rfl (World.news_of_block (At.new wC #[.slice none 0 0,.slice none 0 0,.int .i64 0,.int .i64 0,.int .i64 0,.int .i64 0] 74)) (by simp[Value.oneCell']) (by decide) (by unfold maxLen;omega) (by omega) (by have:=b3.size;omega) _ rfl
    have HRE:Hid (RowS 74 6 bkC wE (w1.heap.size+1) (.slice (some ⟨g6,0,none⟩) (f.bs.length+1) cap6) (f.bs++[(⟨[],none,0,[],none,0,⟨0,0,0,0⟩⟩:BkE)])):=RowS.push hown6
    have HBE:Hid (Below w1.heap.size w1 wE):=(bC.trans (b3.mono (by omega))).grown hgr6 (by have:=b3.size;omega) (fun q e=>by cases e;show _≤u1;omega)
    have HAE:Hid (At wE w1.heap.size #[.slice f.pu f.pars.length f.pc,.int .i64 f.ret,.slice f.bu f.bs.length f.bc] 55):=(hgr6.block _ (by have:=b3.size;omega) (fun e=>by injection e with e;have e2:w1.heap.size=u1:=e;omega)).trans (aFC.below b3)
    have y2:wE.cell? ⟨w1.heap.size,2,none⟩=some (.slice f.bu f.bs.length f.bc):=HAE.out.cell 2
    have y2C:((w1.alloc (.cells #[.slice f.pu f.pars.length f.pc,.int .i64 f.ret,.slice f.bu f.bs.length f.bc] 55)).alloc (.cells #[] 74)).cell? ⟨w1.heap.size,2,none⟩=some (.slice f.bu f.bs.length f.bc):=aF0.cell 2
    have yf:∀ o,wE.frozen? ⟨w1.heap.size,o,none⟩=false:=fun o=>zfH HAE.out
    have zE:w1.heap.size+2≤wE.heap.size:=by have:=b3.size;have:=hgr6.size;omega
    clear b2 aF0 aN SLB SLB2 hR1 hg1 bC aFC b3 hR2 hown6 hgr6 zA zB2 hu1
    go_wp2_with (at_builtin;first|(refine list_runP rfl _ _ _ rfl rfl rfl hrun1 ?_;clear hrun1)|(refine list_runP rfl _ _ _ rfl rfl rfl hrun2 ?_;clear hrun2))
    have HAF:Hid (At (wE.setCell ⟨w1.heap.size,2,none⟩ (.slice (some ⟨g6,0,none⟩) (f.bs.length+1) cap6)) w1.heap.size #[.slice f.pu f.pars.length f.pc,.int .i64 f.ret,(.slice (some ⟨g6,0,none⟩) (f.bs.length+1) cap6)] 55):=zhS (o:=2) HAE.out
    have HRF:Hid (RowS 74 6 bkC (wE.setCell ⟨w1.heap.size,2,none⟩ (.slice (some ⟨g6,0,none⟩) (f.bs.length+1) cap6)) (w1.heap.size+1) (.slice (some ⟨g6,0,none⟩) (f.bs.length+1) cap6) (f.bs++[(⟨[],none,0,[],none,0,⟨0,0,0,0⟩⟩:BkE)])):=HRE.out.stay (S:=[w1.heap.size]) ((Stay.refl _ _).set (.inl (List.mem_singleton.2 rfl))) (fun q e hm=>by
     have:=(HRE.out.ge e).1
     have:=List.mem_singleton.1 hm
     omega)
    have HBF:Hid (Below w1.heap.size w1 (wE.setCell ⟨w1.heap.size,2,none⟩ (.slice (some ⟨g6,0,none⟩) (f.bs.length+1) cap6))):=HBE.out.setCell (Nat.le_refl _) _
    have zF2:w1.heap.size+2≤(wE.setCell ⟨w1.heap.size,2,none⟩ (.slice (some ⟨g6,0,none⟩) (f.bs.length+1) cap6)).heap.size:=by simpa using zE
    have hgl:g<w1.heap.size:=(Array.getElem?_eq_some_iff.1 HGH.out).1
    have d0:(wE.setCell ⟨w1.heap.size,2,none⟩ (.slice (some ⟨g6,0,none⟩) (f.bs.length+1) cap6)).drew.cell? ⟨R,0,none⟩=some (.slice (some ⟨g,0,none⟩) fs.length vc):=(HBF.out.cell (by show R<_;omega)).trans c0
    have f0:(wE.setCell ⟨w1.heap.size,2,none⟩ (.slice (some ⟨g6,0,none⟩) (f.bs.length+1) cap6)).drew.cell? ⟨w1.heap.size,0,none⟩=some (.slice f.pu f.pars.length f.pc):=HAF.out.cell 0
    have f1:(wE.setCell ⟨w1.heap.size,2,none⟩ (.slice (some ⟨g6,0,none⟩) (f.bs.length+1) cap6)).drew.cell? ⟨w1.heap.size,1,none⟩=some (.int .i64 f.ret):=HAF.out.cell 1
    have f2:(wE.setCell ⟨w1.heap.size,2,none⟩ (.slice (some ⟨g6,0,none⟩) (f.bs.length+1) cap6)).drew.cell? ⟨w1.heap.size,2,none⟩=some (.slice (some ⟨g6,0,none⟩) (f.bs.length+1) cap6):=HAF.out.cell 2
    have y0:(wE.setCell ⟨w1.heap.size,2,none⟩ (.slice (some ⟨g6,0,none⟩) (f.bs.length+1) cap6)).drew.cell? ⟨g,fl.length*3,none⟩=some (.slice f.pu f.pars.length f.pc):=(HBF.out.cell hgl).trans x0
    have y1:(wE.setCell ⟨w1.heap.size,2,none⟩ (.slice (some ⟨g6,0,none⟩) (f.bs.length+1) cap6)).drew.cell? ⟨g,fl.length*3+1,none⟩=some (.int .i64 f.ret):=(HBF.out.cell hgl).trans x1
    have y3:(wE.setCell ⟨w1.heap.size,2,none⟩ (.slice (some ⟨g6,0,none⟩) (f.bs.length+1) cap6)).drew.cell? ⟨g,fl.length*3+2,none⟩=some (.slice f.bu f.bs.length f.bc):=(HBF.out.cell hgl).trans x2
    have HGF:Hid ((wE.setCell ⟨w1.heap.size,2,none⟩ (.slice (some ⟨g6,0,none⟩) (f.bs.length+1) cap6)).drew.heap[g]?=some (.cells gcur 55 (0,0))):=(HBF.out.block g hgl).trans HGH.out
    have gf:∀ o,(wE.setCell ⟨w1.heap.size,2,none⟩ (.slice (some ⟨g6,0,none⟩) (f.bs.length+1) cap6)).drew.frozen? ⟨g,o,none⟩=false:=fun o=>zfH HGF.out
    refine startX (fun w'=>w'.cell? ⟨R,0,none⟩=some (.slice (some ⟨g,0,none⟩) fs.length vc)∧w'.cell? ⟨w1.heap.size,0,none⟩=some (.slice f.pu f.pars.length f.pc)∧w'.cell? ⟨w1.heap.size,1,none⟩=some (.int .i64 f.ret)∧w'.cell? ⟨w1.heap.size,2,none⟩=some (.slice (some ⟨g6,0,none⟩) (f.bs.length+1) cap6)) (fun i=>decide (7≤i)) (by kernel_rfl) ?_
    have HAG:Hid (At (wE.setCell ⟨w1.heap.size,2,none⟩ (.slice (some ⟨g6,0,none⟩) (f.bs.length+1) cap6)).drew w1.heap.size #[.slice f.pu f.pars.length f.pc,.int .i64 f.ret,(.slice (some ⟨g6,0,none⟩) (f.bs.length+1) cap6)] 55):=HAF.out
    have HRG:Hid (RowS 74 6 bkC (wE.setCell ⟨w1.heap.size,2,none⟩ (.slice (some ⟨g6,0,none⟩) (f.bs.length+1) cap6)).drew (w1.heap.size+1) (.slice (some ⟨g6,0,none⟩) (f.bs.length+1) cap6) (f.bs++[(⟨[],none,0,[],none,0,⟨0,0,0,0⟩⟩:BkE)])):=HRF.out
    have HBG:Hid (Below w1.heap.size w1 (wE.setCell ⟨w1.heap.size,2,none⟩ (.slice (some ⟨g6,0,none⟩) (f.bs.length+1) cap6)).drew):=HBF.out.drew
    have zG:w1.heap.size+2≤(wE.setCell ⟨w1.heap.size,2,none⟩ (.slice (some ⟨g6,0,none⟩) (f.bs.length+1) cap6)).drew.heap.size:=zF2
    clear x0 x1 x2 y2 yf zE HRE HBE HAE HAF HRF HBF zF2
    obtain⟨WG,hWG⟩:∃ W,(wE.setCell ⟨w1.heap.size,2,none⟩ (.slice (some ⟨g6,0,none⟩) (f.bs.length+1) cap6)).drew=W:=⟨_,rfl⟩
    rw[hWG] at d0 f0 f1 f2 y0 y1 y3 HGF gf HAG HRG HBG zG ⊢
    clear hWG
    refine takeX 0 (v:=?_) rfl rfl (by kernel_rfl) (fun _ _ _ h=>h) (yesH (by rfl) ?_) ⟨d0,f0,f1,f2⟩ ?_
    rotate_left
    ·intro w9 hS9
     obtain⟨g0,g1,g2,g3⟩:=hS9
     go_simp
     try with_reducible rfl
    try simp only[Act.put,sA,sB,sC]
    refine takeX 1 (v:=?_) rfl rfl (by kernel_rfl) (fun _ _ _ h=>h) (yesH (by rfl) ?_) ⟨d0,f0,f1,f2⟩ ?_
    rotate_left
    ·intro w9 hS9
     obtain⟨g0,g1,g2,g3⟩:=hS9
     go_simp
     try with_reducible rfl
    try simp only[Act.put,sA,sB,sC]
    refine takeX 2 (v:=?_) rfl rfl (by kernel_rfl) (fun _ _ _ h=>h) (yesH (by rfl) ?_) ⟨d0,f0,f1,f2⟩ ?_
    rotate_left
    ·intro w9 hS9
     obtain⟨g0,g1,g2,g3⟩:=hS9
     go_simp
     try with_reducible rfl
    try simp only[Act.put,sA,sB,sC]
    refine takeX 3 (v:=?_) rfl rfl (by kernel_rfl) (fun _ _ _ h=>h) (yesH (by rfl) ?_) ⟨d0,f0,f1,f2⟩ ?_
    rotate_left
    ·intro w9 hS9
     obtain⟨g0,g1,g2,g3⟩:=hS9
     go_simp
     try with_reducible rfl
    try simp only[Act.put,sA,sB,sC]
    refine takeX 4 (v:=?_) rfl rfl (by kernel_rfl) (fun _ _ _ h=>h) (yesH (by rfl) ?_) ⟨d0,f0,f1,f2⟩ ?_
    rotate_left
    ·intro w9 hS9
     obtain⟨g0,g1,g2,g3⟩:=hS9
     go_simp
     try with_reducible rfl
    try simp only[Act.put,sA,sB,sC]
    refine takeX 5 (v:=?_) rfl rfl (by kernel_rfl) (fun _ _ _ h=>h) (yesH (by rfl) ?_) ⟨d0,f0,f1,f2⟩ ?_
    rotate_left
    ·intro w9 hS9
     obtain⟨g0,g1,g2,g3⟩:=hS9
     go_simp
     try with_reducible rfl
    try simp only[Act.put,sA,sB,sC]
    refine takeX 6 (v:=?_) rfl rfl (by kernel_rfl) (fun _ _ _ h=>h) (yesH (by rfl) ?_) ⟨d0,f0,f1,f2⟩ ?_
    rotate_left
    ·intro w9 hS9
     obtain⟨g0,g1,g2,g3⟩:=hS9
     go_simp
     try with_reducible rfl
    try simp only[Act.put,sA,sB,sC]
    refine readyX 7 rfl (by kernel_rfl) (fun K hK=>?_)
    go_simp
    refine hK.out _ _ (.inl rfl) ?_
    clear hK K
    try simp only[Act.put,sA,sB,sC]
    have hgR:g≠R:=by omega
    have HX0:RowS 55 3 fnC WG (R+1) (.slice (some ⟨g,0,none⟩) (fl.length+1) vc) (fl++[f]):=by
     have:=HS1.out.row
     rw[HFF.out] at this
     have e:(fl++[f]).length=fl.length+1:=by simp
     rw[e] at this
     exact this.stay (S:=[]) (Stay.below (Stay.refl [] _) HBG.out) (fun _ _ hm=>by cases hm)
    have HXr:RowS 55 3 fnC (((WG.setCell ⟨g,fl.length*3,none⟩ (.slice f.pu f.pars.length f.pc)).setCell ⟨g,fl.length*3+1,none⟩ (.int .i64 f.ret)).setCell ⟨g,fl.length*3+2,none⟩ (.slice (some ⟨g6,0,none⟩) (f.bs.length+1) cap6)) (R+1) (.slice (some ⟨g,0,none⟩) (fl.length+1) vc) (fl++[(⟨f.pars,f.pu,f.pc,f.ret,f.bs++[(⟨[],none,0,[],none,0,⟨0,0,0,0⟩⟩:BkE)],some ⟨g6,0,none⟩,cap6⟩:FnE)]):=RowS.last (C:=fnC) (s:=3) (fun _=>rfl) HX0 fun cur h=>by
     have h1:=heap_setCells (fnC (⟨f.pars,f.pu,f.pc,f.ret,f.bs++[(⟨[],none,0,[],none,0,⟨0,0,0,0⟩⟩:BkE)],some ⟨g6,0,none⟩,cap6⟩:FnE)) (fl.length*3) WG cur h
     have e:(f.bs++[(⟨[],none,0,[],none,0,⟨0,0,0,0⟩⟩:BkE)]).length=f.bs.length+1:=by simp
     have h2:WG.setCells g (fl.length*3) (fnC (⟨f.pars,f.pu,f.pc,f.ret,f.bs++[(⟨[],none,0,[],none,0,⟨0,0,0,0⟩⟩:BkE)],some ⟨g6,0,none⟩,cap6⟩:FnE))=(((WG.setCell ⟨g,fl.length*3,none⟩ (.slice f.pu f.pars.length f.pc)).setCell ⟨g,fl.length*3+1,none⟩ (.int .i64 f.ret)).setCell ⟨g,fl.length*3+2,none⟩ (.slice (some ⟨g6,0,none⟩) (f.bs.length+1) cap6)):=by
      show ((WG.setCell _ _).setCell _ _).setCell ⟨g,fl.length*3+1+1,none⟩ (.slice (some ⟨g6,0,none⟩) (f.bs++[(⟨[],none,0,[],none,0,⟨0,0,0,0⟩⟩:BkE)]).length cap6)=_
      rw[e]
     rw[h2] at h1
     exact h1
    have AR0:At WG R #[.slice (some ⟨g,0,none⟩) fs.length vc,.bool false] 62:=HA1.out.below HBG.out
    have ARX:At (((WG.setCell ⟨g,fl.length*3,none⟩ (.slice f.pu f.pars.length f.pc)).setCell ⟨g,fl.length*3+1,none⟩ (.int .i64 f.ret)).setCell ⟨g,fl.length*3+2,none⟩ (.slice (some ⟨g6,0,none⟩) (f.bs.length+1) cap6)) R #[.slice (some ⟨g,0,none⟩) fs.length vc,.bool false] 62:=At.setOther (At.setOther (At.setOther AR0 (by omega)) (by omega)) (by omega)
    have AFF:At (((WG.setCell ⟨g,fl.length*3,none⟩ (.slice f.pu f.pars.length f.pc)).setCell ⟨g,fl.length*3+1,none⟩ (.int .i64 f.ret)).setCell ⟨g,fl.length*3+2,none⟩ (.slice (some ⟨g6,0,none⟩) (f.bs.length+1) cap6)) w1.heap.size #[.slice f.pu f.pars.length f.pc,.int .i64 f.ret,(.slice (some ⟨g6,0,none⟩) (f.bs.length+1) cap6)] 55:=At.setOther (At.setOther (At.setOther HAG.out (by omega)) (by omega)) (by omega)
    have r1:(((WG.setCell ⟨g,fl.length*3,none⟩ (.slice f.pu f.pars.length f.pc)).setCell ⟨g,fl.length*3+1,none⟩ (.int .i64 f.ret)).setCell ⟨g,fl.length*3+2,none⟩ (.slice (some ⟨g6,0,none⟩) (f.bs.length+1) cap6)).cell? ⟨R,1,none⟩=some (.bool false):=ARX.cell 1
    have rf:∀ o,(((WG.setCell ⟨g,fl.length*3,none⟩ (.slice f.pu f.pars.length f.pc)).setCell ⟨g,fl.length*3+1,none⟩ (.int .i64 f.ret)).setCell ⟨g,fl.length*3+2,none⟩ (.slice (some ⟨g6,0,none⟩) (f.bs.length+1) cap6)).frozen? ⟨R,o,none⟩=false:=fun o=>zfH ARX
    have t2:(((WG.setCell ⟨g,fl.length*3,none⟩ (.slice f.pu f.pars.length f.pc)).setCell ⟨g,fl.length*3+1,none⟩ (.int .i64 f.ret)).setCell ⟨g,fl.length*3+2,none⟩ (.slice (some ⟨g6,0,none⟩) (f.bs.length+1) cap6)).cell? ⟨w1.heap.size,2,none⟩=some (.slice (some ⟨g6,0,none⟩) (f.bs.length+1) cap6):=AFF.cell 2
    have AY:At ((((WG.setCell ⟨g,fl.length*3,none⟩ (.slice f.pu f.pars.length f.pc)).setCell ⟨g,fl.length*3+1,none⟩ (.int .i64 f.ret)).setCell ⟨g,fl.length*3+2,none⟩ (.slice (some ⟨g6,0,none⟩) (f.bs.length+1) cap6)).setCell ⟨R,1,none⟩ (.bool true)) R #[.slice (some ⟨g,0,none⟩) fs.length vc,.bool true] 62:=zhS (o:=1) ARX
    have STX:Stay [R,g] w1 (((WG.setCell ⟨g,fl.length*3,none⟩ (.slice f.pu f.pars.length f.pc)).setCell ⟨g,fl.length*3+1,none⟩ (.int .i64 f.ret)).setCell ⟨g,fl.length*3+2,none⟩ (.slice (some ⟨g6,0,none⟩) (f.bs.length+1) cap6)):=(((Stay.below (Stay.refl _ _) HBG.out).set (.inl (by simp))).set (.inl (by simp))).set (.inl (by simp))
    have STY:Stay [R,g] w1 ((((WG.setCell ⟨g,fl.length*3,none⟩ (.slice f.pu f.pars.length f.pc)).setCell ⟨g,fl.length*3+1,none⟩ (.int .i64 f.ret)).setCell ⟨g,fl.length*3+2,none⟩ (.slice (some ⟨g6,0,none⟩) (f.bs.length+1) cap6)).setCell ⟨R,1,none⟩ (.bool true)):=STX.set (.inl (by simp))
    have STG:Stay [R,g] WG ((((WG.setCell ⟨g,fl.length*3,none⟩ (.slice f.pu f.pars.length f.pc)).setCell ⟨g,fl.length*3+1,none⟩ (.int .i64 f.ret)).setCell ⟨g,fl.length*3+2,none⟩ (.slice (some ⟨g6,0,none⟩) (f.bs.length+1) cap6)).setCell ⟨R,1,none⟩ (.bool true)):=((((Stay.refl _ _).set (.inl (by simp))).set (.inl (by simp))).set (.inl (by simp))).set (.inl (by simp))
    have LV:∀ b,b∈[R,g]→w1.heap.size≤b∨Lv 4 w1 b:=fun b hb=>.inr (by
     simp only[List.mem_cons,List.not_mem_nil,or_false] at hb
     rcases hb with rfl|rfl
     ·exact Lv.of HA1.out (by decide)
     ·exact Lv.of HGH.out (by decide))
    have HBY:Hid (Below R w ((((WG.setCell ⟨g,fl.length*3,none⟩ (.slice f.pu f.pars.length f.pc)).setCell ⟨g,fl.length*3+1,none⟩ (.int .i64 f.ret)).setCell ⟨g,fl.length*3+2,none⟩ (.slice (some ⟨g6,0,none⟩) (f.bs.length+1) cap6)).setCell ⟨R,1,none⟩ (.bool true))):=((((HBR.out.trans (HBG.out.mono (by omega))).setCell (by dsimp only;omega) _).setCell (by dsimp only;omega) _).setCell (by dsimp only;omega) _).setCell (Nat.le_refl _) _
    have HOp:Hid (OpS ((((WG.setCell ⟨g,fl.length*3,none⟩ (.slice f.pu f.pars.length f.pc)).setCell ⟨g,fl.length*3+1,none⟩ (.int .i64 f.ret)).setCell ⟨g,fl.length*3+2,none⟩ (.slice (some ⟨g6,0,none⟩) (f.bs.length+1) cap6)).setCell ⟨R,1,none⟩ (.bool true)) R w1.heap.size (n+1) fl (⟨f.pars,f.pu,f.pc,f.ret,f.bs++[(⟨[],none,0,[],none,0,⟨0,0,0,0⟩⟩:BkE)],some ⟨g6,0,none⟩,cap6⟩:FnE) f.bs (⟨[],none,0,[],none,0,⟨0,0,0,0⟩⟩:BkE) (.slice (some ⟨g,0,none⟩) fs.length vc)):=by
     refine⟨AY,?_,fun q hq=>(HS1.out.fsv q (by rw[HFF.out];simp[hq])).stay STY LV,HFv.out.1.stay STY (lv_one LV),?_,rfl,fun q hq=>(HFv.out.2.2.2 q hq).stay STY LV,RowS.nil _ _ _ _ _,RowS.nil _ _ _ _ _,fun q hq=>(by cases hq),fun q hq=>(by cases hq),rfl,by omega,STY.size,by omega,fun q hq=>?_,?_,Nat.zero_le _,Nat.zero_le _⟩
     ·rw[hfn]
      exact HXr.stay (S:=[R]) ((Stay.refl _ _).set (.inl (by simp))) (fun q e hm=>by
       have:=List.mem_singleton.1 hm
       have e2:g=q:=by simpa [Value.ownBlock] using e
       omega)
     ·have h1:=HRG.out.stay STG (fun q e hm=>by
       have:=(HRG.out.ge e).1
       simp only[List.mem_cons,List.not_mem_nil,or_false] at hm
       rcases hm with rfl|rfl<;>omega)
      have h2:RowS 74 6 bkC ((((WG.setCell ⟨g,fl.length*3,none⟩ (.slice f.pu f.pars.length f.pc)).setCell ⟨g,fl.length*3+1,none⟩ (.int .i64 f.ret)).setCell ⟨g,fl.length*3+2,none⟩ (.slice (some ⟨g6,0,none⟩) (f.bs.length+1) cap6)).setCell ⟨R,1,none⟩ (.bool true)) w1.heap.size (.slice (some ⟨g6,0,none⟩) (f.bs.length+1) cap6) (f.bs++[(⟨[],none,0,[],none,0,⟨0,0,0,0⟩⟩:BkE)]):=World.ownsRow.mono h1 (by omega)
      have e:(f.bs++[(⟨[],none,0,[],none,0,⟨0,0,0,0⟩⟩:BkE)]).length=f.bs.length+1:=by simp
      show RowS _ _ _ _ _ (.slice _ (f.bs++[(⟨[],none,0,[],none,0,⟨0,0,0,0⟩⟩:BkE)]).length _) _
      rw[e]
      exact h2
     ·have:=HS.out.bl q (by rw[HFF.out];simp[hq])
      omega
     ·show (f.bs++[(⟨[],none,0,[],none,0,⟨0,0,0,0⟩⟩:BkE)]).length≤n+1
      rw[List.length_append,List.length_singleton]
      omega
    have HQ:Hid (∀ x q',LineIs s x→LnOk x→Step (stC fs) x q'→l=[]∧f.bs.length+1≤10∧q'=stO fl (⟨f.pars,f.pu,f.pc,f.ret,f.bs++[(⟨[],none,0,[],none,0,⟨0,0,0,0⟩⟩:BkE)],some ⟨g6,0,none⟩,cap6⟩:FnE) f.bs (⟨[],none,0,[],none,0,⟨0,0,0,0⟩⟩:BkE)):=fun x q' hx hk hst=>by
     rcases st_cl hst with⟨h1,_⟩|⟨_,h2,l2,ps,r,bs,h3,h4,h5⟩
     ·exact absurd (by rw[(HT.out x hx hk).2.1,h1]) HF.out
     ·rw[HFF.out,List.map_append] at h3
      obtain⟨e1,e2⟩:=List.append_inj' h3 rfl
      have e3:f.d=⟨ps,r,bs⟩:=by simpa using e2
      have e4:bs=f.bs.map BkE.d:=by rw[FnE.d] at e3;cases e3;rfl
      refine⟨by rw[(HT.out x hx hk).2.2,h2],by rw[e4,List.length_map] at h4;omega,?_⟩
      rw[h5,←e1]
      rw[FnE.d] at e3
      cases e3
      rfl
    clear HXr HX0 AR0 ARX AFF AY STX STY STG LV HRG HBG HS1 HFv HAG HGF HGH HFF HS HT HF HBk HI HB1 HBR HA1
    refine readyX 8 rfl (by kernel_rfl) (fun K hK=>?_)
    go_simp
    refine hK.out _ _ (.inl rfl) ?_
    clear hK K
    refine doneX (by kernel_rfl) ?_ _
    by_cases hcase:l=[]∧f.bs.length+1≤10
    ·obtain⟨hl0,h10⟩:=hcase
     have k1:((l.length:Int)==0)=true:=by rw[hl0];rfl
     have k2:((f.bs.length:Int)+1)≤10:=by omega
     have HQ2:Hid (∀ x q',LineIs s x→LnOk x→Step (stC fs) x q'→q'=stO fl (⟨f.pars,f.pu,f.pc,f.ret,f.bs++[(⟨[],none,0,[],none,0,⟨0,0,0,0⟩⟩:BkE)],some ⟨g6,0,none⟩,cap6⟩:FnE) f.bs (⟨[],none,0,[],none,0,⟨0,0,0,0⟩⟩:BkE)):=fun x q' hx hk hst=>(HQ.out x q' hx hk hst).2.2
     clear hl0 HQ
     go_wp2_with fail
     go_ret
     exact⟨.inl ⟨_,rfl,.inr ⟨_,_,_,_,_,_,HOp.out,rfl⟩,HQ2.out⟩,HBY.out⟩
    ·have HNo:Hid (∀ x q',LineIs s x→LnOk x→¬Step (stC fs) x q'):=fun x q' hx hk hst=>hcase ⟨(HQ.out x q' hx hk hst).1,(HQ.out x q' hx hk hst).2.1⟩
     by_cases hl0:l=[]
     ·have k1:((l.length:Int)==0)=true:=by rw[hl0];rfl
      have k2:¬((f.bs.length:Int)+1)≤10:=fun h=>hcase ⟨hl0,by omega⟩
      clear hl0 hcase HQ HOp
      go_wp2_with fail
      go_ret
      exact⟨.inr ⟨rfl,HNo.out⟩,HBY.out⟩
     ·have k1:((l.length:Int)==0)=false:=by have:=List.length_pos_iff.2 hl0;simp;omega
      clear hl0 hcase HQ HOp
      go_wp2_with fail
      go_ret
      exact⟨.inr ⟨rfl,HNo.out⟩,HBY.out⟩
   ·have q3:(word.toList==[98,108,111,99,107])=false:=wd_no (u:=wBlk) hb
    have HNo:Hid (∀ x q',LineIs s x→LnOk x→¬Step (stC fs) x q'):=fun x q' hx hk hst=>by
     rcases st_cl hst with⟨h1,_⟩|⟨h1,_⟩
     ·exact hf (by rw[(HT.out x hx hk).2.1,h1])
     ·exact hb (by rw[(HT.out x hx hk).2.1,h1])
    go_wp2_with fail
    go_ret
    exact⟨.inr ⟨rfl,HNo.out⟩,HBR.out⟩
theorem OpS.keep{w w2:World}{R T n:Nat}{fs:List FnE}{f:FnE}{bs:List BkE}{x:BkE}{v:Value}(h:OpS w R T n fs f bs x v)(k:Below w.heap.size w w2):OpS w2 R T n fs f bs x v:=by
 have st:Stay [] w w2:=Stay.below (Stay.refl [] w) k
 have no:∀ hi b,b∈([]:List Nat)→hi≤b∨Lv 4 w b:=fun _ _ hb=>by cases hb
 have no1:∀ hi b,b∈([]:List Nat)→hi≤b∨Lv 1 w b:=fun _ _ hb=>by cases hb
 exact⟨h.box.below k,h.row.stay st (fun _ _ hm=>by cases hm),fun q hq=>(h.fsv q hq).stay st (no _),h.par.stay st (no1 _),h.blk.stay st (fun _ _ hm=>by cases hm),h.fbs,fun q hq=>(h.bsv q hq).stay st (no _),h.phr.stay st (fun _ _ hm=>by cases hm),h.isr.stay st (fun _ _ hm=>by cases hm),fun q hq=>IntO.wide (IntO.stay (h.phE q hq) st (no1 _)) (Nat.le_refl _) k.size,fun q hq=>IntO.wide (IntO.stay (h.isE q hq) st (no1 _)) (Nat.le_refl _) k.size,h.tk,h.hR,Nat.le_trans h.hT k.size,h.len,h.bl,h.lb,h.lp,h.li⟩
theorem ne_types{w:World}{a b:Nat}{c1 c2:Array Value}{T1 T2:TypeId}{z1 z2:Nat × Nat}(h1:w.heap[a]?=some (.cells c1 T1 z1))(h2:w.heap[b]?=some (.cells c2 T2 z2))(h:T1≠T2):a≠b:=by
 rintro rfl
 rw[h1] at h2
 cases h2
 exact h rfl
structure OpN(w:World)(R T n:Nat)(fs:List FnE)(f:FnE)(bs:List BkE)(x:BkE)(v:Value)(b:Bool):Prop where
 box:At w R #[v,.bool b] 62
 row:RowS 55 3 fnC w (R+1) v (fs++[f])
 fsv:∀ f,f∈fs→SFn w (R+1) T f
 par:IntO w (R+1) T f.pu f.pars
 blk:RowS 74 6 bkC w T (.slice f.bu f.bs.length f.bc) f.bs
 fbs:f.bs=bs++[x]
 bsv:∀ b,b∈bs→SBk w (R+1) T b
 phr:RowS 92 2 phC w T (.slice x.pu x.ps.length x.pc) x.ps
 isr:RowS 95 7 inC w T (.slice x.iu x.is.length x.ic) x.is
 phE:∀ p,p∈x.ps→SPh w (R+1) w.heap.size p
 isE:∀ p,p∈x.is→SIn w (R+1) w.heap.size p
 hR:R<T
 hT:T≤w.heap.size
 len:fs.length+1≤n
 bl:∀ f,f∈fs→f.bs.length≤n
 lb:f.bs.length≤n
 lp:x.ps.length≤n
 li:x.is.length≤n
theorem OpS.n{w:World}{R T n:Nat}{fs:List FnE}{f:FnE}{bs:List BkE}{x:BkE}{v:Value}(h:OpS w R T n fs f bs x v):OpN w R T n fs f bs x v true :=
 ⟨h.box,h.row,h.fsv,h.par,h.blk,h.fbs,h.bsv,h.phr,h.isr,h.phE,h.isE,h.hR,h.hT,h.len,h.bl,h.lb,h.lp,h.li⟩
theorem OpN.op{w:World}{R T n:Nat}{fs:List FnE}{f:FnE}{bs:List BkE}{x:BkE}{v:Value}(h:OpN w R T n fs f bs x v true)(tk:x.t=⟨0,0,0,0⟩):OpS w R T n fs f bs x v :=
 ⟨h.box,h.row,h.fsv,h.par,h.blk,h.fbs,h.bsv,h.phr,h.isr,h.phE,h.isE,tk,h.hR,h.hT,h.len,h.bl,h.lb,h.lp,h.li⟩
theorem OpN.fns{w:World}{R T n:Nat}{fs:List FnE}{f:FnE}{bs:List BkE}{x:BkE}{v:Value}{b:Bool}(h:OpN w R T n fs f bs x v b)(hn:n≤1048576):∀ q,q∈fs++[f]→SFn w (R+1) w.heap.size q:=fun q hq=>by
 have hR:=h.hR
 rcases List.mem_append.1 hq with hq|hq
 ·exact (h.fsv q hq).wide (Nat.le_refl _) h.hT
 ·obtain rfl:=List.mem_singleton.1 hq
  refine⟨h.par.wide (Nat.le_refl _) h.hT,RowS.sl (C:=bkC) (s:=6) (fun _=>rfl) (by have:=h.lb;omega) h.blk (fun y hy=>?_) (by omega) (Nat.le_refl _)⟩
  rw[h.fbs] at hy
  rcases List.mem_append.1 hy with hy|hy
  ·exact (h.bsv y hy).wide (Nat.le_refl _) h.hT
  ·obtain rfl:=List.mem_singleton.1 hy
   exact⟨RowS.sl (C:=phC) (s:=2) (fun _=>rfl) (by have:=h.lp;omega) h.phr h.phE (by omega) (Nat.le_refl _),RowS.sl (C:=inC) (s:=7) (fun _=>rfl) (by have:=h.li;omega) h.isr h.isE (by omega) (Nat.le_refl _)⟩
theorem OpN.cl{w:World}{R T n:Nat}{fs:List FnE}{f:FnE}{bs:List BkE}{x:BkE}{v:Value}(h:OpN w R T n fs f bs x v false)(hn:n≤1048576):ClS w R n (fs++[f]) v :=
 ⟨h.box,h.row,h.fns hn,by rw[List.length_append,List.length_singleton];exact h.len,fun q hq=>by
  rcases List.mem_append.1 hq with hq|hq
  ·exact h.bl q hq
  ·obtain rfl:=List.mem_singleton.1 hq
   exact h.lb⟩
theorem OpS.at_{w:World}{R T n:Nat}{fs:List FnE}{f:FnE}{bs:List BkE}{x:BkE}{v:Value}(h:OpS w R T n fs f bs x v)(hn:n≤1048576):∃ u c,v=.slice u (fs++[f]).length c∧zFA w (R+1) u ((fs++[f]).map FnE.d)∧SmMod ((fs++[f]).map FnE.d):=by
 obtain⟨u,c,rfl⟩:=h.row.slice
 have k:=RowS.sl (C:=fnC) (s:=3) (O:=SFn) (fun _=>rfl) (by have:=h.len;rw[List.length_append,List.length_singleton];omega) h.row (h.n.fns hn) (Nat.le_refl _) (Nat.le_refl _)
 exact⟨u,c,rfl,SFns.at_ k,SFns.sm k⟩
structure MidS(w:World)(R T n:Nat)(fs:List FnE)(f:FnE)(bs:List BkE)(x y:BkE)(v:Value):Prop where
 box:At w R #[v,.bool true] 62
 row:RowS 55 3 fnC w (R+1) v (fs++[f])
 fsv:∀ f,f∈fs→SFn w (R+1) T f
 par:IntO w (R+1) T f.pu f.pars
 blk:RowS 74 6 bkC w T (.slice f.bu f.bs.length f.bc) f.bs
 fbs:f.bs=bs++[x]
 bsv:∀ b,b∈bs→SBk w (R+1) T b
 phr:RowS 92 2 phC w T (.slice y.pu y.ps.length y.pc) y.ps
 isr:RowS 95 7 inC w T (.slice y.iu y.is.length y.ic) y.is
 phE:∀ p,p∈y.ps→SPh w (R+1) w.heap.size p
 isE:∀ p,p∈y.is→SIn w (R+1) w.heap.size p
 hR:R<T
 hT:T≤w.heap.size
 len:fs.length+1≤n
 bl:∀ f,f∈fs→f.bs.length≤n
 lb:f.bs.length≤n
 lp:y.ps.length≤n+1
 li:y.is.length≤n+1
 tk:y.t.kind=0→y.t=⟨0,0,0,0⟩
def putB(f:FnE)(bs:List BkE)(y:BkE):FnE:=⟨f.pars,f.pu,f.pc,f.ret,bs++[y],f.bu,f.bc⟩
def putW(w:World)(R q g:Nat)(fs:List FnE)(f:FnE)(bs:List BkE)(y:BkE):World :=
 ((w.setCell ⟨R,1,none⟩ (.bool (y.t.kind==0))).setCells q (bs.length*6) (bkC y)).setCells g (fs.length*3) (fnC (putB f bs y))
theorem MidS.put{w:World}{R T n q g c:Nat}{fs:List FnE}{f:FnE}{bs:List BkE}{x y:BkE}(h:MidS w R T n fs f bs x y (.slice (some ⟨g,0,none⟩) (fs.length+1) c))(hq:f.bu=some ⟨q,0,none⟩):OpN (putW w R q g fs f bs y) R T (n+1) fs (putB f bs y) bs y (.slice (some ⟨g,0,none⟩) (fs.length+1) c) (y.t.kind==0):=by
 have hR:=h.hR
 obtain⟨hg1,gcur,hgc⟩:=h.row.ge (g:=g) rfl
 have hblk:=h.blk
 have eb:f.bs.length=bs.length+1:=by rw[h.fbs];simp
 rw[hq,eb,h.fbs] at hblk
 obtain⟨hq1,qcur,hqc⟩:=hblk.ge (g:=q) rfl
 have hgq:g≠q:=ne_types hgc hqc (by decide)
 have hql:q<w.heap.size:=(Array.getElem?_eq_some_iff.1 hqc).1
 let w1:=w.setCell ⟨R,1,none⟩ (.bool (y.t.kind==0))
 let w2:=w1.setCells q (bs.length*6) (bkC y)
 let w3:=w2.setCells g (fs.length*3) (fnC (putB f bs y))
 have e3:putW w R q g fs f bs y=w3:=rfl
 have S1:Stay [R] w w1:=(Stay.refl _ _).set (.inl (by simp))
 have S2:Stay [q] w1 w2:=Stay.sets _ _ (Stay.refl _ _) (.inl (by simp))
 have S3:Stay [g] w2 w3:=Stay.sets _ _ (Stay.refl _ _) (.inl (by simp))
 have ST:Stay [R,q,g] w w3:=Stay.sets _ _ (Stay.sets _ _ ((Stay.refl _ _).set (.inl (by simp))) (.inl (by simp))) (.inl (by simp))
 have A1:At w1 R #[.slice (some ⟨g,0,none⟩) (fs.length+1) c,.bool (y.t.kind==0)] 62:=zhS (o:=1) h.box
 have hRl:R<w.heap.size:=by omega
 have A2:At w2 R #[.slice (some ⟨g,0,none⟩) (fs.length+1) c,.bool (y.t.kind==0)] 62:=(S2.block R (Nat.lt_of_lt_of_le hRl S1.size) (by simp;omega)).trans A1
 have A3:At w3 R #[.slice (some ⟨g,0,none⟩) (fs.length+1) c,.bool (y.t.kind==0)] 62:=(S3.block R (Nat.lt_of_lt_of_le (Nat.lt_of_lt_of_le hRl S1.size) S2.size) (by simp;omega)).trans A2
 have LV:∀ b,b∈[R,q,g]→T≤b∨Lv 4 w b:=fun b hb=>by
  simp only[List.mem_cons,List.not_mem_nil,or_false] at hb
  rcases hb with rfl|rfl|rfl
  ·exact .inr (Lv.of h.box (by decide))
  ·exact .inl hq1
  ·exact .inr (Lv.of hgc (by decide))
 have LV1:∀ b,b∈[R,q,g]→w.heap.size≤b∨Lv 1 w b:=fun b hb=>.inr (by
  simp only[List.mem_cons,List.not_mem_nil,or_false] at hb
  rcases hb with rfl|rfl|rfl
  ·exact Lv.of h.box (by decide)
  ·exact Lv.of hqc (by decide)
  ·exact Lv.of hgc (by decide))
 have NO:∀ {b cur T'},w.heap[b]?=some (.cells cur T' (0,0))→T'≠62→T'≠74→T'≠55→¬b∈[R,q,g]:=fun hb k1 k2 k3 hm=>by
  simp only[List.mem_cons,List.not_mem_nil,or_false] at hm
  rcases hm with rfl|rfl|rfl
  ·exact ne_types hb h.box k1 rfl
  ·exact ne_types hb hqc k2 rfl
  ·exact ne_types hb hgc k3 rfl
 rw[e3]
 refine⟨A3,?_,fun p hp=>(h.fsv p hp).stay ST LV,h.par.stay ST (lv_one LV),?_,rfl,fun p hp=>(h.bsv p hp).stay ST LV,h.phr.stay ST (fun b hb=>?_),h.isr.stay ST (fun b hb=>?_),fun p hp=>IntO.wide (IntO.stay (h.phE p hp) ST LV1) (Nat.le_refl _) ST.size,fun p hp=>IntO.wide (IntO.stay (h.isE p hp) ST LV1) (Nat.le_refl _) ST.size,hR,Nat.le_trans h.hT ST.size,by have:=h.len;omega,fun p hp=>by have:=h.bl p hp;omega,?_,h.lp,h.li⟩
 ·have r2:RowS 55 3 fnC w2 (R+1) (.slice (some ⟨g,0,none⟩) (fs.length+1) c) (fs++[f]):=(h.row.stay S1 (fun b hb=>by cases hb;simp;omega)).stay S2 (fun b hb=>by cases hb;simpa using hgq)
  exact RowS.last (C:=fnC) (s:=3) (fun _=>rfl) r2 fun cur hc=>heap_setCells _ _ _ _ hc
 ·have r1:RowS 74 6 bkC w1 T (.slice (some ⟨q,0,none⟩) (bs.length+1) f.bc) (bs++[x]):=hblk.stay S1 (fun b hb=>by cases hb;simp;omega)
  have r2:RowS 74 6 bkC w2 T (.slice (some ⟨q,0,none⟩) (bs.length+1) f.bc) (bs++[y]):=RowS.last (C:=bkC) (s:=6) (fun _=>rfl) r1 fun cur hc=>heap_setCells _ _ _ _ hc
  have r3:=r2.stay S3 (fun b hb=>by cases hb;simpa using hgq.symm)
  show RowS _ _ _ _ _ (.slice f.bu (bs++[y]).length f.bc) _
  rw[hq,List.length_append,List.length_singleton]
  exact r3
 ·obtain⟨_,cur,hc⟩:=h.phr.ge hb
  exact NO hc (by decide) (by decide) (by decide)
 ·obtain⟨_,cur,hc⟩:=h.isr.ge hb
  exact NO hc (by decide) (by decide) (by decide)
 ·show (bs++[y]).length≤n+1
  have:=h.lb
  rw[List.length_append,List.length_singleton]
  omega
theorem below_sets{k:Nat}{w:World}{g:Nat}:∀ {vs:List Value} {o:Nat} {w':World},Below k w w'→k≤g→Below k w (w'.setCells g o vs)
 | [],_,_,h,_=>h
 | _ :: r,o,_,h,hg=>below_sets (vs:=r) (o:=o+1) (h.setCell hg _) hg
theorem MidS.low{w:World}{R T n q g c:Nat}{fs:List FnE}{f:FnE}{bs:List BkE}{x y:BkE}(h:MidS w R T n fs f bs x y (.slice (some ⟨g,0,none⟩) (fs.length+1) c))(hq:f.bu=some ⟨q,0,none⟩):Below R w (putW w R q g fs f bs y):=by
 have hR:=h.hR
 have hg1:=(h.row.ge (g:=g) rfl).1
 have eb:f.bs.length=bs.length+1:=by rw[h.fbs];simp
 have hblk:=h.blk
 rw[hq,eb,h.fbs] at hblk
 have hq1:=(hblk.ge (g:=q) rfl).1
 exact below_sets (below_sets ((Below.refl R w).setCell (by dsimp only;omega) _) (by omega)) (by omega)
def nxtO(fs:List FnE)(f:FnE)(bs:List BkE)(y:BkE):PSt:=if y.t.kind=0 then stO fs f bs y else stC (fs++[putB f bs y])
theorem MidS.stH{w:World}{R T n q g c:Nat}{fs:List FnE}{f:FnE}{bs:List BkE}{x y:BkE}(hn:n≤20000)(h:MidS w R T n fs f bs x y (.slice (some ⟨g,0,none⟩) (fs.length+1) c))(hq:f.bu=some ⟨q,0,none⟩):StH (putW w R q g fs f bs y) R (n+1) (nxtO fs f bs y):=by
 have k:=h.put hq
 by_cases hk:y.t.kind=0
 ·rw[show (y.t.kind==0)=true by simp[hk]] at k
  exact .inr ⟨T,fs,putB f bs y,bs,y,_,k.op (h.tk hk),by unfold nxtO;rw[if_pos hk];rfl⟩
 ·rw[show (y.t.kind==0)=false by simp[hk]] at k
  exact .inl ⟨fs++[putB f bs y],_,k.cl (by omega),by unfold nxtO;rw[if_neg hk]⟩
theorem OpS.term{w wc:World}{R T n:Nat}{fs:List FnE}{f:FnE}{bs:List BkE}{x:BkE}{v:Value}{t:TermD}(h:OpS w R T n fs f bs x v)(k:Below w.heap.size w wc)(ht:t.kind≠0):MidS wc R T n fs f bs x ⟨x.ps,x.pu,x.pc,x.is,x.iu,x.ic,t⟩ v:=by
 have q:=h.keep k
 exact⟨q.box,q.row,q.fsv,q.par,q.blk,q.fbs,q.bsv,q.phr,q.isr,q.phE,q.isE,q.hR,q.hT,q.len,q.bl,q.lb,Nat.le_succ_of_le q.lp,Nat.le_succ_of_le q.li,fun e=>absurd e ht⟩
theorem OpS.phi{w wc:World}{R T n c:Nat}{fs:List FnE}{f:FnE}{bs:List BkE}{x:BkE}{v:Value}{u:Option Addr}{p:PhE}{S:List Nat}(h:OpS w R T n fs f bs x v)(k:Stay S w wc)(hS:∀ b,b∈S→(Value.slice x.pu x.ps.length x.pc).ownBlock=some b)(hr:RowS 92 2 phC wc T (.slice u (x.ps.length+1) c) (x.ps++[p]))(hp:SPh wc (R+1) wc.heap.size p):MidS wc R T n fs f bs x ⟨x.ps++[p],u,c,x.is,x.iu,x.ic,x.t⟩ v:=by
 have hP:∀ b,b∈S→T≤b∧∃ cur,w.heap[b]?=some (.cells cur 92 (0,0)):=fun b hb=>h.phr.ge (hS b hb)
 have LV:∀ b,b∈S→T≤b∨Lv 4 w b:=fun b hb=>.inl (hP b hb).1
 have LV1:∀ b,b∈S→w.heap.size≤b∨Lv 1 w b:=fun b hb=>.inr (by
  obtain⟨_,cur,hc⟩:=hP b hb
  exact Lv.of hc (by decide))
 have NO:∀ {b cur T'},w.heap[b]?=some (.cells cur T' (0,0))→T'≠92→¬b∈S:=fun hb k1 hm=>by
  obtain⟨_,cur,hc⟩:=hP _ hm
  exact ne_types hb hc k1 rfl
 have NR:∀ {α:Type} {T':TypeId} {s:Nat} {C:α→List Value} {base:Nat} {v:Value} {es:List α},RowS T' s C w base v es→T'≠92→∀ g,v.ownBlock=some g→¬g∈S:=fun hr k1 g hg=>by
  obtain⟨_,cur,hc⟩:=hr.ge hg
  exact NO hc k1
 have hRl:R<w.heap.size:=h.box.lt
 refine⟨(k.block R hRl (NO h.box (by decide))).trans h.box,h.row.stay k (NR h.row (by decide)),fun p hp=>(h.fsv p hp).stay k LV,h.par.stay k (lv_one LV),h.blk.stay k (NR h.blk (by decide)),h.fbs,fun p hp=>(h.bsv p hp).stay k LV,?_,h.isr.stay k (NR h.isr (by decide)),fun e he=>?_,fun p hp=>IntO.wide (IntO.stay (h.isE p hp) k LV1) (Nat.le_refl _) k.size,h.hR,Nat.le_trans h.hT k.size,h.len,h.bl,h.lb,?_,Nat.le_succ_of_le h.li,fun _=>h.tk⟩
 ·show RowS _ _ _ _ _ (.slice u (x.ps++[p]).length c) _
  rw[List.length_append,List.length_singleton]
  exact hr
 ·rcases List.mem_append.1 he with he|he
  ·exact IntO.wide (IntO.stay (h.phE e he) k LV1) (Nat.le_refl _) k.size
  ·obtain rfl:=List.mem_singleton.1 he
   exact hp
 ·show (x.ps++[p]).length≤n+1
  have:=h.lp
  rw[List.length_append,List.length_singleton]
  omega
theorem OpS.ins{w wc:World}{R T n c:Nat}{fs:List FnE}{f:FnE}{bs:List BkE}{x:BkE}{v:Value}{u:Option Addr}{p:InE}{S:List Nat}(h:OpS w R T n fs f bs x v)(k:Stay S w wc)(hS:∀ b,b∈S→(Value.slice x.iu x.is.length x.ic).ownBlock=some b)(hr:RowS 95 7 inC wc T (.slice u (x.is.length+1) c) (x.is++[p]))(hp:SIn wc (R+1) wc.heap.size p):MidS wc R T n fs f bs x ⟨x.ps,x.pu,x.pc,x.is++[p],u,c,x.t⟩ v:=by
 have hP:∀ b,b∈S→T≤b∧∃ cur,w.heap[b]?=some (.cells cur 95 (0,0)):=fun b hb=>h.isr.ge (hS b hb)
 have LV:∀ b,b∈S→T≤b∨Lv 4 w b:=fun b hb=>.inl (hP b hb).1
 have LV1:∀ b,b∈S→w.heap.size≤b∨Lv 1 w b:=fun b hb=>.inr (by
  obtain⟨_,cur,hc⟩:=hP b hb
  exact Lv.of hc (by decide))
 have NO:∀ {b cur T'},w.heap[b]?=some (.cells cur T' (0,0))→T'≠95→¬b∈S:=fun hb k1 hm=>by
  obtain⟨_,cur,hc⟩:=hP _ hm
  exact ne_types hb hc k1 rfl
 have NR:∀ {α:Type} {T':TypeId} {s:Nat} {C:α→List Value} {base:Nat} {v:Value} {es:List α},RowS T' s C w base v es→T'≠95→∀ g,v.ownBlock=some g→¬g∈S:=fun hr k1 g hg=>by
  obtain⟨_,cur,hc⟩:=hr.ge hg
  exact NO hc k1
 have hRl:R<w.heap.size:=h.box.lt
 refine⟨(k.block R hRl (NO h.box (by decide))).trans h.box,h.row.stay k (NR h.row (by decide)),fun p hp=>(h.fsv p hp).stay k LV,h.par.stay k (lv_one LV),h.blk.stay k (NR h.blk (by decide)),h.fbs,fun p hp=>(h.bsv p hp).stay k LV,h.phr.stay k (NR h.phr (by decide)),?_,fun p hp=>IntO.wide (IntO.stay (h.phE p hp) k LV1) (Nat.le_refl _) k.size,fun e he=>?_,h.hR,Nat.le_trans h.hT k.size,h.len,h.bl,h.lb,Nat.le_succ_of_le h.lp,?_,fun _=>h.tk⟩
 ·show RowS _ _ _ _ _ (.slice u (x.is++[p]).length c) _
  rw[List.length_append,List.length_singleton]
  exact hr
 ·rcases List.mem_append.1 he with he|he
  ·exact IntO.wide (IntO.stay (h.isE e he) k LV1) (Nat.le_refl _) k.size
  ·obtain rfl:=List.mem_singleton.1 he
   exact hp
 ·show (x.is++[p]).length≤n+1
  have:=h.li
  rw[List.length_append,List.length_singleton]
  omega
theorem StH.keep{w w2:World}{R n:Nat}{p:PSt}(h:StH w R n p)(k:Below w.heap.size w w2):StH w2 R n p:=by
 rcases h with⟨fs,v,hc,rfl⟩|⟨T,fs,f,bs,x,v,ho,rfl⟩
 ·exact .inl ⟨fs,v,hc.keep k,rfl⟩
 ·exact .inr ⟨T,fs,f,bs,x,v,ho.keep k,rfl⟩
theorem terms_but{x:List UInt8}(h1:x≠[114,101,116])(h2:x≠[106,117,109,112])(h3:x≠[98,114,97,110,99,104])(h4:x≠[116,114,97,112]):∀ k:Fin 5,1≤k.1→x≠tmWL.getD k.1 []:=by
 have key:∀ k:Fin 5,1≤k.1→tmWL.getD k.1 []=[114,101,116]∨tmWL.getD k.1 []=[106,117,109,112]∨tmWL.getD k.1 []=[98,114,97,110,99,104]∨tmWL.getD k.1 []=[116,114,97,112]:=by decide
 intro k hk e
 rcases key k hk with h|h|h|h<;>rw[h] at e
 ·exact h1 e
 ·exact h2 e
 ·exact h3 e
 ·exact h4 e
theorem line_read{s:ByteArray}{i:InstD}(h:LineIs s (insL i))(hi:zIn i 60 3=true):ReadOk s i:=by
 obtain⟨w0,ws,h1,h2,h3⟩:=h
 exact read_back h1 h2 h3 hi
theorem setCells_three(w:World)(g o:Nat)(a b c:Value):w.setCells g o [a,b,c]=((w.setCell ⟨g,o,none⟩ a).setCell ⟨g,o+1,none⟩ b).setCell ⟨g,o+2,none⟩ c:=rfl
theorem setCells_six(w:World)(g o:Nat)(a b c d e f:Value):w.setCells g o [a,b,c,d,e,f]=(((((w.setCell ⟨g,o,none⟩ a).setCell ⟨g,o+1,none⟩ b).setCell ⟨g,o+2,none⟩ c).setCell ⟨g,o+3,none⟩ d).setCell ⟨g,o+4,none⟩ e).setCell ⟨g,o+5,none⟩ f:=rfl
theorem drew_set(w:World)(a:Addr)(v:Value):(w.setCell a v).drew=w.drew.setCell a v:=rfl
theorem lineO(R T n:Nat)(fs:List FnE)(f:FnE)(bs':List BkE)(x:BkE)(v:Value)(s:ByteArray)(w:World)(h:OpS w R T n fs f bs' x v)(hn:n≤20000)(hs:s.size≤1048576) :
  Calls Tryz.prog 33 #[.pointer (some ⟨R,0,none⟩),.string s] w fun e w'=>LineT R n s (stO fs f bs' x) w e w':=by
 obtain⟨vu,vc,hv⟩:=h.row.slice
 have e0:(fs++[f]).length=fs.length+1:=by simp
 rw[e0] at hv
 subst hv
 have hfl:=h.len
 have hR:R<w.heap.size:=h.box.lt
 have HS:Hid (OpS w R T n fs f bs' x (.slice vu (fs.length+1) vc)):=h
 have SP:=splitL s w hs
 clear h
 go_enter Tryz.func33,Tryz.ntmps33
 go_wp2_with fail
 refine SP.mono ?_
 rintro e w1 ⟨⟨word,l,lu,lc,ok,rfl,hrow,hll,_,hT⟩,b1⟩
 have HT:Hid (LnTold s word l ok):=hT
 have HB1:Hid (Below w.heap.size w w1):=b1
 have HA1:Hid (At w1 R #[.slice vu (fs.length+1) vc,.bool true] 62):=HS.out.box.below b1
 have z1:w.heap.size≤w1.heap.size:=b1.size
 obtain⟨HI0,hlc,hcm⟩:=IntsB2.of hrow
 have HI:Hid (IntsB2 w1 w.heap.size w1.heap.size lu l):=HI0
 clear SP hrow hT b1 HI0
 have LS:=lastS R vu (fs.length+1) vc true w1 HA1.out (by omega)
 rw[show (((fs.length+1:Nat):Int)-1)=((fs.length:Nat):Int) by omega] at LS
 go_wp2_with fail
 refine LS.mono ?_
 rintro e w2 ⟨rfl,h9⟩
 have h8:=h9.symm
 clear h9 LS
 subst h8
 have c1:w1.cell? ⟨R,1,none⟩=some (.bool true):=HA1.out.cell 1
 have HBR:Hid (Below R w w1):=HB1.out.mono (by omega)
 have hk0:¬(fs.length:Int)<0:=by omega
 cases hok:ok
 ·subst hok
  have HNo:Hid (∀ y q',LineIs s y→LnOk y→¬Step (stO fs f bs' x) y q'):=fun y q' hy hk _=>absurd (HT.out y hy hk).1 (by simp)
  go_wp2_with fail
  go_ret
  exact⟨.inr ⟨rfl,HNo.out⟩,HBR.out⟩
 subst hok
 by_cases hf:word=bs wFun
 ·have q1:(word.toList==[102,117,110,99])=true:=wd_yes (u:=wFun) hf
  have HNo:Hid (∀ y q',LineIs s y→LnOk y→¬Step (stO fs f bs' x) y q'):=fun y q' hy hk hst=>by
   have h3:=(HT.out y hy hk).2.1
   rw[hf] at h3
   exact (st_op_no hst).1 (bs_inj h3).symm
  clear hf
  go_wp2_with fail
  go_ret
  exact⟨.inr ⟨rfl,HNo.out⟩,HBR.out⟩
 by_cases hb:word=bs wBlk
 ·have q1:(word.toList==[102,117,110,99])=false:=wd_no (u:=wFun) hf
  have q3:(word.toList==[98,108,111,99,107])=true:=wd_yes (u:=wBlk) hb
  have HNo:Hid (∀ y q',LineIs s y→LnOk y→¬Step (stO fs f bs' x) y q'):=fun y q' hy hk hst=>by
   have h3:=(HT.out y hy hk).2.1
   rw[hb] at h3
   exact (st_op_no hst).2 (bs_inj h3).symm
  clear hb hf
  go_wp2_with fail
  go_ret
  exact⟨.inr ⟨rfl,HNo.out⟩,HBR.out⟩
 have q1:(word.toList==[102,117,110,99])=false:=wd_no (u:=wFun) hf
 have q3:(word.toList==[98,108,111,99,107])=false:=wd_no (u:=wBlk) hb
 have HS1:Hid (OpS w1 R T n fs f bs' x (.slice vu (fs.length+1) vc)):=HS.out.keep HB1.out
 obtain⟨g,gcur,hgv,hgb,hgh,hgc⟩:=RowS.cellAt (C:=fnC) (s:=3) (fun _=>rfl) HS1.out.row (i:=fs.length) (e:=f) (by simp)
 subst hgv
 have eb:f.bs.length=bs'.length+1:=by rw[HS1.out.fbs];simp
 have HKr:=HS1.out.blk
 rw[eb] at HKr
 obtain⟨q,qcur,hqv,hqb,hqh,hqc⟩:=RowS.cellAt (C:=bkC) (s:=6) (fun _=>rfl) HKr (i:=bs'.length) (e:=x) (by rw[HS1.out.fbs];simp)
 have x0:w1.cell? ⟨g,fs.length*3,none⟩=some (.slice f.pu f.pars.length f.pc):=hgc 0 (by decide)
 have x1:w1.cell? ⟨g,fs.length*3+1,none⟩=some (.int .i64 f.ret):=hgc 1 (by decide)
 have x2:w1.cell? ⟨g,fs.length*3+2,none⟩=some (.slice (some ⟨q,0,none⟩) (bs'.length+1) f.bc):=by
  have:=hgc 2 (by decide)
  rw[this]
  show some (Value.slice f.bu f.bs.length f.bc)=_
  rw[hqv,eb]
 have y0:w1.cell? ⟨q,bs'.length*6,none⟩=some (.slice x.pu x.ps.length x.pc):=hqc 0 (by decide)
 have y1:w1.cell? ⟨q,bs'.length*6+1,none⟩=some (.slice x.iu x.is.length x.ic):=hqc 1 (by decide)
 have y2:w1.cell? ⟨q,bs'.length*6+2,none⟩=some (.int .i64 0):=by have:=hqc 2 (by decide);rw[this];show some (Value.int .i64 x.t.kind)=_;rw[HS1.out.tk]
 have y3:w1.cell? ⟨q,bs'.length*6+3,none⟩=some (.int .i64 0):=by have:=hqc 3 (by decide);rw[this];show some (Value.int .i64 x.t.a)=_;rw[HS1.out.tk]
 have y4:w1.cell? ⟨q,bs'.length*6+4,none⟩=some (.int .i64 0):=by have:=hqc 4 (by decide);rw[this];show some (Value.int .i64 x.t.x)=_;rw[HS1.out.tk]
 have y5:w1.cell? ⟨q,bs'.length*6+5,none⟩=some (.int .i64 0):=by have:=hqc 5 (by decide);rw[this];show some (Value.int .i64 x.t.y)=_;rw[HS1.out.tk]
 have hgl:g<w1.heap.size:=(Array.getElem?_eq_some_iff.1 hgh).1
 have hql:q<w1.heap.size:=(Array.getElem?_eq_some_iff.1 hqh).1
 have BF:Below w1.heap.size w1 (w1.alloc (.cells #[.slice f.pu f.pars.length f.pc,.int .i64 f.ret,.slice (some ⟨q,0,none⟩) (bs'.length+1) f.bc] 55)):=(Below.refl _ _).alloc (Nat.le_refl _) _
 have y0A:(w1.alloc (.cells #[.slice f.pu f.pars.length f.pc,.int .i64 f.ret,.slice (some ⟨q,0,none⟩) (bs'.length+1) f.bc] 55)).cell? ⟨q,bs'.length*6,none⟩=some (.slice x.pu x.ps.length x.pc):=(BF.cell hql).trans y0
 have y1A:(w1.alloc (.cells #[.slice f.pu f.pars.length f.pc,.int .i64 f.ret,.slice (some ⟨q,0,none⟩) (bs'.length+1) f.bc] 55)).cell? ⟨q,bs'.length*6+1,none⟩=some (.slice x.iu x.is.length x.ic):=(BF.cell hql).trans y1
 have y2A:(w1.alloc (.cells #[.slice f.pu f.pars.length f.pc,.int .i64 f.ret,.slice (some ⟨q,0,none⟩) (bs'.length+1) f.bc] 55)).cell? ⟨q,bs'.length*6+2,none⟩=some (.int .i64 0):=(BF.cell hql).trans y2
 have y3A:(w1.alloc (.cells #[.slice f.pu f.pars.length f.pc,.int .i64 f.ret,.slice (some ⟨q,0,none⟩) (bs'.length+1) f.bc] 55)).cell? ⟨q,bs'.length*6+3,none⟩=some (.int .i64 0):=(BF.cell hql).trans y3
 have y4A:(w1.alloc (.cells #[.slice f.pu f.pars.length f.pc,.int .i64 f.ret,.slice (some ⟨q,0,none⟩) (bs'.length+1) f.bc] 55)).cell? ⟨q,bs'.length*6+4,none⟩=some (.int .i64 0):=(BF.cell hql).trans y4
 have y5A:(w1.alloc (.cells #[.slice f.pu f.pars.length f.pc,.int .i64 f.ret,.slice (some ⟨q,0,none⟩) (bs'.length+1) f.bc] 55)).cell? ⟨q,bs'.length*6+5,none⟩=some (.int .i64 0):=(BF.cell hql).trans y5
 have hqR:q≠R:=by have:=HS1.out.hR;omega
 have hgR:g≠R:=by omega
 have hgq:g≠q:=ne_types hgh hqh (by decide)
 have hRl:R<w1.heap.size:=by omega
 have c0:w1.cell? ⟨R,0,none⟩=some (.slice (some ⟨g,0,none⟩) (fs.length+1) vc):=HA1.out.cell 0
 have hk2:(fs.length:Int)<(fs.length:Int)+1:=by omega
 have hk3:(0:Int)≤(fs.length:Int):=Int.natCast_nonneg _
 have hj1:(bs'.length:Int)+1-1=(bs'.length:Int):=by omega
 have hj2:(bs'.length:Int)<(bs'.length:Int)+1:=by omega
 have hj3:(0:Int)≤(bs'.length:Int):=Int.natCast_nonneg _
 have hbn:bs'.length≤20000:=by have:=HS1.out.lb;omega
 have HQV:Hid (f.bu=some ⟨q,0,none⟩):=hqv
 have HF:Hid (¬word=bs wFun):=hf
 have HBk:Hid (¬word=bs wBlk):=hb
 have eX:(w1.alloc (.cells #[.slice f.pu f.pars.length f.pc,.int .i64 f.ret,.slice (some ⟨q,0,none⟩) (bs'.length+1) f.bc] 55)).heap.size=w1.heap.size+1:=by simp
 have hAF:Hid (At ((w1.alloc (.cells #[.slice f.pu f.pars.length f.pc,.int .i64 f.ret,.slice (some ⟨q,0,none⟩) (bs'.length+1) f.bc] 55)).alloc (.cells #[.slice x.pu x.ps.length x.pc,.slice x.iu x.is.length x.ic,.int .i64 0,.int .i64 0,.int .i64 0,.int .i64 0] 74)) w1.heap.size #[.slice f.pu f.pars.length f.pc,.int .i64 f.ret,.slice (some ⟨q,0,none⟩) (bs'.length+1) f.bc] 55):=(At.new w1 _ _).below ((Below.refl _ _).alloc (by simp) _)
 have hAX:Hid (At ((w1.alloc (.cells #[.slice f.pu f.pars.length f.pc,.int .i64 f.ret,.slice (some ⟨q,0,none⟩) (bs'.length+1) f.bc] 55)).alloc (.cells #[.slice x.pu x.ps.length x.pc,.slice x.iu x.is.length x.ic,.int .i64 0,.int .i64 0,.int .i64 0,.int .i64 0] 74)) (w1.heap.size+1) #[.slice x.pu x.ps.length x.pc,.slice x.iu x.is.length x.ic,.int .i64 0,.int .i64 0,.int .i64 0,.int .i64 0] 74):=by
  have:=At.new (w1.alloc (.cells #[.slice f.pu f.pars.length f.pc,.int .i64 f.ret,.slice (some ⟨q,0,none⟩) (bs'.length+1) f.bc] 55)) #[.slice x.pu x.ps.length x.pc,.slice x.iu x.is.length x.ic,.int .i64 0,.int .i64 0,.int .i64 0,.int .i64 0] 74
  rwa [eX] at this
 have hBX:Hid (Below w1.heap.size w1 ((w1.alloc (.cells #[.slice f.pu f.pars.length f.pc,.int .i64 f.ret,.slice (some ⟨q,0,none⟩) (bs'.length+1) f.bc] 55)).alloc (.cells #[.slice x.pu x.ps.length x.pc,.slice x.iu x.is.length x.ic,.int .i64 0,.int .i64 0,.int .i64 0,.int .i64 0] 74))):=BF.alloc (by simp) _
 have hzX:((w1.alloc (.cells #[.slice f.pu f.pars.length f.pc,.int .i64 f.ret,.slice (some ⟨q,0,none⟩) (bs'.length+1) f.bc] 55)).alloc (.cells #[.slice x.pu x.ps.length x.pc,.slice x.iu x.is.length x.ic,.int .i64 0,.int .i64 0,.int .i64 0,.int .i64 0] 74)).heap.size=w1.heap.size+2:=by simp
 clear BF hf hb hgh hgc hqh hqc hqv eb HKr e0 eX
 go_upto_block 0 with fail
 clear y0A y1A y2A y3A y4A y5A y0 y1 y2 y3 y4 y5 x0 x1 x2 c0 c1 q1 q3 hk0 hj1 hbn
 obtain⟨W2,hW2⟩:∃ W,((w1.alloc (.cells #[.slice f.pu f.pars.length f.pc,.int .i64 f.ret,.slice (some ⟨q,0,none⟩) (bs'.length+1) f.bc] 55)).alloc (.cells #[.slice x.pu x.ps.length x.pc,.slice x.iu x.is.length x.ic,.int .i64 0,.int .i64 0,.int .i64 0,.int .i64 0] 74))=W:=⟨_,rfl⟩
 rw[hW2] at hAF hAX hBX hzX ⊢
 clear hW2
 have HB2:Hid (Below R w W2):=HBR.out.trans (hBX.out.mono (by omega))
 go_cut [] (fun wc=>∃ y:BkE,Hid (MidS wc R T n fs f bs' x y (.slice (some ⟨g,0,none⟩) (fs.length+1) vc))∧Hid (At wc w1.heap.size #[.slice f.pu f.pars.length f.pc,.int .i64 f.ret,.slice (some ⟨q,0,none⟩) (bs'.length+1) f.bc] 55)∧Hid (At wc (w1.heap.size+1) #[.slice y.pu y.ps.length y.pc,.slice y.iu y.is.length y.ic,.int .i64 y.t.kind,.int .i64 y.t.a,.int .i64 y.t.x,.int .i64 y.t.y] 74)∧Hid (Below R w wc)∧Hid (∀ z q',LineIs s z→LnOk z→Step (stO fs f bs' x) z q'→q'=nxtO fs f bs' y))
 case first =>
  by_cases hph:word=bs wPhi
  ·have p1:(word.toList==[112,104,105])=true:=wd_yes (u:=wPhi) hph
   have HP:Hid (word=bs wPhi):=hph
   clear hph
   by_cases hl0:l=[]
   ·have HNo:Hid (∀ z q',LineIs s z→LnOk z→¬Step (stO fs f bs' x) z q'):=fun z q' hz hk hst=>by
     have h3:=(HT.out z hz hk).2.1
     rw[HP.out] at h3
     obtain⟨p,h4,_⟩:=st_phi hst (bs_inj h3).symm
     rw[←(HT.out z hz hk).2.2,hl0] at h4
     cases h4
    have q2:((l.length:Int)==0)=true:=by rw[hl0];rfl
    clear hl0
    go_wp2_with fail
    go_ret
    exact⟨.inr ⟨rfl,HNo.out⟩,HB2.out⟩
   ·obtain⟨iP,hiP,zP,sP,bP⟩:=info_three infoPh
    obtain⟨r,ps,hlr⟩:∃ r ps,l=r :: ps:=by
     cases l with
     | nil=>exact absurd rfl hl0
     | cons r ps=>exact⟨r,ps,rfl⟩
    have HL:Hid (l=r :: ps):=hlr
    have hl1:l.length-1=ps.length:=by rw[hlr];simp
    have hl2:0<l.length:=by rw[hlr];simp
    have hl3:(1:Int)≤(l.length:Int):=by omega
    obtain⟨b,lcur,rfl,hb1,hb2,_,hb3,hb4⟩:∃ b cur,lu=some ⟨b,0,none⟩∧w.heap.size≤b∧b<w1.heap.size∧w1.heap.size≤w1.heap.size∧w1.heap[b]?=some (.cells cur 2 (0,0))∧∀ i,i<l.length→cur[i]?=some (.int .i64 (l.getD i 0)):=by
     rcases HI.out with h|h
     ·exact absurd h hl0
     ·exact h
    have hb5:W2.heap[b]?=some (.cells lcur 2 (0,0)):=(hBX.out.block b hb2).trans hb3
    have cb:W2.cell? ⟨b,0,none⟩=some (.int .i64 r):=by rw[zcH hb5,hb4 0 (by omega),hlr];rfl
    obtain⟨pu,hpu⟩:∃ pu:Option Addr,(if lc=1 then some (⟨b,0,none⟩:Addr) else some ⟨b,1,none⟩)=pu:=⟨_,rfl⟩
    have HTl:Hid (IntA2 W2 w.heap.size pu ps):=by
     have k:IntA2 w1 w.heap.size (some ⟨b,1,none⟩) ps:=IntsB2.tail1 (x:=r) (by have:=HI.out;rw[hlr] at this;exact this) (by omega)
     by_cases h1:lc=1
     ·have e:ps=[]:=List.eq_nil_of_length_eq_zero (by omega)
      rw[e]
      exact IntO.nil _ _ _ _
     ·rw[←hpu,if_neg h1]
      exact k.kp hBX.out
    have q2:((l.length:Int)==0)=false:=by simp;omega
    have m0:W2.cell? ⟨w1.heap.size+1,0,none⟩=some (.slice x.pu x.ps.length x.pc):=hAX.out.cell 0
    have HLb1:Hid (W2.heap[b]?=some (.cells lcur 2 (0,0))):=hb5
    clear hlr hl0 hb3 hb4 hb5 HI HS
    go_wp2_with fail
    refine startX (fun w'=>w'.cell? ⟨w1.heap.size+1,0,none⟩=some (.slice x.pu x.ps.length x.pc)∧w'.cell? ⟨b,0,none⟩=some (.int .i64 r)) (fun i=>decide (i=11)) (by kernel_rfl) ?_
    refine takeX 0 (v:=?_) rfl rfl (by kernel_rfl) (fun _ _ _ h=>h) (yesH (by rfl) ?_) ⟨m0,cb⟩ ?_
    rotate_left
    ·intro w9 hS9
     obtain⟨g0,g1⟩:=hS9
     go_simp
     try with_reducible rfl
    try simp only[Act.put,sA,sB,sC]
    refine takeX 1 (v:=?_) rfl rfl (by kernel_rfl) (fun _ _ _ h=>h) (yesH (by rfl) ?_) ⟨m0,cb⟩ ?_
    rotate_left
    ·intro w9 hS9
     obtain⟨g0,g1⟩:=hS9
     go_simp
     try with_reducible rfl
    try simp only[Act.put,sA,sB,sC]
    refine takeX 2 (v:=?_) rfl rfl (by kernel_rfl) (fun _ _ _ h=>h) (yesH (by rfl) ?_) ⟨m0,cb⟩ ?_
    rotate_left
    ·intro w9 hS9
     obtain⟨g0,g1⟩:=hS9
     go_simp
     try with_reducible rfl
    try simp only[Act.put,sA,sB,sC]
    refine takeX 3 (v:=?_) rfl rfl (by kernel_rfl) (fun _ _ _ h=>h) (yesH (by rfl) ?_) ⟨m0,cb⟩ ?_
    rotate_left
    ·intro w9 hS9
     obtain⟨g0,g1⟩:=hS9
     go_simp
     try with_reducible rfl
    try simp only[Act.put,sA,sB,sC]
    refine takeX 4 (v:=?_) rfl rfl (by kernel_rfl) (fun _ _ _ h=>h) (yesH (by rfl) ?_) ⟨m0,cb⟩ ?_
    rotate_left
    ·intro w9 hS9
     obtain⟨g0,g1⟩:=hS9
     go_simp
     try with_reducible rfl
    try simp only[Act.put,sA,sB,sC]
    refine takeX 5 (v:=?_) rfl rfl (by kernel_rfl) (fun _ _ _ h=>h) (yesH (by rfl) ?_) ⟨m0,cb⟩ ?_
    rotate_left
    ·intro w9 hS9
     obtain⟨g0,g1⟩:=hS9
     go_simp
     try with_reducible rfl
    try simp only[Act.put,sA,sB,sC]
    refine takeX 6 (v:=?_) rfl rfl (by kernel_rfl) (fun _ _ _ h=>h) (yesH (by rfl) ?_) ⟨m0,cb⟩ ?_
    rotate_left
    ·intro w9 hS9
     obtain⟨g0,g1⟩:=hS9
     go_simp
     try with_reducible rfl
    try simp only[Act.put,sA,sB,sC]
    refine takeX 7 (v:=?_) rfl rfl (by kernel_rfl) (fun _ _ _ h=>h) (yesH (by rfl) ?_) ⟨m0,cb⟩ ?_
    rotate_left
    ·intro w9 hS9
     obtain⟨g0,g1⟩:=hS9
     go_simp
     try with_reducible rfl
    try simp only[Act.put,sA,sB,sC]
    have HW3:Hid (Below w1.heap.size w1 W2.drew):=hBX.out.drew
    have HAF3:Hid (At W2.drew w1.heap.size #[.slice f.pu f.pars.length f.pc,.int .i64 f.ret,.slice (some ⟨q,0,none⟩) (bs'.length+1) f.bc] 55):=hAF.out
    have HAX3:Hid (At W2.drew (w1.heap.size+1) #[.slice x.pu x.ps.length x.pc,.slice x.iu x.is.length x.ic,.int .i64 0,.int .i64 0,.int .i64 0,.int .i64 0] 74):=hAX.out
    have HT2:Hid (IntA2 W2.drew w.heap.size pu ps):=HTl.out
    have HB3:Hid (Below R w W2.drew):=HB2.out.drew
    have d0:W2.drew.cell? ⟨w1.heap.size+1,0,none⟩=some (.slice x.pu x.ps.length x.pc):=m0
    have d1:W2.drew.cell? ⟨b,0,none⟩=some (.int .i64 r):=cb
    have hz3:W2.drew.heap.size=w1.heap.size+2:=hzX
    have HLb:Hid (W2.drew.heap[b]?=some (.cells lcur 2 (0,0))):=HLb1.out
    clear HLb1 HTl HB2 cb m0 hBX hAF hAX hzX
    generalize W2.drew=W3 at *
    have hT:=HS1.out.hT
    have hRT:=HS1.out.hR
    have hxl:=HS1.out.lp
    have b6:Below W3.heap.size W3 (W3.alloc (.cells #[.int .i64 r,.slice pu ps.length (lc-1)] 92)):=(Below.refl _ _).alloc (Nat.le_refl _) _
    have HP3:RowS 92 2 phC W3 T (.slice x.pu x.ps.length x.pc) x.ps:=HS1.out.phr.stay (Stay.below (Stay.refl [] _) HW3.out) (fun _ _ hm=>by cases hm)
    have HR6:Hid (RowS 92 2 phC (W3.alloc (.cells #[.int .i64 r,.slice pu ps.length (lc-1)] 92)) T (.slice x.pu x.ps.length x.pc) x.ps):=HP3.stay (Stay.below (Stay.refl [] _) b6) (fun _ _ hm=>by cases hm)
    have c5:(W3.alloc (.cells #[.int .i64 r,.slice pu ps.length (lc-1)] 92)).cell? ⟨w1.heap.size+1,0,none⟩=some (.slice x.pu x.ps.length x.pc):=(b6.cell (by show w1.heap.size+1<_;omega)).trans d0
    have c6:(W3.alloc (.cells #[.int .i64 r,.slice pu ps.length (lc-1)] 92)).cell? ⟨b,0,none⟩=some (.int .i64 r):=(b6.cell (by show b<_;omega)).trans d1
    obtain⟨g6,cap6,wa,hrun,hown6,hgr6,_,_⟩:=run_append_lies (P:=Tryz.prog) (W3.alloc (.cells #[.int .i64 r,.slice pu ps.length (lc-1)] 92)) 69 69 T 92 iP (.agg #[.int .i64 0,.slice none 0 0]) 2 32 Tryz.underlying69 hiP zP sP bP rfl (by decide) (.slice x.pu x.ps.length x.pc) x.ps.length (x.ps.flatMap phC) HR6.out ⟨W3.heap.size,0,none⟩ 1 1 [.int .i64 r,.slice pu ps.length (lc-1)] rfl (World.news_of_block (At.new W3 #[.int .i64 r,.slice pu ps.length (lc-1)] 92)) (by simp[Value.oneCell']) (by decide) (by unfold maxLen;omega) (by omega) (by have:=b6.size;omega) _ rfl
    have hz6:=b6.size
    have hP1:∀ q',(Value.slice x.pu x.ps.length x.pc).ownBlock=some q'→T≤q'∧q'<w1.heap.size∧∃ cur,W3.heap[q']?=some (.cells cur 92 (0,0)):=fun q' e=>by
     obtain⟨h1,cur,h2⟩:=HS1.out.phr.ge e
     have hl:=(Array.getElem?_eq_some_iff.1 h2).1
     exact⟨h1,hl,cur,(HW3.out.block q' hl).trans h2⟩
    have hbo:∀ q',(Value.slice x.pu x.ps.length x.pc).ownBlock=some q'→q'≠b:=fun q' e=>by
     obtain⟨_,_,cur,h2⟩:=hP1 q' e
     exact ne_types h2 HLb.out (by decide)
    have HAXa:Hid (At wa (w1.heap.size+1) #[.slice x.pu x.ps.length x.pc,.slice x.iu x.is.length x.ic,.int .i64 0,.int .i64 0,.int .i64 0,.int .i64 0] 74):=(hgr6.block _ (by omega) (fun e=>by have:=(hP1 _ e.symm).2.1;omega)).trans (HAX3.out.below b6)
    have HAFa:Hid (At wa w1.heap.size #[.slice f.pu f.pars.length f.pc,.int .i64 f.ret,.slice (some ⟨q,0,none⟩) (bs'.length+1) f.bc] 55):=(hgr6.block _ (by omega) (fun e=>by have:=(hP1 _ e.symm).2.1;omega)).trans (HAF3.out.below b6)
    have e0:wa.cell? ⟨w1.heap.size+1,0,none⟩=some (.slice x.pu x.ps.length x.pc):=HAXa.out.cell 0
    have ef:∀ o,wa.frozen? ⟨w1.heap.size+1,o,none⟩=false:=fun o=>zfH HAXa.out
    have e1:wa.cell? ⟨b,0,none⟩=some (.int .i64 r):=(zcB (hgr6.block b (by omega) (fun e=>hbo b e.symm rfl))).trans c6
    have ST1:Stay (Value.slice x.pu x.ps.length x.pc).ownBlock.toList w1 (wa.setCell ⟨w1.heap.size+1,0,none⟩ (.slice (some ⟨g6,0,none⟩) (x.ps.length+1) cap6)):=(Stay.grown (Stay.below (Stay.below (Stay.refl _ _) HW3.out) b6) hgr6 fun q' e=>.inl (by rw[e];simp)).set (.inr (by omega))
    have ST3:Stay ((w1.heap.size+1) :: (Value.slice x.pu x.ps.length x.pc).ownBlock.toList) W3 (wa.setCell ⟨w1.heap.size+1,0,none⟩ (.slice (some ⟨g6,0,none⟩) (x.ps.length+1) cap6)):=(Stay.grown (Stay.below (Stay.refl _ _) b6) hgr6 fun q' e=>.inl (by rw[e];simp)).set (.inl (by simp))
    have HRa:RowS 92 2 phC wa T (.slice (some ⟨g6,0,none⟩) (x.ps.length+1) cap6) (x.ps++[((⟨r,ps⟩,pu,lc-1):PhE)]):=RowS.push hown6
    have HRf:RowS 92 2 phC (wa.setCell ⟨w1.heap.size+1,0,none⟩ (.slice (some ⟨g6,0,none⟩) (x.ps.length+1) cap6)) T (.slice (some ⟨g6,0,none⟩) (x.ps.length+1) cap6) (x.ps++[((⟨r,ps⟩,pu,lc-1):PhE)]):=HRa.stay (S:=[w1.heap.size+1]) ((Stay.refl _ _).set (.inl (by simp))) (fun q' e hm=>by
     obtain⟨_,cur,h2⟩:=HRa.ge e
     have:=List.mem_singleton.1 hm
     exact ne_types h2 HAXa.out (by decide) this)
    have HMid:Hid (MidS (wa.setCell ⟨w1.heap.size+1,0,none⟩ (.slice (some ⟨g6,0,none⟩) (x.ps.length+1) cap6)) R T n fs f bs' x ⟨x.ps++[((⟨r,ps⟩,pu,lc-1):PhE)],some ⟨g6,0,none⟩,cap6,x.is,x.iu,x.ic,x.t⟩ (.slice (some ⟨g,0,none⟩) (fs.length+1) vc)):=HS1.out.phi ST1 (fun q' hq=>by simpa [Option.mem_toList] using hq) HRf (IntO.wide (IntO.stay HT2.out ST3 (fun q' hq=>.inr (by
     rcases List.mem_cons.1 hq with rfl|hq
     ·exact Lv.of HAX3.out (by decide)
     ·obtain⟨_,_,cur,h2⟩:=hP1 q' (by simpa [Option.mem_toList] using hq)
      exact Lv.of h2 (by decide)))) (by omega) ST3.size)
    have HAFf:Hid (At (wa.setCell ⟨w1.heap.size+1,0,none⟩ (.slice (some ⟨g6,0,none⟩) (x.ps.length+1) cap6)) w1.heap.size #[.slice f.pu f.pars.length f.pc,.int .i64 f.ret,.slice (some ⟨q,0,none⟩) (bs'.length+1) f.bc] 55):=At.setOther HAFa.out (by omega)
    have HAXf:Hid (At (wa.setCell ⟨w1.heap.size+1,0,none⟩ (.slice (some ⟨g6,0,none⟩) (x.ps.length+1) cap6)) (w1.heap.size+1) #[.slice (some ⟨g6,0,none⟩) (x.ps.length+1) cap6,.slice x.iu x.is.length x.ic,.int .i64 0,.int .i64 0,.int .i64 0,.int .i64 0] 74):=zhS (o:=0) HAXa.out
    have HBf:Hid (Below R w (wa.setCell ⟨w1.heap.size+1,0,none⟩ (.slice (some ⟨g6,0,none⟩) (x.ps.length+1) cap6))):=((HB3.out.trans (b6.mono (by omega))).grown hgr6 (by omega) (fun q' e=>by have:=(hP1 q' e).1;omega)).setCell (by dsimp only;omega) _
    have HQ:Hid (∀ z q',LineIs s z→LnOk z→Step (stO fs f bs' x) z q'→q'=nxtO fs f bs' ⟨x.ps++[((⟨r,ps⟩,pu,lc-1):PhE)],some ⟨g6,0,none⟩,cap6,x.is,x.iu,x.ic,x.t⟩):=fun z q' hz hk hst=>by
     have h3:=(HT.out z hz hk).2.1
     rw[HP.out] at h3
     obtain⟨p,h4,h5⟩:=st_phi hst (bs_inj h3).symm
     rw[←(HT.out z hz hk).2.2,HL.out] at h4
     obtain⟨h6,h7⟩:=List.cons.inj h4
     have h8:p=⟨r,ps⟩:=by cases p;dsimp only at h6 h7;rw[h6,h7]
     unfold nxtO
     rw[if_pos (by show x.t.kind=0;rw[HS1.out.tk]),h5,h8]
     simp[stO]
    clear hz3 hz6 HLb b6 HR6 hown6 hgr6 HRa HRf ST1 ST3 HW3 HT2 HP3 hP1 hbo HAXa HAFa HAX3 HAF3
    refine readyX 8 rfl (by kernel_rfl) (fun K hK=>?_)
    go_simp
    refine hK.out _ _ (.inr ⟨c5,c6⟩) ?_
    clear hK K
    try simp only[Act.put,sA,sB,sC]
    refine readyX 9 rfl (by kernel_rfl) (fun K hK=>?_)
    refine step_runP rfl _ _ _ rfl rfl rfl hrun ?_
    refine hK.out _ _ (.inr ⟨e0,e1⟩) ?_
    clear hK K hrun
    try simp only[Act.put,sA,sB,sC]
    refine readyX 10 rfl (by kernel_rfl) (fun K hK=>?_)
    go_simp
    refine hK.out _ _ (.inr ⟨e0,e1⟩) ?_
    clear hK K
    try simp only[Act.put,sA,sB,sC]
    refine readyX 11 rfl (by kernel_rfl) (fun K hK=>?_)
    go_simp
    refine hK.out _ _ (.inl rfl) ?_
    clear hK K
    refine doneX (by kernel_rfl) ?_ _
    go_wp2_with fail
    go_meet
    case rel =>
     have e9:(x.ps++[((⟨r,ps⟩,pu,lc-1):PhE)]).length=x.ps.length+1:=by simp
     refine⟨⟨x.ps++[((⟨r,ps⟩,pu,lc-1):PhE)],some ⟨g6,0,none⟩,cap6,x.is,x.iu,x.ic,x.t⟩,HMid.out,HAFf.out,?_,HBf.out,HQ.out⟩
     dsimp only
     rw[e9,HS1.out.tk]
     exact HAXf.out
  have p1:(word.toList==[112,104,105])=false:=wd_no (u:=wPhi) hph
  by_cases ht1:word=bs [114,101,116]
  ·have px:(word.toList==[114,101,116])=true:=wd_yes ht1
   have HQ:Hid (∀ z q',LineIs s z→LnOk z→Step (stO fs f bs' x) z q'→q'=nxtO fs f bs' ⟨x.ps,x.pu,x.pc,x.is,x.iu,x.ic,⟨1,(l.getD 0 0),0,0⟩⟩):=fun z q' hz hk hst=>by
    have h3:=(HT.out z hz hk).2.1
    rw[ht1] at h3
    rw[st_term (1:Fin 5) hst (bs_inj h3).symm,←(HT.out z hz hk).2.2]
    unfold nxtO
    rw[if_neg (by dsimp only;decide)]
    first
     | (simp[stC,FnE.d,BkE.d,modelT,putB];done)
     | (simp[stC,FnE.d,BkE.d,modelT,putB];rfl)
   have HI2:Hid (IntsB2 W2 w.heap.size w1.heap.size lu l):=HI.out.keep hBX.out
   have P0:=atS w.heap.size w1.heap.size lu lc l 0 W2 HI2.out.bt (by omega) (by omega)
   have xf:∀ o,W2.frozen? ⟨w1.heap.size+1,o,none⟩=false:=fun o=>zfH hAX.out
   have m2:W2.cell? ⟨w1.heap.size+1,2,none⟩=some (.int .i64 0):=hAX.out.cell 2
   have m3:W2.cell? ⟨w1.heap.size+1,3,none⟩=some (.int .i64 0):=hAX.out.cell 3
   have m4:W2.cell? ⟨w1.heap.size+1,4,none⟩=some (.int .i64 0):=hAX.out.cell 4
   have m5:W2.cell? ⟨w1.heap.size+1,5,none⟩=some (.int .i64 0):=hAX.out.cell 5
   clear hph ht1
   go_wp2_with fail
   refine P0.mono ?_
   rintro e w9 ⟨rfl,h9⟩
   have h8:=h9.symm
   clear h9 P0
   subst h8
   go_wp2_with fail
   go_meet
   case rel =>
    have B3:Below w1.heap.size w1 ((((W2.setCell ⟨w1.heap.size+1,2,none⟩ (.int .i64 1)).setCell ⟨w1.heap.size+1,3,none⟩ (.int .i64 (l.getD 0 0))).setCell ⟨w1.heap.size+1,4,none⟩ (.int .i64 0)).setCell ⟨w1.heap.size+1,5,none⟩ (.int .i64 0)):=(((hBX.out.setCell (by dsimp only;omega) _).setCell (by dsimp only;omega) _).setCell (by dsimp only;omega) _).setCell (by dsimp only;omega) _
    exact⟨⟨x.ps,x.pu,x.pc,x.is,x.iu,x.ic,⟨1,(l.getD 0 0),0,0⟩⟩,HS1.out.term B3 (by dsimp only;decide),At.setOther (At.setOther (At.setOther (At.setOther hAF.out (by omega)) (by omega)) (by omega)) (by omega),zhS (o:=5) (zhS (o:=4) (zhS (o:=3) (zhS (o:=2) hAX.out))),HBR.out.trans (B3.mono (by omega)),HQ.out⟩
  have p2:(word.toList==[114,101,116])=false:=wd_no ht1
  by_cases ht2:word=bs [106,117,109,112]
  ·have px:(word.toList==[106,117,109,112])=true:=wd_yes ht2
   have HQ:Hid (∀ z q',LineIs s z→LnOk z→Step (stO fs f bs' x) z q'→q'=nxtO fs f bs' ⟨x.ps,x.pu,x.pc,x.is,x.iu,x.ic,⟨2,0,(l.getD 0 0),0⟩⟩):=fun z q' hz hk hst=>by
    have h3:=(HT.out z hz hk).2.1
    rw[ht2] at h3
    rw[st_term (2:Fin 5) hst (bs_inj h3).symm,←(HT.out z hz hk).2.2]
    unfold nxtO
    rw[if_neg (by dsimp only;decide)]
    first
     | (simp[stC,FnE.d,BkE.d,modelT,putB];done)
     | (simp[stC,FnE.d,BkE.d,modelT,putB];rfl)
   have HI2:Hid (IntsB2 W2 w.heap.size w1.heap.size lu l):=HI.out.keep hBX.out
   have P0:=atS w.heap.size w1.heap.size lu lc l 0 W2 HI2.out.bt (by omega) (by omega)
   have xf:∀ o,W2.frozen? ⟨w1.heap.size+1,o,none⟩=false:=fun o=>zfH hAX.out
   have m2:W2.cell? ⟨w1.heap.size+1,2,none⟩=some (.int .i64 0):=hAX.out.cell 2
   have m3:W2.cell? ⟨w1.heap.size+1,3,none⟩=some (.int .i64 0):=hAX.out.cell 3
   have m4:W2.cell? ⟨w1.heap.size+1,4,none⟩=some (.int .i64 0):=hAX.out.cell 4
   have m5:W2.cell? ⟨w1.heap.size+1,5,none⟩=some (.int .i64 0):=hAX.out.cell 5
   clear hph ht1 ht2
   go_wp2_with fail
   refine P0.mono ?_
   rintro e w9 ⟨rfl,h9⟩
   have h8:=h9.symm
   clear h9 P0
   subst h8
   go_wp2_with fail
   go_meet
   case rel =>
    have B3:Below w1.heap.size w1 ((((W2.setCell ⟨w1.heap.size+1,2,none⟩ (.int .i64 2)).setCell ⟨w1.heap.size+1,3,none⟩ (.int .i64 0)).setCell ⟨w1.heap.size+1,4,none⟩ (.int .i64 (l.getD 0 0))).setCell ⟨w1.heap.size+1,5,none⟩ (.int .i64 0)):=(((hBX.out.setCell (by dsimp only;omega) _).setCell (by dsimp only;omega) _).setCell (by dsimp only;omega) _).setCell (by dsimp only;omega) _
    exact⟨⟨x.ps,x.pu,x.pc,x.is,x.iu,x.ic,⟨2,0,(l.getD 0 0),0⟩⟩,HS1.out.term B3 (by dsimp only;decide),At.setOther (At.setOther (At.setOther (At.setOther hAF.out (by omega)) (by omega)) (by omega)) (by omega),zhS (o:=5) (zhS (o:=4) (zhS (o:=3) (zhS (o:=2) hAX.out))),HBR.out.trans (B3.mono (by omega)),HQ.out⟩
  have p3:(word.toList==[106,117,109,112])=false:=wd_no ht2
  by_cases ht3:word=bs [98,114,97,110,99,104]
  ·have px:(word.toList==[98,114,97,110,99,104])=true:=wd_yes ht3
   have HQ:Hid (∀ z q',LineIs s z→LnOk z→Step (stO fs f bs' x) z q'→q'=nxtO fs f bs' ⟨x.ps,x.pu,x.pc,x.is,x.iu,x.ic,⟨3,(l.getD 0 0),(l.getD 1 0),(l.getD 2 0)⟩⟩):=fun z q' hz hk hst=>by
    have h3:=(HT.out z hz hk).2.1
    rw[ht3] at h3
    rw[st_term (3:Fin 5) hst (bs_inj h3).symm,←(HT.out z hz hk).2.2]
    unfold nxtO
    rw[if_neg (by dsimp only;decide)]
    first
     | (simp[stC,FnE.d,BkE.d,modelT,putB];done)
     | (simp[stC,FnE.d,BkE.d,modelT,putB];rfl)
   have HI2:Hid (IntsB2 W2 w.heap.size w1.heap.size lu l):=HI.out.keep hBX.out
   have P0:=atS w.heap.size w1.heap.size lu lc l 0 W2 HI2.out.bt (by omega) (by omega)
   have P1:=atS w.heap.size w1.heap.size lu lc l 1 W2 HI2.out.bt (by omega) (by omega)
   have P2:=atS w.heap.size w1.heap.size lu lc l 2 W2 HI2.out.bt (by omega) (by omega)
   have xf:∀ o,W2.frozen? ⟨w1.heap.size+1,o,none⟩=false:=fun o=>zfH hAX.out
   have m2:W2.cell? ⟨w1.heap.size+1,2,none⟩=some (.int .i64 0):=hAX.out.cell 2
   have m3:W2.cell? ⟨w1.heap.size+1,3,none⟩=some (.int .i64 0):=hAX.out.cell 3
   have m4:W2.cell? ⟨w1.heap.size+1,4,none⟩=some (.int .i64 0):=hAX.out.cell 4
   have m5:W2.cell? ⟨w1.heap.size+1,5,none⟩=some (.int .i64 0):=hAX.out.cell 5
   clear hph ht1 ht2 ht3
   go_wp2_with fail
   refine P0.mono ?_
   rintro e w9 ⟨rfl,h9⟩
   have h8:=h9.symm
   clear h9 P0
   subst h8
   go_wp2_with fail
   refine P1.mono ?_
   rintro e w9 ⟨rfl,h9⟩
   have h8:=h9.symm
   clear h9 P1
   subst h8
   go_wp2_with fail
   refine P2.mono ?_
   rintro e w9 ⟨rfl,h9⟩
   have h8:=h9.symm
   clear h9 P2
   subst h8
   go_wp2_with fail
   go_meet
   case rel =>
    have B3:Below w1.heap.size w1 ((((W2.setCell ⟨w1.heap.size+1,2,none⟩ (.int .i64 3)).setCell ⟨w1.heap.size+1,3,none⟩ (.int .i64 (l.getD 0 0))).setCell ⟨w1.heap.size+1,4,none⟩ (.int .i64 (l.getD 1 0))).setCell ⟨w1.heap.size+1,5,none⟩ (.int .i64 (l.getD 2 0))):=(((hBX.out.setCell (by dsimp only;omega) _).setCell (by dsimp only;omega) _).setCell (by dsimp only;omega) _).setCell (by dsimp only;omega) _
    exact⟨⟨x.ps,x.pu,x.pc,x.is,x.iu,x.ic,⟨3,(l.getD 0 0),(l.getD 1 0),(l.getD 2 0)⟩⟩,HS1.out.term B3 (by dsimp only;decide),At.setOther (At.setOther (At.setOther (At.setOther hAF.out (by omega)) (by omega)) (by omega)) (by omega),zhS (o:=5) (zhS (o:=4) (zhS (o:=3) (zhS (o:=2) hAX.out))),HBR.out.trans (B3.mono (by omega)),HQ.out⟩
  have p4:(word.toList==[98,114,97,110,99,104])=false:=wd_no ht3
  by_cases ht4:word=bs [116,114,97,112]
  ·have px:(word.toList==[116,114,97,112])=true:=wd_yes ht4
   have HQ:Hid (∀ z q',LineIs s z→LnOk z→Step (stO fs f bs' x) z q'→q'=nxtO fs f bs' ⟨x.ps,x.pu,x.pc,x.is,x.iu,x.ic,⟨4,0,0,0⟩⟩):=fun z q' hz hk hst=>by
    have h3:=(HT.out z hz hk).2.1
    rw[ht4] at h3
    rw[st_term (4:Fin 5) hst (bs_inj h3).symm,←(HT.out z hz hk).2.2]
    unfold nxtO
    rw[if_neg (by dsimp only;decide)]
    first
     | (simp[stC,FnE.d,BkE.d,modelT,putB];done)
     | (simp[stC,FnE.d,BkE.d,modelT,putB];rfl)
   skip
   have xf:∀ o,W2.frozen? ⟨w1.heap.size+1,o,none⟩=false:=fun o=>zfH hAX.out
   have m2:W2.cell? ⟨w1.heap.size+1,2,none⟩=some (.int .i64 0):=hAX.out.cell 2
   have m3:W2.cell? ⟨w1.heap.size+1,3,none⟩=some (.int .i64 0):=hAX.out.cell 3
   have m4:W2.cell? ⟨w1.heap.size+1,4,none⟩=some (.int .i64 0):=hAX.out.cell 4
   have m5:W2.cell? ⟨w1.heap.size+1,5,none⟩=some (.int .i64 0):=hAX.out.cell 5
   clear hph ht1 ht2 ht3 ht4
   go_wp2_with fail
   go_meet
   case rel =>
    have B3:Below w1.heap.size w1 ((((W2.setCell ⟨w1.heap.size+1,2,none⟩ (.int .i64 4)).setCell ⟨w1.heap.size+1,3,none⟩ (.int .i64 0)).setCell ⟨w1.heap.size+1,4,none⟩ (.int .i64 0)).setCell ⟨w1.heap.size+1,5,none⟩ (.int .i64 0)):=(((hBX.out.setCell (by dsimp only;omega) _).setCell (by dsimp only;omega) _).setCell (by dsimp only;omega) _).setCell (by dsimp only;omega) _
    exact⟨⟨x.ps,x.pu,x.pc,x.is,x.iu,x.ic,⟨4,0,0,0⟩⟩,HS1.out.term B3 (by dsimp only;decide),At.setOther (At.setOther (At.setOther (At.setOther hAF.out (by omega)) (by omega)) (by omega)) (by omega),zhS (o:=5) (zhS (o:=4) (zhS (o:=3) (zhS (o:=2) hAX.out))),HBR.out.trans (B3.mono (by omega)),HQ.out⟩
  have p5:(word.toList==[116,114,97,112])=false:=wd_no ht4
  have HNW:Hid (¬word=bs wPhi∧¬word=bs [114,101,116]∧¬word=bs [106,117,109,112]∧¬word=bs [98,114,97,110,99,104]∧¬word=bs [116,114,97,112]):=⟨hph,ht1,ht2,ht3,ht4⟩
  have HST:Hid (∀ z q',LineIs s z→LnOk z→Step (stO fs f bs' x) z q'→∃ i,ReadOk s i∧q'=.op (fs.map FnE.d) f.pars f.ret (bs'.map BkE.d) (x.ps.map (·.1)) (x.is.map (·.1)++[i])):=fun z q' hz hk hst=>by
   have h3:=(HT.out z hz hk).2.1
   have no:∀ u,¬word=bs u→z.1≠u:=fun u hu e=>hu (by rw[h3,e])
   obtain⟨i,h5,h6,h7⟩:=st_inst hst (no _ HNW.out.1) (terms_but (no _ HNW.out.2.1) (no _ HNW.out.2.2.1) (no _ HNW.out.2.2.2.1) (no _ HNW.out.2.2.2.2))
   subst h6
   exact⟨i,line_read hz h5,h7⟩
  have RD:=readT s W2 hs
  clear hph ht1 ht2 ht3 ht4 HI HS HNW
  go_wp2_with fail
  refine RD.mono ?_
  rintro e w3 ⟨hc,b3⟩
  have HB3:Hid (Below W2.heap.size W2 w3):=b3
  have hz3:W2.heap.size≤w3.heap.size:=b3.size
  clear RD b3
  rcases hc with⟨i,u,qi,hok,rfl,hI⟩|⟨hno,rfl⟩
  ·obtain⟨iI,hiI,zI,sI,bI⟩:=info_three infoIn
   have HIo:Hid (IntA2 w3 W2.heap.size u i.args):=hI
   have HOk:Hid (ReadOk s i):=hok
   clear hok hI
   have HB4:Hid (Below w1.heap.size w1 w3):=hBX.out.trans (HB3.out.mono (by omega))
   have hT:=HS1.out.hT
   have hRT:=HS1.out.hR
   have hxl:=HS1.out.li
   have B5:Below w3.heap.size w3 (w3.alloc (.cells #[.int .i64 i.op,.int .i64 i.w,.int .i64 i.a,.int .i64 i.b,.int .i64 i.c,.int .i64 i.imm,.slice u i.args.length qi] 95)):=(Below.refl _ _).alloc (Nat.le_refl _) _
   have eI:(w3.alloc (.cells #[.int .i64 i.op,.int .i64 i.w,.int .i64 i.a,.int .i64 i.b,.int .i64 i.c,.int .i64 i.imm,.slice u i.args.length qi] 95)).heap.size=w3.heap.size+1:=by simp
   have B6:Below w3.heap.size w3 ((w3.alloc (.cells #[.int .i64 i.op,.int .i64 i.w,.int .i64 i.a,.int .i64 i.b,.int .i64 i.c,.int .i64 i.imm,.slice u i.args.length qi] 95)).alloc (.cells #[.int .i64 i.op,.int .i64 i.w,.int .i64 i.a,.int .i64 i.b,.int .i64 i.c,.int .i64 i.imm,.slice u i.args.length qi] 95)):=B5.alloc (by simp) _
   have eA:((w3.alloc (.cells #[.int .i64 i.op,.int .i64 i.w,.int .i64 i.a,.int .i64 i.b,.int .i64 i.c,.int .i64 i.imm,.slice u i.args.length qi] 95)).alloc (.cells #[.int .i64 i.op,.int .i64 i.w,.int .i64 i.a,.int .i64 i.b,.int .i64 i.c,.int .i64 i.imm,.slice u i.args.length qi] 95)).heap.size=w3.heap.size+2:=by simp
   have hAI:At ((w3.alloc (.cells #[.int .i64 i.op,.int .i64 i.w,.int .i64 i.a,.int .i64 i.b,.int .i64 i.c,.int .i64 i.imm,.slice u i.args.length qi] 95)).alloc (.cells #[.int .i64 i.op,.int .i64 i.w,.int .i64 i.a,.int .i64 i.b,.int .i64 i.c,.int .i64 i.imm,.slice u i.args.length qi] 95)) (w3.heap.size+1) #[.int .i64 i.op,.int .i64 i.w,.int .i64 i.a,.int .i64 i.b,.int .i64 i.c,.int .i64 i.imm,.slice u i.args.length qi] 95:=by
    have:=At.new (w3.alloc (.cells #[.int .i64 i.op,.int .i64 i.w,.int .i64 i.a,.int .i64 i.b,.int .i64 i.c,.int .i64 i.imm,.slice u i.args.length qi] 95)) #[.int .i64 i.op,.int .i64 i.w,.int .i64 i.a,.int .i64 i.b,.int .i64 i.c,.int .i64 i.imm,.slice u i.args.length qi] 95
    rwa [eI] at this
   have AX3:At w3 (w1.heap.size+1) #[.slice x.pu x.ps.length x.pc,.slice x.iu x.is.length x.ic,.int .i64 0,.int .i64 0,.int .i64 0,.int .i64 0] 74:=hAX.out.below HB3.out
   have AF3:At w3 w1.heap.size #[.slice f.pu f.pars.length f.pc,.int .i64 f.ret,.slice (some ⟨q,0,none⟩) (bs'.length+1) f.bc] 55:=hAF.out.below HB3.out
   have m1:(w3.alloc (.cells #[.int .i64 i.op,.int .i64 i.w,.int .i64 i.a,.int .i64 i.b,.int .i64 i.c,.int .i64 i.imm,.slice u i.args.length qi] 95)).cell? ⟨w1.heap.size+1,1,none⟩=some (.slice x.iu x.is.length x.ic):=(AX3.below B5).cell 1
   have AX6:At ((w3.alloc (.cells #[.int .i64 i.op,.int .i64 i.w,.int .i64 i.a,.int .i64 i.b,.int .i64 i.c,.int .i64 i.imm,.slice u i.args.length qi] 95)).alloc (.cells #[.int .i64 i.op,.int .i64 i.w,.int .i64 i.a,.int .i64 i.b,.int .i64 i.c,.int .i64 i.imm,.slice u i.args.length qi] 95)) (w1.heap.size+1) #[.slice x.pu x.ps.length x.pc,.slice x.iu x.is.length x.ic,.int .i64 0,.int .i64 0,.int .i64 0,.int .i64 0] 74:=AX3.below B6
   have AF6:At ((w3.alloc (.cells #[.int .i64 i.op,.int .i64 i.w,.int .i64 i.a,.int .i64 i.b,.int .i64 i.c,.int .i64 i.imm,.slice u i.args.length qi] 95)).alloc (.cells #[.int .i64 i.op,.int .i64 i.w,.int .i64 i.a,.int .i64 i.b,.int .i64 i.c,.int .i64 i.imm,.slice u i.args.length qi] 95)) w1.heap.size #[.slice f.pu f.pars.length f.pc,.int .i64 f.ret,.slice (some ⟨q,0,none⟩) (bs'.length+1) f.bc] 55:=AF3.below B6
   have HR6:RowS 95 7 inC ((w3.alloc (.cells #[.int .i64 i.op,.int .i64 i.w,.int .i64 i.a,.int .i64 i.b,.int .i64 i.c,.int .i64 i.imm,.slice u i.args.length qi] 95)).alloc (.cells #[.int .i64 i.op,.int .i64 i.w,.int .i64 i.a,.int .i64 i.b,.int .i64 i.c,.int .i64 i.imm,.slice u i.args.length qi] 95)) T (.slice x.iu x.is.length x.ic) x.is:=HS1.out.isr.stay (Stay.below (Stay.below (Stay.refl [] _) HB4.out) B6) (fun _ _ hm=>by cases hm)
   obtain⟨g6,cap6,wa,hrun,hown6,hgr6,_,_⟩:=run_append_lies (P:=Tryz.prog) ((w3.alloc (.cells #[.int .i64 i.op,.int .i64 i.w,.int .i64 i.a,.int .i64 i.b,.int .i64 i.c,.int .i64 i.imm,.slice u i.args.length qi] 95)).alloc (.cells #[.int .i64 i.op,.int .i64 i.w,.int .i64 i.a,.int .i64 i.b,.int .i64 i.c,.int .i64 i.imm,.slice u i.args.length qi] 95)) 70 70 T 95 iI (.agg #[.int .i64 0,.int .i64 0,.int .i64 0,.int .i64 0,.int .i64 0,.int .i64 0,.slice none 0 0]) 7 72 Tryz.underlying70 hiI zI sI bI rfl (by decide) (.slice x.iu x.is.length x.ic) x.is.length (x.is.flatMap inC) HR6 ⟨w3.heap.size+1,0,none⟩ 1 1 [.int .i64 i.op,.int .i64 i.w,.int .i64 i.a,.int .i64 i.b,.int .i64 i.c,.int .i64 i.imm,.slice u i.args.length qi] rfl (World.news_of_block hAI) (by simp[Value.oneCell']) (by decide) (by unfold maxLen;omega) (by omega) (by omega) _ rfl
   have hP1:∀ q',(Value.slice x.iu x.is.length x.ic).ownBlock=some q'→T≤q'∧q'<w1.heap.size∧∃ cur,w3.heap[q']?=some (.cells cur 95 (0,0)):=fun q' e=>by
    obtain⟨h1,cur,h2⟩:=HS1.out.isr.ge e
    have hl:=(Array.getElem?_eq_some_iff.1 h2).1
    exact⟨h1,hl,cur,(HB4.out.block q' hl).trans h2⟩
   have HAXa:Hid (At wa (w1.heap.size+1) #[.slice x.pu x.ps.length x.pc,.slice x.iu x.is.length x.ic,.int .i64 0,.int .i64 0,.int .i64 0,.int .i64 0] 74):=(hgr6.block _ (by omega) (fun e=>by have:=(hP1 _ e.symm).2.1;omega)).trans AX6
   have HAFa:Hid (At wa w1.heap.size #[.slice f.pu f.pars.length f.pc,.int .i64 f.ret,.slice (some ⟨q,0,none⟩) (bs'.length+1) f.bc] 55):=(hgr6.block _ (by omega) (fun e=>by have:=(hP1 _ e.symm).2.1;omega)).trans AF6
   have e1:wa.cell? ⟨w1.heap.size+1,1,none⟩=some (.slice x.iu x.is.length x.ic):=HAXa.out.cell 1
   have ef:∀ o,wa.frozen? ⟨w1.heap.size+1,o,none⟩=false:=fun o=>zfH HAXa.out
   have ST1:Stay (Value.slice x.iu x.is.length x.ic).ownBlock.toList w1 (wa.setCell ⟨w1.heap.size+1,1,none⟩ (.slice (some ⟨g6,0,none⟩) (x.is.length+1) cap6)):=(Stay.grown (Stay.below (Stay.below (Stay.refl _ _) HB4.out) B6) hgr6 fun q' e=>.inl (by rw[e];simp)).set (.inr (by omega))
   have ST3:Stay ((w1.heap.size+1) :: (Value.slice x.iu x.is.length x.ic).ownBlock.toList) w3 (wa.setCell ⟨w1.heap.size+1,1,none⟩ (.slice (some ⟨g6,0,none⟩) (x.is.length+1) cap6)):=(Stay.grown (Stay.below (Stay.refl _ _) B6) hgr6 fun q' e=>.inl (by rw[e];simp)).set (.inl (by simp))
   have HRa:RowS 95 7 inC wa T (.slice (some ⟨g6,0,none⟩) (x.is.length+1) cap6) (x.is++[((i,u,qi):InE)]):=RowS.push hown6
   have HRf:RowS 95 7 inC (wa.setCell ⟨w1.heap.size+1,1,none⟩ (.slice (some ⟨g6,0,none⟩) (x.is.length+1) cap6)) T (.slice (some ⟨g6,0,none⟩) (x.is.length+1) cap6) (x.is++[((i,u,qi):InE)]):=HRa.stay (S:=[w1.heap.size+1]) ((Stay.refl _ _).set (.inl (by simp))) (fun q' e hm=>by
    obtain⟨_,cur,h2⟩:=HRa.ge e
    have:=List.mem_singleton.1 hm
    exact ne_types h2 HAXa.out (by decide) this)
   have HMid:Hid (MidS (wa.setCell ⟨w1.heap.size+1,1,none⟩ (.slice (some ⟨g6,0,none⟩) (x.is.length+1) cap6)) R T n fs f bs' x ⟨x.ps,x.pu,x.pc,x.is++[((i,u,qi):InE)],some ⟨g6,0,none⟩,cap6,x.t⟩ (.slice (some ⟨g,0,none⟩) (fs.length+1) vc)):=HS1.out.ins ST1 (fun q' hq=>by simpa [Option.mem_toList] using hq) HRf (IntO.wide (IntO.stay HIo.out ST3 (fun q' hq=>.inr (by
    rcases List.mem_cons.1 hq with rfl|hq
    ·exact Lv.of AX3 (by decide)
    ·obtain⟨_,_,cur,h2⟩:=hP1 q' (by simpa [Option.mem_toList] using hq)
     exact Lv.of h2 (by decide)))) (by omega) ST3.size)
   have HAFf:Hid (At (wa.setCell ⟨w1.heap.size+1,1,none⟩ (.slice (some ⟨g6,0,none⟩) (x.is.length+1) cap6)) w1.heap.size #[.slice f.pu f.pars.length f.pc,.int .i64 f.ret,.slice (some ⟨q,0,none⟩) (bs'.length+1) f.bc] 55):=At.setOther HAFa.out (by omega)
   have HAXf:Hid (At (wa.setCell ⟨w1.heap.size+1,1,none⟩ (.slice (some ⟨g6,0,none⟩) (x.is.length+1) cap6)) (w1.heap.size+1) #[.slice x.pu x.ps.length x.pc,.slice (some ⟨g6,0,none⟩) (x.is.length+1) cap6,.int .i64 0,.int .i64 0,.int .i64 0,.int .i64 0] 74):=zhS (o:=1) HAXa.out
   have HBf:Hid (Below R w (wa.setCell ⟨w1.heap.size+1,1,none⟩ (.slice (some ⟨g6,0,none⟩) (x.is.length+1) cap6))):=((HBR.out.trans ((HB4.out.trans (B6.mono (by omega))).mono (by omega))).grown hgr6 (by omega) (fun q' e=>by have:=(hP1 q' e).1;omega)).setCell (by dsimp only;omega) _
   have HQ:Hid (∀ z q',LineIs s z→LnOk z→Step (stO fs f bs' x) z q'→q'=nxtO fs f bs' ⟨x.ps,x.pu,x.pc,x.is++[((i,u,qi):InE)],some ⟨g6,0,none⟩,cap6,x.t⟩):=fun z q' hz hk hst=>by
    obtain⟨j,h5,h6⟩:=HST.out z q' hz hk hst
    unfold nxtO
    rw[if_pos (by show x.t.kind=0;rw[HS1.out.tk]),h6,read_one h5 HOk.out]
    simp[stO]
   clear HR6 hown6 hgr6 HRa HRf ST1 ST3 HIo hP1 HAXa HAFa HB3 HB4 AX3 AF3 AX6 AF6 hAI B5 B6 HST HBR HB2 eI eA hAX hAF hBX
   go_wp2_with (at_builtin;refine list_runP rfl _ _ _ rfl rfl rfl hrun ?_;clear hrun)
   go_meet
   case rel =>
    have e9:(x.is++[((i,u,qi):InE)]).length=x.is.length+1:=by simp
    refine⟨⟨x.ps,x.pu,x.pc,x.is++[((i,u,qi):InE)],some ⟨g6,0,none⟩,cap6,x.t⟩,HMid.out,HAFf.out,?_,HBf.out,HQ.out⟩
    dsimp only
    rw[e9,HS1.out.tk]
    exact HAXf.out
  ·have HNo:Hid (∀ z q',LineIs s z→LnOk z→¬Step (stO fs f bs' x) z q'):=fun z q' hz hk hst=>by
    obtain⟨j,h5,h6⟩:=HST.out z q' hz hk hst
    exact hno ⟨j,h5⟩
   have HB5:Hid (Below R w w3):=HB2.out.trans (HB3.out.mono (by omega))
   have hRl3:R≤w3.heap.size:=by omega
   clear hno HST HB3 hAX hAF hBX HB2 HBR
   go_wp2_with fail
   go_ret
   exact⟨.inr ⟨rfl,HNo.out⟩,HB5.out.alloc hRl3 _⟩
 case rest =>
  obtain⟨y,HM,HAF,HAX,HBw,HQ⟩:=hcut
  obtain⟨W3,hW3⟩:∃ W,W=wc:=⟨_,rfl⟩
  subst hW3
  clear hAF hAX hBX hzX HB2 HS HS1 HT HI HBR HF HBk HB1 HA1
  have hT:=HM.out.hT
  have hz3:w1.heap.size+1<W3.heap.size:=HAX.out.lt
  have m2:W3.cell? ⟨w1.heap.size+1,2,none⟩=some (.int .i64 y.t.kind):=HAX.out.cell 2
  have r1:W3.cell? ⟨R,1,none⟩=some (.bool true):=HM.out.box.cell 1
  have rf:∀ o,W3.frozen? ⟨R,o,none⟩=false:=fun o=>zfH HM.out.box
  have A4:At (W3.setCell ⟨R,1,none⟩ (.bool (y.t.kind==0))) R #[.slice (some ⟨g,0,none⟩) (fs.length+1) vc,.bool (y.t.kind==0)] 62:=zhS (o:=1) HM.out.box
  have AF4:At (W3.setCell ⟨R,1,none⟩ (.bool (y.t.kind==0))) w1.heap.size #[.slice f.pu f.pars.length f.pc,.int .i64 f.ret,.slice (some ⟨q,0,none⟩) (bs'.length+1) f.bc] 55:=At.setOther HAF.out (by omega)
  have AX4:At (W3.setCell ⟨R,1,none⟩ (.bool (y.t.kind==0))) (w1.heap.size+1) #[.slice y.pu y.ps.length y.pc,.slice y.iu y.is.length y.ic,.int .i64 y.t.kind,.int .i64 y.t.a,.int .i64 y.t.x,.int .i64 y.t.y] 74:=At.setOther HAX.out (by omega)
  have S4:Stay [R] W3 (W3.setCell ⟨R,1,none⟩ (.bool (y.t.kind==0))):=(Stay.refl _ _).set (.inl (by simp))
  obtain⟨g',gcur',hgv',_,hgh,hgc⟩:=RowS.cellAt (C:=fnC) (s:=3) (fun _=>rfl) HM.out.row (i:=fs.length) (e:=f) (by simp)
  obtain rfl:g=g':=by
   injection hgv' with h1
   injection h1 with h1
  have hKr:=HM.out.blk
  have eb:f.bs.length=bs'.length+1:=by rw[HM.out.fbs];simp
  rw[eb] at hKr
  obtain⟨q',qcur',hqv',_,hqh,hqc⟩:=RowS.cellAt (C:=bkC) (s:=6) (fun _=>rfl) hKr (i:=bs'.length) (e:=x) (by rw[HM.out.fbs];simp)
  obtain rfl:q=q':=by
   have h1:=HQV.out.symm.trans hqv'
   injection h1 with h1
   injection h1 with h1
  have eg4:(W3.setCell ⟨R,1,none⟩ (.bool (y.t.kind==0))).heap[g]?=W3.heap[g]?:=S4.block g (by omega) (by simpa using hgR)
  have eq4:(W3.setCell ⟨R,1,none⟩ (.bool (y.t.kind==0))).heap[q]?=W3.heap[q]?:=S4.block q (by omega) (by simpa using hqR)
  have k2:(W3.setCell ⟨R,1,none⟩ (.bool (y.t.kind==0))).cell? ⟨w1.heap.size,2,none⟩=some (.slice (some ⟨q,0,none⟩) (bs'.length+1) f.bc):=AF4.cell 2
  have m0:(W3.setCell ⟨R,1,none⟩ (.bool (y.t.kind==0))).cell? ⟨w1.heap.size+1,0,none⟩=some (.slice y.pu y.ps.length y.pc):=AX4.cell 0
  have m1:(W3.setCell ⟨R,1,none⟩ (.bool (y.t.kind==0))).cell? ⟨w1.heap.size+1,1,none⟩=some (.slice y.iu y.is.length y.ic):=AX4.cell 1
  have m2':(W3.setCell ⟨R,1,none⟩ (.bool (y.t.kind==0))).cell? ⟨w1.heap.size+1,2,none⟩=some (.int .i64 y.t.kind):=AX4.cell 2
  have m3:(W3.setCell ⟨R,1,none⟩ (.bool (y.t.kind==0))).cell? ⟨w1.heap.size+1,3,none⟩=some (.int .i64 y.t.a):=AX4.cell 3
  have m4:(W3.setCell ⟨R,1,none⟩ (.bool (y.t.kind==0))).cell? ⟨w1.heap.size+1,4,none⟩=some (.int .i64 y.t.x):=AX4.cell 4
  have m5:(W3.setCell ⟨R,1,none⟩ (.bool (y.t.kind==0))).cell? ⟨w1.heap.size+1,5,none⟩=some (.int .i64 y.t.y):=AX4.cell 5
  have qf:∀ o,(W3.setCell ⟨R,1,none⟩ (.bool (y.t.kind==0))).frozen? ⟨q,o,none⟩=false:=fun o=>zfH (eq4.trans hqh)
  have n0:(W3.setCell ⟨R,1,none⟩ (.bool (y.t.kind==0))).cell? ⟨q,bs'.length*6,none⟩=some (.slice x.pu x.ps.length x.pc):=(zcB eq4).trans (hqc 0 (by decide))
  have n1:(W3.setCell ⟨R,1,none⟩ (.bool (y.t.kind==0))).cell? ⟨q,bs'.length*6+1,none⟩=some (.slice x.iu x.is.length x.ic):=(zcB eq4).trans (hqc 1 (by decide))
  have n2:(W3.setCell ⟨R,1,none⟩ (.bool (y.t.kind==0))).cell? ⟨q,bs'.length*6+2,none⟩=some (.int .i64 x.t.kind):=(zcB eq4).trans (hqc 2 (by decide))
  have n3:(W3.setCell ⟨R,1,none⟩ (.bool (y.t.kind==0))).cell? ⟨q,bs'.length*6+3,none⟩=some (.int .i64 x.t.a):=(zcB eq4).trans (hqc 3 (by decide))
  have n4:(W3.setCell ⟨R,1,none⟩ (.bool (y.t.kind==0))).cell? ⟨q,bs'.length*6+4,none⟩=some (.int .i64 x.t.x):=(zcB eq4).trans (hqc 4 (by decide))
  have n5:(W3.setCell ⟨R,1,none⟩ (.bool (y.t.kind==0))).cell? ⟨q,bs'.length*6+5,none⟩=some (.int .i64 x.t.y):=(zcB eq4).trans (hqc 5 (by decide))
  obtain⟨W5,hW5⟩:∃ W,(((((((W3.setCell ⟨R,1,none⟩ (.bool (y.t.kind==0))).setCell ⟨q,bs'.length*6,none⟩ (.slice y.pu y.ps.length y.pc)).setCell ⟨q,bs'.length*6+1,none⟩ (.slice y.iu y.is.length y.ic)).setCell ⟨q,bs'.length*6+2,none⟩ (.int .i64 y.t.kind)).setCell ⟨q,bs'.length*6+3,none⟩ (.int .i64 y.t.a)).setCell ⟨q,bs'.length*6+4,none⟩ (.int .i64 y.t.x)).setCell ⟨q,bs'.length*6+5,none⟩ (.int .i64 y.t.y))=W:=⟨_,rfl⟩
  have S5:Stay [q] (W3.setCell ⟨R,1,none⟩ (.bool (y.t.kind==0))) W5:=by
   rw[←hW5]
   exact ((((((Stay.refl _ _).set (.inl (by simp))).set (.inl (by simp))).set (.inl (by simp))).set (.inl (by simp))).set (.inl (by simp))).set (.inl (by simp))
  have eg5:W5.heap[g]?=W3.heap[g]?:=(S5.block g (by have:=S4.size;omega) (by simpa using hgq)).trans eg4
  have AR5:At W5.drew R #[.slice (some ⟨g,0,none⟩) (fs.length+1) vc,.bool (y.t.kind==0)] 62:=(S5.block R (by have:=S4.size;omega) (by simpa using hqR.symm)).trans A4
  have AF5:At W5.drew w1.heap.size #[.slice f.pu f.pars.length f.pc,.int .i64 f.ret,.slice (some ⟨q,0,none⟩) (bs'.length+1) f.bc] 55:=(S5.block w1.heap.size (by have:=S4.size;omega) (by simp;omega)).trans AF4
  have d0:W5.drew.cell? ⟨R,0,none⟩=some (.slice (some ⟨g,0,none⟩) (fs.length+1) vc):=AR5.cell 0
  have f0:W5.drew.cell? ⟨w1.heap.size,0,none⟩=some (.slice f.pu f.pars.length f.pc):=AF5.cell 0
  have f1:W5.drew.cell? ⟨w1.heap.size,1,none⟩=some (.int .i64 f.ret):=AF5.cell 1
  have f2:W5.drew.cell? ⟨w1.heap.size,2,none⟩=some (.slice (some ⟨q,0,none⟩) (bs'.length+1) f.bc):=AF5.cell 2
  have y0:W5.drew.cell? ⟨g,fs.length*3,none⟩=some (.slice f.pu f.pars.length f.pc):=(zcB eg5).trans (hgc 0 (by decide))
  have y1:W5.drew.cell? ⟨g,fs.length*3+1,none⟩=some (.int .i64 f.ret):=(zcB eg5).trans (hgc 1 (by decide))
  have y3:W5.drew.cell? ⟨g,fs.length*3+2,none⟩=some (.slice f.bu f.bs.length f.bc):=(zcB eg5).trans (hgc 2 (by decide))
  have gf:∀ o,W5.drew.frozen? ⟨g,o,none⟩=false:=fun o=>zfH (eg5.trans hgh)
  have eP:(putW W3 R q g fs f bs' y).drew=(((W5.drew.setCell ⟨g,fs.length*3,none⟩ (.slice f.pu f.pars.length f.pc)).setCell ⟨g,fs.length*3+1,none⟩ (.int .i64 f.ret)).setCell ⟨g,fs.length*3+2,none⟩ (.slice (some ⟨q,0,none⟩) (bs'.length+1) f.bc)):=by
   have e:(bs'++[y]).length=bs'.length+1:=by simp
   unfold putW
   rw[show bkC y=[.slice y.pu y.ps.length y.pc,.slice y.iu y.is.length y.ic,.int .i64 y.t.kind,.int .i64 y.t.a,.int .i64 y.t.x,.int .i64 y.t.y] from rfl,setCells_six,hW5,show fnC (putB f bs' y)=[.slice f.pu f.pars.length f.pc,.int .i64 f.ret,.slice f.bu (bs'++[y]).length f.bc] from rfl,setCells_three,drew_set,drew_set,drew_set,HQV.out,e]
  have HFin:Hid (StH (((W5.drew.setCell ⟨g,fs.length*3,none⟩ (.slice f.pu f.pars.length f.pc)).setCell ⟨g,fs.length*3+1,none⟩ (.int .i64 f.ret)).setCell ⟨g,fs.length*3+2,none⟩ (.slice (some ⟨q,0,none⟩) (bs'.length+1) f.bc)) R (n+1) (nxtO fs f bs' y)):=by
   have k:=StH.keep (MidS.stH hn HM.out HQV.out) ((Below.refl _ _).drew)
   rw[eP] at k
   exact k
  have HLow:Hid (Below R W3 (((W5.drew.setCell ⟨g,fs.length*3,none⟩ (.slice f.pu f.pars.length f.pc)).setCell ⟨g,fs.length*3+1,none⟩ (.int .i64 f.ret)).setCell ⟨g,fs.length*3+2,none⟩ (.slice (some ⟨q,0,none⟩) (bs'.length+1) f.bc))):=by
   have k:=(MidS.low HM.out HQV.out).drew
   rw[eP] at k
   exact k
  have HW5:Hid (W5.drew.cell? ⟨R,0,none⟩=some (.slice (some ⟨g,0,none⟩) (fs.length+1) vc)∧W5.drew.cell? ⟨w1.heap.size,0,none⟩=some (.slice f.pu f.pars.length f.pc)∧W5.drew.cell? ⟨w1.heap.size,1,none⟩=some (.int .i64 f.ret)∧W5.drew.cell? ⟨w1.heap.size,2,none⟩=some (.slice (some ⟨q,0,none⟩) (bs'.length+1) f.bc)∧W5.drew.cell? ⟨g,fs.length*3,none⟩=some (.slice f.pu f.pars.length f.pc)∧W5.drew.cell? ⟨g,fs.length*3+1,none⟩=some (.int .i64 f.ret)∧W5.drew.cell? ⟨g,fs.length*3+2,none⟩=some (.slice f.bu f.bs.length f.bc)∧(∀ o,W5.drew.frozen? ⟨g,o,none⟩=false)):=⟨d0,f0,f1,f2,y0,y1,y3,gf⟩
  have hgW:g≠w1.heap.size:=by omega
  have hRW:R≠w1.heap.size:=by omega
  clear d0 f0 f1 f2 y0 y1 y3 gf eP AR5 AF5 eg5 S5 eg4 eq4 hgh hgc hqh hqc A4 AF4 AX4 S4 hgv' hqv' hKr eb HM HAF HAX HQV hT
  go_wp2_with fail
  skip
  try rw[hW5]
  clear hW5
  obtain⟨d0,f0,f1,f2,y0,y1,y3,gf⟩:=HW5.out
  clear HW5 m0 m1 m2' m3 m4 m5 n0 n1 n2 n3 n4 n5 qf k2 m2 r1 rf
  refine startX (fun w'=>w'.cell? ⟨R,0,none⟩=some (.slice (some ⟨g,0,none⟩) (fs.length+1) vc)∧w'.cell? ⟨w1.heap.size,0,none⟩=some (.slice f.pu f.pars.length f.pc)∧w'.cell? ⟨w1.heap.size,1,none⟩=some (.int .i64 f.ret)∧w'.cell? ⟨w1.heap.size,2,none⟩=some (.slice (some ⟨q,0,none⟩) (bs'.length+1) f.bc)) (fun i=>decide (7≤i)) (by kernel_rfl) ?_
  obtain⟨WG,hWG⟩:∃ W,W5.drew=W:=⟨_,rfl⟩
  rw[hWG] at d0 f0 f1 f2 y0 y1 y3 gf HFin HLow ⊢
  clear hWG
  refine takeX 0 (v:=?_) rfl rfl (by kernel_rfl) (fun _ _ _ h=>h) (yesH (by rfl) ?_) ⟨d0,f0,f1,f2⟩ ?_
  rotate_left
  ·intro w9 hS9
   obtain⟨g0,g1,g2,g3⟩:=hS9
   go_simp
   try with_reducible rfl
  try simp only[Act.put,sA,sB,sC]
  refine takeX 1 (v:=?_) rfl rfl (by kernel_rfl) (fun _ _ _ h=>h) (yesH (by rfl) ?_) ⟨d0,f0,f1,f2⟩ ?_
  rotate_left
  ·intro w9 hS9
   obtain⟨g0,g1,g2,g3⟩:=hS9
   go_simp
   try with_reducible rfl
  try simp only[Act.put,sA,sB,sC]
  refine takeX 2 (v:=?_) rfl rfl (by kernel_rfl) (fun _ _ _ h=>h) (yesH (by rfl) ?_) ⟨d0,f0,f1,f2⟩ ?_
  rotate_left
  ·intro w9 hS9
   obtain⟨g0,g1,g2,g3⟩:=hS9
   go_simp
   try with_reducible rfl
  try simp only[Act.put,sA,sB,sC]
  refine takeX 3 (v:=?_) rfl rfl (by kernel_rfl) (fun _ _ _ h=>h) (yesH (by rfl) ?_) ⟨d0,f0,f1,f2⟩ ?_
  rotate_left
  ·intro w9 hS9
   obtain⟨g0,g1,g2,g3⟩:=hS9
   go_simp
   try with_reducible rfl
  try simp only[Act.put,sA,sB,sC]
  refine takeX 4 (v:=?_) rfl rfl (by kernel_rfl) (fun _ _ _ h=>h) (yesH (by rfl) ?_) ⟨d0,f0,f1,f2⟩ ?_
  rotate_left
  ·intro w9 hS9
   obtain⟨g0,g1,g2,g3⟩:=hS9
   go_simp
   try with_reducible rfl
  try simp only[Act.put,sA,sB,sC]
  refine takeX 5 (v:=?_) rfl rfl (by kernel_rfl) (fun _ _ _ h=>h) (yesH (by rfl) ?_) ⟨d0,f0,f1,f2⟩ ?_
  rotate_left
  ·intro w9 hS9
   obtain⟨g0,g1,g2,g3⟩:=hS9
   go_simp
   try with_reducible rfl
  try simp only[Act.put,sA,sB,sC]
  refine takeX 6 (v:=?_) rfl rfl (by kernel_rfl) (fun _ _ _ h=>h) (yesH (by rfl) ?_) ⟨d0,f0,f1,f2⟩ ?_
  rotate_left
  ·intro w9 hS9
   obtain⟨g0,g1,g2,g3⟩:=hS9
   go_simp
   try with_reducible rfl
  try simp only[Act.put,sA,sB,sC]
  refine readyX 7 rfl (by kernel_rfl) (fun K hK=>?_)
  go_simp
  refine hK.out _ _ (.inl rfl) ?_
  clear hK K
  try simp only[Act.put,sA,sB,sC]
  refine readyX 8 rfl (by kernel_rfl) (fun K hK=>?_)
  go_simp
  refine hK.out _ _ (.inl rfl) ?_
  clear hK K
  refine doneX (by kernel_rfl) ?_ _
  go_wp2_with fail
  go_ret
  exact⟨.inl ⟨_,rfl,HFin.out,HQ.out⟩,HBw.out.trans HLow.out⟩
def strR:Value→Nat
 | .string s=>s.size
 | _=>0
theorem lineH(R n:Nat)(p:PSt)(s:ByteArray)(w:World)(h:StH w R n p)(hn:n≤20000)(hs:s.size≤1048576) :
  Calls Tryz.prog 33 #[.pointer (some ⟨R,0,none⟩),.string s] w fun e w'=>LineT R n s p w e w':=by
 rcases h with⟨fs,v,hc,rfl⟩|⟨T,fs,f,bs,x,v,ho,rfl⟩
 ·exact lineC R n fs v s w hc hn hs
 ·exact lineO R T n fs f bs x v s w ho hn hs
theorem StH.at_{w:World}{R n:Nat}{p:PSt}(h:StH w R n p)(hn:n≤1048576):∃ (u:Option Addr) (c:Nat) (b:Bool) (l:List FuncD),At w R #[.slice u l.length c,.bool b] 62∧zFA w (R+1) u l∧SmMod l∧∀ m,p=.cl m→m=l:=by
 rcases h with⟨fs,v,hc,rfl⟩|⟨T,fs,f,bs,x,v,ho,rfl⟩
 ·obtain⟨u,c,rfl,h1,h2⟩:=hc.at_ hn
  refine⟨u,c,false,fs.map FnE.d,by rw[List.length_map];exact hc.box,h1,h2,fun m hm=>?_⟩
  unfold stC PSt.cl at hm
  cases hm
  rfl
 ·obtain⟨u,c,rfl,h1,h2⟩:=ho.at_ hn
  refine⟨u,c,true,(fs++[f]).map FnE.d,by rw[List.length_map];exact ho.box,h1,h2,fun m hm=>?_⟩
  unfold stO PSt.op PSt.cl at hm
  cases hm
def LeftM(s rest:ByteArray)(p:PSt):Prop:=∀ l,OkT s l→∃ L:List Ln,rest.data.toList=L.flatMap lnT∧(∀ x∈L,(10:UInt8) ∉ xLn x∧LineIs (bs (xLn x)) x∧LnOk x)∧Runs p L (.cl l)
theorem leftM_start(s:ByteArray):LeftM s s (.cl []):=fun l hl=>by
 refine⟨modL l,?_,fun x hx=>?_,runs_mod hl.1⟩
 ·rw[mod_lines,hl.2.1]
  rfl
 ·have hk:=mod_lnok hl.1 x hx
  have hp:=mod_plain x hx
  refine⟨fun h=>?_,line_back hp.2 hk.s,hk⟩
  unfold xLn at h
  rcases List.mem_append.1 h with h|h
  ·exact hp.1 h
  ·exact nums_line hk.s h
theorem lnT_x(x:Ln)(r:List UInt8):lnT x++r=xLn x++10 :: r:=by unfold lnT xLn;simp
theorem lines_ne{rest:ByteArray}{L:List Ln}(h:rest.data.toList=L.flatMap lnT)(hr:¬rest=⟨#[]⟩):∃ x M,L=x :: M∧rest.data.toList=xLn x++10 :: M.flatMap lnT:=by
 cases L with
 | nil=>exact absurd (ba_ext (by rw[h];rfl)) hr
 | cons x M=>exact⟨x,M,rfl,by rw[h,List.flatMap_cons,lnT_x]⟩
theorem leftM_no{s rest:ByteArray}{p:PSt}(h:LeftM s rest p)(hr:¬rest=⟨#[]⟩)(hi:Lib.indexB rest blankN=-1):¬∃ l,OkT s l:=fun ⟨l,hl⟩=>by
 obtain⟨L,h1,h2,_⟩:=h l hl
 obtain⟨x,M,rfl,h3⟩:=lines_ne h1 hr
 rw[idx_byteN,h3,idx_atN _ _ (h2 x (List.mem_cons_self ..)).1] at hi
 omega
theorem leftM_yes{s rest:ByteArray}{p:PSt}{i:Nat}(h:LeftM s rest p)(hr:¬rest=⟨#[]⟩)(hi:Lib.indexB rest blankN=i):∀ l,OkT s l→∃ (x:Ln) (M:List Ln),LineIs (rest.extract 0 i) x∧LnOk x∧(rest.extract (i+1) rest.size).data.toList=M.flatMap lnT∧(∀ x∈M,(10:UInt8) ∉ xLn x∧LineIs (bs (xLn x)) x∧LnOk x)∧∃ q,Step p x q∧Runs q M (.cl l):=fun l hl=>by
 obtain⟨L,h1,h2,h3⟩:=h l hl
 obtain⟨x,M,rfl,h4⟩:=lines_ne h1 hr
 obtain⟨k1,k2,k3⟩:=h2 x (List.mem_cons_self ..)
 have hl:=hi
 rw[idx_byteN,h4,idx_atN _ _ k1] at hl
 have hl2:(xLn x).length=i:=by omega
 have e1:rest.extract 0 i=bs (xLn x):=ba_ext (by
  rw[ext_data,h4,←hl2]
  show _=xLn x
  simp)
 have hz:rest.size=(xLn x).length+1+(M.flatMap lnT).length:=by
  have:=congrArg List.length h4
  simp only[List.length_append,List.length_cons] at this
  have e:rest.data.toList.length=rest.size:=by simp
  omega
 refine⟨x,M,by rw[e1];exact k2,k3,?_,fun y hy=>h2 y (List.mem_cons_of_mem _ hy),h3⟩
 rw[ext_data,h4,hz,←hl2,List.take_of_length_le (by simp)]
 rw[List.drop_append]
 simp
theorem leftM_step{s rest:ByteArray}{p q:PSt}{i:Nat}(h:LeftM s rest p)(hr:¬rest=⟨#[]⟩)(hi:Lib.indexB rest blankN=i)(hq:∀ x q',LineIs (rest.extract 0 i) x→LnOk x→Step p x q'→q'=q):LeftM s (rest.extract (i+1) rest.size) q:=fun l hl=>by
 obtain⟨x,M,h1,h2,h3,h4,q',h5,h6⟩:=leftM_yes h hr hi l hl
 rw[hq x q' h1 h2 h5] at h6
 exact⟨M,h3,h4,h6⟩
theorem leftM_bad{s rest:ByteArray}{p:PSt}{i:Nat}(h:LeftM s rest p)(hr:¬rest=⟨#[]⟩)(hi:Lib.indexB rest blankN=i)(hq:∀ x q',LineIs (rest.extract 0 i) x→LnOk x→¬Step p x q'):¬∃ l,OkT s l:=fun ⟨l,hl⟩=>by
 obtain⟨x,M,h1,h2,_,_,q',h5,_⟩:=leftM_yes h hr hi l hl
 exact hq x q' h1 h2 h5
theorem leftM_end{s:ByteArray}{p:PSt}(h:LeftM s ⟨#[]⟩ p){l:List FuncD}(hl:OkT s l):p=.cl l:=by
 obtain⟨L,h1,_,h3⟩:=h l hl
 cases L with
 | nil=>exact h3
 | cons x M =>
  have:=congrArg List.length h1
  rw[List.flatMap_cons,lnT_x] at this
  simp at this
def MtGotS(s:ByteArray)(base:Nat)(e:Ending)(w:World):Prop :=
 (∃ (l:List FuncD) (u:Option Addr) (c:Nat),OkT s l∧e=.returned (.tuple #[.agg #[.slice u l.length c],.bool true])∧zFA w base u l∧SmMod l)∨((¬∃ l,OkT s l)∧e=.returned (.tuple #[.agg #[.slice none 0 0],.bool false]))
theorem at_end{s:ByteArray}{p:PSt}{l:List FuncD}(h:LeftM s ⟨#[]⟩ p)(hl:∀ m,p=.cl m→m=l):(∃ m,OkT s m)→OkT s l:=fun ⟨m,hm⟩=>by
 have:=hl m (leftM_end h hm)
 rw[this] at hm
 exact hm
theorem okt_text{s:ByteArray}{l:List FuncD}(hz:s.size≤20000)(hs:¬s=⟨#[]⟩)(h:modText l=s):OkT s l:=by
 unfold modText at h
 by_cases hm:modB l=true
 ·rw[if_pos hm] at h
  exact⟨hm,h.symm,hz⟩
 ·rw[if_neg hm] at h
  exact absurd h.symm hs
theorem text_okt{s:ByteArray}{l:List FuncD}(h:OkT s l):modText l=s:=by
 unfold modText
 rw[if_pos h.1]
 exact h.2.1.symm
theorem okt_some{s:ByteArray}{l:List FuncD}(h:OkT s l):¬s=⟨#[]⟩:=fun e=>by
 have h1:=leftM_end (p:=.cl []) (s:=s) (e▸leftM_start s) h
 unfold PSt.cl at h1
 cases h1
 exact absurd h.1 (by decide)
theorem readMS(s:ByteArray)(w:World)(hs:s.size≤1048576) :
  Calls Tryz.prog 12 #[.string s] w fun e w'=>MtGotS s w.heap.size e w'∧Below w.heap.size w w':=by
 have B1:Below w.heap.size w ((w.alloc (.cells #[.slice none 0 0] 26)).alloc (.cells #[.slice none 0 0,.bool false] 62)):=((Below.refl _ _).alloc (Nat.le_refl _) _).alloc (by simp) _
 have A1:At ((w.alloc (.cells #[.slice none 0 0] 26)).alloc (.cells #[.slice none 0 0,.bool false] 62)) w.heap.size #[.slice none 0 0] 26:=(At.new _ _ _).below ((Below.refl _ _).alloc (Nat.le_refl _) _)
 have A2:At ((w.alloc (.cells #[.slice none 0 0] 26)).alloc (.cells #[.slice none 0 0,.bool false] 62)) (w.heap.size+1) #[.slice none 0 0,.bool false] 62:=by
  have h:=At.new (w.alloc (.cells #[.slice none 0 0] 26)) #[.slice none 0 0,.bool false] 62
  have e:(w.alloc (.cells #[.slice none 0 0] 26)).heap.size=w.heap.size+1:=by simp
  rw[e] at h
  exact h
 have HC:Hid (StH ((w.alloc (.cells #[.slice none 0 0] 26)).alloc (.cells #[.slice none 0 0,.bool false] 62)) (w.heap.size+1) 0 (.cl [])):=.inl ⟨[],_,⟨A2,RowS.nil _ _ _ _ _,fun f hf=>(by cases hf),Nat.le_refl _,fun f hf=>(by cases hf)⟩,rfl⟩
 have HB:Hid (Below w.heap.size w ((w.alloc (.cells #[.slice none 0 0] 26)).alloc (.cells #[.slice none 0 0,.bool false] 62))):=B1
 have HA:Hid (At ((w.alloc (.cells #[.slice none 0 0] 26)).alloc (.cells #[.slice none 0 0,.bool false] 62)) w.heap.size #[.slice none 0 0] 26):=A1
 have HL:Hid (LeftM s s (.cl [])):=leftM_start s
 clear B1 A1 A2
 go_enter Tryz.func12,Tryz.ntmps12
 go_wp2_with fail
 generalize ((w.alloc (.cells #[.slice none 0 0] 26)).alloc (.cells #[.slice none 0 0,.bool false] 62))=W1 at HC HB HA ⊢
 go_loopw [5] (fun rs wr=>∃ (rest:ByteArray) (n:Nat) (p:PSt),rs=.string rest∧n+rest.size≤s.size∧(s.size≤20000∨p=.cl [])∧Hid (StH wr (w.heap.size+1) n p)∧Hid (LeftM s rest p)∧Hid (At wr w.heap.size #[.slice none 0 0] 26)∧Hid (Below w.heap.size w wr)) (fun rs _=>strR rs)
 case atStart=>exact⟨s,0,.cl [],rfl,by omega,.inr rfl,HC.out,HL.out,HA.out,HB.out⟩
 case round =>
  clear HC HL HA HB
  obtain⟨rest,n,p,rfl,hnz,hsz,HC,HL,HA,HB⟩:=hrel
  obtain⟨w4,hwo⟩:∃ w1,w1=wr:=⟨_,rfl⟩
  subst hwo
  have hw4:w.heap.size+1<w4.heap.size:=by
   obtain⟨_,_,_,_,h,_⟩:=HC.out.at_ (by omega)
   exact h.lt
  by_cases hgo:¬rest=⟨#[]⟩∧s.size≤20000
  ·obtain⟨hr,hz⟩:=hgo
   have q0:(rest.toList==[])=false:=beq_eq_false_iff_ne.2 fun e=>hr (ba_ext (by rw[←ByteArray.toList_eq,e]))
   have q1:(s.size:Int)≤20000:=by omega
   rcases Lib.indexB_cases rest blankN with hi|⟨i,hi,hil⟩
   ·have C:=cutS_noN rest w4 (by omega) hi
    have HNo:Hid (¬∃ l,OkT s l):=leftM_no HL.out hr hi
    have z0:w4.cell? ⟨w.heap.size,0,none⟩=some (.slice none 0 0):=HA.out.cell 0
    clear HL hr
    go_wp2_with fail
    refine C.mono ?_
    rintro e w5 ⟨rfl,b5⟩
    have HA5:Hid (At w5 w.heap.size #[.slice none 0 0] 26):=HA.out.below b5
    have HB5:Hid (Below w.heap.size w w5):=HB.out.trans (b5.mono (by omega))
    have zf:∀ o,w5.frozen? ⟨w.heap.size,o,none⟩=false:=fun o=>zfH HA5.out
    have z5:w5.cell? ⟨w.heap.size,0,none⟩=some (.slice none 0 0):=HA5.out.cell 0
    clear C b5 HA HB HC z0
    go_wp2_with fail
    have hrr:=zhS (o:=0) (v:=.slice none 0 0) HA5.out
    exact bodyPost_ret (v:=.tuple #[.agg #[.slice none 0 0],.bool false]) ((zrT Tryz.results12 _ _ w.heap.size _ rfl (run_loadVar_row _ _ 26 _ _ (0,0) _ hrr Tryz.underlying26 rfl (by kernel_rfl))).trans (by rfl)) rfl ⟨.inr ⟨HNo.out,rfl⟩,HB5.out.setCell (Nat.le_refl _) _⟩
   ·have C:=cutS_yesN rest i w4 (by omega) hi
    have hilt:i<rest.size:=by have:=blank_sizeN;omega
    have h1z:(rest.extract 0 i).size≤1048576:=by rw[ByteArray.size_extract];omega
    have h2z:(rest.extract (i+1) rest.size).size+1≤rest.size:=by rw[ByteArray.size_extract];omega
    have HL1:Hid (∀ q,(∀ x q',LineIs (rest.extract 0 i) x→LnOk x→Step p x q'→q'=q)→LeftM s (rest.extract (i+1) rest.size) q):=fun q hq=>leftM_step HL.out hr hi hq
    have HL2:Hid ((∀ x q',LineIs (rest.extract 0 i) x→LnOk x→¬Step p x q')→¬∃ l,OkT s l):=fun hq=>leftM_bad HL.out hr hi hq
    clear HL hr hi
    generalize rest.extract 0 i=line at *
    generalize hmo:rest.extract (i+1) rest.size=more at *
    clear hmo
    go_wp2_with fail
    refine C.mono ?_
    rintro e w5 ⟨rfl,b5⟩
    have HA5:Hid (At w5 w.heap.size #[.slice none 0 0] 26):=HA.out.below b5
    have HB5:Hid (Below w.heap.size w w5):=HB.out.trans (b5.mono (by omega))
    have HC5:Hid (StH w5 (w.heap.size+1) n p):=HC.out.keep b5
    have LH:=lineH (w.heap.size+1) n p line w5 HC5.out (by omega) h1z
    have hz5:=b5.size
    clear C b5 HA HB HC
    go_wp2_with fail
    refine LH.mono ?_
    rintro e w6 ⟨hc,b6⟩
    have HA6:Hid (At w6 w.heap.size #[.slice none 0 0] 26):=(b6.block _ (by omega)).trans HA5.out
    have HB6:Hid (Below w.heap.size w w6):=HB5.out.trans (b6.mono (by omega))
    clear LH b6 HA5 HB5 HC5
    rcases hc with⟨q,rfl,hq,hst⟩|⟨rfl,hst⟩
    ·have HC6:Hid (StH w6 (w.heap.size+1) (n+1) q):=hq
     have HL6:Hid (LeftM s more q):=HL1.out q hst
     clear hq hst HL1 HL2
     go_wp2_with fail
     go_roundw
     case rel=>exact⟨more,n+1,q,rfl,by omega,.inl hz,HC6.out,HL6.out,HA6.out,HB6.out⟩
     case measure=>simp[strR];omega
    ·have HNo:Hid (¬∃ l,OkT s l):=HL2.out hst
     have zf:∀ o,w6.frozen? ⟨w.heap.size,o,none⟩=false:=fun o=>zfH HA6.out
     have z0:w6.cell? ⟨w.heap.size,0,none⟩=some (.slice none 0 0):=HA6.out.cell 0
     clear hst HL1 HL2
     go_wp2_with fail
     have hrr:=zhS (o:=0) (v:=.slice none 0 0) HA6.out
     exact bodyPost_ret (v:=.tuple #[.agg #[.slice none 0 0],.bool false]) ((zrT Tryz.results12 _ _ w.heap.size _ rfl (run_loadVar_row _ _ 26 _ _ (0,0) _ hrr Tryz.underlying26 rfl (by kernel_rfl))).trans (by rfl)) rfl ⟨.inr ⟨HNo.out,rfl⟩,HB6.out.setCell (Nat.le_refl _) _⟩
  ·obtain⟨u,c,b,l,k1,k2,k3,k4⟩:=HC.out.at_ (by omega)
   have HY:Hid (¬s=⟨#[]⟩→modText l=s→OkT s l):=fun hne hm=>by
    rcases hsz with hz|hp
    ·exact okt_text hz hne hm
    ·have:=k4 [] hp
     subst this
     exact absurd hm.symm hne
   have HN:Hid ((∃ m,OkT s m)→OkT s l):=fun ⟨m,hm⟩=>by
    have hr:rest=⟨#[]⟩:=Classical.byContradiction fun hr=>hgo ⟨hr,hm.2.2⟩
    have h:=HL.out
    rw[hr] at h
    exact at_end h k4 ⟨m,hm⟩
   have HR:Hid (At w4 (w.heap.size+1) #[.slice u l.length c,.bool b] 62):=k1
   have c0:w4.cell? ⟨w.heap.size+1,0,none⟩=some (.slice u l.length c):=k1.cell 0
   have M:=modTextS (w.heap.size+1+1) l u c w4 k3 k2
   have HK:Hid (zFA w4 (w.heap.size+1+1) u l):=k2
   have HSm:Hid (SmMod l):=k3
   have z4:w4.cell? ⟨w.heap.size,0,none⟩=some (.slice none 0 0):=HA.out.cell 0
   have zf4:∀ o,w4.frozen? ⟨w.heap.size,o,none⟩=false:=fun o=>zfH HA.out
   have qgo:(rest.toList==[])=true∨((rest.toList==[])=false∧¬(s.size:Int)≤20000):=by
    by_cases hr:rest=⟨#[]⟩
    ·left
     rw[hr,ByteArray.toList_eq]
     rfl
    ·right
     exact⟨beq_eq_false_iff_ne.2 fun e=>hr (ba_ext (by rw[←ByteArray.toList_eq,e])),fun h=>hgo ⟨hr,by omega⟩⟩
   clear k1 k2 k3 k4 HC HL hgo hsz
   by_cases hne:s=⟨#[]⟩
   ·have p0:(s.toList==[])=true:=by rw[hne,ByteArray.toList_eq];rfl
    have HNo:Hid (¬∃ l,OkT s l):=fun ⟨m,hm⟩=>okt_some hm hne
    clear hne HY HN M
    rcases qgo with q0|⟨q0,q1⟩
    all_goals
     go_wp2_with fail
     have hrr:=zhS (o:=0) (v:=.slice none 0 0) HA.out
     exact bodyPost_ret (v:=.tuple #[.agg #[.slice none 0 0],.bool false]) ((zrT Tryz.results12 _ _ w.heap.size _ rfl (run_loadVar_row _ _ 26 _ _ (0,0) _ hrr Tryz.underlying26 rfl (by kernel_rfl))).trans (by rfl)) rfl ⟨.inr ⟨HNo.out,rfl⟩,HB.out.setCell (Nat.le_refl _) _⟩
   ·have p0:(s.toList==[])=false:=beq_eq_false_iff_ne.2 fun e=>hne (ba_ext (by rw[←ByteArray.toList_eq,e]))
    have HY2:Hid (modText l=s→OkT s l):=HY.out hne
    clear hne HY
    have HTE:Hid (OkT s l→modText l=s):=fun h=>text_okt h
    generalize modText l=t at *
    rcases qgo with q0|⟨q0,q1⟩
    all_goals
     go_wp2_with fail
     refine M.mono ?_
     rintro e w5 ⟨rfl,b5⟩
     have HA5:Hid (At w5 w.heap.size #[.slice none 0 0] 26):=HA.out.below b5
     have HR5:Hid (At w5 (w.heap.size+1) #[.slice u l.length c,.bool b] 62):=HR.out.below b5
     have HB5:Hid (Below w.heap.size w w5):=HB.out.trans (b5.mono (by omega))
     have HK5:Hid (zFA w5 (w.heap.size+1+1) u l):=HK.out.keep (zaB b5 _)
     have zf:∀ o,w5.frozen? ⟨w.heap.size,o,none⟩=false:=fun o=>zfH HA5.out
     have z0:w5.cell? ⟨w.heap.size,0,none⟩=some (.slice none 0 0):=HA5.out.cell 0
     have r0:w5.cell? ⟨w.heap.size+1,0,none⟩=some (.slice u l.length c):=HR5.out.cell 0
     clear M b5 HA HR HB HK c0 z4 zf4
     by_cases hts:t=s
     ·have HOk:Hid (OkT s l):=HY2.out hts
      have p1:(t.toList==s.toList)=true:=by rw[hts];exact beq_self_eq_true _
      clear hts HY2 HN
      go_wp2_with fail
      have hrr:=zhS (o:=0) (v:=.slice u l.length c) HA5.out
      exact bodyPost_ret (v:=.tuple #[.agg #[.slice u l.length c],.bool true]) ((zrT Tryz.results12 _ _ w.heap.size _ rfl (run_loadVar_row _ _ 26 _ _ (0,0) _ hrr Tryz.underlying26 rfl (by kernel_rfl))).trans (by rfl)) rfl ⟨.inl ⟨l,u,c,HOk.out,rfl,(HK5.out.keep (agree_setCell _ _ _ _ _ (by omega))).low (by omega),HSm.out⟩,HB5.out.setCell (Nat.le_refl _) _⟩
     ·have HNo:Hid (¬∃ l,OkT s l):=fun h=>hts (HTE.out (HN.out h))
      have p1:(t.toList==s.toList)=false:=beq_eq_false_iff_ne.2 fun e=>hts (ba_ext (by rw[←ByteArray.toList_eq,e,ByteArray.toList_eq]))
      clear hts HY2 HN
      go_wp2_with fail
      have hrr:=zhS (o:=0) (v:=.slice none 0 0) HA5.out
      exact bodyPost_ret (v:=.tuple #[.agg #[.slice none 0 0],.bool false]) ((zrT Tryz.results12 _ _ w.heap.size _ rfl (run_loadVar_row _ _ 26 _ _ (0,0) _ hrr Tryz.underlying26 rfl (by kernel_rfl))).trans (by rfl)) rfl ⟨.inr ⟨HNo.out,rfl⟩,HB5.out.setCell (Nat.le_refl _) _⟩
theorem args_lenT{d:InstD}{ids funcs:Int}(h:zIn d ids funcs=true):d.args.length≤4:=by
 simp only[zIn,Bool.and_eq_true] at h
 have hf:=h.1.2
 unfold fB at hf
 split at hf
 ·simp only[Bool.and_eq_true,decide_eq_true_eq] at hf
  exact hf.1.1.1
 ·simp only[Bool.and_eq_true,decide_eq_true_eq] at hf
  omega
def FitBT(b:BlockD):Prop:=b.phis.length≤60∧(∀ p∈b.phis,p.ins.length≤10)∧b.insts.length≤60∧∀ i∈b.insts,i.args.length≤4
def FitFT(d:FuncD):Prop:=d.params.length≤4∧d.blocks.length≤10∧∀ b∈d.blocks,FitBT b
theorem modT_parts{l:List FuncD}(h:modB l=true):l.length≤3∧∀ d∈l,funcB l.length d=true:=by
 simp only[modB,Bool.and_eq_true,decide_eq_true_eq] at h
 exact⟨h.1.2,fun d hd=>List.all_eq_true.1 h.2 d hd⟩
theorem cntT_parts{d:FuncD}(b:BlockD)(h:b∈d.blocks):b.phis.length+b.insts.length≤cntF d:=by
 have key:∀ (l:List BlockD),b∈l→b.phis.length+b.insts.length≤cntL l:=by
  intro l
  induction l with
  | nil=>intro h;cases h
  | cons x r ih =>
   intro h
   have e:cntL (x :: r)=cntB x+cntL r:=rfl
   rcases List.mem_cons.1 h with rfl|h
   ·rw[e];unfold cntB;omega
   ·have:=ih h
    rw[e];omega
 have:=key d.blocks h
 unfold cntF
 omega
theorem fitT_mod{l:List FuncD}(h:modB l=true):∀ d∈l,FitFT d:=fun d hd=>by
 obtain⟨_,h2⟩:=modT_parts h
 have h3:=h2 d hd
 simp only[funcB,Bool.and_eq_true,decide_eq_true_eq] at h3
 obtain⟨⟨⟨⟨⟨⟨k1,_⟩,_⟩,_⟩,k5⟩,k6⟩,k7⟩:=h3
 refine⟨k1,k5,fun b hb=>?_⟩
 have hc:=cntT_parts b hb
 have h4:=List.all_eq_true.1 k7 b hb
 simp only[blockB,Bool.and_eq_true] at h4
 refine⟨by unfold cntF at *;omega,fun p hpp=>?_,by unfold cntF at *;omega,fun i hi=>args_lenT (List.all_eq_true.1 h4.1.2 i hi)⟩
 have h5:=List.all_eq_true.1 h4.1.1 p hpp
 simp only[phiB,Bool.and_eq_true,decide_eq_true_eq] at h5
 exact h5.1.2
def MTold(w:World)(base:Nat)(l:List FuncD)(ok:Bool)(e:Ending):Prop:=∃ u c,e=.returned (.tuple #[.agg #[.slice u l.length c],.bool ok])∧zFA w base u l
def MOwn(w:World)(base:Nat)(l:List FuncD)(ok:Bool)(e:Ending):Prop:=∃ fs u c,fs.map FnE.d=l∧e=.returned (.tuple #[.agg #[.slice u fs.length c],.bool ok])∧OwnFns w base w.heap.size u fs
end Go.Proofs.YtkpmiikafconmaaGreatDoor
