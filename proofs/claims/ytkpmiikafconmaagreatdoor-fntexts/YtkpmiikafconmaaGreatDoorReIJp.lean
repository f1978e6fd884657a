import Derived.Test.YtkpmiikafconmaaGreatDoorReHJp
namespace Go.Proofs.YtkpmiikafconmaaGreatDoor
open Go.RowKit
set_option maxHeartbeats 1000000
set_option linter.unusedVariables false
set_option linter.unusedSimpArgs false
theorem str_neq{a b:ByteArray}(h:¬a=b):(a.toList==b.toList)=false:=by
 rw[ByteArray.toList_eq,ByteArray.toList_eq,beq_eq_false_iff_ne]
 exact fun e=>h (ByteArray.ext (Array.toList_inj.1 e))
theorem str_eqq{a b:ByteArray}(h:a=b):(a.toList==b.toList)=true:=by
 subst h
 exact beq_self_eq_true _
theorem OwnFns.sm{w:World}{lo hi:Nat}{u:Option Addr}{es:List FnE}(h:OwnFns w lo hi u es):SmMod (es.map FnE.d):=by
 refine⟨by rw[List.length_map];exact h.1,fun d hd=>?_⟩
 obtain⟨f,hf,rfl⟩:=List.mem_map.1 hd
 obtain⟨_,_,_,_,_,_,h3,h4⟩:=h.2.2.each f hf
 refine⟨h3.1,by show (f.bs.map BkE.d).length≤_;rw[List.length_map];exact h4.1,fun b hb=>?_⟩
 obtain⟨x,hx,rfl⟩:=List.mem_map.1 hb
 obtain⟨_,_,_,_,_,_,h5,h6⟩:=h4.2.2.each x hx
 refine⟨⟨by show (x.ps.map (·.1)).length≤_;rw[List.length_map];exact h5.1,fun p hp=>?_⟩,by show (x.is.map (·.1)).length≤_;rw[List.length_map];exact h6.1,fun i hi=>?_⟩
 ·obtain⟨e,he,rfl⟩:=List.mem_map.1 hp
  obtain⟨_,_,_,h7⟩:=h5.2.2.each e he
  exact h7.1
 ·obtain⟨e,he,rfl⟩:=List.mem_map.1 hi
  obtain⟨_,_,_,h7⟩:=h6.2.2.each e he
  exact h7.1
theorem infoLnL:(Tryz.prog.info? 43).map (fun i=>(i.zero,i.size,i.bytes))=some (some (.agg #[.string ⟨#[]⟩,.slice none 0 0]),2,40):=by kernel_rfl
theorem infoFnL:(Tryz.prog.info? 55).map (fun i=>(i.zero,i.size,i.bytes))=some (some (.agg #[.slice none 0 0,.int .i64 0,.slice none 0 0]),3,56):=by kernel_rfl
theorem lf_list:blankN.toList=[10]:=by rw[ByteArray.toList_eq];rfl
theorem sfx_cut{s b:ByteArray}(h:s.data.toList=b.data.toList++[10]):1≤s.size∧s.extract 0 (s.size-1)=b∧s.extract (s.size-1) s.size=blankN:=by
 have hz:s.size=b.size+1:=by rw[size_data,h,List.length_append,←size_data];rfl
 refine⟨by omega,ba_ext ?_,ba_ext ?_⟩
 ·rw[ext_data,h,hz,List.drop_zero,Nat.sub_zero,Nat.add_sub_cancel,size_data,List.take_left]
 ·rw[ext_data,h,hz,Nat.add_sub_cancel,size_data b,List.drop_left,Nat.add_sub_cancel_left]
  rfl
theorem sfx_back{s:ByteArray}(h1:1≤s.size)(h2:s.extract (s.size-1) s.size=blankN):s.data.toList=(s.extract 0 (s.size-1)).data.toList++[10]:=by
 have e:s.data.toList.drop (s.size-1)=[10]:=by
  have this:(s.extract (s.size-1) s.size).data.toList=[10]:=by rw[h2];rfl
  rw[ext_data,List.take_of_length_le (by rw[List.length_drop,←size_data];omega)] at this
  exact this
 rw[ext_data,List.drop_zero,Nat.sub_zero,←e,List.take_append_drop]
theorem hasSY(s:ByteArray)(w:World)(hs:s.size≤1048576)(h1:1≤s.size)(h2:s.extract (s.size-1) s.size=blankN) :
  Calls Tryz.prog 117 #[.string s,.string blankN] w fun e w'=>e=.returned (.bool true)∧w'=w:=by
 have E:((s.extract (s.size-1) s.size).toList==[10])=true:=by
  have e:=str_eqq h2
  rwa [lf_list] at e
 have hI:(1:Int)≤(s.size:Int):=by omega
 have hb:(blankN.size:Int)=1:=rfl
 have hx:((s.size:Int)-1).toNat=s.size-1:=by omega
 have h3:(0:Int)≤(s.size:Int)-1:=by omega
 have h4:(s.size:Int)-1≤(s.size:Int):=by omega
 have hsl:∀ v:World,(Instr.slice 9 (.string s) (some (.int .i64 ((s.size:Int)-1))) none none).run Tryz.prog v=.ok (.string (s.extract (s.size-1) s.size)) v:=fun v=>by
  rw[run_slice_string_from_if (h:=Tryz.underlying9),if_pos (by omega),hx]
 clear h2
 unfold blankN at *
 go_enter Tryz.func117,Tryz.ntmps117
 go_wp2_with fail
 go_ret
 exact⟨rfl,rfl⟩
theorem hasSN(s:ByteArray)(w:World)(hs:s.size≤1048576)(h:¬(1≤s.size∧s.extract (s.size-1) s.size=blankN)) :
  Calls Tryz.prog 117 #[.string s,.string blankN] w fun e w'=>e=.returned (.bool false)∧w'=w:=by
 by_cases h1:1≤s.size
 ·have E:((s.extract (s.size-1) s.size).toList==[10])=false:=by
   have e:=str_neq (fun e=>h ⟨h1,e⟩)
   rwa [lf_list] at e
  have hI:(1:Int)≤(s.size:Int):=by omega
  have hx:((s.size:Int)-1).toNat=s.size-1:=by omega
  have h3:(0:Int)≤(s.size:Int)-1:=by omega
  have h4:(s.size:Int)-1≤(s.size:Int):=by omega
  have hsl:∀ v:World,(Instr.slice 9 (.string s) (some (.int .i64 ((s.size:Int)-1))) none none).run Tryz.prog v=.ok (.string (s.extract (s.size-1) s.size)) v:=fun v=>by
   rw[run_slice_string_from_if (h:=Tryz.underlying9),if_pos (by omega),hx]
  clear h
  unfold blankN at *
  go_enter Tryz.func117,Tryz.ntmps117
  go_wp2_with fail
  go_ret
  exact⟨rfl,rfl⟩
 ·have hI:¬(1:Int)≤(s.size:Int):=by omega
  clear h
  unfold blankN at *
  go_enter Tryz.func117,Tryz.ntmps117
  go_wp2_with fail
  go_ret
  exact⟨rfl,rfl⟩
theorem cutSfxY(s:ByteArray)(w:World)(hs:s.size≤1048576)(h1:1≤s.size)(h2:s.extract (s.size-1) s.size=blankN) :
  Calls Tryz.prog 45 #[.string s,.string blankN] w fun e w'=>e=.returned (.tuple #[.string (s.extract 0 (s.size-1)),.bool true])∧w'=w:=by
 have P:=hasSY s w hs h1 h2
 have hx:((s.size:Int)-1).toNat=s.size-1:=by omega
 have h3:(0:Int)≤(s.size:Int)-1:=by omega
 have h4:(s.size:Int)-1≤(s.size:Int):=by omega
 have hsl:∀ v:World,(Instr.slice 9 (.string s) none (some (.int .i64 ((s.size:Int)-1))) none).run Tryz.prog v=.ok (.string (s.extract 0 (s.size-1))) v:=fun v=>by
  rw[run_slice_string_to_if (h:=Tryz.underlying9),if_pos (by omega),hx]
 clear h2
 unfold blankN at *
 have Q:Calls Tryz.prog 78 #[.string s,.string ⟨#[10]⟩] w fun e w'=>e=.returned (.tuple #[.string (s.extract 0 (s.size-1)),.bool true])∧w'=w:=by
  go_enter Tryz.func78,Tryz.ntmps78
  go_wp2_with fail
  refine P.mono ?_
  rintro e w1 ⟨rfl,h9⟩
  have h8:=h9.symm
  clear h9
  subst h8
  go_wp2_with fail
  go_ret2
  exact⟨rfl,rfl⟩
 clear hsl
 go_enter Tryz.func45,Tryz.ntmps45
 go_wp2_with fail
 refine Q.mono ?_
 rintro e w1 ⟨rfl,h9⟩
 have h8:=h9.symm
 clear h9
 subst h8
 go_wp2_with fail
 go_ret2
 exact⟨rfl,rfl⟩
theorem cutSfxN(s:ByteArray)(w:World)(hs:s.size≤1048576)(h:¬(1≤s.size∧s.extract (s.size-1) s.size=blankN)) :
  Calls Tryz.prog 45 #[.string s,.string blankN] w fun e w'=>e=.returned (.tuple #[.string s,.bool false])∧w'=w:=by
 have P:=hasSN s w hs h
 clear h
 unfold blankN at *
 have Q:Calls Tryz.prog 78 #[.string s,.string ⟨#[10]⟩] w fun e w'=>e=.returned (.tuple #[.string s,.bool false])∧w'=w:=by
  go_enter Tryz.func78,Tryz.ntmps78
  go_wp2_with fail
  refine P.mono ?_
  rintro e w1 ⟨rfl,h9⟩
  have h8:=h9.symm
  clear h9
  subst h8
  go_wp2_with fail
  go_ret2
  exact⟨rfl,rfl⟩
 go_enter Tryz.func45,Tryz.ntmps45
 go_wp2_with fail
 refine Q.mono ?_
 rintro e w1 ⟨rfl,h9⟩
 have h8:=h9.symm
 clear h9
 subst h8
 go_wp2_with fail
 go_ret2
 exact⟨rfl,rfl⟩
abbrev LnE:=Ln × Value
def lnC(e:LnE):List Value:=[.string (bs e.1.1),e.2]
def LnO(w:World)(base:Nat)(e:LnE):Prop:=Row w base e.2 e.1.2∧e.1.2.length≤20000∧Pos e.1.2
def LnsW(w:World)(base:Nat)(v:Value)(es:List LnE):Prop:=RowS 43 2 lnC w base v es∧∀ e∈es,LnO w base e
theorem RowS.blk{α:Type}{T:TypeId}{s:Nat}{C:α→List Value}{w w':World}{base:Nat}{v:Value}{es:List α}(h:RowS T s C w base v es)(k:∀ g,v.ownBlock=some g→w'.heap[g]?=w.heap[g]?):RowS T s C w' base v es:=by
 refine⟨h.1,?_⟩
 rcases h.2 with h2|⟨g,cap,cur,hv,hb,hg,r⟩
 ·exact .inl h2
 ·exact .inr ⟨g,cap,cur,hv,hb,(k g (by rw[hv];rfl)).trans hg,r⟩
theorem Row.stillE{w w':World}{base:Nat}{v:Value}{l:List Int}{k:Nat}(h:Row w base v l)(st:Still k w w')(hk:0<k):Row w' base v l:=by
 refine⟨h.1,?_⟩
 rcases h.2 with h2|⟨g,cap,cur,hv,hb,hg,r⟩
 ·exact .inl h2
 ·exact .inr ⟨g,cap,cur,hv,hb,st g cur _ hg (by rw[show lvT 2=0 by decide];exact hk),r⟩
theorem LnsW.keep{w w':World}{base:Nat}{v:Value}{es:List LnE}(h:LnsW w base v es)(k:Below w.heap.size w w'):LnsW w' base v es :=
 ⟨h.1.still (Still.below (k:=10) k) (by decide),fun e he=>⟨(h.2 e he).1.keep k,(h.2 e he).2⟩⟩
theorem LnsW.wait{w:World}{base R:Nat}{v:Value}{es:List LnE}(h:LnsW w base v es)(hR:R<base)(hA:At w R #[v] 83):LwIn w.heap.size R w (es.map (·.1)):=by
 obtain⟨u,c,rfl⟩:=h.1.slice
 rcases h.1.2 with⟨hv,hn⟩|⟨g,cap,cur,hv,hb,hg,hnc,hcm,hcs,htk⟩
 ·have he:es=[]:=List.length_eq_zero_iff.1 hn
  subst he
  cases hv
  exact .inl ⟨rfl,hA⟩
 ·cases hv
  have hgz:=(Array.getElem?_eq_some_iff.1 hg).1
  refine .inr ⟨g,0,c,by rw[List.length_map];exact hA,by rw[List.length_map];exact hnc,by unfold maxLen at hcm;omega,by omega,⟨hgz,Nat.le_refl _⟩,fun i hi=>?_⟩
  rw[List.length_map] at hi
  have he:es[i]?=some es[i]:=List.getElem?_eq_getElem hi
  have key:∀ j,j<2→cur[i*2+j]?=(lnC es[i])[j]?:=fun j hj=>by
   rw[←flat_at (C:=lnC) (fun _=>rfl) es i j es[i] he hj,←htk,List.getElem?_take,if_pos (by
    have:=Nat.mul_le_mul_right 2 (show i+1≤es.length from hi)
    rw[Nat.succ_mul] at this
    omega)]
   simp
  have hx:(es.map (·.1)).getD i ln0=es[i].1:=by simp[List.getD,hi]
  rw[hx]
  obtain⟨o1,o2,o3⟩:=h.2 es[i] (List.getElem_mem hi)
  refine⟨by rw[zcH hg,Nat.zero_add];exact key 0 (by decide),es[i].2,by rw[zcH hg,Nat.zero_add];exact key 1 (by decide),⟨o1.low (Nat.zero_le _),o2,o3,fun q hq=>?_⟩⟩
  have:=o1.ge hq
  exact⟨this.2,by omega⟩
theorem nums_pos{ws:List ByteArray}{l:List Int}(h:NumsIs ws l):Pos l:=fun x hx=>by
 obtain⟨j,hj,rfl⟩:=List.getElem_of_mem hx
 obtain⟨k,e,_⟩:=h.2 j hj
 simp[List.getD,hj] at e
 omega
theorem bs_back(b:ByteArray):bs b.data.toList=b:=by unfold bs;simp
theorem pieces_few(s:ByteArray):(pieces s).length≤s.size+1:=by
 rw[pieces_len]
 have:=count_size s
 omega
theorem piecesN_few(s:ByteArray):(piecesN s).length≤s.size+1:=by
 rw[pieces_lenN]
 have:=count_sizeN s
 omega
end Go.Proofs.YtkpmiikafconmaaGreatDoor
