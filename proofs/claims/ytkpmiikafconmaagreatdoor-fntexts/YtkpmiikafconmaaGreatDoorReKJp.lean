import Derived.Test.YtkpmiikafconmaaGreatDoorReJJp
import Derived.Test.YtkpmiikafconmaaGreatDoorGnXJp
namespace Go.Proofs.YtkpmiikafconmaaGreatDoor
open Go.RowKit
set_option maxHeartbeats 8000000
set_option maxRecDepth 100000
set_option linter.unusedVariables false
set_option linter.unusedSimpArgs false
structure Tabs(w:World)(a:Addr):Prop where
 v:Gv w 1 (errV a)
 e:ErrsAt w
 p:PowAt w
 o:OpsAt w
 t:TmsAt w
theorem Tabs.keep{w w':World}{a:Addr}(h:Tabs w a)(k:Below w.heap.size w w'):Tabs w' a:=⟨h.v.keep k,h.e.keep k,h.p.keep k,h.o.keep k,h.t.keep k⟩
theorem catchYM(p r:Nat)(u:TypeId)(pv:Value)(older:List PanicEntry)(w:World)(b:Bool)(hpr:p<r)(hp:At w p #[.slice none 0 0] 26)(hr:At w r #[.bool b] 4) :
  CallsD Tryz.prog 43 #[.pointer (some ⟨p,0,none⟩),.pointer (some ⟨r,0,none⟩)] (.panicking ({ v:=.iface u pv,recovered:=false } :: older)) w fun e u' w' =>
   e=.returned (.tuple #[])∧u'=.panicking ({ v:=.iface u pv,recovered:=true } :: older)∧At w' p #[.slice none 0 0] 26∧At w' r #[.bool false] 4∧Below p w w':=by
 have hlp:p<w.heap.size:=hp.lt
 have hlr:r<w.heap.size:=hr.lt
 have B1:Below w.heap.size w (w.alloc (.cells #[.slice none 0 0] 26)):=(Below.refl _ _).alloc (Nat.le_refl _) _
 have HP:Hid (At (w.alloc (.cells #[.slice none 0 0] 26)) p #[.slice none 0 0] 26):=hp.below B1
 have HR:Hid (At (w.alloc (.cells #[.slice none 0 0] 26)) r #[.bool b] 4):=hr.below B1
 have HN:Hid (At (w.alloc (.cells #[.slice none 0 0] 26)) w.heap.size #[.slice none 0 0] 26):=At.new _ _ _
 have HB:Hid (Below p w (w.alloc (.cells #[.slice none 0 0] 26))):=B1.mono (by omega)
 clear B1 hp hr
 refine callsD_of_wpS Tryz.func43 rfl fun c₀ cs hu=>?_
 apply wpS_seq
 apply wpS_region
 simp[wpOpsS,go_sem,recoverD,hu,Tryz.ntmps43,Exit.thenS]
 refine wpS_cond (t:=true) (by simp[Act.eval,Array.replicate]) ?_
 simp only[if_true]
 refine wpS_of_wp ?_
 simp only[Array.replicate,List.replicate,List.setIfInBounds_toArray,List.set_cons_zero,List.set_cons_succ,List.append_toArray,List.cons_append,List.nil_append]
 obtain⟨W,hW⟩:∃ W,(w.alloc (.cells #[.slice none 0 0] 26))=W:=⟨_,rfl⟩
 rw[hW] at HP HR HN HB
 have z0:W.cell? ⟨p,0,none⟩=some (.slice none 0 0):=HP.out.cell 0
 have y0:W.cell? ⟨w.heap.size,0,none⟩=some (.slice none 0 0):=HN.out.cell 0
 have zf:∀ o,W.frozen? ⟨p,o,none⟩=false:=fun o=>zfH HP.out
 have x0:W.cell? ⟨r,0,none⟩=some (.bool b):=HR.out.cell 0
 have xf:W.frozen? ⟨r,0,none⟩=false:=zfH HR.out
 have npr:p≠r:=by omega
 have nrp:r≠p:=by omega
 go_wp2_with fail
 have h0:At (W.setCell ⟨p,0,none⟩ (.slice none 0 0)) p #[.slice none 0 0] 26:=zhS (o:=0) (v:=.slice none 0 0) HP.out
 have h1:=h0.setOther (gi:=r) (o:=0) (v:=.bool false) npr
 clear h0
 have h2:=zhS (o:=0) (v:=.bool false) (HR.out.setOther (gi:=p) (o:=0) (v:=.slice none 0 0) nrp)
 have h3:Below p w ((W.setCell ⟨p,0,none⟩ (.slice none 0 0)).setCell ⟨r,0,none⟩ (.bool false)):=by repeat (first|refine Below.setCell ?_ (by dsimp only;omega) _|exact HB.out)
 clear HP HR HN HB z0 y0 zf x0 xf hW
 generalize ((W.setCell ⟨p,0,none⟩ (.slice none 0 0)).setCell ⟨r,0,none⟩ (.bool false))=W9 at h1 h2 h3 ⊢
 simp[bodyPostS,results,Tryz.results43]
 exact⟨h1,h2,h3⟩
theorem OwnFns.set{w:World}{lo hi g o:Nat}{u:Option Addr}{es:List FnE}{cs:Array Value}{T:TypeId}{v:Value}(h:OwnFns w lo hi u es)(hg:At w g cs T)(hT:9≤lvT T):OwnFns (w.setCell ⟨g,o,none⟩ v) lo hi u es :=
 OwnFns.still h (Still.set (k:=9) hg hT) (by decide)
theorem readMt1(a:Addr)(g:Nat)(s:ByteArray)(w:World)(hg:Gv w g (.string s))(hv:Tabs w a)(hsz:s.size≤1048576) :
  Calls Tryz.prog 23 #[.pointer (some ⟨g,0,none⟩)] w fun e w'=>MtTold s a w.heap.size e w'∧Below w.heap.size w w':=by
 have B1:Below w.heap.size w (w.alloc (.cells #[.slice none 0 0] 26)):=(Below.refl _ _).alloc (Nat.le_refl _) _
 have A1:=At.new w #[.slice none 0 0] 26
 have e1:(w.alloc (.cells #[.slice none 0 0] 26)).heap.size=w.heap.size+1:=by simp
 have P:=modOfTextI a s (w.alloc (.cells #[.slice none 0 0] 26)) (hv.keep B1).v (hv.keep B1).e (hv.keep B1).p (hv.keep B1).o (hv.keep B1).t hsz
 rw[e1] at P
 have c:=(hg.keep B1).cell
 have HB1:Hid (Below w.heap.size w _):=B1
 have HA1:Hid (At _ w.heap.size #[.slice none 0 0] 26):=A1
 have he1:Hid ((w.alloc (.cells #[.slice none 0 0] 26)).heap.size=w.heap.size+1):=e1
 clear B1 A1 hv hg e1
 go_enter Tryz.func23,Tryz.ntmps23
 go_wp2_with fail
 generalize (w.alloc (.cells #[.slice none 0 0] 26))=W1 at HB1 HA1 P c he1 ⊢
 refine P.mono ?_
 rintro e w2 ⟨hc,b2⟩
 rw[←he1.out] at b2
 have HB2:Hid (Below w.heap.size w w2):=HB1.out.trans (b2.mono HB1.out.size)
 have HA2:Hid (At w2 w.heap.size #[.slice none 0 0] 26):=HA1.out.below b2
 clear P c b2 HB1 HA1
 rcases hc with⟨fs,u,c,hi,rfl,hR⟩|⟨hno,rfl⟩
 ·have HR:Hid (OwnFns w2 (w.heap.size+1) w2.heap.size u fs):=hR
  have HRd:Hid (OkT s (fs.map FnE.d)):=hi
  clear hi hR he1
  have z0:w2.cell? ⟨w.heap.size,0,none⟩=some (.slice none 0 0):=HA2.out.cell 0
  have zf:w2.frozen? ⟨w.heap.size,0,none⟩=false:=zfH HA2.out
  go_wp2_with fail
  have hrr:=zhS (o:=0) (v:=(.slice u fs.length c)) HA2.out
  have OW:OwnFns (w2.setCell ⟨w.heap.size,0,none⟩ (.slice u fs.length c)) w.heap.size (w2.setCell ⟨w.heap.size,0,none⟩ (.slice u fs.length c)).heap.size u fs:=(HR.out.set HA2.out (by decide)).wide (by omega) (by simp only[World.size_setCell];exact Nat.le_refl _)
  exact bodyPost_ret (v:=.agg #[(.slice u fs.length c)]) ((results_cell_row Tryz.results23 _ _ w.heap.size 26 _ (0,0) _ rfl hrr Tryz.underlying26 rfl (by kernel_rfl)).trans (by rfl)) rfl ⟨.inl ⟨fs,u,c,HRd.out,rfl,OW⟩,HB2.out.setCell (Nat.le_refl _) _⟩
 ·have HNo:Hid (¬∃ l,OkT s l):=hno
  clear hno
  go_wp2_with fail
  exact⟨rfl,.inr ⟨HNo.out,rfl⟩,HB2.out⟩
theorem catchNM(p r:Nat)(w:World) :
  CallsD Tryz.prog 43 #[.pointer (some ⟨p,0,none⟩),.pointer (some ⟨r,0,none⟩)] .returning w fun e u' w'=>e=.returned (.tuple #[])∧u'=.returning∧w'=w:=by
 refine callsD_of_wpS Tryz.func43 rfl fun c₀ cs hu=>?_
 apply wpS_seq
 apply wpS_region
 simp[wpOpsS,go_sem,recoverD,hu,Tryz.ntmps43,Exit.thenS]
 refine wpS_cond (t:=false) (by simp[Act.eval,Array.replicate]) ?_
 simp only[Bool.false_eq_true,if_false]
 refine wpS_of_wp (wp_skip ?_)
 cases c₀
 simp_all [bodyPostS,results,Tryz.results43]
def MtGot(s:ByteArray)(base:Nat)(e:Ending)(w':World):Prop :=
 (∃ (fs:List FnE) (u:Option Addr) (c:Nat),OkT s (fs.map FnE.d)∧e=.returned (.tuple #[.agg #[.slice u fs.length c],.bool true])∧OwnFns w' base w'.heap.size u fs)∨((¬∃ l,OkT s l)∧e=.returned (.tuple #[.agg #[.slice none 0 0],.bool false]))
theorem readingMt(a:Addr)(g:Nat)(s:ByteArray)(w:World)(hg:Gv w g (.string s))(hv:Tabs w a)(hsz:s.size≤1048576) :
  Calls Tryz.prog 22 #[.func (.func 23) #[] #[.pointer (some ⟨g,0,none⟩)]] w fun e w'=>MtGot s w.heap.size e w'∧Below w.heap.size w w':=by
 have hmf:∀ (fn:Fn) (first cap:Array Value) (w:World),(Instr.makeFunc fn first cap).run Tryz.prog w=.ok (.func fn first cap) w:=fun _ _ _ _=>rfl
 have B1:Below w.heap.size w ((w.alloc (.cells #[.slice none 0 0] 26)).alloc (.cells #[.bool false] 4)):=((Below.refl _ _).alloc (Nat.le_refl _) _).alloc (by simp) _
 have e1:((w.alloc (.cells #[.slice none 0 0] 26)).alloc (.cells #[.bool false] 4)).heap.size=w.heap.size+2:=by simp
 have A0:At ((w.alloc (.cells #[.slice none 0 0] 26)).alloc (.cells #[.bool false] 4)) w.heap.size #[.slice none 0 0] 26:=(At.new _ _ _).below ((Below.refl _ _).alloc (Nat.le_refl _) _)
 have A1:At ((w.alloc (.cells #[.slice none 0 0] 26)).alloc (.cells #[.bool false] 4)) (w.heap.size+1) #[.bool false] 4:=by
  have h:=At.new (w.alloc (.cells #[.slice none 0 0] 26)) #[.bool false] 4
  have e:(w.alloc (.cells #[.slice none 0 0] 26)).heap.size=w.heap.size+1:=by simp
  rw[e] at h
  exact h
 have P:=readMt1 a g s _ (hg.keep B1) (hv.keep B1) hsz
 rw[e1] at P
 have HB1:Hid (Below w.heap.size w _):=B1
 have HA0:Hid (At _ w.heap.size #[.slice none 0 0] 26):=A0
 have HA1:Hid (At _ (w.heap.size+1) #[.bool false] 4):=A1
 have he1:Hid (_=w.heap.size+2):=e1
 clear B1 A0 A1 e1 hg hv
 go_enter_defers Tryz.func22,Tryz.ntmps22
 go_wp2_with fail
 generalize ((w.alloc (.cells #[.slice none 0 0] 26)).alloc (.cells #[.bool false] 4))=W1 at HB1 HA0 HA1 he1 P ⊢
 refine P.mono ?_
 rintro e w2 ⟨hc,b2⟩
 rw[←he1.out] at b2
 have HB2:Hid (Below w.heap.size w w2):=HB1.out.trans (b2.mono HB1.out.size)
 have HA2:Hid (At w2 w.heap.size #[.slice none 0 0] 26):=HA0.out.below b2
 have HA3:Hid (At w2 (w.heap.size+1) #[.bool false] 4):=HA1.out.below b2
 clear P b2 HB1 HA0 HA1
 rcases hc with⟨fs,u,c,hi,rfl,hR⟩|⟨hno,rfl⟩
 ·have HR:Hid (OwnFns w2 (w.heap.size+2) w2.heap.size u fs):=hR
  have HRd:Hid (OkT s (fs.map FnE.d)):=hi
  clear hi hR he1
  have z0:w2.cell? ⟨w.heap.size,0,none⟩=some (.slice none 0 0):=HA2.out.cell 0
  have zf:w2.frozen? ⟨w.heap.size,0,none⟩=false:=zfH HA2.out
  have x0:w2.cell? ⟨w.heap.size+1,0,none⟩=some (.bool false):=HA3.out.cell 0
  have xf:w2.frozen? ⟨w.heap.size+1,0,none⟩=false:=zfH HA3.out
  go_wp2_with fail
  have h0:At (w2.setCell ⟨w.heap.size,0,none⟩ (.slice u fs.length c)) w.heap.size #[(.slice u fs.length c)] 26:=zhS (o:=0) (v:=(.slice u fs.length c)) HA2.out
  have h1:=h0.setOther (gi:=w.heap.size+1) (o:=0) (v:=.bool true) (by omega)
  have h5:At (w2.setCell ⟨w.heap.size,0,none⟩ (.slice u fs.length c)) (w.heap.size+1) #[.bool false] 4:=HA3.out.setOther (gi:=w.heap.size) (o:=0) (v:=(.slice u fs.length c)) (by omega)
  have h2:=zhS (o:=0) (v:=.bool true) h5
  have h3:Below w.heap.size w ((w2.setCell ⟨w.heap.size,0,none⟩ (.slice u fs.length c)).setCell ⟨w.heap.size+1,0,none⟩ (.bool true)):=(HB2.out.setCell (Nat.le_refl _) _).setCell (by dsimp only;omega) _
  have h4:OwnFns ((w2.setCell ⟨w.heap.size,0,none⟩ (.slice u fs.length c)).setCell ⟨w.heap.size+1,0,none⟩ (.bool true)) w.heap.size ((w2.setCell ⟨w.heap.size,0,none⟩ (.slice u fs.length c)).setCell ⟨w.heap.size+1,0,none⟩ (.bool true)).heap.size u fs :=
   ((HR.out.set HA2.out (by decide)).set h5 (by decide)).wide (by omega) (by simp only[World.size_setCell];exact Nat.le_refl _)
  clear HA2 HA3 HR z0 zf x0 xf h0 HB2 h5
  generalize ((w2.setCell ⟨w.heap.size,0,none⟩ (.slice u fs.length c)).setCell ⟨w.heap.size+1,0,none⟩ (.bool true))=W9 at h1 h2 h3 h4 ⊢
  refine leaves_cons (f:=43) (args:=#[.pointer (some ⟨w.heap.size,0,none⟩),.pointer (some ⟨w.heap.size+1,0,none⟩)]) (by simp) (by simp[go_sem]) ?_
  refine (catchNM w.heap.size (w.heap.size+1) _).mono ?_
  rintro e u' w'' ⟨rfl,rfl,h9⟩
  have h8:=h9.symm
  clear h9
  subst h8
  simp[Leaves,settle]
  refine⟨.tuple #[.agg #[(.slice u fs.length c)],.bool true],?_,.inl ⟨fs,u,c,HRd.out,rfl,h4⟩,h3⟩
  exact results_two Tryz.results22 _ _ w.heap.size (w.heap.size+1) _ _ rfl rfl (run_loadVar_row _ _ 26 _ _ (0,0) _ h1 Tryz.underlying26 rfl (by kernel_rfl)) (load_bool h2)
 ·have HNo:Hid (¬∃ l,OkT s l):=hno
  clear hno he1
  go_wp2_with fail
  refine leaves_cons (f:=43) (args:=#[.pointer (some ⟨w.heap.size,0,none⟩),.pointer (some ⟨w.heap.size+1,0,none⟩)]) (by simp) (by simp[go_sem]) ?_
  unfold errV
  refine (catchYM w.heap.size (w.heap.size+1) _ _ [] w2 false (by omega) HA2.out HA3.out).mono ?_
  rintro e u' w9 ⟨rfl,rfl,h1,h2,b9⟩
  have h3:Below w.heap.size w w9:=HB2.out.trans b9
  clear HA2 HA3 HB2 b9
  simp[Leaves,settle]
  refine⟨.tuple #[.agg #[.slice none 0 0],.bool false],?_,.inr ⟨HNo.out,rfl⟩,h3⟩
  exact results_two Tryz.results22 _ _ w.heap.size (w.heap.size+1) _ _ rfl rfl (run_loadVar_row _ _ 26 _ _ (0,0) _ h1 Tryz.underlying26 rfl (by kernel_rfl)) (load_bool h2)
theorem readMI(a:Addr)(s:ByteArray)(w:World)(hv:Tabs w a)(hsz:s.size≤1048576) :
  Calls Tryz.prog 8 #[.string s] w fun e w'=>MtGot s w.heap.size e w'∧Below w.heap.size w w':=by
 have hmf:∀ (fn:Fn) (first cap:Array Value) (w:World),(Instr.makeFunc fn first cap).run Tryz.prog w=.ok (.func fn first cap) w:=fun _ _ _ _=>rfl
 have B1:Below w.heap.size w ((w.alloc (.cells #[.string s] 9)).alloc (.cells #[.slice none 0 0] 26)):=((Below.refl _ _).alloc (Nat.le_refl _) _).alloc (by simp) _
 have e1:((w.alloc (.cells #[.string s] 9)).alloc (.cells #[.slice none 0 0] 26)).heap.size=w.heap.size+2:=by simp
 have A0:At ((w.alloc (.cells #[.string s] 9)).alloc (.cells #[.slice none 0 0] 26)) w.heap.size #[.string s] 9:=(At.new _ _ _).below ((Below.refl _ _).alloc (Nat.le_refl _) _)
 have A1:At ((w.alloc (.cells #[.string s] 9)).alloc (.cells #[.slice none 0 0] 26)) (w.heap.size+1) #[.slice none 0 0] 26:=by
  have h:=At.new (w.alloc (.cells #[.string s] 9)) #[.slice none 0 0] 26
  have e:(w.alloc (.cells #[.string s] 9)).heap.size=w.heap.size+1:=by simp
  rw[e] at h
  exact h
 have P:=readingMt a w.heap.size s _ ⟨A0.cell 0,A0.lt⟩ (hv.keep B1) hsz
 rw[e1] at P
 have HB1:Hid (Below w.heap.size w _):=B1
 have HA1:Hid (At _ (w.heap.size+1) #[.slice none 0 0] 26):=A1
 have he1:Hid (_=w.heap.size+2):=e1
 clear B1 A0 A1 e1 hv
 go_enter Tryz.func8,Tryz.ntmps8
 go_wp2_with fail
 generalize ((w.alloc (.cells #[.string s] 9)).alloc (.cells #[.slice none 0 0] 26))=W1 at HB1 HA1 he1 P ⊢
 refine P.mono ?_
 rintro e w2 ⟨hc,b2⟩
 rw[←he1.out] at b2
 have HB2:Hid (Below w.heap.size w w2):=HB1.out.trans (b2.mono HB1.out.size)
 have HA2:Hid (At w2 (w.heap.size+1) #[.slice none 0 0] 26):=HA1.out.below b2
 have z0:w2.cell? ⟨w.heap.size+1,0,none⟩=some (.slice none 0 0):=HA2.out.cell 0
 have zf:∀ o,w2.frozen? ⟨w.heap.size+1,o,none⟩=false:=fun o=>zfH HA2.out
 clear P b2 HB1 HA1 he1 hmf
 rcases hc with⟨fs,u,c,hi,rfl,hR⟩|⟨hno,rfl⟩
 ·have HR:Hid (OwnFns w2 (w.heap.size+2) w2.heap.size u fs):=hR
  have HRd:Hid (OkT s (fs.map FnE.d)):=hi
  clear hi hR
  go_wp2_with fail
  have hrr:=zhS (o:=0) (v:=(.slice u fs.length c)) HA2.out
  have OW:OwnFns (w2.setCell ⟨w.heap.size+1,0,none⟩ (.slice u fs.length c)) w.heap.size (w2.setCell ⟨w.heap.size+1,0,none⟩ (.slice u fs.length c)).heap.size u fs:=(HR.out.set HA2.out (by decide)).wide (by omega) (by simp only[World.size_setCell];exact Nat.le_refl _)
  exact bodyPost_ret (v:=.tuple #[.agg #[(.slice u fs.length c)],.bool true]) ((zrT Tryz.results8 _ _ (w.heap.size+1) _ rfl (run_loadVar_row _ _ 26 _ _ (0,0) _ hrr Tryz.underlying26 rfl (by kernel_rfl))).trans (by rfl)) rfl ⟨.inl ⟨fs,u,c,HRd.out,rfl,OW⟩,HB2.out.setCell (by dsimp only;omega) _⟩
 ·have HNo:Hid (¬∃ l,OkT s l):=hno
  clear hno
  go_wp2_with fail
  have hrr:=zhS (o:=0) (v:=.slice none 0 0) HA2.out
  exact bodyPost_ret (v:=.tuple #[.agg #[.slice none 0 0],.bool false]) ((zrT Tryz.results8 _ _ (w.heap.size+1) _ rfl (run_loadVar_row _ _ 26 _ _ (0,0) _ hrr Tryz.underlying26 rfl (by kernel_rfl))).trans (by rfl)) rfl ⟨.inr ⟨HNo.out,rfl⟩,HB2.out.setCell (by dsimp only;omega) _⟩
end Go.Proofs.YtkpmiikafconmaaGreatDoor
