import Derived.Test.YtafmbokfkbccaaaGreatDoorJW24
import Derived.Defers
import Derived.Recover
import Derived.Test.YtafmbokfkbccaaaGreatDoorJW22
import Derived.Test.YtafmbokfkbccaaaGreatDoorJW3
import Derived.Test.YtafmbokfkbccaaaGreatDoorJW15
import Derived.Test.YtafmbokfkbccaaaGreatDoorJW17
namespace Go.Proofs.YtafmbokfkbccaaaGreatDoor
open Go.RowKit Go.Sort
theorem zi (v:Value) (w:World):(Instr.typeAssert (.iface 220 v) 20 220 false).run Tryz.prog w=.ok v w:=by
 kernel_rfl
theorem AZ (x y:Int) (w:World):(Instr.field 220 (.agg #[.int .i64 x,.int .i64 y]) 0).run Tryz.prog w=.ok (.agg #[.int .i64 x,.int .i64 y]) w:=by
 kernel_rfl
set_option maxRecDepth 100000 in
set_option maxHeartbeats 1000000 in
theorem FZ (b:Nat) (x y:Int) (u0 u1:Value) (w:World) (c0:w.cell? ⟨b,0,none⟩=some u0) (c1:w.cell? ⟨b,1,none⟩=some u1) (f0:w.frozen? ⟨b,0,none⟩=false) (f1:w.frozen? ⟨b,1,none⟩=false):
  CallsD Tryz.prog 170 #[.pointer (some ⟨b,0,none⟩)] (.panicking [{v:=.iface 220 (.agg #[.int .i64 x,.int .i64 y]),recovered:=false}]) w fun e u' w'=>
   e=.returned (.tuple #[])∧u'=.panicking [{v:=.iface 220 (.agg #[.int .i64 x,.int .i64 y]),recovered:=true}]∧w'=(w.setCell ⟨b,0,none⟩ (.int .i64 x)).setCell ⟨b,1,none⟩ (.int .i64 y):=by
 have hta:∀(v:Value) (w:World),(Instr.typeAssert (.iface 220 v) 20 220 false).run Tryz.prog w=.ok v w:=zi;have hfl:=AZ;refine callsD_of_wpS Tryz.func170 rfl fun c₀ cs hu=> ?_
 apply wpS_seq
 apply wpS_region
 simp[wpOpsS,go_sem,recoverD,hu,Tryz.ntmps170,Exit.thenS];refine wpS_of_wp ?_;go_wp2;simp[bodyPostS,results,Tryz.results170]
set_option maxRecDepth 100000 in
set_option maxHeartbeats 1000000 in
theorem Iy (b:Nat) (w:World):
  CallsD Tryz.prog 170 #[.pointer (some ⟨b,0,none⟩)] .returning w fun e u' w'=>e=.returned (.tuple #[])∧u'=.returning∧w'=w:=by
 refine callsD_of_wpS Tryz.func170 rfl fun c₀ cs hu=> ?_
 apply wpS_seq
 apply wpS_region
 simp[wpOpsS,go_sem,recoverD,hu,Tryz.ntmps170,Exit.thenS];refine wpS_of_wp ?_;go_wp2;cases c₀
 simp_all [bodyPostS,results,Tryz.results170]
def dY (s:Bs):List aA×Int×Nat:=
 if 3000<s.length then([],4,0) else match fJ 16 [] s with
  | .ok out _=>(out,0,0)
  | .bad n r=>([],n,s.length-r.length)
set_option maxRecDepth 100000 in
set_option maxHeartbeats 2000000 in
theorem Iz (s:ByteArray) (w:World) (m:Int) (hm:w.cell? ⟨1,0,none⟩=some (.int .i64 m)):
  Calls Tryz.prog 95 #[.string s,.func (.func 96) #[] #[]] w fun e w'=>∃v,e=.returned (.tuple #[v,.agg #[.int .i64 (dY (raw s)).2.1,.int .i64 (dY (raw s)).2.2]])∧fB.sl (From w.heap.size) w' v (dY (raw s)).1∧Below w.heap.size w w':=by
 have hmf:∀(fn:Fn) (first cap:Array Value) (w:World),(Instr.makeFunc fn first cap).run Tryz.prog w=.ok (.func fn first cap) w:=fun _ _ _ _=>rfl
 by_cases hs:3000<s.size
 ·have HX:Hid (dY (raw s)=([],4,0)):=by show _=_;unfold dY;rw[if_pos (by rw[bq];exact hs)]
  have hs':(3000:Int)<s.size:=by omega
  go_enter_defers Tryz.func95,Tryz.ntmps95
  go_wp2;simp only[bodyPostD];refine⟨.tuple #[.slice none 0 0,.agg #[.int .i64 4,.int .i64 0]],by simp[results,Tryz.results95,go_sem],?_⟩;exact⟨_,by rw[HX.out];rfl,by rw[HX.out];exact fB.iq _ _ _ _,((Later.refl w).alloc _).below⟩
 ·have h0:1<w.heap.size:=World.block_lt_of_cell? w _ hm;have hRd:Rd ((w.alloc (.cells #[.int .i64 0,.int .i64 0] 75)).alloc (.cells #[.string s,.int .i64 0] 224)) (w.heap.size+1) s (raw s):=by
   have hr:((w.alloc (.cells #[.int .i64 0,.int .i64 0] 75)).alloc (.cells #[.string s,.int .i64 0] 224)).heap[w.heap.size+1]?=some (.cells #[.string s,.int .i64 0] 224 (0,0)):=by
    have:=heap_alloc_new (w.alloc (.cells #[.int .i64 0,.int .i64 0] 75)) (.cells #[.string s,.int .i64 0] 224);simpa using this
   refine⟨by omega,List.suffix_refl _,by simp,by omega,by rw[cell_of_row _ _ _ _ _ _ hr];rfl,?_,dD hr,m,?_⟩
   ·rw[cell_of_row _ _ _ _ _ _ hr,pos,bq,Nat.sub_self];rfl
   ·rw[(((Later.refl w).alloc (.cells #[.int .i64 0,.int .i64 0] 75)).alloc (.cells #[.string s,.int .i64 0] 224)).cell (p:=⟨1,0,none⟩) h0];exact hm
  have HC:=hide (MI _ s _ _ hRd);have hs':¬(3000:Int)<s.size:=by omega
  go_enter_defers Tryz.func95,Tryz.ntmps95
  go_wp2_with fail
  refine HC.out.mono ?_;intro e w1 hE;have hBB:Below w.heap.size w ((w.alloc (.cells #[.int .i64 0,.int .i64 0] 75)).alloc (.cells #[.string s,.int .i64 0] 224)):=(((Later.refl w).alloc _).alloc _).below;have hfr:((w.alloc (.cells #[.int .i64 0,.int .i64 0] 75)).alloc (.cells #[.string s,.int .i64 0] 224)).heap[w.heap.size]?=some (.cells #[.int .i64 0,.int .i64 0] 75 (0,0)):=by
   rw[Below.heap_alloc _ _ _ (by simp)];exact heap_alloc_new w _
  have hsz:((w.alloc (.cells #[.int .i64 0,.int .i64 0] 75)).alloc (.cells #[.string s,.int .i64 0] 224)).heap.size=w.heap.size+2:=by simp
  rw[hsz] at hE;generalize(w.alloc (.cells #[.int .i64 0,.int .i64 0] 75)).alloc (.cells #[.string s,.int .i64 0] 224)=wb at*;obtain⟨hT,⟨a,r,v,hx,rfl,hV,hR⟩|⟨n,r,hx,rfl,hR⟩⟩:=hE.split
  all_goals
   have hrow:=hT.row hfr (b:=w.heap.size) (by omega);have z0:w1.cell? ⟨w.heap.size,0,none⟩=some (.int .i64 0):=by rw[cell_of_row _ _ _ _ _ _ hrow];rfl
   have z1:w1.cell? ⟨w.heap.size,1,none⟩=some (.int .i64 0):=by rw[cell_of_row _ _ _ _ _ _ hrow];rfl
   have f0:=dD (j:=0) hrow;have f1:=dD (j:=1) hrow;have hB1:Below w.heap.size w w1:=⟨hT.os.trans hBB.os,hT.tape.trans hBB.tape,hT.output.trans hBB.output,by have:=hT.size;omega,fun k hk=>(hT.block k (by omega) (by omega)).trans (hBB.block k hk)⟩
  ·have HX:Hid (dY (raw s)=(a,0,0)):=by show _=_;unfold dY;rw[if_neg (by rw[bq];exact hs),hx]
   have HV:=hide hV;have HB:=hide hB1;obtain⟨av,cv,rfl⟩:=Kind.slice hV;clear hE hT hx hR hBB hfr hRd HC hB1 hV hrow;go_wp2;refine leaves_cons (f:=170) (args:=#[.pointer (some ⟨w.heap.size,0,none⟩)]) (by simp) (by simp[go_sem]) ?_;refine(Iy _ _).mono ?_;rintro e u' w'' ⟨rfl,rfl,rfl⟩;refine⟨.tuple #[.slice av a.length cv,.agg #[.int .i64 0,.int .i64 0]],by simp[results,Tryz.results95,go_sem,z0,z1],_,by rw[HX.out];rfl,?_,?_⟩
   ·rw[HX.out];exact Kind.aX (Kind.gJ HV.out (((Tn.refl w.heap.size w1).moved _ _).moved _ _) (by omega)) (fun k _ hB=>by have:w.heap.size+2≤k:=hB;show w.heap.size≤k;omega)
   ·exact(HB.out.setCell (Nat.le_refl _) _).setCell (Nat.le_refl _) _
  ·have HX:Hid (dY (raw s)=([],n,pos s r)):=by show _=_;unfold dY;rw[if_neg (by rw[bq];exact hs),hx,bq];rfl
   refine leaves_cons (f:=170) (args:=#[.pointer (some ⟨w.heap.size,0,none⟩)]) (by simp) (by simp[go_sem]) ?_;refine(FZ _ _ _ _ _ _ z0 z1 f0 f1).mono ?_;rintro e u' w'' ⟨rfl,rfl,rfl⟩;refine⟨.tuple #[.slice none 0 0,.agg #[.int .i64 n,.int .i64 (pos s r)]],by simp[results,Tryz.results95,go_sem,z0,z1],_,by rw[HX.out],?_,?_⟩
   ·rw[HX.out];exact fB.iq _ _ _ _
   ·exact(hB1.setCell (Nat.le_refl _) _).setCell (Nat.le_refl _) _
set_option maxHeartbeats 1000000 in
theorem Jw (s:ByteArray) (w:World) (m:Int) (hm:w.cell? ⟨1,0,none⟩=some (.int .i64 m)):
  Calls Tryz.prog 46 #[.string s] w fun e w'=>∃v,e=.returned (.tuple #[v,.agg #[.int .i64 (dY (raw s)).2.1,.int .i64 (dY (raw s)).2.2]])∧fB.sl (From w.heap.size) w' v (dY (raw s)).1∧Below w.heap.size w w':=by
 have hb0:=World.block_lt_of_cell? w _ hm;have hA:=((Later.refl w).alloc (.cells #[.int .i64 0,.int .i64 0] 75));have HC:=hide (Iz s (w.alloc (.cells #[.int .i64 0,.int .i64 0] 75)) m (by rw[hA.cell (p:=⟨1,0,none⟩) hb0];exact hm))
 go_enter Tryz.func46,Tryz.ntmps46
 go_wp2_with fail
 refine HC.out.mono ?_;rintro e w1 ⟨v,rfl,hV,hB⟩;have hrow:w1.heap[w.heap.size]?=some (.cells #[.int .i64 0,.int .i64 0] 75 (0,0)):=by
  rw[hB.block _ (by simp)];exact heap_alloc_new w _
 have z0:w1.cell? ⟨w.heap.size,0,none⟩=some (.int .i64 0):=by rw[cell_of_row _ _ _ _ _ _ hrow];rfl
 have z1:w1.cell? ⟨w.heap.size,1,none⟩=some (.int .i64 0):=by rw[cell_of_row _ _ _ _ _ _ hrow];rfl
 have f0:=dD (j:=0) hrow;have f1:=dD (j:=1) hrow;have HB:Hid (Below w.heap.size w w1):=⟨hB.os.trans hA.below.os,hB.tape.trans hA.below.tape,hB.output.trans hA.below.output,by have:=hB.size;simp at this;omega,fun k hk=>(hB.block k (by simp;omega)).trans (hA.below.block k hk)⟩;have HV:=hide hV;obtain⟨av,cv,rfl⟩:=Kind.slice hV;clear hV hB hA HC hrow hm;generalize hy:dY (raw s)=y at HV⊢;have HY:=hide hy;clear hy;obtain⟨out,n,k⟩:=y;dsimp only at HV⊢;go_wp2;refine bodyPost_ret (v:=.tuple #[.slice av out.length cv,.agg #[.int .i64 n,.int .i64 k]]) (by simp[results,Tryz.results46,go_sem,z0,z1]) rfl ?_;refine⟨.slice av out.length cv,by rw[HY.out],?_,(HB.out.setCell (Nat.le_refl _) _).setCell (Nat.le_refl _) _⟩;rw[HY.out];exact Kind.aX (Kind.gJ HV.out (((Tn.refl w.heap.size w1).moved _ _).moved _ _) (by simp)) (fun k _ hB=>by have:(w.alloc _).heap.size≤k:=hB;simp at this;show w.heap.size≤k;omega)
end Go.Proofs.YtafmbokfkbccaaaGreatDoor
namespace Go.Proofs.YtafmbokfkbccaaaGreatDoor
open Go.RowKit Go.Sort
def kb (l:Bs):ByteArray:=⟨l.toArray⟩
def Ta : List aA :=
  [⟨⟨false, [116], [(true, [88]), (true, [89])]⟩, [⟨false, [101], [(true, [88]), (true, [89])]⟩]⟩,
   ⟨⟨false, [116], [(true, [88]), (true, [90])]⟩, [⟨false, [116], [(true, [88]), (true, [89])]⟩, ⟨false, [101], [(true, [89]), (true, [90])]⟩]⟩,
   ⟨⟨false, [110], [(true, [88])]⟩, [⟨false, [118], [(true, [88])]⟩, ⟨true, [116], [(false, [97]), (true, [88])]⟩]⟩]
def Tc:List aj:=[(kb [101],[kb [97],kb [98]]),(kb [101],[kb [98],kb [99]]),(kb [118],[kb [97]]),(kb [118],[kb [99]])]
def Uo:List aj:=[(kb [101],[kb [97],kb [98]]),(kb [101],[kb [98],kb [99]]),(kb [110],[kb [97]]),(kb [116],[kb [97],kb [98]]),(kb [116],[kb [97],kb [99]]),(kb [116],[kb [98],kb [99]]),(kb [118],[kb [97]]),(kb [118],[kb [99]])]
def Uq:Bs:=[116,40,88,44,89,41,32,58,45,32,101,40,88,44,89,41,46,32,116,40,88,44,90,41,32,58,45,32,116,40,88,44,89,41,44,32,101,40,89,44,90,41,46,32,110,40,88,41,32,58,45,32,118,40,88,41,44,32,33,116,40,97,44,88,41,46]
theorem MX:countP [0,0,1]=2:=by decide
theorem Jy {w:World} {c:Nat} {a b:ByteArray} {t:TypeId} {fr:Nat×Nat} (h:w.heap[c]?=some (.cells #[.string a,.string b] t fr)):Strs w (.slice (some ⟨c,0,none⟩) 2 2) [a,b]:=by
 refine⟨by simp,_,2,rfl,fun _=>⟨c,0,rfl,(Array.getElem?_eq_some_iff.1 h).1,fun i hi=> ?_⟩⟩;rw[cell_of_row _ _ _ _ _ _ h];simp at hi;have:i=0∨i=1:=by omega
 rcases this with rfl|rfl <;> rfl
end Go.Proofs.YtafmbokfkbccaaaGreatDoor
namespace Go.Proofs.YtafmbokfkbccaaaGreatDoor
open Go.RowKit Go.Sort Go.Maps
theorem F3 {p:List aA} {l M:List aj} (h:lD p l=(0,M)):bZ p∧GoodS p l∧∃τ,Sol p τ∧(aK p).1=p.map (fun r=>τ r.head.name)∧gZ p (p.map fun r=>τ r.head.name) (countP (p.map fun r=>τ r.head.name)) 0 l=(0,M):=by
 unfold lD at h;split at h
 ·rename_i h1;simp at h;exact absurd h.1 h1
 ·rename_i h1;split at h
  ·rename_i h2;simp at h;exact absurd h.1 h2
  ·rename_i h2;have e1:(aK p).2.1=0:=by simpa using h1
   obtain⟨hw,m,hm,_,_,hs⟩:=kZ (p:=p) (l:=(aK p).1) (k:=(aK p).2.2) (by rw[←e1]);have hm':(aK p).1=p.map (fun r=>numOf m r.head.name):=hm;rw[hm'] at h;exact⟨lq.1 hw,oD (by simpa using h2),numOf m,hs,hm',h⟩
theorem zk {p:List aA} {l M:List aj} (h:lD p l=(0,M)):bZ p∧GoodS p l∧GoodS p M∧(∀f∈l,f∈M)∧∀r∈p,∀x,dX r M=some x→∀f∈x,f∈M:=by
 obtain⟨hp,hl,τ,hτ,_,hr⟩:=F3 h;obtain⟨h1,h2⟩:=qR hp hτ hl hr;exact⟨hp,hl,(Al hp hτ hl hr).1,h1,h2⟩
end Go.Proofs.YtafmbokfkbccaaaGreatDoor
namespace Go.Proofs.YtafmbokfkbccaaaGreatDoor
open Go.RowKit Go.Sort
def uQ (p:List aA) (told:List aj) (n:Nat) (x:bE):Int:=
 if(lD p told).1≠0 then(lD p told).1 else if j5 (gW j5 (n+2) [x] (0,0)) then 4 else eD p told (lD p told).2 (n+1) x
theorem A8 {p:List aA} (hp:bZ p):∀r∈p,r.head.terms.length≤4∧r.body.length≤5∧∀a∈r.body,a.terms.length≤4:=fun r hr=>by
 have hR:=hp.rules r hr;obtain⟨h5,hat⟩:=uF hR.body;exact⟨(bN hR.head).2.1,h5,fun a ha=>(bN (hat a ha)).2.1⟩
set_option maxRecDepth 100000 in
set_option maxHeartbeats 4000000 in
theorem MZ (p:List aA) (told:List aj) (n:Nat) (x:bE) (pv tv xv:Value) (w:World) (hp:fB.sl bU w pv p) (ht:Facts w tv told) (hx:sN n bU w xv x) (hn:cnt (n+1) x≤4000000) (hnn:n≤4000000):
  Calls Tryz.prog 16 #[pv,tv,xv] w fun e w'=>e=.returned (.int .i64 (uQ p told n x))∧Below w.heap.size w w':=by
 have hxv:=hx;obtain⟨s,kv,rfl,hs,hkv⟩:=hx;obtain⟨pa,pc,rfl⟩:=Kind.slice hp;obtain⟨ta,tc,rfl⟩:=aD ht;obtain⟨sa,sc,rfl⟩:=Kind.slice hs;obtain⟨ka,kc,rfl⟩:=Kind.slice hkv;obtain⟨w1,hw1⟩:∃w1,w1=w.alloc (.cells #[.string x.fact.1,.slice sa x.fact.2.length sc,.int .i64 x.rule,.slice ka x.kids.length kc] 30):=⟨_,rfl⟩;have hL1:Later w w1:=by rw[hw1];exact(Later.refl w).alloc _
 have hr1:w1.heap[w.heap.size]?=some (.cells #[.string x.fact.1,.slice sa x.fact.2.length sc,.int .i64 x.rule,.slice ka x.kids.length kc] 30 (0,0)):=by rw[hw1];exact heap_alloc_new w _
 have hlt1:w.heap.size<w1.heap.size:=(Array.getElem?_eq_some_iff.1 hr1).1;have HAl:=hide (rV p told (.slice pa p.length pc) (.slice ta told.length tc) w1 (Kind.aH hp hL1) (ht.later hL1));have HMe:Hid (∀w',Below w.heap.size w w'→Calls Tryz.prog 52 #[.agg #[.string x.fact.1,.slice sa x.fact.2.length sc,.int .i64 x.rule,.slice ka x.kids.length kc],.func (.func 54) #[] #[]] w' fun e w''=>e=.returned (.agg #[.int .i64 (gW j5 (n+2) [x] (0,0)).1,.int .i64 (gW j5 (n+2) [x] (0,0)).2])∧Below w'.heap.size w' w''):=fun w' h=>
  Ib x n 54 j5 _ w' (hxv.below h) hn hnn (fun _ _=>rfl) Ka
 have HWr:Hid (∀(M:List aj) (av:Value) (w':World),lD p told=(0,M)→Below w.heap.size w w'→Facts w' av M→Calls Tryz.prog 55 #[.agg #[.slice pa p.length pc,.slice ta told.length tc,av],.agg #[.string x.fact.1,.slice sa x.fact.2.length sc,.int .i64 x.rule,.slice ka x.kids.length kc]] w' fun e w''=>e=.returned (.int .i64 (eD p told M (n+1) x))∧Later w' w''):=fun M av w' hM h ha=>by
  obtain⟨h1,h2,h3,_,_⟩:=zk hM;exact Fw p told M (A8 h1) h1.few h2.up h3.up n x _ _ av _ w' (Kind.aS hp h) (ht.below h) ha (hxv.below h)
 have HL1:=hide hL1;have HR1:=hide hr1;have HW1:=hide hw1;have HC:Hid (∀w',Below w1.heap.size w1 w'→w'.cell? ⟨w.heap.size,0,none⟩=some (.string x.fact.1)∧w'.cell? ⟨w.heap.size,0+1,none⟩=some (.slice sa x.fact.2.length sc)∧w'.cell? ⟨w.heap.size,0+2,none⟩=some (.int .i64 x.rule)∧w'.cell? ⟨w.heap.size,0+3,none⟩=some (.slice ka x.kids.length kc)):=fun w' h=>by
  have h1:=(h.block _ hlt1).trans hr1;refine⟨?_,?_,?_,?_⟩
  ·rw[cell_of_row _ _ _ _ _ _ h1];rfl
  ·rw[cell_of_row _ _ _ _ _ _ h1];rfl
  ·rw[cell_of_row _ _ _ _ _ _ h1];rfl
  ·rw[cell_of_row _ _ _ _ _ _ h1];rfl
 obtain⟨RR,hRR⟩:∃RR:Int,RR=uQ p told n x:=⟨_,rfl⟩;rw[←hRR];unfold uQ at hRR;obtain⟨er,M,hM⟩:∃er M,lD p told=(er,M):=⟨_,_,rfl⟩;rw[hM] at HAl hRR;dsimp only at hRR;have HM:=hide hM;have HRR:=hide hRR;obtain⟨ms,hms⟩:∃ms,ms=gW j5 (n+2) [x] (0,0):=⟨_,rfl⟩;rw[←hms] at HMe HRR;clear hxv hp ht hs hkv hn hL1 hr1 hw1 hRR hM hms;obtain⟨⟨fn,aI⟩,rl,kids⟩:=x;dsimp only[bE.fact,bE.rule,bE.kids] at*
 go_enter Tryz.func16,Tryz.ntmps16
 go_wp2_with (first|(rw[←HW1.out])|fail)
 refine HAl.out.mono ?_;rintro e w2 ⟨v2,er2,rfl,⟨he2,hT0,hT1⟩,hB2⟩;dsimp only at he2 hT0 hT1;subst he2;have HB2:=hide (ak HL1.out.below hB2 HL1.out.size);have hB2':=hB2
 by_cases h0:er2=0
 ·subst h0;have hF2:=hT1 rfl;obtain⟨aa,ac,rfl⟩:=aD hF2;have HF2:=hide hF2;have HE:Hid (RR=if j5 ms then 4 else eD p told M (n+1) (.mk (fn,aI) rl kids)):=by show _=_;rw[HRR.out,if_neg (by simp)]
  have H3:=hide (HMe.out w2 HB2.out);obtain⟨y0,y1,y2,y3⟩:=HC.out w2 hB2;have LA:=hide hB2';obtain⟨mc,md⟩:=ms;dsimp only at H3;clear hT0 hT1 hF2 hB2 hB2' HAl HMe HRR HW1
  go_wp2_with fail
  refine H3.out.mono ?_;rintro e w3 ⟨rfl,hB3⟩;have H4:=hide (Ka mc md w3);have HB3:=hide (ak HB2.out hB3 HB2.out.size);have KJ:=ak LA.out hB3 LA.out.size;have HF3:=hide (HF2.out.below hB3);clear hB3 H3 y0 y1 y2 y3
  go_wp2_with fail
  refine H4.out.mono ?_;rintro e w4 ⟨rfl,hL4⟩;have HB4:=hide (ak HB3.out hL4.below HB3.out.size);have KL:=ak KJ hL4.below KJ.size;cases hmu:j5 (mc,md) with
  |true=>
   have HE2:Hid (RR=4):=by show _=_;rw[HE.out,hmu];rfl
   clear hmu hL4 KJ KL H4 HE HWr;go_wp2;go_ret;exact⟨by rw[HE2.out];rfl,HB4.out⟩
  |false=>
   have HE2:Hid (RR=eD p told M (n+1) (.mk (fn,aI) rl kids)):=by show _=_;rw[HE.out,hmu];rfl
   have H5:=hide (HWr.out M (.slice aa M.length ac) w4 HM.out HB4.out (HF3.out.later hL4));obtain⟨y0,y1,y2,y3⟩:=HC.out w4 KL;clear hmu hL4 KJ KL H4 HE HWr;generalize eD p told M (n+1) (.mk (fn,aI) rl kids)=WX at*
   go_wp2_with fail
   refine H5.out.mono ?_;rintro e w5 ⟨rfl,hL5⟩;have HB5:=hide (ak HB4.out hL5.below HB4.out.size);clear hL5 H5 y0 y1 y2 y3;go_wp2;go_ret;exact⟨by rw[HE2.out];rfl,HB5.out⟩
 ·have hq:(er2 != 0)=true:=by simpa using h0
  have HE:Hid (RR=er2):=by show _=_;rw[HRR.out,if_pos h0]
  obtain rfl:=hT0 h0;clear hT0 hT1 HRR HMe HWr HAl h0 hB2 hB2';go_wp2;go_ret;exact⟨by rw[HE.out];rfl,HB2.out⟩
end Go.Proofs.YtafmbokfkbccaaaGreatDoor
