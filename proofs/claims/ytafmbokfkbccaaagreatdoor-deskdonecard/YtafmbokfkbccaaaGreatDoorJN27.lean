import Derived.Test.YtafmbokfkbccaaaGreatDoorJN22
import Derived.Test.YtafmbokfkbccaaaGreatDoorJN23
import Derived.Test.YtafmbokfkbccaaaGreatDoorJN24
import Derived.Test.YtafmbokfkbccaaaGreatDoorJN3
import Derived.Test.YtafmbokfkbccaaaGreatDoorJN26
import Derived.Test.YtafmbokfkbccaaaGreatDoorJN16
import Derived.Test.YtafmbokfkbccaaaGreatDoorJN15
namespace Go.Proofs.YtafmbokfkbccaaaGreatDoor
open Go.RowKit Go.Sort
structure dD where
 told:List au
 rules:List aA
 running:Bool
 run:fG
 saved:Bs
structure DoD where
 kind:Int
 n:Int
 fact:au
 text:ByteArray
structure rM where
 err:Int
 place:Int
 n:Int
 binds:List (List aD)
 prf:iT
def rO:iT:=.mk (ByteArray.empty,[]) 0 []
def jy:dD:=⟨[],[],false,dZ,[]⟩
def H9 (e a:Int):rM:=⟨e,a,0,[],rO⟩
def nA (e:Int):rM:=H9 e 0
def qG (n:Nat):rM:=⟨0,0,n,[],rO⟩
def rP (d:dD) (f:au):dD×rM:=if fA f≠0 then(d,nA (fA f)) else
 if 200<(dK (d.told++[f])).length then(d,nA 5) else({d with told:=dK (d.told++[f])},qG (dK (d.told++[f])).length)
def rQ (d:dD) (t:ByteArray):dD×rM:=if(bB (raw t)).2.1≠0 then(d,H9 (bB (raw t)).2.1 (bB (raw t)).2.2) else
 if(aG (bB (raw t)).1).2.1≠0 then(d,H9 (aG (bB (raw t)).1).2.1 (aG (bB (raw t)).1).2.2) else(⟨d.told,(bB (raw t)).1,false,dZ,[]⟩,qG (bB (raw t)).1.length)
def kP (d:dD) (x:Int×fG):dD×rM:=if x.1≠0 then(d,nA x.1) else({d with running:=true,run:=x.2},qG x.2.known.length)
def vI (d:dD) (n:Int):dD×rM:=if d.running=false then(d,nA 11) else kP d (jw d.rules d.run n)
def rR (d:dD):dD×rM:=if d.running=false then(d,nA 11) else if(jF d.rules d.run).1≠0 then(d,nA (jF d.rules d.run).1) else
 ({d with saved:=(jF d.rules d.run).2},qG (jF d.rules d.run).2.length)
def yS (d:dD):dD×rM:=if d.saved=[] then(d,nA 6) else kP d (lI d.rules d.saved)
def qH (body:List aF) (fs:List au):Int×List (List aD):=if pJ body fs []≠0 then(pJ body fs [],[]) else match lX (gG fs (-1) []) body with
 |none=>(4,[])
 |some R=>(0,R)
def Fa (d:dD) (t:ByteArray):rM:=if(bJ (raw t)).2.1≠0 then H9 (bJ (raw t)).2.1 (bJ (raw t)).2.2 else
 if(!d.running|| !d.run.done)=true then nA 11 else if(qH (bJ (raw t)).1 d.run.known).1≠0 then nA (qH (bJ (raw t)).1 d.run.known).1 else
 ⟨0,0,(qH (bJ (raw t)).1 d.run.known).2.length,(qH (bJ (raw t)).1 d.run.known).2,rO⟩
abbrev Prover:=List aA→List au→au→Int×Option iT
def kQ (φ:Prover) (d:dD) (f:au):rM:=match(φ d.rules d.told f).2 with
 |none=>nA (φ d.rules d.told f).1
 |some x=>⟨0,0,0,[],x⟩
def doP (φ:Prover) (d:dD) (x:DoD):dD×rM:=
 if x.kind=1 then rP d x.fact else if x.kind=2 then rQ d x.text else if x.kind=3 then kP d (iN d.rules d.told) else if x.kind=4 then vI d x.n else
 if x.kind=5 then(d,Fa d x.text) else if x.kind=6 then(d,kQ φ d x.fact) else if x.kind=7 then rR d else if x.kind=8 then yS d else(d,nA 1)
def ig (φ:Prover):dD→List DoD→dD×List rM
 |d,[]=>(d,[])
 |d,x::l=>((ig φ (doP φ d x).1 l).1,(doP φ d x).2::(ig φ (doP φ d x).1 l).2)
def pQ (φ:Prover) (l:List DoD):dD×List rM×Int:=if 60<l.length then(jy,[],5) else((ig φ jy l).1,(ig φ jy l).2,0)
theorem AY {p:List aA} {c:Nat} {r:fG} (h:jQ p c r):r.known.length≤200∧r.fresh.length≤200:=⟨h.good.few,Nat.le_trans (sO h.up h.sub) h.good.few⟩
theorem Fb {p:List aA} {r:fG} {n:Int} (h:(jw p r n).1=0):(jw p r n).2.known.length≤200∧(jw p r n).2.fresh.length≤200:=by
 unfold jw at h⊢;split at h
 ·rename_i h1;exact absurd h h1
 ·rename_i h1;rw[if_neg h1];split at h
  ·simp at h
  ·rename_i h2;rw[if_neg h2];have h1:=Classical.byContradiction h1;obtain⟨hf,hR⟩:=iM h1;obtain⟨hp,_,τ,_,hs,_⟩:=gZ hf;have e:(aG p).1=p.map fun r=>τ r.head.name:=by rw[hs]
   rw[e] at hR h⊢;exact AY (lq hp (fun r=>τ r.head.name) n.toNat hR (Prod.ext h rfl))
theorem Fe {p:List aA} {l:List au} (h:(iN p l).1=0):(iN p l).2.known.length≤200∧(iN p l).2.fresh.length≤200:=by
 unfold iN at h⊢;split at h
 ·rename_i h1;exact absurd h h1
 ·rename_i h1;rw[if_neg h1];obtain⟨_,hg,_⟩:=gZ (Classical.byContradiction h1);exact⟨hg.few,hg.few⟩
theorem Ia {p:List aA} {b:Bs}:(lI p b).2.known.length≤200∧(lI p b).2.fresh.length≤200:=by
 unfold lI;split
 ·simp[dZ]
 ·split
  ·simp[dZ]
  ·rename_i h1;exact AY (iM (Classical.byContradiction h1)).2
theorem Ib {p:List aA} {r:fG}:(jF p r).2.length≤17001000:=by
 unfold jF;split
 ·simp
 ·rename_i h1;have h:=Az (r9 (Classical.byContradiction h1)).1 r.known.length;rw[Aw (Nat.le_refl _)] at h;exact h
structure fH (p:Nat) (B:Nat→Prop) (w:World) (d:dD) (tv rv kv nv sv:Value):Prop where
 row:w.heap[p]?=some (.cells #[tv,rv,.bool d.running,kv,nv,.int .i64 d.run.level,.int .i64 d.run.rounds,.bool d.run.done,sv] 140 (0,0))
 told:bC B w tv d.told
 rules:dU.sl B w rv d.rules
 known:bC B w kv d.run.known
 fresh:bC B w nv d.run.fresh
 saved:kN.sl B w sv d.saved
theorem fH.lt {p:Nat} {B:Nat→Prop} {w:World} {d:dD} {tv rv kv nv sv:Value} (h:fH p B w d tv rv kv nv sv):p<w.heap.size:=(Array.getElem?_eq_some_iff.1 h.row).1
theorem fH.kept {p:Nat} {B:Nat→Prop} {w w':World} {d:dD} {tv rv kv nv sv:Value} (h:fH p B w d tv rv kv nv sv) (hs:w.heap.size≤w'.heap.size) (hp:w'.heap[p]?=w.heap[p]?) (hk:∀k,k<w.heap.size→B k→w'.heap[k]?=w.heap[k]?):fH p B w' d tv rv kv nv sv:=
 ⟨hp.trans h.row,h.told.kept hs hk,Kind.aM h.rules hs hk,h.known.kept hs hk,h.fresh.kept hs hk,Kind.aM h.saved hs hk⟩
theorem fH.below {p:Nat} {B:Nat→Prop} {w w':World} {d:dD} {tv rv kv nv sv:Value} (h:fH p B w d tv rv kv nv sv) (k:Below w.heap.size w w'):fH p B w' d tv rv kv nv sv:=
 h.kept k.size (k.block p h.lt) fun i hi _=>k.block i hi
theorem fH.mono {p:Nat} {B B':Nat→Prop} {w:World} {d:dD} {tv rv kv nv sv:Value} (h:fH p B w d tv rv kv nv sv) (hm:∀k,k<w.heap.size→B k→B' k):fH p B' w d tv rv kv nv sv:=
 ⟨h.row,h.told.mono hm,Kind.aH h.rules hm,h.known.mono hm,h.fresh.mono hm,Kind.aH h.saved hm⟩
theorem bC.slice {B:Nat→Prop} {w:World} {v:Value} {l:List au} (h:bC B w v l):∃a c,v=.slice a l.length c:=by
 obtain⟨_,a,c,e,_⟩:=h;exact⟨a,c,e⟩
theorem fH.slices {p:Nat} {B:Nat→Prop} {w:World} {d:dD} {tv rv kv nv sv:Value} (h:fH p B w d tv rv kv nv sv):
  (∃a c,tv=.slice a d.told.length c)∧(∃a c,rv=.slice a d.rules.length c)∧(∃a c,kv=.slice a d.run.known.length c)∧(∃a c,nv=.slice a d.run.fresh.length c)∧∃a c,sv=.slice a d.saved.length c:=
 ⟨h.told.slice,Kind.slice h.rules,h.known.slice,h.fresh.slice,Kind.slice h.saved⟩
theorem jd {w:World} {R:Nat} {u0 u1 u2 u3 u4 u5 u6 u7 u8:Value} {t:TypeId} (h:w.heap[R]?=some (.cells #[u0,u1,u2,u3,u4,u5,u6,u7,u8] t (0,0))):
  (w.cell? ⟨R,0,none⟩=some u0∧w.cell? ⟨R,1,none⟩=some u1∧w.cell? ⟨R,2,none⟩=some u2∧w.cell? ⟨R,3,none⟩=some u3∧w.cell? ⟨R,4,none⟩=some u4∧w.cell? ⟨R,5,none⟩=some u5∧w.cell? ⟨R,6,none⟩=some u6∧w.cell? ⟨R,7,none⟩=some u7∧w.cell? ⟨R,8,none⟩=some u8)∧
  (∀j,w.frozen? ⟨R,j,none⟩=false)∧R<w.heap.size:=by
 refine⟨⟨?_,?_,?_,?_,?_,?_,?_,?_,?_⟩,fun j=>by simp[World.frozen?,h],(Array.getElem?_eq_some_iff.1 h).1⟩ <;> (rw[cell_of_row _ _ _ _ _ _ h];rfl)
def ou (B:Nat→Prop) (w:World) (v:Value) (a:rM):Prop:=∃bv sv kv,v=.agg #[.int .i64 a.err,.int .i64 a.place,.int .i64 a.n,bv,.string a.prf.fact.1,sv,.int .i64 a.prf.rule,kv]∧lu.sl B w bv a.binds∧bsK.sl B w sv a.prf.fact.2∧(FU 60).sl B w kv a.prf.kids
def jR (e a n:Int):Value:=.agg #[.int .i64 e,.int .i64 a,.int .i64 n,.slice none 0 0,.string ⟨#[]⟩,.slice none 0 0,.int .i64 0,.slice none 0 0]
theorem ou.plain (B:Nat→Prop) (w:World) (e a n:Int):ou B w (jR e a n) ⟨e,a,n,[],rO⟩:=⟨_,_,_,rfl,lu.dw _ _ _ _,bsK.dw _ _ _ _,(FU 60).dw _ _ _ _⟩
def kT (w:World) (R:Nat) (x0 x1 x2 x3 x4 x5 x6 x7:Value):World:=(((((((w.setCell ⟨R,0,none⟩ x0).setCell ⟨R,1,none⟩ x1).setCell ⟨R,2,none⟩ x2).setCell ⟨R,3,none⟩ x3).setCell ⟨R,4,none⟩ x4).setCell ⟨R,5,none⟩ x5).setCell ⟨R,6,none⟩ x6).setCell ⟨R,7,none⟩ x7
theorem bg {w:World} {R:Nat} {u0 u1 u2 u3 u4 u5 u6 u7:Value} {t:TypeId} (h:w.heap[R]?=some (.cells #[u0,u1,u2,u3,u4,u5,u6,u7] t (0,0))) (x0 x1 x2 x3 x4 x5 x6 x7:Value):(kT w R x0 x1 x2 x3 x4 x5 x6 x7).heap[R]?=some (.cells #[x0,x1,x2,x3,x4,x5,x6,x7] t (0,0)):=by
 have h0:(w.setCell ⟨R,0,none⟩ x0).heap[R]?=some (.cells #[x0,u1,u2,u3,u4,u5,u6,u7] t (0,0)):=bH (j:=0) h x0;have h1:((w.setCell ⟨R,0,none⟩ x0).setCell ⟨R,1,none⟩ x1).heap[R]?=some (.cells #[x0,x1,u2,u3,u4,u5,u6,u7] t (0,0)):=bH (j:=1) h0 x1;have h2:(((w.setCell ⟨R,0,none⟩ x0).setCell ⟨R,1,none⟩ x1).setCell ⟨R,2,none⟩ x2).heap[R]?=some (.cells #[x0,x1,x2,u3,u4,u5,u6,u7] t (0,0)):=bH (j:=2) h1 x2;have h3:((((w.setCell ⟨R,0,none⟩ x0).setCell ⟨R,1,none⟩ x1).setCell ⟨R,2,none⟩ x2).setCell ⟨R,3,none⟩ x3).heap[R]?=some (.cells #[x0,x1,x2,x3,u4,u5,u6,u7] t (0,0)):=bH (j:=3) h2 x3;have h4:(((((w.setCell ⟨R,0,none⟩ x0).setCell ⟨R,1,none⟩ x1).setCell ⟨R,2,none⟩ x2).setCell ⟨R,3,none⟩ x3).setCell ⟨R,4,none⟩ x4).heap[R]?=some (.cells #[x0,x1,x2,x3,x4,u5,u6,u7] t (0,0)):=bH (j:=4) h3 x4;have h5:((((((w.setCell ⟨R,0,none⟩ x0).setCell ⟨R,1,none⟩ x1).setCell ⟨R,2,none⟩ x2).setCell ⟨R,3,none⟩ x3).setCell ⟨R,4,none⟩ x4).setCell ⟨R,5,none⟩ x5).heap[R]?=some (.cells #[x0,x1,x2,x3,x4,x5,u6,u7] t (0,0)):=bH (j:=5) h4 x5;have h6:(((((((w.setCell ⟨R,0,none⟩ x0).setCell ⟨R,1,none⟩ x1).setCell ⟨R,2,none⟩ x2).setCell ⟨R,3,none⟩ x3).setCell ⟨R,4,none⟩ x4).setCell ⟨R,5,none⟩ x5).setCell ⟨R,6,none⟩ x6).heap[R]?=some (.cells #[x0,x1,x2,x3,x4,x5,x6,u7] t (0,0)):=bH (j:=6) h5 x6
 have h7:((((((((w.setCell ⟨R,0,none⟩ x0).setCell ⟨R,1,none⟩ x1).setCell ⟨R,2,none⟩ x2).setCell ⟨R,3,none⟩ x3).setCell ⟨R,4,none⟩ x4).setCell ⟨R,5,none⟩ x5).setCell ⟨R,6,none⟩ x6).setCell ⟨R,7,none⟩ x7).heap[R]?=some (.cells #[x0,x1,x2,x3,x4,x5,x6,x7] t (0,0)):=bH (j:=7) h6 x7;exact h7
theorem bK (w:World) (b:Nat) (x0 x1 x2 x3 x4 x5 x6 x7:Value):Tn b w (kT w b x0 x1 x2 x3 x4 x5 x6 x7):=
 ((((((((Tn.refl b w).setCell (Or.inl rfl) _).setCell (Or.inl rfl) _).setCell (Or.inl rfl) _).setCell (Or.inl rfl) _).setCell (Or.inl rfl) _).setCell (Or.inl rfl) _).setCell (Or.inl rfl) _).setCell (Or.inl rfl) _
theorem gF {w:World} {R:Nat} {u0 u1 u2 u3 u4 u5 u6 u7:Value} {t:TypeId} (h:w.heap[R]?=some (.cells #[u0,u1,u2,u3,u4,u5,u6,u7] t (0,0))):
  (w.cell? ⟨R,0,none⟩=some u0∧w.cell? ⟨R,1,none⟩=some u1∧w.cell? ⟨R,2,none⟩=some u2∧w.cell? ⟨R,3,none⟩=some u3∧w.cell? ⟨R,4,none⟩=some u4∧w.cell? ⟨R,5,none⟩=some u5∧w.cell? ⟨R,6,none⟩=some u6∧w.cell? ⟨R,7,none⟩=some u7)∧
  (∀j,w.frozen? ⟨R,j,none⟩=false)∧R<w.heap.size:=by
 refine⟨⟨?_,?_,?_,?_,?_,?_,?_,?_⟩,fun j=>by simp[World.frozen?,h],(Array.getElem?_eq_some_iff.1 h).1⟩ <;> (rw[cell_of_row _ _ _ _ _ _ h];rfl)
set_option maxRecDepth 100000 in
set_option maxHeartbeats 1000000 in
theorem gP (e:Int) (w:World):Calls Tryz.prog 141 #[.int .i64 e] w fun r w'=>r=.returned (jR e 0 0)∧Below w.heap.size w w':=by
 obtain⟨w1,hw1⟩:∃w1,w1=w.alloc (.cells #[.int .i64 0,.int .i64 0,.int .i64 0,.slice none 0 0,.string ⟨#[]⟩,.slice none 0 0,.int .i64 0,.slice none 0 0] 64):=⟨_,rfl⟩;have hL1:Later w w1:=by rw[hw1];exact(Later.refl w).alloc _
 have hr1:w1.heap[w.heap.size]?=some (.cells #[.int .i64 0,.int .i64 0,.int .i64 0,.slice none 0 0,.string ⟨#[]⟩,.slice none 0 0,.int .i64 0,.slice none 0 0] 64 (0,0)):=by rw[hw1];exact heap_alloc_new w _
 obtain⟨⟨q0,q1,q2,q3,q4,q5,q6,q7⟩,hfz,hlt⟩:=gF hr1;have HR:=hide hr1;have HW1:=hide hw1;have HL1:=hide hL1;clear hw1 hr1 hL1
 go_enter Tryz.func141,Tryz.ntmps141
 go_wp2_with (rw[←HW1.out])
 have hrow:=bg HR.out (.int .i64 e) (.int .i64 0) (.int .i64 0) (.slice none 0 0) (.string ⟨#[]⟩) (.slice none 0 0) (.int .i64 0) (.slice none 0 0);obtain⟨⟨r0,r1,r2,r3,r4,r5,r6,r7⟩,_,_⟩:=gF hrow;unfold kT at r0 r1 r2 r3 r4 r5 r6 r7;exact bodyPost_ret (v:=jR e 0 0) (by simp[results,Tryz.results141,go_sem,r0,r1,r2,r3,r4,r5,r6,r7,jR]) rfl ⟨rfl,by
  have hT:=bK w1 w.heap.size (.int .i64 e) (.int .i64 0) (.int .i64 0) (.slice none 0 0) (.string ⟨#[]⟩) (.slice none 0 0) (.int .i64 0) (.slice none 0 0);unfold kT at hT;exact HL1.out.below.trans (hT.below (Nat.le_refl _) HL1.out.size)⟩
end Go.Proofs.YtafmbokfkbccaaaGreatDoor
namespace Go.Proofs.YtafmbokfkbccaaaGreatDoor
def Pp:List DoD→List rM→List DoD
 |x::l,a::as'=>if a.err=0∧x.kind≠5∧x.kind≠6 then x::Pp l as' else Pp l as'
 |_,_=>[]
end Go.Proofs.YtafmbokfkbccaaaGreatDoor
namespace Go.Proofs.YtafmbokfkbccaaaGreatDoor
open Go.RowKit Go.Sort
def bW (p:Nat) (B:Nat→Prop) (w w':World) (v:Value) (x:dD×rM):Prop:=ou (From w.heap.size) w' v x.2∧(∃tv rv kv nv sv,fH p (fun k=>B k∨w.heap.size≤k) w' x.1 tv rv kv nv sv)∧Tn p w w'
theorem bW.lay {p R:Nat} {B:Nat→Prop} {w w1 w2:World} {v:Value} {x:dD×rM} (h1:ou (fun k=>w.heap.size≤k∧k≠R) w1 v x.2) {tv rv kv nv sv:Value} (h2:fH p (fun k=>(B k∨w.heap.size≤k)∧k≠R) w1 x.1 tv rv kv nv sv) (h3:Tn p w w1) (hT:Tn R w1 w2) (hR:w.heap.size≤R) (hp:p<w.heap.size):bW p B w w2 v x:=by
 obtain⟨bv,sv',kv',rfl,a1,a2,a3⟩:=h1;refine⟨⟨bv,sv',kv',rfl,?_,?_,?_⟩,⟨tv,rv,kv,nv,sv,(h2.kept hT.size (hT.block p h2.lt (by omega)) fun k hk hB=>hT.block k hk hB.2).mono fun _ _ hB=>hB.1⟩,?_⟩
 ·exact Kind.aH (Kind.aM a1 hT.size fun k hk hB=>hT.block k hk hB.2) fun _ _ hB=>hB.1
 ·exact Kind.aH (Kind.aM a2 hT.size fun k hk hB=>hT.block k hk hB.2) fun _ _ hB=>hB.1
 ·exact Kind.aH (Kind.aM a3 hT.size fun k hk hB=>hT.block k hk hB.2) fun _ _ hB=>hB.1
 ·exact⟨hT.os.trans h3.os,hT.tape.trans h3.tape,hT.output.trans h3.output,Nat.le_trans h3.size hT.size,fun k hk hkp=>(hT.block k (by have:=h3.size;omega) (by omega)).trans (h3.block k hk hkp)⟩
theorem Ic (w:World):(w.alloc (.cells #[.int .i64 0,.int .i64 0,.int .i64 0,.slice none 0 0,.string ⟨#[]⟩,.slice none 0 0,.int .i64 0,.slice none 0 0] 64)).heap[w.heap.size]?=some (.cells #[.int .i64 0,.int .i64 0,.int .i64 0,.slice none 0 0,.string ⟨#[]⟩,.slice none 0 0,.int .i64 0,.slice none 0 0] 64 (0,0)):=heap_alloc_new w _
set_option maxRecDepth 100000 in
set_option maxHeartbeats 2000000 in
theorem MV (p:Nat) (B:Nat→Prop) (d:dD) (er:Int) (r:fG) (tv rv kv nv sv:Value) (ka na:Option Addr) (kc nc:Nat) (w:World) (hD:fH p B w d tv rv kv nv sv) (hB:¬B p) (hr:er=0→bC B w (.slice ka r.known.length kc) r.known∧bC B w (.slice na r.fresh.length nc) r.fresh):
  Calls Tryz.prog 202 #[.pointer (some ⟨p,0,none⟩),.agg #[.slice ka r.known.length kc,.slice na r.fresh.length nc,.int .i64 r.level,.int .i64 r.rounds,.bool r.done],.int .i64 er] w fun e w'=>∃v,e=.returned v∧bW p B w w' v (kP d (er,r)):=by
 have hp:=hD.lt;obtain⟨w1,hw1⟩:∃w1,w1=w.alloc (.cells #[.slice ka r.known.length kc,.slice na r.fresh.length nc,.int .i64 r.level,.int .i64 r.rounds,.bool r.done] 47):=⟨_,rfl⟩;obtain⟨w2,hw2⟩:∃w2,w2=w1.alloc (.cells #[.int .i64 0,.int .i64 0,.int .i64 0,.slice none 0 0,.string ⟨#[]⟩,.slice none 0 0,.int .i64 0,.slice none 0 0] 64):=⟨_,rfl⟩;have hz1:w1.heap.size=w.heap.size+1:=by rw[hw1];simp
 have hz2:w2.heap.size=w.heap.size+2:=by rw[hw2];simp;omega
 have hL1:Later w w1:=by rw[hw1];exact(Later.refl w).alloc _
 have hL2:Later w1 w2:=by rw[hw2];exact(Later.refl w1).alloc _
 have hb2:w2.heap[w.heap.size]?=some (.cells #[.slice ka r.known.length kc,.slice na r.fresh.length nc,.int .i64 r.level,.int .i64 r.rounds,.bool r.done] 47 (0,0)):=(hL2.block (by omega)).trans (by rw[hw1];exact heap_alloc_new w _);have hr2:w2.heap[w.heap.size+1]?=some (.cells #[.int .i64 0,.int .i64 0,.int .i64 0,.slice none 0 0,.string ⟨#[]⟩,.slice none 0 0,.int .i64 0,.slice none 0 0] 64 (0,0)):=by rw[hw2,←hz1];exact Ic w1
 have HD2:Hid (fH p (fun k=>B k∧k<w.heap.size) w2 d tv rv kv nv sv):=(hD.mono fun k hk hb=>⟨hb,hk⟩).below (hL1.trans hL2).below;have HL2:=hide (hL1.trans hL2);have HB2:=hide hb2;have HR2:=hide hr2;have HW1:=hide hw1;have HW2:=hide hw2;have HRr:=hide hr;have HB:=hide hB;clear hw1 hw2 hL1 hL2 hb2 hr2 hD hr hB
 by_cases h0:er=0
 ·subst h0;obtain⟨hk,hn⟩:=HRr.out rfl;have hkl:=hk.1;have HK:Hid (bC (fun k=>B k∧k<w.heap.size) w2 _ r.known):=(hk.mono fun k hk hb=>⟨hb,hk⟩).below HL2.out.below;have HN:Hid (bC (fun k=>B k∧k<w.heap.size) w2 _ r.fresh):=(hn.mono fun k hk hb=>⟨hb,hk⟩).below HL2.out.below;have HX:Hid (kP d (0,r)=({d with running:=true,run:=r},qG r.known.length)):=by show _=_;unfold kP;rw[if_neg (by simp)]
  clear hk hn HRr;have HSb:Hid (∀w':World,w'.heap[w.heap.size]?=w2.heap[w.heap.size]?→w'.heap[w.heap.size]?=some (.cells #[.slice ka r.known.length kc,.slice na r.fresh.length nc,.int .i64 r.level,.int .i64 r.rounds,.bool r.done] 47 (0,0))):=fun w' h=>h.trans HB2.out
  go_enter Tryz.func202,Tryz.ntmps202
  go_wp2_with (first|(rw[←HW1.out])|(rw[←HW2.out])|fail)
  refine wp_region_held_drew (S:=fun w'=>w'.heap[w.heap.size]?=w2.heap[w.heap.size]?) (by kernel_rfl) rfl (fun hHeld=> ?_);refine ak (i:=0) (d:=some 11) (v:= ?_) rfl rfl hHeld ?_ ?_;rotate_left;focus intro w hSw;(try dsimp only at hSw);obtain⟨q0,q1,q2,q3,q4,_,_⟩:=dR (HSb.out _ hSw);go_simp;try with_reducible rfl
  simp only[aK,aL,aze,asu];refine ak (i:=1) (d:=some 12) (v:= ?_) rfl rfl hHeld ?_ ?_;rotate_left;focus intro w hSw;(try dsimp only at hSw);obtain⟨q0,q1,q2,q3,q4,_,_⟩:=dR (HSb.out _ hSw);go_simp;try with_reducible rfl
  simp only[aK,aL,aze,asu];refine ak (i:=2) (d:=some 13) (v:= ?_) rfl rfl hHeld ?_ ?_;rotate_left;focus intro w hSw;(try dsimp only at hSw);obtain⟨q0,q1,q2,q3,q4,_,_⟩:=dR (HSb.out _ hSw);go_simp;try with_reducible rfl
  simp only[aK,aL,aze,asu];refine ak (i:=3) (d:=some 14) (v:= ?_) rfl rfl hHeld ?_ ?_;rotate_left;focus intro w hSw;(try dsimp only at hSw);obtain⟨q0,q1,q2,q3,q4,_,_⟩:=dR (HSb.out _ hSw);go_simp;try with_reducible rfl
  simp only[aK,aL,aze,asu];refine ak (i:=4) (d:=some 15) (v:= ?_) rfl rfl hHeld ?_ ?_;rotate_left;focus intro w hSw;(try dsimp only at hSw);obtain⟨q0,q1,q2,q3,q4,_,_⟩:=dR (HSb.out _ hSw);go_simp;try with_reducible rfl
  simp only[aK,aL,aze,asu];refine ak (i:=5) (d:=some 16) (v:= ?_) rfl rfl hHeld ?_ ?_;rotate_left;focus intro w hSw;(try dsimp only at hSw);obtain⟨q0,q1,q2,q3,q4,_,_⟩:=dR (HSb.out _ hSw);go_simp;try with_reducible rfl
  simp only[aK,aL,aze,asu];refine wpAnyH_ready (rs:=[6]) (by kernel_rfl) (by simp) ?_;refine AllReadyH.cons rfl (fun K' hK=> ?_) AllReadyH.nil;obtain⟨⟨c0,c1,c2,c3,c4,c5,c6,c7,c8⟩,hfz,hlt⟩:=jd HD2.out.row;go_simp;obtain⟨w3,hw3⟩:∃w3,w3=w2.setCell ⟨p,2,none⟩ (.bool true):=⟨_,rfl⟩;have hT3:Tn p w2 w3:=by rw[hw3];exact(Tn.refl p w2).setCell (Or.inl rfl) _
  have hrow3:=bH (j:=2) HD2.out.row (.bool true);rw[←hw3] at hrow3⊢;clear hw3;refine hK.out _ _ (hT3.block _ (by omega) (by omega)) (fun hHeld=> ?_);clear hK K' c0 c1 c2 c3 c4 c5 c6 c7 c8 hfz;refine ak (i:=7) (d:=some 17) (v:= ?_) rfl rfl hHeld ?_ ?_;rotate_left;focus intro w hSw;(try dsimp only at hSw);go_simp;try with_reducible rfl
  simp only[aK,aL,aze,asu];refine ak (i:=8) (d:=some 18) (v:= ?_) rfl rfl hHeld ?_ ?_;rotate_left;focus intro w hSw;(try dsimp only at hSw);go_simp;try with_reducible rfl
  simp only[aK,aL,aze,asu];refine ak (i:=9) (d:=some 19) (v:= ?_) rfl rfl hHeld ?_ ?_;rotate_left;focus intro w hSw;(try dsimp only at hSw);go_simp;try with_reducible rfl
  simp only[aK,aL,aze,asu];refine wpAnyH_ready (rs:=[10]) (by kernel_rfl) (by simp) ?_;refine AllReadyH.cons rfl (fun K' hK=> ?_) AllReadyH.nil;obtain⟨⟨c0,c1,c2,c3,c4,c5,c6,c7,c8⟩,hfz,_⟩:=jd hrow3;go_simp;obtain⟨w4,hw4⟩:∃w4,w4=((((w3.setCell ⟨p,3,none⟩ (.slice ka r.known.length kc)).setCell ⟨p,4,none⟩ (.slice na r.fresh.length nc)).setCell ⟨p,5,none⟩ (.int .i64 r.level)).setCell ⟨p,6,none⟩ (.int .i64 r.rounds)).setCell ⟨p,7,none⟩ (.bool r.done):=⟨_,rfl⟩;have hT4:Tn p w3 w4:=by rw[hw4];exact(((((Tn.refl p w3).setCell (Or.inl rfl) _).setCell (Or.inl rfl) _).setCell (Or.inl rfl) _).setCell (Or.inl rfl) _).setCell (Or.inl rfl) _
  have hrow4:=bH (j:=7) (bH (j:=6) (bH (j:=5) (bH (j:=4) (bH (j:=3) hrow3 (.slice ka r.known.length kc)) (.slice na r.fresh.length nc)) (.int .i64 r.level)) (.int .i64 r.rounds)) (.bool r.done);rw[←hw4] at hrow4⊢;clear hw4;have Jm:=hT3.trans hT4;refine hK.out _ _ (Jm.block _ (by omega) (by omega)) (fun hHeld=> ?_);clear hK K' c0 c1 c2 c3 c4 c5 c6 c7 c8 hfz hHeld;refine wpAnyH_done (by kernel_rfl) ?_ _;obtain⟨w5,hw5⟩:∃w5,w5=w4.drew:=⟨_,rfl⟩;rw[←hw5];have Jm:Tn p w2 w5:=by rw[hw5];exact Jm.drew
  have Pq:=(show w5.heap[p]?=w4.heap[p]? by rw[hw5];rfl).trans hrow4;clear hw5 hT4 hT3 hrow3 hrow4;have hz4:=Jm.size;have hb4:=(Jm.block _ (by omega) (by omega)).trans HB2.out;have HRz:Hid (w5.heap[w.heap.size+1]?=_):=(Jm.block _ (by omega) (by omega)).trans HR2.out;obtain⟨b0,b1,b2,b3,b4,_,_⟩:=dR hb4;obtain⟨⟨z0,z1,z2,z3,z4,z5,z6,z7⟩,zfz,zlt⟩:=gF HRz.out;have HT4:Hid (Tn p w w5):=(Tn.of_below HL2.out.below).trans Jm;have HD4:Hid (fH p (fun k=>(B k∨w.heap.size≤k)∧k≠w.heap.size+1) w5 {d with running:=true,run:=r} tv rv (.slice ka r.known.length kc) (.slice na r.fresh.length nc) sv):=by
   have hkk:∀k,k<w2.heap.size→(B k∧k<w.heap.size)→w5.heap[k]?=w2.heap[k]?:=fun k hk hb=>Jm.block k hk (fun e=>HB.out (e▸hb.1));have hw:∀k,k<w5.heap.size→(B k∧k<w.heap.size)→(B k∨w.heap.size≤k)∧k≠w.heap.size+1:=fun k _ hb=>⟨Or.inl hb.1,by omega⟩;have hs:=Jm.size;have hD:=HD2.out;exact⟨Pq,(hD.told.kept hs hkk).mono hw,Kind.aH (Kind.aM hD.rules hs hkk) hw,(HK.out.kept hs hkk).mono hw,(HN.out.kept hs hkk).mono hw,Kind.aH (Kind.aM hD.saved hs hkk) hw⟩
  generalize r.known.length=kn at*;clear HD2 HB2 HR2 HW1 HW2 HSb Jm hb4 Pq;go_wp2;have hrow:=bg HRz.out (.int .i64 0) (.int .i64 0) (.int .i64 kn) (.slice none 0 0) (.string ⟨#[]⟩) (.slice none 0 0) (.int .i64 0) (.slice none 0 0);obtain⟨⟨r0,r1,r2,r3,r4,r5,r6,r7⟩,_,_⟩:=gF hrow;unfold kT at r0 r1 r2 r3 r4 r5 r6 r7;have hTz:=bK w5 (w.heap.size+1) (.int .i64 0) (.int .i64 0) (.int .i64 kn) (.slice none 0 0) (.string ⟨#[]⟩) (.slice none 0 0) (.int .i64 0) (.slice none 0 0);exact bodyPost_ret (v:=.agg #[.int .i64 0,.int .i64 0,.int .i64 kn,.slice none 0 0,.string ⟨#[]⟩,.slice none 0 0,.int .i64 0,.slice none 0 0]) (by simp[results,Tryz.results202,go_sem,r0,r1,r2,r3,r4,r5,r6,r7]) rfl ⟨_,rfl,by rw[HX.out];exact bW.lay (R:=w.heap.size+1) (ou.plain _ _ _ _ _) HD4.out HT4.out hTz (by omega) hp⟩
 ·have HX:Hid (kP d (er,r)=(d,nA er)):=by show _=_;unfold kP;rw[if_pos h0]
  have hne:(er != 0)=true:=by simpa using h0
  have HC:=hide (gP er w2);unfold jR at HC;generalize r.known.length=kn at*;generalize r.fresh.length=fn at*;clear h0
  go_enter Tryz.func202,Tryz.ntmps202
  go_wp2_with (first|(rw[←HW1.out])|(rw[←HW2.out])|fail)
  refine HC.out.mono ?_;rintro e w3 ⟨rfl,hB3⟩;have HRz:Hid (w3.heap[w.heap.size+1]?=_):=(hB3.block _ (by omega)).trans HR2.out;obtain⟨⟨z0,z1,z2,z3,z4,z5,z6,z7⟩,zfz,zlt⟩:=gF HRz.out;have HD3:=hide (HD2.out.below hB3);have HB3:=hide (aj HL2.out.below hB3 HL2.out.size);clear hB3 HC HW1 HW2;go_wp2;have hrow:=bg HRz.out (.int .i64 er) (.int .i64 0) (.int .i64 0) (.slice none 0 0) (.string ⟨#[]⟩) (.slice none 0 0) (.int .i64 0) (.slice none 0 0);obtain⟨⟨r0,r1,r2,r3,r4,r5,r6,r7⟩,_,_⟩:=gF hrow;unfold kT at r0 r1 r2 r3 r4 r5 r6 r7;have hTz:=bK w3 (w.heap.size+1) (.int .i64 er) (.int .i64 0) (.int .i64 0) (.slice none 0 0) (.string ⟨#[]⟩) (.slice none 0 0) (.int .i64 0) (.slice none 0 0);exact bodyPost_ret (v:=.agg #[.int .i64 er,.int .i64 0,.int .i64 0,.slice none 0 0,.string ⟨#[]⟩,.slice none 0 0,.int .i64 0,.slice none 0 0]) (by simp[results,Tryz.results202,go_sem,r0,r1,r2,r3,r4,r5,r6,r7]) rfl ⟨_,rfl,by rw[HX.out];exact bW.lay (R:=w.heap.size+1) (ou.plain _ _ _ _ _) (HD3.out.mono fun k _ hb=>⟨Or.inl hb.1,by omega⟩) (Tn.of_below HB3.out) hTz (by omega) hp⟩
end Go.Proofs.YtafmbokfkbccaaaGreatDoor
namespace Go.Proofs.YtafmbokfkbccaaaGreatDoor
open Go.RowKit Go.Sort
theorem fH.past {p m:Nat} {B:Nat→Prop} {w w':World} {d:dD} {tv rv kv nv sv:Value} (h:fH p B w d tv rv kv nv sv) (k:Below w.heap.size w w'):fH p (fun k=>(B k∧k<w.heap.size)∨m<k) w' d tv rv kv nv sv:=
 ((h.mono (B':=fun k=>B k∧k<w.heap.size) fun _ hk hb=>⟨hb,hk⟩).below k).mono fun _ _ hb=>Or.inl hb
theorem bY.past {b m:Nat} {w:World} {v:Value} {l:List au} {B:Nat→Prop} (h:bY w b v l) (hl:l.length≤1000) (hm:m<b):bC (fun k=>B k∨m<k) w v l:=(h.Li hl).mono fun _ _ hk=>Or.inr (Nat.lt_of_lt_of_le hm hk)
theorem bW.runs {p:Nat} {B:Nat→Prop} {w w2 w3:World} {v:Value} {x:dD×rM} (hB2:Below w.heap.size w w2) (hz:w.heap.size<w2.heap.size) (h:bW p (fun k=>(B k∧k<w.heap.size)∨w.heap.size<k) w2 w3 v x):
  ou (fun k=>w.heap.size≤k∧k≠w.heap.size) w3 v x.2∧(∃tv rv kv nv sv,fH p (fun k=>(B k∨w.heap.size≤k)∧k≠w.heap.size) w3 x.1 tv rv kv nv sv)∧Tn p w w3:=by
 obtain⟨⟨bv,sv,kv,rfl,a1,a2,a3⟩,⟨tv,rv,kv',nv,sv',hD⟩,hT⟩:=h;have hm:∀k,k<w3.heap.size→w2.heap.size≤k→w.heap.size≤k∧k≠w.heap.size:=fun k _ hk=>⟨by omega,by omega⟩;refine⟨⟨bv,sv,kv,rfl,Kind.aH a1 hm,Kind.aH a2 hm,Kind.aH a3 hm⟩,⟨tv,rv,kv',nv,sv',hD.mono fun k _ hk=> ?_⟩,(Tn.of_below hB2).trans hT⟩;rcases hk with(hk|hk)|hk
 ·exact⟨Or.inl hk.1,by omega⟩
 ·exact⟨Or.inr (by omega),by omega⟩
 ·exact⟨Or.inr (by omega),by omega⟩
theorem ou.slices {B:Nat→Prop} {w:World} {v:Value} {a:rM} (h:ou B w v a):∃ba bc sa sc ka kc,v=.agg #[.int .i64 a.err,.int .i64 a.place,.int .i64 a.n,.slice ba a.binds.length bc,.string a.prf.fact.1,.slice sa a.prf.fact.2.length sc,.int .i64 a.prf.rule,.slice ka a.prf.kids.length kc]:=by
 obtain⟨bv,sv,kv,rfl,a1,a2,a3⟩:=h;obtain⟨ba,bc,rfl⟩:=Kind.slice a1;obtain⟨sa,sc,rfl⟩:=Kind.slice a2;obtain⟨ka,kc,rfl⟩:=Kind.slice a3;exact⟨ba,bc,sa,sc,ka,kc,rfl⟩
set_option maxRecDepth 100000 in
set_option maxHeartbeats 2000000 in
theorem MW (p:Nat) (B:Nat→Prop) (d:dD) (tv rv kv nv sv:Value) (w:World) (hD:fH p B w d tv rv kv nv sv) (hB:¬B p):
  Calls Tryz.prog 135 #[.pointer (some ⟨p,0,none⟩)] w fun e w'=>∃v,e=.returned v∧bW p B w w' v (kP d (iN d.rules d.told)):=by
 have hp:=hD.lt;obtain⟨w1,hw1⟩:∃w1,w1=w.alloc (.cells #[.int .i64 0,.int .i64 0,.int .i64 0,.slice none 0 0,.string ⟨#[]⟩,.slice none 0 0,.int .i64 0,.slice none 0 0] 64):=⟨_,rfl⟩;have hz1:w1.heap.size=w.heap.size+1:=by rw[hw1];simp
 have hL1:Later w w1:=by rw[hw1];exact(Later.refl w).alloc _
 have hr1:w1.heap[w.heap.size]?=some (.cells #[.int .i64 0,.int .i64 0,.int .i64 0,.slice none 0 0,.string ⟨#[]⟩,.slice none 0 0,.int .i64 0,.slice none 0 0] 64 (0,0)):=by rw[hw1];exact Ic w
 have hD1:=hD.below hL1.below;obtain⟨⟨c0,c1,c2,c3,c4,c5,c6,c7,c8⟩,cfz,_⟩:=jd hD1.row;obtain⟨⟨ta,tc,rfl⟩,⟨ra,rc,rfl⟩,⟨xka,xkc,rfl⟩,⟨xna,xnc,rfl⟩,⟨xsa,xsc,rfl⟩⟩:=hD.slices;have HC:=hide (ET d.rules d.told (.slice ra d.rules.length rc) (.slice ta d.told.length tc) w1.drew (Kind.dz hD1.rules) hD1.told.facts);have HFw:Hid ((iN d.rules d.told).1=0→(iN d.rules d.told).2.known.length≤200∧(iN d.rules d.told).2.fresh.length≤200):=Fe;have HW1:=hide hw1;have HL1:=hide hL1;have HR:=hide hr1;have HD:=hide hD;have HB:=hide hB;clear hw1 hL1 hr1 hD hB hD1;unfold vE at HC;generalize iN d.rules d.told=X at*
 go_enter Tryz.func135,Tryz.ntmps135
 go_wp2_with (first|(rw[←HW1.out])|fail)
 refine wp_region_held_drew (S:=fun _=>True) (by kernel_rfl) trivial (fun hHeld=> ?_);refine ak (i:=0) (d:=some 3) (v:= ?_) rfl rfl hHeld ?_ ?_;rotate_left;focus intro w hSw;(try dsimp only at hSw);go_simp;try with_reducible rfl
 simp only[aK,aL,aze,asu];refine ak (i:=1) (d:=some 4) (v:= ?_) rfl rfl hHeld ?_ ?_;rotate_left;focus intro w hSw;(try dsimp only at hSw);go_simp;try with_reducible rfl
 simp only[aK,aL,aze,asu];refine ak (i:=2) (d:=some 5) (v:= ?_) rfl rfl hHeld ?_ ?_;rotate_left;focus intro w hSw;(try dsimp only at hSw);go_simp;try with_reducible rfl
 simp only[aK,aL,aze,asu];refine ak (i:=3) (d:=some 6) (v:= ?_) rfl rfl hHeld ?_ ?_;rotate_left;focus intro w hSw;(try dsimp only at hSw);go_simp;try with_reducible rfl
 simp only[aK,aL,aze,asu];refine ak (i:=4) (d:=some 7) (v:= ?_) rfl rfl hHeld ?_ ?_;rotate_left;focus intro w hSw;(try dsimp only at hSw);go_simp;try with_reducible rfl
 simp only[aK,aL,aze,asu];refine ak (i:=6) (d:=some 9) (v:= ?_) rfl rfl hHeld ?_ ?_;rotate_left;focus intro w hSw;(try dsimp only at hSw);go_simp;try with_reducible rfl
 simp only[aK,aL,aze,asu];refine ak (i:=7) (d:=some 10) (v:= ?_) rfl rfl hHeld ?_ ?_;rotate_left;focus intro w hSw;(try dsimp only at hSw);go_simp;try with_reducible rfl
 simp only[aK,aL,aze,asu];refine ak (i:=8) (d:=some 11) (v:= ?_) rfl rfl hHeld ?_ ?_;rotate_left;focus intro w hSw;(try dsimp only at hSw);go_simp;try with_reducible rfl
 simp only[aK,aL,aze,asu];refine ak (i:=9) (d:=some 12) (v:= ?_) rfl rfl hHeld ?_ ?_;rotate_left;focus intro w hSw;(try dsimp only at hSw);go_simp;try with_reducible rfl
 simp only[aK,aL,aze,asu];refine wpAnyH_ready (rs:=[5,10]) (by kernel_rfl) (by simp) ?_;refine AllReadyH.cons rfl (fun K' hK=> ?gA) (AllReadyH.cons rfl (fun K' hK=> ?gB) AllReadyH.nil)
 case' gA=>
  go_simp;refine hK.out _ _ trivial (fun hHeld=> ?_);clear hK K';refine wpAnyH_ready (rs:=[10]) (by kernel_rfl) (by simp) ?_;refine AllReadyH.cons rfl (fun K' hK=> ?_) AllReadyH.nil;go_simp;refine hK.out _ _ trivial (fun hHeld=> ?_);clear hK K'
 case' gB=>
  go_simp;refine hK.out _ _ trivial (fun hHeld=> ?_);clear hK K';refine wpAnyH_ready (rs:=[5]) (by kernel_rfl) (by simp) ?_;refine AllReadyH.cons rfl (fun K' hK=> ?_) AllReadyH.nil;go_simp;refine hK.out _ _ trivial (fun hHeld=> ?_);clear hK K'
 all_goals
  clear c0 c1 c2 c3 c4 c5 c6 c7 c8;refine wpAnyH_ready (rs:=[11]) (by kernel_rfl) (by simp) ?_;refine AllReadyH.cons rfl (fun K' hK=> ?_) AllReadyH.nil;go_simp;refine HC.out.mono ?_;rintro e w2 ⟨v2,er,rfl,⟨rfl,hO2⟩,hB2⟩;obtain⟨kv2,nv2,rfl,hk2,hn2⟩:=hO2;obtain⟨ka,kc,rfl⟩:=hk2.slice;obtain⟨na,nc,rfl⟩:=hn2.slice;refine hK.out _ _ trivial (fun hHeld=> ?_);clear hK K';have hB2:Below w1.heap.size w1 w2:=(Below.refl w1.heap.size w1).drew.trans hB2;have Ie:Below w.heap.size w w2:=aj HL1.out.below hB2 HL1.out.size;have hz2:w.heap.size<w2.heap.size:=by have:=hB2.size;omega
  have HRu:=hide (MV p (fun k=>(B k∧k<w.heap.size)∨w.heap.size<k) d X.1 X.2 _ _ _ _ _ ka na kc nc w2 (HD.out.past Ie) (fun h=>by rcases h with h|h;exact HB.out h.1;omega)
   (fun h0=>⟨hk2.past (by have:=(HFw.out h0).1;omega) (by show w.heap.size<w1.heap.size+1;omega),hn2.past (by have:=(HFw.out h0).2;omega) (by show w.heap.size<w1.heap.size+1;omega)⟩))
  have Lj:=(hB2.block w.heap.size (by omega)).trans HR.out;have Ll:=hide Lj;have Lm:=hide Ie;clear hk2 hn2 hB2 Ie HC Lj;refine ak (i:=12) (d:=some 15) (v:= ?_) rfl rfl hHeld ?_ ?_;rotate_left;focus intro w hSw;(try dsimp only at hSw);go_simp;try with_reducible rfl
  simp only[aK,aL,aze,asu];refine ak (i:=13) (d:=some 16) (v:= ?_) rfl rfl hHeld ?_ ?_;rotate_left;focus intro w hSw;(try dsimp only at hSw);go_simp;try with_reducible rfl
  simp only[aK,aL,aze,asu];refine wpAnyH_ready (rs:=[14]) (by kernel_rfl) (by simp) ?_;refine AllReadyH.cons rfl (fun K' hK=> ?_) AllReadyH.nil;go_simp;refine HRu.out.mono ?_;rintro e w3 ⟨v3,rfl,hDn⟩;obtain⟨hA,hDk,hT3⟩:=bW.runs Lm.out hz2 hDn;obtain⟨ba,bc,sa,sc,ka',kc',rfl⟩:=hA.slices;have HA:=hide hA;have HDk:=hide hDk;have HT3:=hide hT3;have HRz:Hid (w3.heap[w.heap.size]?=_):=(hDn.2.2.block _ hz2 (by omega)).trans Ll.out;obtain⟨⟨z0,z1,z2,z3,z4,z5,z6,z7⟩,zfz,zlt⟩:=gF HRz.out;refine hK.out _ _ trivial (fun hHeld=> ?_);clear hK K' hDn hA hDk hT3 HRu Ll Lm;obtain⟨Y,hY⟩:∃Y,kP d X=Y:=⟨_,rfl⟩;rw[hY] at HA HDk;simp only[hY];have HY:=hide hY;clear hY;refine wpAnyH_ready (rs:=[15]) (by kernel_rfl) (by simp) ?_;refine AllReadyH.cons rfl (fun K' hK=> ?_) AllReadyH.nil;go_simp;refine hK.out _ _ trivial (fun hHeld=> ?_);clear hK K' hHeld;refine wpAnyH_done (by kernel_rfl) ?_ _;go_wp2;have hrow:=bg HRz.out (.int .i64 Y.2.err) (.int .i64 Y.2.place) (.int .i64 Y.2.n) (.slice ba Y.2.binds.length bc) (.string Y.2.prf.fact.1) (.slice sa Y.2.prf.fact.2.length sc) (.int .i64 Y.2.prf.rule) (.slice ka' Y.2.prf.kids.length kc');obtain⟨⟨r0,r1,r2,r3,r4,r5,r6,r7⟩,_,_⟩:=gF hrow;unfold kT at r0 r1 r2 r3 r4 r5 r6 r7;have hTz:=bK w3 w.heap.size (.int .i64 Y.2.err) (.int .i64 Y.2.place) (.int .i64 Y.2.n) (.slice ba Y.2.binds.length bc) (.string Y.2.prf.fact.1) (.slice sa Y.2.prf.fact.2.length sc) (.int .i64 Y.2.prf.rule) (.slice ka' Y.2.prf.kids.length kc')
  obtain⟨tv3,rv3,kv3,nv3,sv3,hD3⟩:=HDk.out;exact bodyPost_ret (v:=.agg #[.int .i64 Y.2.err,.int .i64 Y.2.place,.int .i64 Y.2.n,.slice ba Y.2.binds.length bc,.string Y.2.prf.fact.1,.slice sa Y.2.prf.fact.2.length sc,.int .i64 Y.2.prf.rule,.slice ka' Y.2.prf.kids.length kc']) (by simp[results,Tryz.results135,go_sem,r0,r1,r2,r3,r4,r5,r6,r7]) rfl
   ⟨_,rfl,by rw[HY.out];exact bW.lay (R:=w.heap.size) HA.out hD3 HT3.out hTz (Nat.le_refl _) hp⟩
set_option maxRecDepth 100000 in
set_option maxHeartbeats 2000000 in
theorem Pt (p:Nat) (B:Nat→Prop) (d:dD) (n:Int) (tv rv kv nv sv:Value) (w:World) (hD:fH p B w d tv rv kv nv sv) (hB:¬B p):
  Calls Tryz.prog 136 #[.pointer (some ⟨p,0,none⟩),.int .i64 n] w fun e w'=>∃v,e=.returned v∧bW p B w w' v (vI d n):=by
 have hp:=hD.lt;obtain⟨w1,hw1⟩:∃w1,w1=w.alloc (.cells #[.int .i64 0,.int .i64 0,.int .i64 0,.slice none 0 0,.string ⟨#[]⟩,.slice none 0 0,.int .i64 0,.slice none 0 0] 64):=⟨_,rfl⟩;have hz1:w1.heap.size=w.heap.size+1:=by rw[hw1];simp
 have hL1:Later w w1:=by rw[hw1];exact(Later.refl w).alloc _
 have hr1:w1.heap[w.heap.size]?=some (.cells #[.int .i64 0,.int .i64 0,.int .i64 0,.slice none 0 0,.string ⟨#[]⟩,.slice none 0 0,.int .i64 0,.slice none 0 0] 64 (0,0)):=by rw[hw1];exact Ic w
 have hD1:=hD.below hL1.below;obtain⟨⟨c0,c1,c2,c3,c4,c5,c6,c7,c8⟩,cfz,_⟩:=jd hD1.row;obtain⟨⟨ta,tc,rfl⟩,⟨ra,rc,rfl⟩,⟨xka,xkc,rfl⟩,⟨xna,xnc,rfl⟩,⟨xsa,xsc,rfl⟩⟩:=hD.slices;have HC:=hide (ES d.rules d.run n (.slice ra d.rules.length rc) (.slice xka d.run.known.length xkc) (.slice xna d.run.fresh.length xnc) w1.drew (Kind.dz hD1.rules) hD1.known.facts hD1.fresh.facts);have HFw:Hid ((jw d.rules d.run n).1=0→(jw d.rules d.run n).2.known.length≤200∧(jw d.rules d.run n).2.fresh.length≤200):=Fb;have HW1:=hide hw1;have HL1:=hide hL1;have HR:=hide hr1;have HD:=hide hD;have HB:=hide hB;clear hw1 hL1 hr1 hD hB hD1;unfold vE at HC;cases hrun:d.running with
 |false=>
  have HX:Hid (vI d n=(d,nA 11)):=by show _=_;unfold vI;rw[if_pos hrun]
  rw[hrun] at c2;clear hrun HC HFw;have HC:=hide (gP 11 w1);unfold jR at HC
  go_enter Tryz.func136,Tryz.ntmps136
  go_wp2_with (first|(rw[←HW1.out])|fail)
  refine HC.out.mono ?_;rintro e w2 ⟨rfl,hB2⟩;have HRz:Hid (w2.heap[w.heap.size]?=_):=(hB2.block _ (by omega)).trans HR.out;obtain⟨⟨z0,z1,z2,z3,z4,z5,z6,z7⟩,zfz,zlt⟩:=gF HRz.out;have HB2:=hide (aj HL1.out.below hB2 HL1.out.size);clear hB2 HC HW1 c0 c1 c2 c3 c4 c5 c6 c7 c8;go_wp2;have hrow:=bg HRz.out (.int .i64 11) (.int .i64 0) (.int .i64 0) (.slice none 0 0) (.string ⟨#[]⟩) (.slice none 0 0) (.int .i64 0) (.slice none 0 0);obtain⟨⟨r0,r1,r2,r3,r4,r5,r6,r7⟩,_,_⟩:=gF hrow;unfold kT at r0 r1 r2 r3 r4 r5 r6 r7;have hTz:=bK w2 w.heap.size (.int .i64 11) (.int .i64 0) (.int .i64 0) (.slice none 0 0) (.string ⟨#[]⟩) (.slice none 0 0) (.int .i64 0) (.slice none 0 0);have hD2:=(HD.out.mono (B':=fun k=>B k∧k<w.heap.size) fun _ hk hb=>⟨hb,hk⟩).below HB2.out;exact bodyPost_ret (v:=.agg #[.int .i64 11,.int .i64 0,.int .i64 0,.slice none 0 0,.string ⟨#[]⟩,.slice none 0 0,.int .i64 0,.slice none 0 0]) (by simp[results,Tryz.results136,go_sem,r0,r1,r2,r3,r4,r5,r6,r7]) rfl
   ⟨_,rfl,by rw[HX.out];exact bW.lay (R:=w.heap.size) (ou.plain _ _ _ _ _) (hD2.mono fun k _ hb=>⟨Or.inl hb.1,by omega⟩) (Tn.of_below HB2.out) hTz (Nat.le_refl _) hp⟩
 |true=>
  have HX:Hid (vI d n=kP d (jw d.rules d.run n)):=by show _=_;unfold vI;rw[if_neg (by rw[hrun];simp)]
  rw[hrun] at c2;clear hrun;rw[HX.out];generalize jw d.rules d.run n=X at*;clear HX
  go_enter Tryz.func136,Tryz.ntmps136
  go_wp2_with (first|(rw[←HW1.out])|fail)
  refine wp_region_held_drew (S:=fun _=>True) (by kernel_rfl) trivial (fun hHeld=> ?_);refine ak (i:=0) (d:=some 12) (v:= ?_) rfl rfl hHeld ?_ ?_;rotate_left;focus intro w hSw;(try dsimp only at hSw);go_simp;try with_reducible rfl
  simp only[aK,aL,aze,asu];refine ak (i:=1) (d:=some 13) (v:= ?_) rfl rfl hHeld ?_ ?_;rotate_left;focus intro w hSw;(try dsimp only at hSw);go_simp;try with_reducible rfl
  simp only[aK,aL,aze,asu];refine ak (i:=2) (d:=some 14) (v:= ?_) rfl rfl hHeld ?_ ?_;rotate_left;focus intro w hSw;(try dsimp only at hSw);go_simp;try with_reducible rfl
  simp only[aK,aL,aze,asu];refine ak (i:=3) (d:=some 15) (v:= ?_) rfl rfl hHeld ?_ ?_;rotate_left;focus intro w hSw;(try dsimp only at hSw);go_simp;try with_reducible rfl
  simp only[aK,aL,aze,asu];refine ak (i:=4) (d:=some 16) (v:= ?_) rfl rfl hHeld ?_ ?_;rotate_left;focus intro w hSw;(try dsimp only at hSw);go_simp;try with_reducible rfl
  simp only[aK,aL,aze,asu];refine ak (i:=6) (d:=some 18) (v:= ?_) rfl rfl hHeld ?_ ?_;rotate_left;focus intro w hSw;(try dsimp only at hSw);go_simp;try with_reducible rfl
  simp only[aK,aL,aze,asu];refine ak (i:=7) (d:=some 19) (v:= ?_) rfl rfl hHeld ?_ ?_;rotate_left;focus intro w hSw;(try dsimp only at hSw);go_simp;try with_reducible rfl
  simp only[aK,aL,aze,asu];refine ak (i:=8) (d:=some 20) (v:= ?_) rfl rfl hHeld ?_ ?_;rotate_left;focus intro w hSw;(try dsimp only at hSw);go_simp;try with_reducible rfl
  simp only[aK,aL,aze,asu];refine ak (i:=9) (d:=some 21) (v:= ?_) rfl rfl hHeld ?_ ?_;rotate_left;focus intro w hSw;(try dsimp only at hSw);go_simp;try with_reducible rfl
  simp only[aK,aL,aze,asu];refine ak (i:=11) (d:=some 23) (v:= ?_) rfl rfl hHeld ?_ ?_;rotate_left;focus intro w hSw;(try dsimp only at hSw);go_simp;try with_reducible rfl
  simp only[aK,aL,aze,asu];refine wpAnyH_ready (rs:=[5,10]) (by kernel_rfl) (by simp) ?_;refine AllReadyH.cons rfl (fun K' hK=> ?gA) (AllReadyH.cons rfl (fun K' hK=> ?gB) AllReadyH.nil)
  case' gA=>
   go_simp;refine hK.out _ _ trivial (fun hHeld=> ?_);clear hK K';refine wpAnyH_ready (rs:=[10]) (by kernel_rfl) (by simp) ?_;refine AllReadyH.cons rfl (fun K' hK=> ?_) AllReadyH.nil;go_simp;refine hK.out _ _ trivial (fun hHeld=> ?_);clear hK K'
  case' gB=>
   go_simp;refine hK.out _ _ trivial (fun hHeld=> ?_);clear hK K';refine wpAnyH_ready (rs:=[5]) (by kernel_rfl) (by simp) ?_;refine AllReadyH.cons rfl (fun K' hK=> ?_) AllReadyH.nil;go_simp;refine hK.out _ _ trivial (fun hHeld=> ?_);clear hK K'
  all_goals
   clear c0 c1 c2 c3 c4 c5 c6 c7 c8;refine wpAnyH_ready (rs:=[12]) (by kernel_rfl) (by simp) ?_;refine AllReadyH.cons rfl (fun K' hK=> ?_) AllReadyH.nil;go_simp;refine HC.out.mono ?_;rintro e w2 ⟨v2,er,rfl,⟨rfl,hO2⟩,hB2⟩;obtain⟨kv2,nv2,rfl,hk2,hn2⟩:=hO2;obtain⟨ka,kc,rfl⟩:=hk2.slice;obtain⟨na,nc,rfl⟩:=hn2.slice;refine hK.out _ _ trivial (fun hHeld=> ?_);clear hK K';have hB2:Below w1.heap.size w1 w2:=(Below.refl w1.heap.size w1).drew.trans hB2;have Ie:Below w.heap.size w w2:=aj HL1.out.below hB2 HL1.out.size;have hz2:w.heap.size<w2.heap.size:=by have:=hB2.size;omega
   have HRu:=hide (MV p (fun k=>(B k∧k<w.heap.size)∨w.heap.size<k) d X.1 X.2 _ _ _ _ _ ka na kc nc w2 (HD.out.past Ie) (fun h=>by rcases h with h|h;exact HB.out h.1;omega)
    (fun h0=>⟨hk2.past (by have:=(HFw.out h0).1;omega) (by show w.heap.size<w1.heap.size+2;omega),hn2.past (by have:=(HFw.out h0).2;omega) (by show w.heap.size<w1.heap.size+2;omega)⟩))
   have Lj:=(hB2.block w.heap.size (by omega)).trans HR.out;have Ll:=hide Lj;have Lm:=hide Ie;clear hk2 hn2 hB2 Ie HC Lj;refine ak (i:=13) (d:=some 25) (v:= ?_) rfl rfl hHeld ?_ ?_;rotate_left;focus intro w hSw;(try dsimp only at hSw);go_simp;try with_reducible rfl
   simp only[aK,aL,aze,asu];refine ak (i:=14) (d:=some 26) (v:= ?_) rfl rfl hHeld ?_ ?_;rotate_left;focus intro w hSw;(try dsimp only at hSw);go_simp;try with_reducible rfl
   simp only[aK,aL,aze,asu];refine wpAnyH_ready (rs:=[15]) (by kernel_rfl) (by simp) ?_;refine AllReadyH.cons rfl (fun K' hK=> ?_) AllReadyH.nil;go_simp;refine HRu.out.mono ?_;rintro e w3 ⟨v3,rfl,hDn⟩;obtain⟨hA,hDk,hT3⟩:=bW.runs Lm.out hz2 hDn;obtain⟨ba,bc,sa,sc,ka',kc',rfl⟩:=hA.slices;have HA:=hide hA;have HDk:=hide hDk;have HT3:=hide hT3;have HRz:Hid (w3.heap[w.heap.size]?=_):=(hDn.2.2.block _ hz2 (by omega)).trans Ll.out;obtain⟨⟨z0,z1,z2,z3,z4,z5,z6,z7⟩,zfz,zlt⟩:=gF HRz.out;refine hK.out _ _ trivial (fun hHeld=> ?_);clear hK K' hDn hA hDk hT3 HRu Ll Lm;obtain⟨Y,hY⟩:∃Y,kP d X=Y:=⟨_,rfl⟩;rw[hY] at HA HDk;simp only[hY];have HY:=hide hY;clear hY;refine wpAnyH_ready (rs:=[16]) (by kernel_rfl) (by simp) ?_;refine AllReadyH.cons rfl (fun K' hK=> ?_) AllReadyH.nil;go_simp;refine hK.out _ _ trivial (fun hHeld=> ?_);clear hK K' hHeld;refine wpAnyH_done (by kernel_rfl) ?_ _;go_wp2;have hrow:=bg HRz.out (.int .i64 Y.2.err) (.int .i64 Y.2.place) (.int .i64 Y.2.n) (.slice ba Y.2.binds.length bc) (.string Y.2.prf.fact.1) (.slice sa Y.2.prf.fact.2.length sc) (.int .i64 Y.2.prf.rule) (.slice ka' Y.2.prf.kids.length kc');obtain⟨⟨r0,r1,r2,r3,r4,r5,r6,r7⟩,_,_⟩:=gF hrow;unfold kT at r0 r1 r2 r3 r4 r5 r6 r7;have hTz:=bK w3 w.heap.size (.int .i64 Y.2.err) (.int .i64 Y.2.place) (.int .i64 Y.2.n) (.slice ba Y.2.binds.length bc) (.string Y.2.prf.fact.1) (.slice sa Y.2.prf.fact.2.length sc) (.int .i64 Y.2.prf.rule) (.slice ka' Y.2.prf.kids.length kc')
   obtain⟨tv3,rv3,kv3,nv3,sv3,hD3⟩:=HDk.out;exact bodyPost_ret (v:=.agg #[.int .i64 Y.2.err,.int .i64 Y.2.place,.int .i64 Y.2.n,.slice ba Y.2.binds.length bc,.string Y.2.prf.fact.1,.slice sa Y.2.prf.fact.2.length sc,.int .i64 Y.2.prf.rule,.slice ka' Y.2.prf.kids.length kc']) (by simp[results,Tryz.results136,go_sem,r0,r1,r2,r3,r4,r5,r6,r7]) rfl
    ⟨_,rfl,by rw[HY.out];exact bW.lay (R:=w.heap.size) HA.out hD3 HT3.out hTz (Nat.le_refl _) hp⟩
set_option maxRecDepth 100000 in
set_option maxHeartbeats 2000000 in
theorem Pv (p:Nat) (B:Nat→Prop) (d:dD) (tv rv kv nv sv:Value) (w:World) (hD:fH p B w d tv rv kv nv sv) (hB:¬B p):
  Calls Tryz.prog 140 #[.pointer (some ⟨p,0,none⟩)] w fun e w'=>∃v,e=.returned v∧bW p B w w' v (yS d):=by
 have hp:=hD.lt;obtain⟨w1,hw1⟩:∃w1,w1=w.alloc (.cells #[.int .i64 0,.int .i64 0,.int .i64 0,.slice none 0 0,.string ⟨#[]⟩,.slice none 0 0,.int .i64 0,.slice none 0 0] 64):=⟨_,rfl⟩;have hz1:w1.heap.size=w.heap.size+1:=by rw[hw1];simp
 have hL1:Later w w1:=by rw[hw1];exact(Later.refl w).alloc _
 have hr1:w1.heap[w.heap.size]?=some (.cells #[.int .i64 0,.int .i64 0,.int .i64 0,.slice none 0 0,.string ⟨#[]⟩,.slice none 0 0,.int .i64 0,.slice none 0 0] 64 (0,0)):=by rw[hw1];exact Ic w
 have hD1:=hD.below hL1.below;obtain⟨⟨c0,c1,c2,c3,c4,c5,c6,c7,c8⟩,cfz,_⟩:=jd hD1.row;obtain⟨⟨ta,tc,rfl⟩,⟨ra,rc,rfl⟩,⟨xka,xkc,rfl⟩,⟨xna,xnc,rfl⟩,⟨xsa,xsc,rfl⟩⟩:=hD.slices;have HC:=hide (O7 d.rules d.saved (.slice ra d.rules.length rc) (.slice xsa d.saved.length xsc) w1.drew (Kind.dz hD1.rules) (dQ.of (Kind.dz hD1.saved)));have HFw:Hid ((lI d.rules d.saved).1=0→(lI d.rules d.saved).2.known.length≤200∧(lI d.rules d.saved).2.fresh.length≤200):=fun _=>Ia;have HW1:=hide hw1;have HL1:=hide hL1;have HR:=hide hr1;have HD:=hide hD;have HB:=hide hB;clear hw1 hL1 hr1 hD hB hD1
 by_cases hsv:d.saved=[]
 ·have HX:Hid (yS d=(d,nA 6)):=by show _=_;unfold yS;rw[if_pos hsv]
  have hq:d.saved.length=0:=by rw[hsv];rfl
  rw[hq] at c8;clear hsv HC HFw hq;have HC:=hide (gP 6 w1);unfold jR at HC
  go_enter Tryz.func140,Tryz.ntmps140
  go_wp2_with (first|(rw[←HW1.out])|fail)
  refine HC.out.mono ?_;rintro e w2 ⟨rfl,hB2⟩;have HRz:Hid (w2.heap[w.heap.size]?=_):=(hB2.block _ (by omega)).trans HR.out;obtain⟨⟨z0,z1,z2,z3,z4,z5,z6,z7⟩,zfz,zlt⟩:=gF HRz.out;have HB2:=hide (aj HL1.out.below hB2 HL1.out.size);clear hB2 HC HW1 c0 c1 c2 c3 c4 c5 c6 c7 c8;go_wp2;have hrow:=bg HRz.out (.int .i64 6) (.int .i64 0) (.int .i64 0) (.slice none 0 0) (.string ⟨#[]⟩) (.slice none 0 0) (.int .i64 0) (.slice none 0 0);obtain⟨⟨r0,r1,r2,r3,r4,r5,r6,r7⟩,_,_⟩:=gF hrow;unfold kT at r0 r1 r2 r3 r4 r5 r6 r7;have hTz:=bK w2 w.heap.size (.int .i64 6) (.int .i64 0) (.int .i64 0) (.slice none 0 0) (.string ⟨#[]⟩) (.slice none 0 0) (.int .i64 0) (.slice none 0 0);have hD2:=(HD.out.mono (B':=fun k=>B k∧k<w.heap.size) fun _ hk hb=>⟨hb,hk⟩).below HB2.out;exact bodyPost_ret (v:=.agg #[.int .i64 6,.int .i64 0,.int .i64 0,.slice none 0 0,.string ⟨#[]⟩,.slice none 0 0,.int .i64 0,.slice none 0 0]) (by simp[results,Tryz.results140,go_sem,r0,r1,r2,r3,r4,r5,r6,r7]) rfl
   ⟨_,rfl,by rw[HX.out];exact bW.lay (R:=w.heap.size) (ou.plain _ _ _ _ _) (hD2.mono fun k _ hb=>⟨Or.inl hb.1,by omega⟩) (Tn.of_below HB2.out) hTz (Nat.le_refl _) hp⟩
 ·have HX:Hid (yS d=kP d (lI d.rules d.saved)):=by show _=_;unfold yS;rw[if_neg hsv]
  have hq:(((d.saved.length:Nat):Int)==0)=false:=by
   cases h:d.saved with
   |nil=>exact absurd h hsv
   |cons a l=>simp;omega
  clear hsv;rw[HX.out];generalize lI d.rules d.saved=X at*;clear HX
  go_enter Tryz.func140,Tryz.ntmps140
  go_wp2_with (first|(rw[←HW1.out])|fail)
  refine wp_region_held_drew (S:=fun _=>True) (by kernel_rfl) trivial (fun hHeld=> ?_);refine ak (i:=0) (d:=some 11) (v:= ?_) rfl rfl hHeld ?_ ?_;rotate_left;focus intro w hSw;(try dsimp only at hSw);go_simp;try with_reducible rfl
  simp only[aK,aL,aze,asu];refine ak (i:=1) (d:=some 12) (v:= ?_) rfl rfl hHeld ?_ ?_;rotate_left;focus intro w hSw;(try dsimp only at hSw);go_simp;try with_reducible rfl
  simp only[aK,aL,aze,asu];refine ak (i:=2) (d:=some 13) (v:= ?_) rfl rfl hHeld ?_ ?_;rotate_left;focus intro w hSw;(try dsimp only at hSw);go_simp;try with_reducible rfl
  simp only[aK,aL,aze,asu];refine ak (i:=3) (d:=some 14) (v:= ?_) rfl rfl hHeld ?_ ?_;rotate_left;focus intro w hSw;(try dsimp only at hSw);go_simp;try with_reducible rfl
  simp only[aK,aL,aze,asu];refine ak (i:=4) (d:=some 15) (v:= ?_) rfl rfl hHeld ?_ ?_;rotate_left;focus intro w hSw;(try dsimp only at hSw);go_simp;try with_reducible rfl
  simp only[aK,aL,aze,asu];refine ak (i:=6) (d:=some 17) (v:= ?_) rfl rfl hHeld ?_ ?_;rotate_left;focus intro w hSw;(try dsimp only at hSw);go_simp;try with_reducible rfl
  simp only[aK,aL,aze,asu];refine ak (i:=7) (d:=some 18) (v:= ?_) rfl rfl hHeld ?_ ?_;rotate_left;focus intro w hSw;(try dsimp only at hSw);go_simp;try with_reducible rfl
  simp only[aK,aL,aze,asu];refine ak (i:=8) (d:=some 19) (v:= ?_) rfl rfl hHeld ?_ ?_;rotate_left;focus intro w hSw;(try dsimp only at hSw);go_simp;try with_reducible rfl
  simp only[aK,aL,aze,asu];refine ak (i:=9) (d:=some 20) (v:= ?_) rfl rfl hHeld ?_ ?_;rotate_left;focus intro w hSw;(try dsimp only at hSw);go_simp;try with_reducible rfl
  simp only[aK,aL,aze,asu];refine wpAnyH_ready (rs:=[5,10]) (by kernel_rfl) (by simp) ?_;refine AllReadyH.cons rfl (fun K' hK=> ?gA) (AllReadyH.cons rfl (fun K' hK=> ?gB) AllReadyH.nil)
  case' gA=>
   go_simp;refine hK.out _ _ trivial (fun hHeld=> ?_);clear hK K';refine wpAnyH_ready (rs:=[10]) (by kernel_rfl) (by simp) ?_;refine AllReadyH.cons rfl (fun K' hK=> ?_) AllReadyH.nil;go_simp;refine hK.out _ _ trivial (fun hHeld=> ?_);clear hK K'
  case' gB=>
   go_simp;refine hK.out _ _ trivial (fun hHeld=> ?_);clear hK K';refine wpAnyH_ready (rs:=[5]) (by kernel_rfl) (by simp) ?_;refine AllReadyH.cons rfl (fun K' hK=> ?_) AllReadyH.nil;go_simp;refine hK.out _ _ trivial (fun hHeld=> ?_);clear hK K'
  all_goals
   clear c0 c1 c2 c3 c4 c5 c6 c7 c8;refine wpAnyH_ready (rs:=[11]) (by kernel_rfl) (by simp) ?_;refine AllReadyH.cons rfl (fun K' hK=> ?_) AllReadyH.nil;go_simp;refine HC.out.mono ?_;rintro e w2 ⟨v2,rfl,hO2,hB2⟩;obtain⟨kv2,nv2,rfl,hk2,hn2⟩:=hO2;obtain⟨ka,kc,rfl⟩:=hk2.slice;obtain⟨na,nc,rfl⟩:=hn2.slice;refine hK.out _ _ trivial (fun hHeld=> ?_);clear hK K';have hB2:Below w1.heap.size w1 w2:=(Below.refl w1.heap.size w1).drew.trans hB2;have Ie:Below w.heap.size w w2:=aj HL1.out.below hB2 HL1.out.size;have hz2:w.heap.size<w2.heap.size:=by have:=hB2.size;omega
   have HRu:=hide (MV p (fun k=>(B k∧k<w.heap.size)∨w.heap.size<k) d X.1 X.2 _ _ _ _ _ ka na kc nc w2 (HD.out.past Ie) (fun h=>by rcases h with h|h;exact HB.out h.1;omega)
    (fun h0=>⟨hk2.past (by have:=(HFw.out h0).1;omega) (by show w.heap.size<w1.heap.size+1;omega),hn2.past (by have:=(HFw.out h0).2;omega) (by show w.heap.size<w1.heap.size+1;omega)⟩))
   have Lj:=(hB2.block w.heap.size (by omega)).trans HR.out;have Ll:=hide Lj;have Lm:=hide Ie;clear hk2 hn2 hB2 Ie HC Lj;refine ak (i:=12) (d:=some 23) (v:= ?_) rfl rfl hHeld ?_ ?_;rotate_left;focus intro w hSw;(try dsimp only at hSw);go_simp;try with_reducible rfl
   simp only[aK,aL,aze,asu];refine ak (i:=13) (d:=some 24) (v:= ?_) rfl rfl hHeld ?_ ?_;rotate_left;focus intro w hSw;(try dsimp only at hSw);go_simp;try with_reducible rfl
   simp only[aK,aL,aze,asu];refine wpAnyH_ready (rs:=[14]) (by kernel_rfl) (by simp) ?_;refine AllReadyH.cons rfl (fun K' hK=> ?_) AllReadyH.nil;go_simp;refine HRu.out.mono ?_;rintro e w3 ⟨v3,rfl,hDn⟩;obtain⟨hA,hDk,hT3⟩:=bW.runs Lm.out hz2 hDn;obtain⟨ba,bc,sa,sc,ka',kc',rfl⟩:=hA.slices;have HA:=hide hA;have HDk:=hide hDk;have HT3:=hide hT3;have HRz:Hid (w3.heap[w.heap.size]?=_):=(hDn.2.2.block _ hz2 (by omega)).trans Ll.out;obtain⟨⟨z0,z1,z2,z3,z4,z5,z6,z7⟩,zfz,zlt⟩:=gF HRz.out;refine hK.out _ _ trivial (fun hHeld=> ?_);clear hK K' hDn hA hDk hT3 HRu Ll Lm;obtain⟨Y,hY⟩:∃Y,kP d X=Y:=⟨_,rfl⟩;rw[hY] at HA HDk;simp only[hY];have HY:=hide hY;clear hY;refine wpAnyH_ready (rs:=[15]) (by kernel_rfl) (by simp) ?_;refine AllReadyH.cons rfl (fun K' hK=> ?_) AllReadyH.nil;go_simp;refine hK.out _ _ trivial (fun hHeld=> ?_);clear hK K' hHeld;refine wpAnyH_done (by kernel_rfl) ?_ _;go_wp2;have hrow:=bg HRz.out (.int .i64 Y.2.err) (.int .i64 Y.2.place) (.int .i64 Y.2.n) (.slice ba Y.2.binds.length bc) (.string Y.2.prf.fact.1) (.slice sa Y.2.prf.fact.2.length sc) (.int .i64 Y.2.prf.rule) (.slice ka' Y.2.prf.kids.length kc');obtain⟨⟨r0,r1,r2,r3,r4,r5,r6,r7⟩,_,_⟩:=gF hrow;unfold kT at r0 r1 r2 r3 r4 r5 r6 r7;have hTz:=bK w3 w.heap.size (.int .i64 Y.2.err) (.int .i64 Y.2.place) (.int .i64 Y.2.n) (.slice ba Y.2.binds.length bc) (.string Y.2.prf.fact.1) (.slice sa Y.2.prf.fact.2.length sc) (.int .i64 Y.2.prf.rule) (.slice ka' Y.2.prf.kids.length kc')
   obtain⟨tv3,rv3,kv3,nv3,sv3,hD3⟩:=HDk.out;exact bodyPost_ret (v:=.agg #[.int .i64 Y.2.err,.int .i64 Y.2.place,.int .i64 Y.2.n,.slice ba Y.2.binds.length bc,.string Y.2.prf.fact.1,.slice sa Y.2.prf.fact.2.length sc,.int .i64 Y.2.prf.rule,.slice ka' Y.2.prf.kids.length kc']) (by simp[results,Tryz.results140,go_sem,r0,r1,r2,r3,r4,r5,r6,r7]) rfl
    ⟨_,rfl,by rw[HY.out];exact bW.lay (R:=w.heap.size) HA.out hD3 HT3.out hTz (Nat.le_refl _) hp⟩
end Go.Proofs.YtafmbokfkbccaaaGreatDoor
