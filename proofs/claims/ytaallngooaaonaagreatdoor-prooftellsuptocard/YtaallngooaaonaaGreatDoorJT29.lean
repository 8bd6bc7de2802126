import Derived.Test.YtaallngooaaonaaGreatDoorJT27
import Derived.Test.YtaallngooaaonaaGreatDoorJT28
import Derived.Test.YtaallngooaaonaaGreatDoorJT18
open Go.RowKit Go.Sort Go.Maps
set_option maxHeartbeats 4000000
set_option maxRecDepth 100000
namespace Go.Proofs.YtaallngooaaonaaGreatDoor
def uS (v:Value):Option (DataW Value×List MemPlace):=some (.held v,[])
def Z0 (w:World) (v:Value) (x:Int×List aA):Prop:=∃u,v=.agg #[.int .i64 x.1,u]∧Facts w u x.2
def Pn (B:Nat→Prop) (w:World) (v:Value) (x:Int×List aA):Prop:=∃u,v=.agg #[.int .i64 x.1,u]∧eX B w u x.2
def jU (B:Nat→Prop) (w:World) (mb n:Nat) (all:List aA) (how:aA→Int×List aA):Prop:=
 ∃D:DataW Value,w.ownsMap Tryz.prog 3 uS mb n D∧∀k:Nat,Maps.has D (.int .i64 (k:Int))=true→∃v f,all[k]?=some f∧(∀z,D.atKey (.int .i64 (k:Int)) z=.held v)∧Pn B w v (how f)
theorem jU.made (B:Nat→Prop) (w:World) (all:List aA) (how:aA→Int×List aA):jU B (w.alloc (.map #[] 0)) w.heap.size 0 all how:=⟨.map [],World.ownsMap_made _ _ _ _,fun k h=>by simp[Maps.has] at h⟩
theorem jU.lt {B:Nat→Prop} {w:World} {mb n:Nat} {all:List aA} {how:aA→Int×List aA} (h:jU B w mb n all how):mb<w.heap.size:=by obtain⟨D,h,_⟩:=h;exact h.lt
theorem jU.isMap {B:Nat→Prop} {w:World} {mb n:Nat} {all:List aA} {how:aA→Int×List aA} (h:jU B w mb n all how):∃es c,w.heap[mb]?=some (.map es c):=by obtain⟨D,⟨es,c,hb,_⟩,_⟩:=h;exact⟨es,c,hb⟩
theorem jU.kept {B:Nat→Prop} {w w':World} {mb n:Nat} {all:List aA} {how:aA→Int×List aA} (h:jU B w mb n all how) (e:w'.heap[mb]?=w.heap[mb]?) (hs:w.heap.size≤w'.heap.size) (hk:∀k,k<w.heap.size→B k→w'.heap[k]?=w.heap[k]?):jU B w' mb n all how:=by obtain⟨D,h1,h2⟩:=h;refine⟨D,dN h1 e,fun k hk'=>?_⟩;obtain⟨v,f,h3,h4,u,h5,h6⟩:=h2 k hk';exact⟨v,f,h3,h4,u,h5,h6.kept hs hk⟩
theorem jU.mono {B B':Nat→Prop} {w:World} {mb n:Nat} {all:List aA} {how:aA→Int×List aA} (h:jU B w mb n all how) (hm:∀k,k<w.heap.size→B k→B' k):jU B' w mb n all how:=by obtain⟨D,h1,h2⟩:=h;refine⟨D,h1,fun k hk'=>?_⟩;obtain⟨v,f,h3,h4,u,h5,h6⟩:=h2 k hk';exact⟨v,f,h3,h4,u,h5,h6.mono hm⟩
theorem jU.below {B:Nat→Prop} {w w':World} {mb n:Nat} {all:List aA} {how:aA→Int×List aA} (h:jU B w mb n all how) (k:Below w.heap.size w w'):jU B w' mb n all how:=h.kept (k.block mb h.lt) k.size fun i hi _=>k.block i hi
theorem Oq (w:World):(zeroValue 96).run Tryz.prog w=.ok (.agg #[.int .i64 0,.slice none 0 0]) w:=by kernel_rfl
theorem MJ {k:Nat} (h:k≤1000000):(Lit.int .i64 (k:Int)).wf=true:=by unfold Lit.wf;simp;exact⟨by show(-9223372036854775808:Int)≤_;omega,by omega⟩
theorem jU.look {B:Nat→Prop} {w:World} {mb n:Nat} {all:List aA} {how:aA→Int×List aA} (h:jU B w mb n all how) {k:Nat} (hk:k≤1000000) {f:aA} (hf:all[k]?=some f):
  ∃v b,(Instr.lookup 50 (.map (some mb)) (.int .i64 (k:Int)) true).run Tryz.prog w=.ok (.tuple #[v,.bool b]) w∧(b=true→Pn B w v (how f))∧∃r a n c,v=.agg #[.int .i64 r,.slice a n c]:=by
 obtain⟨D,hown,hD⟩:=h;obtain⟨v,ps,hrun,hv⟩:=hown.look_ok (int_keyed Tryz.underlying3) Tryz.underlying50 (Oq w) (rfl:uS _=some (_,_)) (keyOf_int_mk Tryz.underlying3 (MJ hk));have e:D.atKey (.int .i64 (k:Int)) (.held (.agg #[.int .i64 0,.slice none 0 0]))=.held v:=by unfold uS at hv;simp only[Option.some.injEq,Prod.mk.injEq] at hv;exact hv.1.symm
 cases hb:Maps.has D (.int .i64 (k:Int)) with
 |true=>
  obtain⟨v',f',h3,h4,h5⟩:=hD k hb;rw[h4] at e
  injection e with e
  subst e;rw[hf] at h3;cases h3;refine⟨v',true,by rw[hrun,hb],fun _=>h5,?_⟩;obtain⟨u,rfl,hu⟩:=h5;obtain⟨a,c,rfl⟩:=aF hu.facts;exact⟨_,a,_,c,rfl⟩
 |false=>
  have e2:=Maps.atKey_of_not_has (D:=D) (k:=.int .i64 (k:Int)) hb (.held (.agg #[.int .i64 0,.slice none 0 0]));rw[e2] at e
  injection e with e
  subst e;exact⟨_,false,by rw[hrun,hb],fun h=>(by cases h),_,_,_,_,rfl⟩
theorem jU.store {B:Nat→Prop} {w:World} {mb n:Nat} {all:List aA} {how:aA→Int×List aA} (h:jU B w mb n all how) (hB:∀k,B k→k≠mb) (hn:n<maxLen) {k:Nat} (hk:k≤1000000) {f:aA} (hf:all[k]?=some f) {v:Value} (hv:Pn B w v (how f)):
  ∃w',(Instr.mapUpdate 50 (.map (some mb)) (.int .i64 (k:Int)) v).run Tryz.prog w=.ok () w'∧jU B w' mb (n+1) all how∧Tn mb w w':=by
 obtain⟨D,hown,hD⟩:=h;obtain⟨w',hrun,r1,r2⟩:=hown.update (int_keyed Tryz.underlying3) Tryz.underlying50 hn (keyOf_int_mk Tryz.underlying3 (MJ hk)) (rfl:uS v=some (_,_));have hT:=gV r2;have hWa:∀{x:Value} {y:Int×List aA},Pn B w x y→Pn B w' x y:=fun {x y} ⟨u,e,hu⟩=>⟨u,e,hu.kept hT.size fun i hi hb=>hT.block i hi (hB i hb)⟩;refine⟨w',hrun,⟨_,r1,fun j hj=>?_⟩,hT⟩
 by_cases e:j=k
 ·subst e;exact⟨v,f,hf,fun z=>by rw[atKey_put_same (k:=.int .i64 (j:Int)) hown.isMap trivial],hWa hv⟩
 have hne:(Lit.int .i64 (j:Int))≠ .int .i64 (k:Int):=fun h=>by injection h with _ h;omega
 rw[has_put_other hne] at hj;obtain⟨v',f',h3,h4,h5⟩:=hD j hj;exact⟨v',f',h3,fun z=>by rw[atKey_put_other hne];exact h4 z,hWa h5⟩
theorem Le {l:List aA} {g:aA} (hr:fP l) (hg:g∈l) {m:Nat} (hm:m≤l.length) (ha:∀t,t<m→fO (l.getD t aC) g<0) (hb:∀t,m≤t→t<l.length→0≤fO (l.getD t aC) g):l[m]?=some g:=by have h:=meet hr hm ha hb;rw[qK.2 hg] at h;have h:=h.symm;rw[Bool.and_eq_true,decide_eq_true_eq,decide_eq_true_eq] at h;have e:=aW.zero _ _ h.2;rw[List.getD_eq_getElem?_getD,List.getElem?_eq_getElem h.1] at e;rw[List.getElem?_eq_getElem h.1];exact congrArg some e
theorem PrS.tn {w w':World} {P lo:Nat} {pv tv:Value} {c d:Int} {mb:Nat} {all:List aA} {PS:List (List aA)} (h:PrS w P lo pv tv c d mb all PS) (hm:∃es q,w.heap[mb]?=some (.map es q)) (k:Tn mb w w') (hne:P≠mb) (hlo:mb<lo):PrS w' P lo pv tv c d mb all PS:=by
 obtain⟨av,sv,xs,h1,h2,h3,h4,h5⟩:=h.has;refine⟨av,sv,xs,h1.block (k.block P h1.cells.2.2.2.2.2.2.2 hne),?_,yY h3 hm k,h4,fun i u l hu hl=>yY (h5 i u l hu hl) hm k⟩;rcases h2 with e|h2;·exact Or.inl e
 exact Or.inr (h2.block fun i hi hl=>k.block i hi (by omega))
structure PrX (B:Nat→Prop) (w:World) (P lo:Nat) (pv tv:Value) (c d:Int) (mb n:Nat) (all:List aA) (PS:List (List aA)) (how:aA→Int×List aA):Prop where
 st:PrS w P lo pv tv c d mb all PS
 ways:jU B w mb n all how
 ne:P≠mb
 lo1:P<lo
 lo2:mb<lo
 lo3:lo≤w.heap.size
theorem PrX.below {B:Nat→Prop} {w w':World} {P lo:Nat} {pv tv:Value} {c d:Int} {mb n:Nat} {all:List aA} {PS:List (List aA)} {how:aA→Int×List aA} (h:PrX B w P lo pv tv c d mb n all PS how) (k:Below w.heap.size w w'):PrX B w' P lo pv tv c d mb n all PS how:=
 ⟨h.st.below k,h.ways.below k,h.ne,h.lo1,h.lo2,Nat.le_trans h.lo3 k.size⟩
theorem PrX.mono {B B':Nat→Prop} {w:World} {P lo:Nat} {pv tv:Value} {c d:Int} {mb n:Nat} {all:List aA} {PS:List (List aA)} {how:aA→Int×List aA} (h:PrX B w P lo pv tv c d mb n all PS how) (hm:∀k,k<w.heap.size→B k→B' k):PrX B' w P lo pv tv c d mb n all PS how:=
 ⟨h.st,h.ways.mono hm,h.ne,h.lo1,h.lo2,h.lo3⟩
structure Grd (w0:World) (P:Nat) (p:List aG) (told all:List aA) (PS:List (List aA)) (pv tv:Value):Prop where
 low:w0.heap.size≤P
 rules:eP.sl bf w0 pv p
 Ue:Facts w0 tv told
 rt:fP told
 ra:fP all
 rs:∀l∈PS,fP l
 sm:PS.length≤1000000
 old:∀f∈all,inB told f=false→1≤dJ PS f∧dJ PS f<PS.length
 sh:∀r∈p,r.head.terms.length≤4∧r.body.length≤5∧∀a∈r.body,a.terms.length≤4
 few:p.length≤16
 YP:all.length≤200
theorem Uf (B:Nat→Prop) (p:List aG) (told all:List aA) (PS:List (List aA)) (f:aA) (P lo:Nat) (pv tv fv:Value) (c d:Int) (mb n:Nat) (w0 w:World) (hG:Grd w0 P p told all PS pv tv) (hB0:Below w0.heap.size w0 w) (hX:PrX B w P lo pv tv c d mb n all PS (mQ (jv all) p told all PS)) (hBm:∀k,B k→k≠mb) (hBn:∀k,w.heap.size≤k→B k) (hf:dD w fv f) (hfa:f∈all) (hn:n≤1000):
  Calls Tryz.prog 41 #[.pointer (some ⟨P,0,none⟩),fv] w fun e w'=>∃v n',e=.returned v∧Pn B w' v (mQ (jv all) p told all PS f)∧PrX B w' P lo pv tv c d mb n' all PS (mQ (jv all) p told all PS)∧n'≤n+1∧Tn mb w w':=by
 obtain⟨how,DY⟩:∃how,how=mQ (jv all) p told all PS:=⟨_,rfl⟩;rw[←DY] at hX⊢;obtain⟨s,rfl,hs⟩:=hf;obtain⟨sa,sc,rfl⟩:=bA hs;obtain⟨av,sv,xs,hPB,Ug,hFa,hxl,hx⟩:=hX.st.has;obtain⟨aa,ac,hav⟩:=aF hFa;subst hav;have hne:=hX.ne;have hlo1:=hX.lo1;have hlo2:=hX.lo2;have hlo3:=hX.lo3;obtain⟨w1,hw1⟩:∃w1,w1=(w.alloc (.cells #[.string f.1,.slice sa f.2.length sc] 27)).alloc (.cells #[.int .i64 0,.slice none 0 0] 96):=⟨_,rfl⟩;have hL1:ak w w1:=by rw[hw1];exact((ak.refl w).alloc _).alloc _
 have hs1:w1.heap.size=w.heap.size+2:=by rw[hw1];simp
 have hr0:w1.heap[w.heap.size]?=some (.cells #[.string f.1,.slice sa f.2.length sc] 27 (0,0)):=by
  rw[hw1];simp only[bV,World.size_alloc]
  repeat (first|rw[if_pos trivial]|rw[if_pos (by omega)]|rw[if_neg (by omega)])
 have hr1:w1.heap[w.heap.size+1]?=some (.cells #[.int .i64 0,.slice none 0 0] 96 (0,0)):=by
  rw[hw1];simp only[bV,World.size_alloc]
  repeat (first|rw[if_pos trivial]|rw[if_pos (by omega)]|rw[if_neg (by omega)])
 have HCe:Hid (∀w',Below w1.heap.size w1 w'→w'.cell? ⟨P,2,none⟩=some (.slice aa all.length ac)∧w'.cell? ⟨P,6,none⟩=some (.map (some mb))∧w'.cell? ⟨w.heap.size,0,none⟩=some (.string f.1)∧w'.cell? ⟨w.heap.size,0+1,none⟩=some (.slice sa f.2.length sc)):=fun w' h=>by have hB:=(hPB.below hL1.below).below h;have h0:=(h.block _ (by omega)).trans hr0;exact⟨hB.cells.2.2.1,hB.cells.2.2.2.2.2.2.1,by rw[cell_of_row _ _ _ _ _ _ h0];rfl,by rw[cell_of_row _ _ _ _ _ _ h0];rfl⟩
 have HSe:Hid (∀w',ak w1 w'→Calls Tryz.prog 67 #[.slice aa all.length ac,.agg #[.string f.1,.slice sa f.2.length sc],.func (.func 68) #[] #[]] w' fun e w''=>∃k:Nat,e=.returned (.tuple #[.int .i64 (k:Int),.bool (dY all f 0)])∧Hid (all[k]?=some f)∧Hid (ak w' w'')):=fun w' h=>by have hh:=hL1.trans h;have:=Om (.slice aa all.length ac) (.agg #[.string f.1,.slice sa f.2.length sc]) all f w' (hFa.later hh) ⟨_,rfl,hs.later hh⟩ hG.ra;exact this.mono fun e w'' ⟨k,h1,⟨h2,h3,h4⟩,h5⟩=>⟨k,h1,Le hG.ra hfa h2 h3 h4,h5⟩
 have HFd:Hid (∀w',Below w.heap.size w w'→Calls Tryz.prog 69 #[.pointer (some ⟨P,0,none⟩),.agg #[.string f.1,.slice sa f.2.length sc]] w' fun e w''=>∃v,e=.returned (.agg #[.int .i64 (how f).1,v])∧eX (From w'.heap.size) w'' v (how f).2∧Hid (Below w'.heap.size w' w'')):=fun w' h=>by have h0:=aj hB0 h hB0.size;rw[DY];exact Ua p told all PS f P lo pv tv _ c d mb w' (hX.st.below h) (aB.aJ hG.rules h0) (hG.Ue.below h0) hG.rt hG.rs ⟨_,rfl,hs.below h⟩ (hG.old f hfa) hG.sm hG.sh hG.few
 have HX:=au hX;have HBm:=au hBm;have HBn:=au hBn;have HL1:=au hL1;have HR1:=au hr1;have HW1:=au hw1;have YQ:=hG.YP;clear hBm hBn hG hB0 hX hs hPB Ug hFa hxl hx hL1 hr0 hr1 hw1 DY;have HFin:Hid (∀(y:Int) (a':Option Addr) (n' c':Nat) (of:List aA) (wr:World),wr.heap[w.heap.size+1]?=some (.cells #[.int .i64 0,.slice none 0 0] 96 (0,0))→eX (fun k=>B k∧k≠w.heap.size+1) wr (.slice a' n' c') of→((((wr.setCell ⟨w.heap.size+1,0,none⟩ (.int .i64 y)).setCell ⟨w.heap.size+1,1,none⟩ (.slice a' n' c')).cell? ⟨w.heap.size+1,0,none⟩=some (.int .i64 y)∧((wr.setCell ⟨w.heap.size+1,0,none⟩ (.int .i64 y)).setCell ⟨w.heap.size+1,1,none⟩ (.slice a' n' c')).cell? ⟨w.heap.size+1,1,none⟩=some (.slice a' n' c'))∧eX B ((wr.setCell ⟨w.heap.size+1,0,none⟩ (.int .i64 y)).setCell ⟨w.heap.size+1,1,none⟩ (.slice a' n' c')) (.slice a' n' c') of∧Tn (w.heap.size+1) wr ((wr.setCell ⟨w.heap.size+1,0,none⟩ (.int .i64 y)).setCell ⟨w.heap.size+1,1,none⟩ (.slice a' n' c')))):=fun y a' n' c' of wr hrr hF=>by obtain⟨k1,k2⟩:=Cr hrr y a' n' c';exact⟨⟨by rw[cell_of_row _ _ _ _ _ _ k1];rfl,by rw[cell_of_row _ _ _ _ _ _ k1];rfl⟩,(hF.kept k2.size fun k hk hB=>k2.block k hk hB.2).mono fun k _ hB=>hB.1,k2⟩
 obtain⟨fn,aH⟩:=f;dsimp only at*
 go_enter Tryz.func41,Tryz.ntmps41
 go_wp2_with (first|(rw[←HW1.out])|fail)
 refine wp_region_held_drew (S:=fun w'=>ak w1 w') (by kernel_rfl) (ak.refl _).drew (fun hHeld=>?_);refine tkY 0 10 hHeld ?_;refine tkY 1 11 hHeld ?_;refine tkY 2 12 hHeld ?_;refine tkY 3 13 hHeld ?_;refine tkY 4 14 hHeld ?_ rfl fun w hSw=>by obtain⟨p0,p1,p3,p4⟩:=HCe.out _ hSw.below;go_simp;try with_reducible rfl
 refine tkY 5 15 hHeld ?_ rfl fun w hSw=>by obtain⟨p0,p1,p3,p4⟩:=HCe.out _ hSw.below;go_simp;try with_reducible rfl
 refine tkC 6 fun K hK=>?_;go_simp;refine(HSe.out _ hHeld).mono ?_;rintro e w2 ⟨k,rfl,hk,hL2⟩;have hL2':=hHeld.trans hL2.out;refine hK.out _ _ hL2' (fun hHeld=>?_);clear hK K;refine tkY 7 9 hHeld ?_;refine tkY 8 17 hHeld ?_;refine tkY 9 18 hHeld ?_;refine tkY 10 5 hHeld ?_;refine tkY 11 6 hHeld ?_;refine wpAnyH_done (by kernel_rfl) ?_ _;clear hHeld hL2;have hkl:k<all.length:=(List.getElem?_eq_some_iff.1 hk.out).1;have YR:=hL2'.size;have La:=HL1.out.trans hL2';have hX2:=(HX.out.mono (B':=fun k=>B k∧k≠w.heap.size+1) fun k hk hB=>⟨hB,by omega⟩).below La.below;obtain⟨lv,lb,hlk,hlw,lr,la,ln,lc,rfl⟩:=hX2.ways.look (k:=k) (by omega) hk.out;obtain⟨_,q6,_,_⟩:=HCe.out w2 hL2'.below;obtain⟨w3,hw3⟩:∃w3,w3=w2.alloc (.cells #[.int .i64 lr,.slice la ln lc] 96):=⟨_,rfl⟩;have hL3:ak w2 w3:=by rw[hw3];exact(ak.refl w2).alloc _
 have hR3:w3.heap[w2.heap.size]?=some (.cells #[.int .i64 lr,.slice la ln lc] 96 (0,0)):=by rw[hw3];exact heap_alloc_new w2 _
 have hlt3:w2.heap.size<w3.heap.size:=(Array.getElem?_eq_some_iff.1 hR3).1;have sG:w3.heap[w.heap.size+1]?=some (.cells #[.int .i64 0,.slice none 0 0] 96 (0,0)):=((hL2'.trans hL3).block (by omega)).trans HR1.out;have hX3:=hX2.below hL3.below;have HLk:=au hlk;have HW3:=au hw3;have HL3:=au (La.trans hL3);have hsz2:=La.size;cases lb with
 |true=>
  obtain⟨u,hue,hFu⟩:=hlw rfl;simp only[Value.agg.injEq,Array.mk.injEq,List.cons.injEq,Value.int.injEq,true_and,and_true] at hue;obtain⟨rfl,rfl⟩:=hue;have V9:=hFu.below hL3.below;obtain⟨⟨z0,z1⟩,z2,z3⟩:=HFin.out (how (fn,aH)).1 la ln lc (how (fn,aH)).2 w3 sG V9;have x0:w3.cell? ⟨w2.heap.size,0,none⟩=some (.int .i64 (how (fn,aH)).1):=by rw[cell_of_row _ _ _ _ _ _ hR3];rfl
  have x1:w3.cell? ⟨w2.heap.size,0+1,none⟩=some (.slice la ln lc):=by rw[cell_of_row _ _ _ _ _ _ hR3];rfl
  obtain⟨t0,t1,t2,t3,_⟩:=iH sG;have hB4:Below w3.heap.size w3 w3:=Below.refl _ _;have hBf:Below w.heap.size w ((w3.setCell ⟨w.heap.size+1,0,none⟩ (.int .i64 (how (fn,aH)).1)).setCell ⟨w.heap.size+1,1,none⟩ (.slice la ln lc)):=aj HL3.out.below (z3.below (n:=w.heap.size) (by omega) (by omega)) (Nat.le_refl _);have HZ:=au (And.intro z0 (And.intro z1 (And.intro z2 hBf)));clear hlk hlw hFu V9 hw3 hL3 hR3 sG hX2 hX3 hL2' La z0 z1 z2 z3 hB4 hBf HFd HSe HFin
  go_wp2_with (first|(rw[←HW3.out])|(at_lookup;refine bP _ rfl _ _ _ _ rfl _ _ _ rfl rfl HLk.out ?_))
  obtain⟨z0,z1,z2,hBf⟩:=HZ.out;exact bodyPost_ret (v:=.agg #[.int .i64 (how (fn,aH)).1,.slice la ln lc]) (by simp[results,Tryz.results41,go_sem,z0,z1]) rfl ⟨_,n,rfl,⟨_,rfl,z2⟩,HX.out.below hBf,Nat.le_succ _,Tn.of_below hBf⟩
 |false=>
  have HF3:=au (HFd.out w3 HL3.out.below);obtain⟨_,_,y3,y4⟩:=HCe.out w3 (hL2'.trans hL3).below;have HX3:=au hX3;have HR3:=au hR3;have Lf:=au sG;have HK:=au hk.out;have HB3:=au (hL2'.trans hL3).below;clear hlk hlw hw3 hL3 hR3 sG hX2 hX3 hL2' La HFd HSe hk
  go_wp2_with (first|(rw[←HW3.out])|(at_lookup;refine bP _ rfl _ _ _ _ rfl _ _ _ rfl rfl HLk.out ?_)|fail)
  refine HF3.out.mono ?_;rintro e w4 ⟨v4,rfl,hF4,hB4⟩;obtain⟨a4,c4,rfl⟩:=aF hF4.facts;have hr4:=(hB4.out.block _ hlt3).trans HR3.out;obtain⟨t0,t1,t2,t3,_⟩:=iH hr4;obtain⟨k1,k2⟩:=Cr hr4 (how (fn,aH)).1 a4 (how (fn,aH)).2.length c4;obtain⟨w5,hw5⟩:∃w5,w5=(w4.setCell ⟨w2.heap.size,0,none⟩ (.int .i64 (how (fn,aH)).1)).setCell ⟨w2.heap.size,1,none⟩ (.slice a4 (how (fn,aH)).2.length c4):=⟨_,rfl⟩;rw[←hw5] at k1 k2;have hF5:=hF4.kept k2.size fun k hk (hB:w3.heap.size≤k)=>k2.block k hk (by omega);have hszA:=HL3.out.size;have VU:=hB4.out.size;have Uh:Below w2.heap.size w3 w5:=aj (aj (Below.refl w2.heap.size w3) hB4.out (by omega)) (k2.below (n:=w2.heap.size) (Nat.le_refl _) (by omega)) (Nat.le_refl _);have DZ:Below w.heap.size w w5.drew:=(aj HL3.out.below Uh (by omega)).drew;have hF5:eX (fun k=>B k∧(k<w.heap.size∨w3.heap.size≤k)) w5.drew (.slice a4 (how (fn,aH)).2.length c4) (how (fn,aH)).2:=(hF5.below (Below.refl _ _).drew).mono fun k _ (hB:w3.heap.size≤k)=>⟨HBn.out k (by omega),Or.inr hB⟩;have k1:w5.drew.heap[w2.heap.size]?=some (.cells #[.int .i64 (how (fn,aH)).1,.slice a4 (how (fn,aH)).2.length c4] 96 (0,0)):=k1;have hX5:=(HX.out.mono (B':=fun k=>B k∧(k<w.heap.size∨w3.heap.size≤k)) fun k hk hB=>⟨hB,Or.inl hk⟩).below DZ;have Gn:w5.drew.heap[w.heap.size+1]?=some (.cells #[.int .i64 0,.slice none 0 0] 96 (0,0)):=(Uh.block _ (by omega)).trans Lf.out
  obtain⟨w6,hup,hW6,hT6⟩:=hX5.ways.store (fun k hB=>HBm.out k hB.1) (k:=k) (by unfold maxLen;omega) (by omega) HK.out ⟨_,rfl,hF5⟩;have hF6:=(hF5.kept hT6.size fun k hk hB=>hT6.block k hk (HBm.out k hB.1)).mono (B':=fun k=>B k∧k≠w.heap.size+1) fun k _ hB=>⟨hB.1,by omega⟩;have hS6:=hX5.st.tn hX5.ways.isMap hT6 hne hlo2;have Z4:=hX5.ways.lt;have Cv:w6.heap[w.heap.size+1]?=some (.cells #[.int .i64 0,.slice none 0 0] 96 (0,0)):=(hT6.block _ (by have:=DZ.size;have:=(Array.getElem?_eq_some_iff.1 Gn).1;omega) (by omega)).trans Gn;have hk6:w6.heap[w2.heap.size]?=some (.cells #[.int .i64 (how (fn,aH)).1,.slice a4 (how (fn,aH)).2.length c4] 96 (0,0)):=(hT6.block _ (Array.getElem?_eq_some_iff.1 k1).1 (by omega)).trans k1;have hX6:PrX (fun k=>B k∧(k<w.heap.size∨w3.heap.size≤k)) w6 P lo pv tv c d mb (n+1) all PS how:=⟨hS6,hW6,hne,hlo1,hlo2,by have:=DZ.size;have:=hT6.size;omega⟩;obtain⟨⟨z0,z1⟩,z2,z3⟩:=HFin.out (how (fn,aH)).1 a4 (how (fn,aH)).2.length c4 (how (fn,aH)).2 w6 Cv hF6;have q6:w5.drew.cell? ⟨P,6,none⟩=some (.map (some mb)):=by obtain⟨_,_,_,YS,_⟩:=hX5.st.has;exact YS.cells.2.2.2.2.2.2.1
  have HS5:Hid (w5.drew.cell? ⟨P,6,none⟩=some (.map (some mb))∧w5.drew.cell? ⟨w2.heap.size,0,none⟩=some (.int .i64 (how (fn,aH)).1)∧w5.drew.cell? ⟨w2.heap.size,0+1,none⟩=some (.slice a4 (how (fn,aH)).2.length c4)):=
   ⟨q6,by rw[cell_of_row _ _ _ _ _ _ k1];rfl,by rw[cell_of_row _ _ _ _ _ _ k1];rfl⟩
  have q66:w6.cell? ⟨P,6,none⟩=some (.map (some mb)):=by obtain⟨_,_,_,YT,_⟩:=hX6.st.has;exact YT.cells.2.2.2.2.2.2.1
  have x0:w6.cell? ⟨w2.heap.size,0,none⟩=some (.int .i64 (how (fn,aH)).1):=by rw[cell_of_row _ _ _ _ _ _ hk6];rfl
  have x1:w6.cell? ⟨w2.heap.size,0+1,none⟩=some (.slice a4 (how (fn,aH)).2.length c4):=by rw[cell_of_row _ _ _ _ _ _ hk6];rfl
  obtain⟨r0,r1,r2,r3,_⟩:=iH Cv;have hT7:Tn mb w6 ((w6.setCell ⟨w.heap.size+1,0,none⟩ (.int .i64 (how (fn,aH)).1)).setCell ⟨w.heap.size+1,1,none⟩ (.slice a4 (how (fn,aH)).2.length c4))∨True:=Or.inr trivial;clear hT7;have hTf:Tn mb w ((w6.setCell ⟨w.heap.size+1,0,none⟩ (.int .i64 (how (fn,aH)).1)).setCell ⟨w.heap.size+1,1,none⟩ (.slice a4 (how (fn,aH)).2.length c4)):=by have h56:Tn mb w w6:=⟨hT6.os.trans DZ.os,hT6.tape.trans DZ.tape,hT6.output.trans DZ.output,Nat.le_trans DZ.size hT6.size,fun i hi hne=>(hT6.block i (by have:=DZ.size;omega) hne).trans (DZ.block i hi)⟩;exact Tn.setCell (Tn.setCell h56 (x:=⟨w.heap.size+1,0,none⟩) (Or.inr (by show w.heap.size≤w.heap.size+1;omega)) _) (x:=⟨w.heap.size+1,1,none⟩) (Or.inr (by show w.heap.size≤w.heap.size+1;omega)) _
  have Ui:Below (w.heap.size+1) w6 ((w6.setCell ⟨w.heap.size+1,0,none⟩ (.int .i64 (how (fn,aH)).1)).setCell ⟨w.heap.size+1,1,none⟩ (.slice a4 (how (fn,aH)).2.length c4)):=z3.below (Nat.le_refl _) (by have:=(Array.getElem?_eq_some_iff.1 Cv).1;omega);have hXf:PrX B ((w6.setCell ⟨w.heap.size+1,0,none⟩ (.int .i64 (how (fn,aH)).1)).setCell ⟨w.heap.size+1,1,none⟩ (.slice a4 (how (fn,aH)).2.length c4)) P lo pv tv c d mb (n+1) all PS how:=by
   have hfb:∀u l,Facts w6 u l→Facts ((w6.setCell ⟨w.heap.size+1,0,none⟩ (.int .i64 (how (fn,aH)).1)).setCell ⟨w.heap.size+1,1,none⟩ (.slice a4 (how (fn,aH)).2.length c4)) u l:=fun u l hu=>uR (Fv Cv) z3 hu;obtain⟨av6,sv6,xs6,g1,g2,g3,g4,g5⟩:=hX6.st.has;refine⟨⟨av6,sv6,xs6,g1.block (Ui.block P (by omega)),?_,hfb _ _ g3,g4,fun i u l hu hl=>hfb _ _ (g5 i u l hu hl)⟩,(hX6.ways.kept (Ui.block mb (by omega)) z3.size fun k hk hB=>z3.block k hk (by omega)).mono fun k _ hB=>hB.1,hne,hlo1,hlo2,by have:=z3.size;have:=hX6.lo3;omega⟩;rcases g2 with e|⟨gg,cap,cur,e,h1,h2,h3⟩
   ·exact Or.inl e
   refine Or.inr ⟨gg,cap,cur,e,h1,?_,h3⟩;rw[z3.block gg (Array.getElem?_eq_some_iff.1 h2).1 (fun ee=>?_)];·exact h2
   rw[ee,Cv] at h2;simp only[Option.some.injEq,Obj.cells.injEq] at h2;exact absurd h2.2.1 (by decide)
  have HZ:=au (And.intro z0 (And.intro z1 (And.intro z2 (And.intro hXf hTf))));have HUp:=au hup;have HW5:=au hw5;clear hF4 hB4 hr4 k1 k2 hw5 hF5 Uh DZ hX5 Gn hup hW6 hT6 hF6 hS6 Cv hk6 hX6 z0 z1 z2 z3 hTf Ui hXf HF3 HFin HX3 y3 y4
  go_wp2_with (rw[←HW5.out])
  refine wp_region_held_drew (S:=fun w'=>w'.cell? ⟨P,6,none⟩=some (.map (some mb))∧w'.cell? ⟨w2.heap.size,0,none⟩=some (.int .i64 (how (fn,aH)).1)∧w'.cell? ⟨w2.heap.size,0+1,none⟩=some (.slice a4 (how (fn,aH)).2.length c4)) (by kernel_rfl) HS5.out (fun hHeld=>?_);refine tkY 0 33 hHeld ?_;refine tkY 1 34 hHeld ?_;refine tkY 2 35 hHeld ?_;refine tkY 3 36 hHeld ?_ rfl fun w hSw=>by obtain⟨p0,p1,p3⟩:=hSw;go_simp;try with_reducible rfl
  refine tkY 4 37 hHeld ?_;refine tkY 5 38 hHeld ?_ rfl fun w hSw=>by obtain⟨p0,p1,p3⟩:=hSw;go_simp;try with_reducible rfl
  refine tkC 6 fun K' hK=>?_;go_simp;rw[HUp.out];go_simp;refine hK.out _ _ ⟨q66,x0,x1⟩ (fun hHeld=>?_);clear hK K' hHeld;refine wpAnyH_done (by kernel_rfl) ?_ _;go_wp2;obtain⟨z0,z1,z2,z3,z4⟩:=HZ.out;exact bodyPost_ret (v:=.agg #[.int .i64 (how (fn,aH)).1,.slice a4 (how (fn,aH)).2.length c4]) (by simp[results,Tryz.results41,go_sem,z0,z1]) rfl ⟨_,n+1,rfl,⟨_,rfl,z2⟩,z3,Nat.le_refl _,z4⟩
structure Kq (P mb:Nat) (w w':World):Prop where
 os:w'.os=w.os
 tape:w'.tape=w.tape
 output:w'.output=w.output
 size:w.heap.size≤w'.heap.size
 block:∀k,k<w.heap.size→k≠P→k≠mb→w'.heap[k]?=w.heap[k]?
theorem Kq.refl (P mb:Nat) (w:World):Kq P mb w w:=⟨rfl,rfl,rfl,Nat.le_refl _,fun _ _ _ _=>rfl⟩
theorem Kq.trans {P mb:Nat} {a b c:World} (h:Kq P mb a b) (k:Kq P mb b c):Kq P mb a c:=
 ⟨k.os.trans h.os,k.tape.trans h.tape,k.output.trans h.output,Nat.le_trans h.size k.size,fun i hi h1 h2=>(k.block i (Nat.lt_of_lt_of_le hi h.size) h1 h2).trans (h.block i hi h1 h2)⟩
theorem Kq.of_below {P mb:Nat} {a b:World} (h:Below a.heap.size a b):Kq P mb a b:=⟨h.os,h.tape,h.output,h.size,fun k hk _ _=>h.block k hk⟩
theorem Kq.Ot {P mb:Nat} {a b:World} (h:Tn P a b):Kq P mb a b:=⟨h.os,h.tape,h.output,h.size,fun k hk h1 _=>h.block k hk h1⟩
theorem Kq.MK {P mb:Nat} {a b:World} (h:Tn mb a b):Kq P mb a b:=⟨h.os,h.tape,h.output,h.size,fun k hk _ h2=>h.block k hk h2⟩
theorem Kq.below {P mb n:Nat} {a b:World} (h:Kq P mb a b) (h1:n≤P) (h2:n≤mb) (hn:n≤a.heap.size):Below n a b:=⟨h.os,h.tape,h.output,h.size,fun k hk=>h.block k (by omega) (by omega) (by omega)⟩
theorem ML {ty:TypeId} {lo:Nat} {w:World} {v:Value} {l:List ByteArray} (h:bsK.own ty lo w v l) (hl:l.length≤8796093022208):bsK.sl (ko v) w v l:=by
 obtain⟨xs,ho,hx⟩:=h;rcases ho.2 with⟨rfl,e⟩|⟨g,cap,cur,rfl,hbg,hg,hnc,_⟩;·have:l=[]:=List.eq_nil_of_length_eq_zero e;subst this;exact bsK.eH _ _ _ _
 refine⟨⟨hl,hnc⟩,_,cap,rfl,fun _=>⟨g,0,rfl,rfl,(Array.getElem?_eq_some_iff.1 hg).1,fun i x hi=>?_⟩⟩;obtain⟨c,c1,c2⟩:=hx i x hi;refine⟨c,c1,fun j u hu=>?_⟩;have:=ho.cells (g:=g) rfl _ u (c2 j u hu);rw[Addr.add_lit] at this;rw[Nat.add_assoc];exact this
def qR (w:World) (b:Nat) (x0 x1 x2 x3:Value):World:=(((w.setCell ⟨b,0,none⟩ x0).setCell ⟨b,1,none⟩ x1).setCell ⟨b,2,none⟩ x2).setCell ⟨b,3,none⟩ x3
theorem gG {w:World} {b:Nat} {u0 u1 u2 u3:Value} {t:TypeId} (h:w.heap[b]?=some (.cells #[u0,u1,u2,u3] t (0,0))) (x0 x1 x2 x3:Value):(qR w b x0 x1 x2 x3).heap[b]?=some (.cells #[x0,x1,x2,x3] t (0,0)):=by
 unfold qR;rw[dz (j:=3) (dz (j:=2) (dz (j:=1) (dz (j:=0) h _) _) _) _]
 rfl
theorem mK (w:World) (b:Nat) (x0 x1 x2 x3:Value):Tn b w (qR w b x0 x1 x2 x3):=
 ((((Tn.refl b w).setCell (Or.inl rfl) _).setCell (Or.inl rfl) _).setCell (Or.inl rfl) _).setCell (Or.inl rfl) _
theorem dG {w:World} {R:Nat} {u0 u1 u2 u3:Value} {t:TypeId} (h:w.heap[R]?=some (.cells #[u0,u1,u2,u3] t (0,0))):(w.cell? ⟨R,0,none⟩=some u0∧w.cell? ⟨R,1,none⟩=some u1∧w.cell? ⟨R,2,none⟩=some u2∧w.cell? ⟨R,3,none⟩=some u3)∧(w.cell? ⟨R,0+1,none⟩=some u1∧w.cell? ⟨R,0+2,none⟩=some u2∧w.cell? ⟨R,0+3,none⟩=some u3)∧(w.frozen? ⟨R,0,none⟩=false∧w.frozen? ⟨R,1,none⟩=false∧w.frozen? ⟨R,2,none⟩=false∧w.frozen? ⟨R,3,none⟩=false)∧R<w.heap.size:=by refine⟨⟨?_,?_,?_,?_⟩,⟨?_,?_,?_⟩,⟨fU h,fU h,fU h,fU h⟩,(Array.getElem?_eq_some_iff.1 h).1⟩ <;> (rw[cell_of_row _ _ _ _ _ _ h];rfl)
theorem D5 {P mb:Nat} {w w':World} (hn:pW w P) (hm:∃es q,w.heap[mb]?=some (.map es q)) (hg:Kq P mb w w') {u:Value} {l:List aA} (hf:Facts w u l):Facts w' u l:=by
 have key:∀{b off:Nat} {s:ByteArray},w.cell? ⟨b,off,none⟩=some (.string s)→w'.heap[b]?=w.heap[b]?:=fun {b off s} hc=>by
  refine hg.block b (World.block_lt_of_cell? w _ hc) (fun e=>?_) (fun e=>?_);·subst e;exact hn off s hc
  subst e;obtain⟨es,q,h⟩:=hm;unfold World.cell? at hc;dsimp only at hc;rw[h] at hc;simp at hc
 have cell_of:∀{b off:Nat},w'.heap[b]?=w.heap[b]?→w'.cell? ⟨b,off,none⟩=w.cell? ⟨b,off,none⟩:=fun {b off} e=>by unfold World.cell?;dsimp only;rw[e]
 have strs:∀{q:Value} {r:List ByteArray},Strs w q r→Strs w' q r:=fun {q r} hs=>by obtain⟨h0,a,cap,rfl,h1⟩:=hs;refine⟨h0,a,cap,rfl,fun hl=>?_⟩;obtain⟨b,off,rfl,hb,hc⟩:=h1 hl;refine⟨b,off,rfl,Nat.lt_of_lt_of_le hb hg.size,fun i hi=>?_⟩;rw[cell_of (key (hc i hi))];exact hc i hi
 obtain⟨h0,a,cap,rfl,h1⟩:=hf;refine⟨h0,a,cap,rfl,fun hl=>?_⟩;obtain⟨b,off,rfl,hb,hc⟩:=h1 hl;refine⟨b,off,rfl,Nat.lt_of_lt_of_le hb hg.size,fun i hi=>?_⟩;obtain⟨c1,s,c2,c3⟩:=hc i hi;exact⟨by rw[cell_of (key c1)];exact c1,s,by rw[cell_of (key c1)];exact c2,strs c3⟩
structure Gp (wF:World) (P lo mb:Nat) (av sv:Value) (xs:List Value) (all:List aA) (PS:List (List aA)):Prop where
 past:vW lo wF sv xs
 fa:Facts wF av all
 len:xs.length=PS.length
 fx:∀(i:Nat) u l,xs[i]?=some u→PS[i]?=some l→Facts wF u l
 nt:pW wF P
 mp:∃es q,wF.heap[mb]?=some (.map es q)
 ne:P≠mb
 lo1:P<lo
 lo2:mb<lo
 lo3:lo≤wF.heap.size
structure PvS (B:Nat→Prop) (wF w:World) (P mb:Nat) (pv tv av sv:Value) (c d:Int) (n:Nat) (all:List aA) (how:aA→Int×List aA):Prop where
 row:PrB w P pv tv av c d sv mb
 kq:Kq P mb wF w
 ways:jU B w mb n all how
section
variable {B:Nat→Prop} {wF w w':World} {P lo mb:Nat} {pv tv av sv:Value} {c d:Int} {n:Nat} {all:List aA} {how:aA→Int×List aA}
theorem PvS.prx {xs:List Value} {PS:List (List aA)} (h:PvS B wF w P mb pv tv av sv c d n all how) (G:Gp wF P lo mb av sv xs all PS):PrX B w P lo pv tv c d mb n all PS how:=by
 have hlo3:=G.lo3;have hlo1:=G.lo1;have hlo2:=G.lo2;refine⟨⟨av,sv,xs,h.row,?_,D5 G.nt G.mp h.kq G.fa,G.len,fun i u l hu hl=>D5 G.nt G.mp h.kq (G.fx i u l hu hl)⟩,h.ways,G.ne,G.lo1,G.lo2,Nat.le_trans hlo3 h.kq.size⟩;rcases G.past with e|h2
 ·exact Or.inl e
 exact Or.inr (h2.block fun i hi hl=>h.kq.block i hi (by omega) (by omega))
theorem PvS.below (h:PvS B wF w P mb pv tv av sv c d n all how) (k:Below w.heap.size w w'):PvS B wF w' P mb pv tv av sv c d n all how:=
 ⟨h.row.below k,h.kq.trans (Kq.of_below k),h.ways.below k⟩
theorem PvS.mono {B':Nat→Prop} (h:PvS B wF w P mb pv tv av sv c d n all how) (hm:∀k,k<w.heap.size→B k→B' k):PvS B' wF w P mb pv tv av sv c d n all how:=⟨h.row,h.kq,h.ways.mono hm⟩
theorem PvS.turned (h:PvS B wF w P mb pv tv av sv c d n all how) (ho:w'.os=w.os) (ht:w'.tape=w.tape) (hp:w'.output=w.output) (hs:w.heap.size≤w'.heap.size) (hk:∀k,k<w.heap.size→(k<wF.heap.size∨k=P∨k=mb∨B k)→w'.heap[k]?=w.heap[k]?):PvS B wF w' P mb pv tv av sv c d n all how:=by have hP:=h.row.cells.2.2.2.2.2.2.2;refine⟨h.row.block (hk P hP (Or.inr (Or.inl rfl))),⟨ho.trans h.kq.os,ht.trans h.kq.tape,hp.trans h.kq.output,Nat.le_trans h.kq.size hs,fun k hk' h1 h2=>(hk k (Nat.lt_of_lt_of_le hk' h.kq.size) (Or.inl hk')).trans (h.kq.block k hk' h1 h2)⟩,h.ways.kept (hk mb h.ways.lt (Or.inr (Or.inr (Or.inl rfl)))) hs fun k hk' hB=>hk k hk' (Or.inr (Or.inr (Or.inr hB)))⟩
theorem PvS.counts (h:PvS B wF w P mb pv tv av sv c d n all how) (hne:P≠mb) (hB:∀k,B k→k≠P) (j:Nat) (x c' d':Int) (hj:(j=3∧c'=x∧d'=d)∨(j=4∧c'=c∧d'=x)):PvS B wF (w.setCell ⟨P,j,none⟩ (.int .i64 x)) P mb pv tv av sv c' d' n all how:=by
 have hT:Tn P w (w.setCell ⟨P,j,none⟩ (.int .i64 x)):=Tn.setCell (p:=P) (Tn.refl _ _) (x:=⟨P,j,none⟩) (Or.inl rfl) _;refine⟨⟨?_⟩,h.kq.trans (Kq.Ot hT),h.ways.kept (hT.block mb h.ways.lt (fun e=>hne e.symm)) hT.size fun k hk hb=>hT.block k hk (hB k hb)⟩;rcases hj with⟨rfl,rfl,rfl⟩|⟨rfl,rfl,rfl⟩
 ·rw[dz (j:=3) h.row.row];rfl
 rw[dz (j:=4) h.row.row];rfl
theorem PvS.cells (h:PvS B wF w P mb pv tv av sv c d n all how):w.cell? ⟨P,3,none⟩=some (.int .i64 c)∧w.cell? ⟨P,4,none⟩=some (.int .i64 d)∧w.frozen? ⟨P,3,none⟩=false∧w.frozen? ⟨P,4,none⟩=false∧P<w.heap.size∧w.cell? ⟨P,3+1,none⟩=some (.int .i64 d):=
 ⟨h.row.cells.2.2.2.1,h.row.cells.2.2.2.2.1,fU h.row.row,fU h.row.row,h.row.cells.2.2.2.2.2.2.2,h.row.cells.2.2.2.2.1⟩
end
def iQ:Value:=.agg #[.string ByteArray.empty,.slice none 0 0,.int .i64 0,.slice none 0 0]
def Po (w:World) (v:Value):Prop:=∀b off n c,v=.slice (some ⟨b,off,none⟩) n c→n≠0→∃cs t,w.heap[b]?=some (.cells cs t (0,0))
theorem Po.kept {α:Type} {K:aB α} {B:Nat→Prop} {w w':World} {v:Value} {l:List α} (h:Po w v) (hs:K.sl B w v l) (hk:∀k,k<w.heap.size→B k→w'.heap[k]?=w.heap[k]?):Po w' v:=by intro b off n c e hn;obtain⟨_,a,cap,e',h1⟩:=hs;rw[e] at e';simp only[Value.slice.injEq] at e';obtain⟨e1,e2,_⟩:=e';obtain⟨b',off',e3,hB,hb,_⟩:=h1 (by intro e0;rw[e0] at e2;exact hn e2);rw[←e1] at e3;cases e3;obtain⟨cs,t,h2⟩:=h b off n c e hn;exact⟨cs,t,(hk b hb hB).trans h2⟩
theorem Lg {α:Type} {K:aB α} {ty:TypeId} {lo:Nat} {w:World} {v:Value} {l:List α} (h:K.own ty lo w v l):Po w v:=by
 obtain⟨xs,ho,_⟩:=h;intro b off n c e hn;rcases ho.2 with⟨e',_⟩|⟨g,cap,cur,e',_,hg,_⟩;·rw[e] at e';cases e'
 rw[e] at e';cases e';exact⟨cur,ty,hg⟩
def YU (K:aB bG):aB bG where
 size:=4
 is:=fun B w c x=>∃s kv,c=[.string x.fact.1,s,.int .i64 x.rule,kv]∧bsK.sl B w s x.fact.2∧K.sl B w kv x.kids∧Po w kv
 len:=fun⟨s,kv,h,_⟩=>by subst h;rfl
 one:=fun⟨s,kv,h,h1,h2,_⟩ u hu=>by subst h;obtain⟨a,cap,rfl⟩:=aB.slice h1;obtain⟨a',cap',rfl⟩:=aB.slice h2;simp at hu;rcases hu with rfl|rfl|rfl|rfl <;> rfl
 kept:=fun⟨s,kv,h,h1,h2,h3⟩ k1 k2=>⟨s,kv,h,aB.bL h1 k1 k2,aB.bL h2 k1 k2,h3.kept h2 k2⟩
 mono:=fun⟨s,kv,h,h1,h2,h3⟩ k1=>⟨s,kv,h,aB.bQ h1 k1,aB.bQ h2 k1,h3⟩
def I9:Nat→aB bG
 |0=>noK
 |n+1=>YU (I9 n)
theorem Ja {B:Nat→Prop} {w:World}:∀(n:Nat),(∀{c:List Value} {x:bG},(I9 n).is B w c x→(kZ n).is B w c x)∧∀{v:Value} {l:List bG},(I9 n).sl B w v l→(kZ n).sl B w v l
 |0=>⟨fun h=>h,fun h=>h⟩
 |n+1=>by have key:∀{c:List Value} {x:bG},(I9 (n+1)).is B w c x→(kZ (n+1)).is B w c x:=fun⟨s,kv,h,h1,h2,_⟩=>⟨s,kv,h,h1,(Ja n).2 h2⟩;refine⟨key,fun⟨h0,a,cap,e,h1⟩=>⟨h0,a,cap,e,fun hne=>?_⟩⟩;obtain⟨b,off,e,hB,hb,hc⟩:=h1 hne;refine⟨b,off,e,hB,hb,fun i x hi=>?_⟩;obtain⟨c,c1,c2⟩:=hc i x hi;exact⟨c,key c1,c2⟩
def Ou (n:Nat) (B:Nat→Prop) (w:World) (v:Value) (x:bG):Prop:=∃s kv,v=.agg #[.string x.fact.1,s,.int .i64 x.rule,kv]∧bsK.sl B w s x.fact.2∧(I9 n).sl B w kv x.kids∧Po w kv
theorem Ou.prf {n:Nat} {B:Nat→Prop} {w:World} {v:Value} {x:bG} (h:Ou n B w v x):lV n B w v x:=by obtain⟨s,kv,e,h1,h2,_⟩:=h;exact⟨s,kv,e,h1,(Ja n).2 h2⟩
def Uj (lo N:Nat) (w:World) (v:Value) (er:Int):Option bG→Prop
 |none=>er=4∧v=iQ
 |some x=>er=0∧Ou N (From lo) w v x
theorem xK:∃i,Tryz.prog.info? 30=some i∧i.zero=some (.agg #[.string ByteArray.empty,.slice none 0 0,.int .i64 0,.slice none 0 0])∧i.size=4∧i.bytes=72:=⟨Tryz.t30,by kernel_rfl,by kernel_rfl,by kernel_rfl,by kernel_rfl⟩
def Jb (all:List aA) (P mb:Nat) (pv tv av sv:Value) (wF:World) (how:aA→Int×List aA) (N:Nat):Prop:=
 ∀(B:Nat→Prop) (f:aA) (fv:Value) (dep c d n:Nat) (w:World),N+dep=62→(∀k,B k→k≠mb∧k≠P)→(∀k,w.heap.size≤k→B k)→PvS B wF w P mb pv tv av sv (c:Int) (d:Int) n all how→n≤c→c≤400→d≤60→f∈all→dD w fv f→
  Calls Tryz.prog 21 #[.pointer (some ⟨P,0,none⟩),fv,.int .i64 (dep:Int)] w fun e w'=>∃v er n',e=.returned (.tuple #[v,.int .i64 er])∧Uj w.heap.size (N-1) w' v er (bI how N f dep (c,d)).1∧PvS B wF w' P mb pv tv av sv (((bI how N f dep (c,d)).2.1:Nat):Int) (((bI how N f dep (c,d)).2.2:Nat):Int) n' all how∧n'≤(bI how N f dep (c,d)).2.1∧Kq P mb w w'
def lC (g:aA→Nat×Nat→Option bG×(Nat×Nat)) (fs:List aA) (done:List bG) (s:Nat×Nat):Option (List bG)×(Nat×Nat):=((kL g fs s).1.map (done++ ·),(kL g fs s).2)
theorem xL {g:aA→Nat×Nat→Option bG×(Nat×Nat)} {f:aA} {fs:List aA} {done:List bG} {s s':Nat×Nat} (h:g f s=(none,s')):lC g (f::fs) done s=(none,s'):=by
 unfold lC
 conv=>lhs;unfold kL
 rw[h]
 rfl
theorem xM {g:aA→Nat×Nat→Option bG×(Nat×Nat)} {f:aA} {fs:List aA} {done:List bG} {s s':Nat×Nat} {k:bG} (h:g f s=(some k,s')):lC g (f::fs) done s=lC g fs (done++[k]) s':=by
 unfold lC
 conv=>lhs;unfold kL
 rw[h];dsimp only;cases h2:(kL g fs s').1 with
 |none=>rfl
 |some ks=>simp
theorem qU {how:aA→Int×List aA}:∀(n:Nat) (f:aA) (dep:Nat) (s:Nat×Nat) (x:bG) (s':Nat×Nat),bI how n f dep s=(some x,s')→s'.1≤400∧s'.2≤60
 |0,f,dep,s,x,s',h=>by simp[bI] at h
 |n+1,f,dep,s,x,s',h=>by
  unfold bI at h;split at h;·simp at h
  rename_i hm;have h0:s.1+1≤400∧max s.2 dep≤60:=by unfold ig at hm;simp only[Bool.or_eq_true,decide_eq_true_eq,not_or] at hm;omega
  have key:∀(fs:List aA) (s1 s2:Nat×Nat) (ks:List bG),s1.1≤400∧s1.2≤60→kL (fun g s=>bI how n g (dep+1) s) fs s1=(some ks,s2)→s2.1≤400∧s2.2≤60:=by
   intro fs
   induction fs with
   |nil=>intro s1 s2 ks hs hk;simp[kL] at hk;rw[←hk.2];exact hs
   |cons g fs ih=>
    intro s1 s2 ks hs hk;unfold kL at hk;obtain⟨o,s3,h3⟩:∃o s3,bI how n g (dep+1) s1=(o,s3):=⟨_,_,rfl⟩;rw[h3] at hk;dsimp only at hk;cases o with
    |none=>simp at hk
    |some k=>
     dsimp only at hk;obtain⟨o2,s4,h4⟩:∃o s4,kL (fun g s=>bI how n g (dep+1) s) fs s3=(o,s4):=⟨_,_,rfl⟩;rw[h4] at hk;dsimp only at hk;cases o2 with
     |none=>simp at hk
     |some ks2=>
      simp only[Prod.mk.injEq] at hk;rw[←hk.2];exact ih s3 s4 ks2 (qU n g (dep+1) s1 k s3 h3) h4
  obtain⟨o,s1,h1⟩:∃o s1,kL (fun g s=>bI how n g (dep+1) s) (how f).2 (s.1+1,max s.2 dep)=(o,s1):=⟨_,_,rfl⟩;rw[h1] at h;dsimp only at h;cases o with
  |none=>simp at h
  |some ks=>
   simp only[Prod.mk.injEq] at h;rw[←h.2];exact key _ _ s1 ks h0 h1
end Go.Proofs.YtaallngooaaonaaGreatDoor
