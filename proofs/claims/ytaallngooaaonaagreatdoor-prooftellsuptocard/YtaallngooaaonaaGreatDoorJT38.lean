import Derived.Test.YtaallngooaaonaaGreatDoorJT37
import Derived.RegionTactic
import Derived.ChangeAlike
import Derived.Test.YtaallngooaaonaaGreatDoorJT36
import Derived.Test.YtaallngooaaonaaGreatDoorJT21
import Derived.Test.YtaallngooaaonaaGreatDoorJT8
import Derived.Test.YtaallngooaaonaaGreatDoorJT2
import Derived.Test.YtaallngooaaonaaGreatDoorJT13
import Derived.Test.YtaallngooaaonaaGreatDoorJT4
open Go.RowKit Go.Sort Go.Maps
set_option maxHeartbeats 16000000
set_option maxRecDepth 100000
namespace Go.Proofs.YtaallngooaaonaaGreatDoor
structure Hd (w w5:World) (g:Nat) (v:Value) (hs:List Bs):Prop where
 below:Below w.heap.size w w5
 row:w5.heap[w.heap.size]?=some (.cells #[.int .i64 0,.int .i64 0] 69 (0,0))
 box:w5.cell? ⟨g,0,none⟩=some v
 lt:g<w5.heap.size
 lo:w.heap.size<w5.heap.size
 hs:jS.sl bf w5 v hs
theorem Hd.below' {w w5 w6:World} {g:Nat} {v:Value} {hs:List Bs} (h:Hd w w5 g v hs) (k:Below w5.heap.size w5 w6):Hd w w6 g v hs:=
 ⟨aj h.below k (Nat.le_of_lt h.lo),by rw[k.block _ h.lo];exact h.row,by rw[k.cell (p:=⟨g,0,none⟩) h.lt];exact h.box,Nat.lt_of_lt_of_le h.lt k.size,Nat.lt_of_lt_of_le h.lo k.size,aB.aJ h.hs k⟩
structure St (w5:World) (n:Nat) (s:Rel×Rel) (wr:World):Prop where
 below:Below w5.heap.size w5 wr
 m1:vO wr w5.heap.size n s.1
 m2:vO wr (w5.heap.size+1) n s.2
theorem St.later {w5 wr wr':World} {n:Nat} {s:Rel×Rel} (h:St w5 n s wr) (k:ak wr wr'):St w5 n s wr':=⟨aj h.below k.below h.below.size,h.m1.later k,h.m2.later k⟩
theorem St.mono {w5 wr:World} {n m:Nat} {s:Rel×Rel} (h:St w5 n s wr) (hn:n≤m):St w5 m s wr:=⟨h.below,h.m1.mono hn,h.m2.mono hn⟩
def Past (w5 a b:World):Prop:=a.heap.size≤b.heap.size∧∀k,w5.heap.size+2≤k→k<a.heap.size→b.heap[k]?=a.heap[k]?
theorem Past.cell {w5 a b:World} (h:Past w5 a b) {x:Addr} (hx:w5.heap.size+2≤x.block) (hl:x.block<a.heap.size):b.cell? x=a.cell? x:=World.cell?_of_block (w:=a) (h.2 _ hx hl)
theorem St.WO {w5 wr:World} {n:Nat} {s:Rel×Rel} (h:St w5 n s wr) (hn:n<maxLen) {x y:Bs} (hx:x.length≤maxLen) (hy:y.length≤maxLen):
  ∃w',(Instr.mapUpdate 128 (.map (some w5.heap.size)) (.agg #[.string (bs x),.string (bs y)]) (.bool true)).run Tryz.prog wr=.ok () w'∧St w5 (n+1) (s.1.put x y,s.2) w'∧Past w5 wr w':=by
 obtain⟨w',hrun,h1,hg⟩:=h.m1.store hn hx hy;have hb:zG (fun k=>k=w5.heap.size) wr w':=zG.gD hg rfl;have hl:=h.m2.lt;exact⟨w',hrun,⟨hb.below h.below (fun k e=>by omega) h.below.size,h1,(h.m2.block (hb.block _ hl (by omega))).mono (by omega)⟩,hb.size,fun k h1 h2=>hb.block k h2 (by omega)⟩
theorem St.WQ {w5 wr:World} {n:Nat} {s:Rel×Rel} (h:St w5 n s wr) (hn:n<maxLen) {x y:Bs} (hx:x.length≤maxLen) (hy:y.length≤maxLen):
  ∃w',(Instr.mapUpdate 128 (.map (some (w5.heap.size+1))) (.agg #[.string (bs x),.string (bs y)]) (.bool true)).run Tryz.prog wr=.ok () w'∧St w5 (n+1) (s.1,s.2.put x y) w'∧Past w5 wr w':=by
 obtain⟨w',hrun,h1,hg⟩:=h.m2.store hn hx hy;have hb:zG (fun k=>k=w5.heap.size+1) wr w':=zG.gD hg rfl;have hl:=h.m1.lt;exact⟨w',hrun,⟨hb.below h.below (fun k e=>by omega) h.below.size,(h.m1.block (hb.block _ hl (by omega))).mono (by omega),h1⟩,hb.size,fun k h1 h2=>hb.block k h2 (by omega)⟩
theorem St.Ri {w5 wr:World} {n:Nat} {s:Rel×Rel} (h:St w5 n s wr) {x y:Bs} (hx:x.length≤maxLen) (hy:y.length≤maxLen):(Instr.lookup 128 (.map (some w5.heap.size)) (.agg #[.string (bs x),.string (bs y)]) false).run Tryz.prog wr=.ok (.bool (s.1 x y)) wr:=h.m1.look hx hy
theorem St.OI {w5 wr:World} {n:Nat} {s:Rel×Rel} (h:St w5 n s wr) {x y:Bs} (hx:x.length≤maxLen) (hy:y.length≤maxLen):(Instr.lookup 128 (.map (some (w5.heap.size+1))) (.agg #[.string (bs x),.string (bs y)]) false).run Tryz.prog wr=.ok (.bool (s.2 x y)) wr:=h.m2.look hx hy
theorem FR {p:List aG} {j:Nat} {r:aG} (h:p[j]?=some r):heads (p.take (j+1))=heads (p.take j)++[r.head.name]:=by rw[List.take_add_one,h];simp[heads]
theorem Bo {p:List aG} {j:Nat} {r:aG} (h:p[j]?=some r) (hd:Bs→Bool) (s:Rel×Rel):iR hd s (p.drop j)=iR hd (jf hd s r) (p.drop (j+1)):=by obtain⟨h1,e1⟩:=List.getElem?_eq_some_iff.1 h;rw[List.drop_eq_getElem_cons h1,e1];rfl
theorem jH {α β:Type} {l:List α} {j:Nat} {x:α} (h:l[j]?=some x) (f:β→α→β) (b:β):(l.drop j).foldl f b=(l.drop (j+1)).foldl f (f b x):=by obtain⟨h1,e1⟩:=List.getElem?_eq_some_iff.1 h;rw[List.drop_eq_getElem_cons h1,e1];rfl
theorem OJ (p:List aG) (v:Value) (w:World) (hv:eP.sl bf w v p) (hk:∀r∈p,Bg r):
  Calls Tryz.prog 43 #[v] w fun e w'=>∃u,e=.returned (.tuple #[u,.agg #[.int .i64 (aV p).2.1,.int .i64 ((aV p).2.2:Nat)]])∧lS.sl (From w.heap.size) w' u (aV p).1∧Below w.heap.size w w':=by
 obtain⟨sa,cap,rfl⟩:=aB.slice hv;have HV:=au hv;have hl0:=hv.1.1;have HW:Hid (Calls Tryz.prog 70 #[.slice sa p.length cap] (w.alloc (.cells #[.int .i64 0,.int .i64 0] 69)) fun e w2=>e=.returned (.agg #[.int .i64 (dw p).1,.int .i64 ((dw p).2:Nat)])∧Hid (Below w.heap.size w w2)∧w2.heap[w.heap.size]?=some (.cells #[.int .i64 0,.int .i64 0] 69 (0,0))∧w.heap.size<w2.heap.size):=
  (zw p _ _ (aB.aJ hv ((ak.refl w).alloc _).below) hk).mono fun e w2 ⟨he,hb⟩=>⟨he,aj ((ak.refl w).alloc _).below hb (by simp),by rw[hb.block w.heap.size (by simp),heap_alloc_new],by have:=hb.size;simp at this;omega⟩
 clear hv hk;have hmm:= @run_makeMap Tryz.prog;generalize hwp:dw p=wp at*;obtain⟨ex,ea⟩:=wp;dsimp only at*
 by_cases h0:ex=0
 ·subst h0;obtain⟨TG,Fh⟩:=uF (p:=p) (by rw[hwp]);have HFi:=au Fh;have HNo:Hid (∀a∈heads p,(fwP p).2 a a=true→aV p=([],10,0)):=fun a ha h=>Jw (by rw[hwp]) ha h;have WR:Hid ((∀a∈heads p,(fwP p).2 a a=false)→aV p=(p.map fun r=>Kk (jo (heads p)) p (p.length+1) (fun _=>0) r.head.name,0,0)):=fun h=>FQ (by rw[hwp]) h;have HHs:Hid (∀s∈heads p,s.length≤maxLen):=fun s hs=>by
   obtain⟨r,hr,rfl⟩:=(pY p s).1 hs;exact(Fh r hr).1
  have hhl:(heads p).length=p.length:=by simp[heads]
  clear hwp Fh
  go_enter Tryz.func43,Tryz.ntmps43
  go_wp2_with (go_at_call 70;refine HW.out.mono ?_;rintro e w2 ⟨rfl,hB2,hR2,hs2⟩;replace hR2:=au hR2)
  have hwz:=hB2.out.size;clear HW
  go_loopg [42] p.length (fun k i wr=>∃j:Nat,j+k=p.length∧i=.int .i64 j∧∃o,Hid (jS.own 9 (w2.heap.size+2) wr o (heads (p.take j)))∧Hid (wr.heap[w2.heap.size+1]?=some (.cells #[o] 25 (0,0)))∧Hid (Below w.heap.size w wr)∧Hid (wr.heap[w.heap.size]?=some (.cells #[.int .i64 0,.int .i64 0] 69 (0,0)))∧w2.heap.size+2≤wr.heap.size)
  case atStart=>
   refine⟨0,by omega,rfl,.slice none 0 0,jS.fD _ _ _,?_,?_,?_,by simp⟩;·show _=_;have:=heap_alloc_new (w2.alloc (.cells #[.int .i64 0,.int .i64 (ea:Int)] 69)) (.cells #[.slice none 0 0] 25);rw[World.size_alloc] at this;exact this
   ·exact(hB2.out.alloc hwz _).alloc (by simp;omega) _
   show _=_;rw[Below.heap_alloc _ _ _ (by simp;omega),Below.heap_alloc _ _ _ hs2];exact bK hR2
  obtain⟨j,hj,rfl,o,HO,HX,HB,HR,hsz⟩:=hrel;clear hB2 hR2;obtain⟨ao,co,rfl⟩:=aB.aY HO.out;have hX:=HX.out;have x0:wr.cell? ⟨w2.heap.size+1,0,none⟩=some (.slice ao (heads (p.take j)).length co):=by rw[cell_of_row _ _ _ _ _ _ hX];rfl
  have hxl:w2.heap.size+1<wr.heap.size:=by omega
  clear hX
  by_cases hlt:j<p.length
  ·obtain⟨r,hr⟩:∃x,p[j]?=some x:=⟨_,List.getElem?_eq_getElem hlt⟩;obtain⟨b1,o1,_,rfl,hb1,⟨sv,su,rfl,hsv,hsu⟩,hcl⟩:=aB.bO HV.out hr;have d0:wr.cell? ⟨b1,o1+j*4,none⟩=some (.bool r.head.no):=by rw[HB.out.cell hb1];exact hcl 0 _ rfl
   have d1:wr.cell? ⟨b1,o1+j*4+1,none⟩=some (.string (bs r.head.name)):=by rw[HB.out.cell hb1];exact hcl 1 _ rfl
   have d2:wr.cell? ⟨b1,o1+j*4+2,none⟩=some sv:=by rw[HB.out.cell hb1];exact hcl 2 _ rfl
   have d3:wr.cell? ⟨b1,o1+j*4+3,none⟩=some su:=by rw[HB.out.cell hb1];exact hcl 3 _ rfl
   have hbr:b1<wr.heap.size:=by have:=HB.out.size;omega
   have hlen:(heads (p.take j)).length=j:=by simp[heads];omega
   have E:=au (FR hr);have hOA:=aB.dI HO.out ((Tn.refl 0 wr).alloc (.cells #[.bool r.head.no,.string (bs r.head.name),sv,su] 82)) (by omega);obtain⟨v',w4,hrun,o4,g4⟩:=qH hOA (x:=r.head.name) (by rw[hlen];omega) (by simp;omega);obtain⟨av,cv,hv'⟩:=aB.aY o4;generalize(heads (p.take j)++[r.head.name]).length=nv at hv';subst hv';have hT4:Tn (w2.heap.size+1) w4 (w4.setCell ⟨w2.heap.size+1,0,none⟩ (.slice av nv cv)):=(Tn.refl (w2.heap.size+1) w4).setCell (x:=⟨w2.heap.size+1,0,none⟩) (Or.inl rfl) (.slice av nv cv);have hs4:=g4.size;simp only[World.size_alloc] at hs4;have hk4:∀k,k<w2.heap.size+2→w4.heap[k]?=wr.heap[k]?:=fun k hk=>by rw[g4.block k (by simp;omega) (fun e=>by have:=(aB.dL hOA e.symm).1;omega),Below.heap_alloc _ _ _ (by simp;omega),Below.heap_alloc _ _ _ (by omega)]
   have HO4:Hid (jS.own 9 (w2.heap.size+2) (w4.setCell ⟨w2.heap.size+1,0,none⟩ (.slice av nv cv)) (.slice av nv cv) (heads (p.take (j+1)))):=by show jS.own _ _ _ _ _;rw[E.out];exact aB.dI o4 hT4 (by omega)
   have hX4:w4.heap[w2.heap.size+1]?=some (.cells #[.slice ao (heads (p.take j)).length co] 25 (0,0)):=by rw[hk4 _ (by omega)];exact HX.out
   have HX4:Hid ((w4.setCell ⟨w2.heap.size+1,0,none⟩ (.slice av nv cv)).heap[w2.heap.size+1]?=some (.cells #[(.slice av nv cv)] 25 (0,0))):=nV hX4 (.slice av nv cv);have HB4:Hid (Below w.heap.size w (w4.setCell ⟨w2.heap.size+1,0,none⟩ (.slice av nv cv))):=by refine Below.setCell (aj ((HB.out.alloc HB.out.size _).alloc (by have:=HB.out.size;simp;omega) _) ⟨g4.os,g4.tape,g4.output,g4.size,fun k hk=>g4.block k (by simp;omega) (fun e=>?_)⟩ (Nat.le_refl _)) (by show w.heap.size≤w2.heap.size+1;omega) _;have:=(aB.dL hOA e.symm).1;omega
   have HR4:Hid ((w4.setCell ⟨w2.heap.size+1,0,none⟩ (.slice av nv cv)).heap[w.heap.size]?=some (.cells #[.int .i64 0,.int .i64 0] 69 (0,0))):=by show _=_;rw[hT4.block _ (by omega) (by omega),hk4 _ (by omega)];exact HR.out
   have hz4:w2.heap.size+2≤(w4.setCell ⟨w2.heap.size+1,0,none⟩ (.slice av nv cv)).heap.size:=by rw[size_setCell];omega
   have y0:w4.cell? ⟨w2.heap.size+1,0,none⟩=some (.slice ao (heads (p.take j)).length co):=by rw[cell_of_row _ _ _ _ _ _ hX4];rfl
   have y1:w4.frozen? ⟨w2.heap.size+1,0,none⟩=false:=aS 0 hX4;simp only[World.size_alloc] at hrun;rw[hlen] at hrun x0 y0
   replace hrun:=au hrun
   clear hlen;obtain⟨a2,c2,rfl⟩:=aB.slice hsv;obtain⟨a3,c3,rfl⟩:=aB.slice hsu;clear hcl hr hsv hsu hOA o4 g4 HO HB HX HR E hT4 hk4 hX4;generalize bs r.head.name=nm at*;generalize r.head.no=no at*
   go_wp2_with (first
    |(at_builtin;refine wpList_append_run rfl (.tmp 46) (.tmp 50) 25 rfl _ _ _ _ rfl rfl (bK hrun) ?_)
    |go_in)
   go_roundg (p.length- (j+1))
   case measure=>omega
   case rel=>exact⟨j+1,by omega,by go_num,(.slice av nv cv),HO4,HX4,HB4,HR4,hz4⟩
  have e:j=p.length:=by omega
  subst e;have hO:=HO.out;rw[List.take_length] at hO x0;have HH:Hid (Hd w wr (w2.heap.size+1) (.slice ao (heads p).length co) (heads p)):=⟨HB.out,HR.out,x0,hxl,by omega,aB.dO (aB.fq (by first|exact hO|(rw[List.take_length] at hO;exact hO)) (by omega))⟩;clear HO HX HB HR hO;generalize hGg:w2.heap.size+1=G at*;have hGl:=HH.out.lt;clear hsz;have HHL:Hid ((heads p).length=p.length):=hhl;rw[hhl] at HH x0;clear hhl;generalize hw5:wr=w5 at*;clear hw5;have HFW:Hid (fwP p=fwK (heads p) (heads p) (iR (jo (heads p)) (fun _ _=>false,fun _ _=>false) p)):=(rfl:_=_);generalize heads p=hs at*;generalize fwP p=FW at*;generalize he0:iR (jo hs) (fun _ _=>false,fun _ _=>false) p=EA at*;have HE0:=au he0;clear he0;go_wp2
  go_loopg [58] p.length (fun k i wr=>∃j:Nat,j+k=p.length∧i=.int .i64 j∧∃s,Hid (EA=iR (jo hs) s (p.drop j))∧Hid (St w5 (10*j) s wr)∧w5.heap.size+2≤wr.heap.size)
  case atStart=>
   refine⟨0,by omega,rfl,(fun _ _=>false,fun _ _=>false),HE0.out.symm,⟨?_,?_,?_⟩,by simp⟩;·exact(((ak.refl w5).alloc _).alloc _).below
   ·exact(vO.made w5).later ((ak.refl _).alloc _)
   have:=vO.made (w5.alloc (.map #[] 0));rw[World.size_alloc] at this;exact this
  obtain⟨j,hj,rfl,s,HE,HS,hsz⟩:=hrel
  by_cases hlt:j<p.length
  ·obtain⟨r,hr⟩:∃x,p[j]?=some x:=⟨_,List.getElem?_eq_getElem hlt⟩;obtain⟨b1,o1,_,rfl,hb1,⟨sv,su,rfl,hsv,hsu⟩,hcl⟩:=aB.bO HV.out hr;have hBw:Below w.heap.size w wr:=aj HH.out.below HS.out.below HH.out.below.size;have d0:wr.cell? ⟨b1,o1+j*4,none⟩=some (.bool r.head.no):=by rw[hBw.cell hb1];exact hcl 0 _ rfl
   have d1:wr.cell? ⟨b1,o1+j*4+1,none⟩=some (.string (bs r.head.name)):=by rw[hBw.cell hb1];exact hcl 1 _ rfl
   have d2:wr.cell? ⟨b1,o1+j*4+2,none⟩=some sv:=by rw[hBw.cell hb1];exact hcl 2 _ rfl
   have d3:wr.cell? ⟨b1,o1+j*4+3,none⟩=some su:=by rw[hBw.cell hb1];exact hcl 3 _ rfl
   have hbr:b1<wr.heap.size:=by have:=hBw.size;omega
   obtain⟨f1,f2,f3⟩:=HFi.out r (List.mem_of_getElem? hr);have HSt:=au (Bo hr (jo hs) s);obtain⟨a2,c2,rfl⟩:=aB.slice hsv;obtain⟨a3,c3,rfl⟩:=aB.slice hsu;have HSU:=au hsu;have HF3:=au f3;have hbl:r.body.length≤5:=f2;have hjp:j<16:=by omega
   clear hcl hr hsv hsu f3 f2 hBw;have HS1:=au (HS.out.later ((ak.refl wr).alloc (.cells #[.bool r.head.no,.string (bs r.head.name),.slice a2 r.head.terms.length c2,.slice a3 r.body.length c3] 82)));have HZ1:Hid ((wr.alloc (.cells #[.bool r.head.no,.string (bs r.head.name),.slice a2 r.head.terms.length c2,.slice a3 r.body.length c3] 82)).cell? ⟨wr.heap.size,1,none⟩=some (.string (bs r.head.name))):=by show _=_;simp
   have hR1:wr.heap.size<(wr.alloc (.cells #[.bool r.head.no,.string (bs r.head.name),.slice a2 r.head.terms.length c2,.slice a3 r.body.length c3] 82)).heap.size:=by simp
   generalize hnm:bs r.head.name=nm at*;have HNM:=au hnm;clear hnm;generalize r.head.no=no at*;generalize hR:wr.heap.size=R at*;clear HS;go_wp2
   go_loopg [65] r.body.length (fun k i wr2=>∃q:Nat,q+k=r.body.length∧i=.int .i64 q∧∃y:Rel×Rel,Hid (jf (jo hs) s r=(r.body.drop q).foldl (fI (jo hs) r.head.name) y)∧Hid (St w5 (10*j+2*q) y wr2)∧R<wr2.heap.size∧wr2.cell? ⟨R,1,none⟩=some (.string nm))
   case atStart=>
    refine⟨0,by omega,rfl,s,(rfl:_=_),?_,?_,?_⟩;·first|exact HS1|(subst hR;exact HS1)
    ·first|exact hR1|(subst hR;exact hR1)
    first|exact HZ1.out|(subst hR;exact HZ1.out)
   obtain⟨q,hq,rfl,y,HE2,HSy,hRs,z1⟩:=hrel;clear HS1 HZ1 hR1 d0 d1 d2 d3
   by_cases hlq:q<r.body.length
   ·obtain⟨a,ha⟩:∃x,r.body[q]?=some x:=⟨_,List.getElem?_eq_getElem hlq⟩;obtain⟨b2,o2,_,rfl,hb2,⟨tv,rfl,htv⟩,hcl⟩:=aB.bO HSU.out ha;have hBw:Below w.heap.size w wr:=aj HH.out.below HSy.out.below HH.out.below.size;have d0:wr.cell? ⟨b2,o2+q*3,none⟩=some (.bool a.no):=by rw[hBw.cell hb2];exact hcl 0 _ rfl
    have d1:wr.cell? ⟨b2,o2+q*3+1,none⟩=some (.string (bs a.name)):=by rw[hBw.cell hb2];exact hcl 1 _ rfl
    have d2:wr.cell? ⟨b2,o2+q*3+2,none⟩=some tv:=by rw[hBw.cell hb2];exact hcl 2 _ rfl
    have RY:b2<wr.heap.size:=by have:=hBw.size;omega
    have hst:=jH ha (fI (jo hs) r.head.name) y;have hal:=HF3.out a (List.mem_of_getElem? ha);obtain⟨a4,c4,rfl⟩:=aB.slice htv;have HSA:=au (HSy.out.later ((ak.refl wr).alloc (.cells #[.bool a.no,.string (bs a.name),.slice a4 a.terms.length c4] 79)));have hHA:=HH.out.below' HSA.out.below;have HHd:=au (Rh hs _ G a.name _ hHA.box hHA.hs);clear hHA hcl ha htv hBw;cases hh:jo hs a.name
    ·have E4:Hid (jf (jo hs) s r=(r.body.drop (q+1)).foldl (fI (jo hs) r.head.name) y):=by
      show _=_;rw[HE2.out,hst];unfold fI;rw[hh];rfl
     rw[hh] at HHd;clear hst HE2 hh;generalize bs a.name=na at*;generalize a.no=an at*
     go_wp2_with fail
     refine HHd.out.mono ?_;rintro e w' ⟨rfl,rfl⟩;go_wp2
     go_roundg (r.body.length- (q+1))
     case measure=>omega
     case rel=>exact⟨q+1,by omega,by go_num,y,E4,HSA.out.mono (by omega),by simp;omega,by rw[((ak.refl wr).alloc _).cell (p:=⟨R,1,none⟩) hRs];exact z1⟩
    obtain⟨w3,hup,hS3,hP3⟩:=HSA.out.WO (by simp[maxLen];omega) f1 hal;have hs5:=HSy.out.m2.lt;have hR2:w5.heap.size+2≤R:=by omega
    have kz1:w3.cell? ⟨R,1,none⟩=some (.string nm):=by rw[hP3.cell (x:=⟨R,1,none⟩) (by show _≤R;omega) (by simp;omega),((ak.refl wr).alloc _).cell (p:=⟨R,1,none⟩) hRs];exact z1
    have kz2:w3.cell? ⟨wr.heap.size,0,none⟩=some (.bool a.no):=by rw[hP3.cell (x:=⟨wr.heap.size,0,none⟩) (by show _≤wr.heap.size;omega) (by simp)];simp
    have kz3:w3.cell? ⟨wr.heap.size,1,none⟩=some (.string (bs a.name)):=by rw[hP3.cell (x:=⟨wr.heap.size,1,none⟩) (by show _≤wr.heap.size;omega) (by simp)];simp
    have kz4:R<w3.heap.size:=by have:=hP3.1;simp at this;omega
    rw[HNM.out] at hup;rw[hh] at HHd;cases han:a.no
    ·have E4:Hid (jf (jo hs) s r=(r.body.drop (q+1)).foldl (fI (jo hs) r.head.name) (y.1.put r.head.name a.name,y.2)):=by
      show _=_;rw[HE2.out,hst];unfold fI;rw[hh,han];rfl
     have HU:=au hup;have HS3:=au hS3;rw[han] at HHd kz2 HU d0;clear hst HE2 hh han hP3 hS3 hup HSA HSy;generalize bs a.name=na at*
     go_wp2_with fail
     refine HHd.out.mono ?_;rintro e w' ⟨rfl,rfl⟩
     go_wp2_with (first
      |(at_mapUpdate;refine aM _ rfl _ _ _ _ rfl _ _ _ _ rfl rfl rfl HU.out ?_)
      |go_in)
     go_roundg (r.body.length- (q+1))
     case measure=>omega
     case rel=>exact⟨q+1,by omega,by go_num,_,E4,HS3.out.mono (by omega),kz4,kz1⟩
    have E4:Hid (jf (jo hs) s r=(r.body.drop (q+1)).foldl (fI (jo hs) r.head.name) (y.1.put r.head.name a.name,y.2.put r.head.name a.name)):=by show _=_;rw[HE2.out,hst];unfold fI;rw[hh,han];rfl
    obtain⟨w4,OM,hS4,hP4⟩:=hS3.WQ (by simp[maxLen];omega) f1 hal;have v1:w4.cell? ⟨R,1,none⟩=some (.string nm):=by rw[hP4.cell (x:=⟨R,1,none⟩) (by show _≤R;omega) kz4];exact kz1
    have v4:R<w4.heap.size:=by have:=hP4.1;omega
    rw[HNM.out] at OM;have HU:=au hup;have HU4:=au OM;have HS4:=au hS4;rw[han] at HHd kz2 HU d0;clear hst HE2 hh han hP3 hS3 hup OM hS4 hP4 HSA HSy;generalize bs a.name=na at*
    go_wp2_with fail
    refine HHd.out.mono ?_;rintro e w' ⟨rfl,rfl⟩
    go_wp2_with (first
     |(at_mapUpdate;refine aM _ rfl _ _ _ _ rfl _ _ _ _ rfl rfl rfl HU.out ?_)
     |(at_mapUpdate;refine aM _ rfl _ _ _ _ rfl _ _ _ _ rfl rfl rfl HU4.out ?_)
     |go_in)
    go_roundg (r.body.length- (q+1))
    case measure=>omega
    case rel=>exact⟨q+1,by omega,by go_num,_,E4,HS4.out.mono (by omega),v4,v1⟩
   have E4:Hid (EA=iR (jo hs) y (p.drop (j+1))):=by
    show _=_;have e3:jf (jo hs) s r=y:=by rw[HE2.out,List.drop_eq_nil_of_le (by omega)];rfl
    rw[HE.out,HSt.out,e3]
   have hl6:w5.heap.size+2≤wr.heap.size:=by have:=HSy.out.m2.lt;omega
   go_wp2
   go_roundg (p.length- (j+1))
   case measure=>omega
   case rel=>exact⟨j+1,by omega,by go_num,y,E4,HSy.out.mono (by omega),hl6⟩
  have E2:Hid (EA=s):=by show _=_;rw[HE.out,List.drop_eq_nil_of_le (by omega)];rfl
  have HS2:Hid (St w5 160 EA wr):=by show St _ _ _ _;rw[E2.out];exact HS.out.mono (by omega)
  clear HE HS E2 HE0;have gx:=(HH.out.below' HS2.out.below).box;have hgl:=(HH.out.below' HS2.out.below).lt;go_wp2
  go_loopg [93] p.length (fun k i wr=>∃j:Nat,j+k=p.length∧i=.int .i64 j∧∃s,Hid (FW=fwK hs (hs.drop j) s)∧Hid (St w5 (160+512*j) s wr))
  case atStart=>exact⟨0,by omega,rfl,EA,HFW,HS2⟩
  obtain⟨j,hj,rfl,s,HE,HS⟩:=hrel;clear HS2 gx hgl;have hHw:=HH.out.below' HS.out.below;have gx:=hHw.box;have hgl:=hHw.lt
  by_cases hlt:j<p.length
  ·obtain⟨kk,hkk⟩:∃x,hs[j]?=some x:=⟨_,List.getElem?_eq_getElem (by have:=HHL.out;omega)⟩;obtain⟨b1,o1,_,rfl,hb1,rfl,hc⟩:=aB.bO hHw.hs hkk;have d0:wr.cell? ⟨b1,o1+j,none⟩=some (.string (bs kk)):=by simpa[jS] using hc 0 _ rfl
   have hkl:=HHs.out kk (List.mem_of_getElem? hkk);have HST:=au (jH hkk (fun s k=>fwA hs k s) s);clear hHw hc hkk;have hjp:j<16:=by omega
   generalize hbk:bs kk=bk at*;have HBK:=au hbk;clear hbk;go_wp2
   go_loopg [99] p.length (fun k i wr=>∃q:Nat,q+k=p.length∧i=.int .i64 q∧∃y,Hid (fwA hs kk s=(hs.drop q).foldl (fun s a=>fwB hs kk a s) y)∧Hid (St w5 (160+512*j+32*q) y wr))
   case atStart=>exact⟨0,by omega,rfl,s,(rfl:_=_),HS⟩
   obtain⟨q,hq,rfl,y,HE2,HSy⟩:=hrel;clear HS gx hgl d0 hb1;have hHw:=HH.out.below' HSy.out.below;have gx:=hHw.box;have hgl:=hHw.lt
   by_cases hlq:q<p.length
   ·obtain⟨aa,haa⟩:∃x,hs[q]?=some x:=⟨_,List.getElem?_eq_getElem (by have:=HHL.out;omega)⟩;obtain⟨b2,o2,_,hbe,hb1,rfl,hc⟩:=aB.bO hHw.hs haa;simp only[Option.some.injEq,Addr.mk.injEq,and_true] at hbe;obtain⟨rfl,rfl⟩:=hbe;have d0:wr.cell? ⟨b1,o1+q,none⟩=some (.string (bs aa)):=by simpa[jS] using hc 0 _ rfl
    have hal:=HHs.out aa (List.mem_of_getElem? haa);have Zb:=au (jH haa (fun s a=>fwB hs kk a s) y);clear hHw hc haa;generalize hba:bs aa=ba at*;have HBA:=au hba;clear hba;go_wp2
    go_loopg [105] p.length (fun k i wr=>∃t:Nat,t+k=p.length∧i=.int .i64 t∧∃z,Hid (fwB hs kk aa y=(hs.drop t).foldl (fun s b=>iV kk aa b s) z)∧Hid (St w5 (160+512*j+32*q+2*t) z wr))
    case atStart=>exact⟨0,by omega,rfl,y,(rfl:_=_),HSy⟩
    obtain⟨t,ht,rfl,z,HE3,HSz⟩:=hrel;clear HSy gx hgl d0 hb1;have hHw:=HH.out.below' HSz.out.below
    by_cases hlt3:t<p.length
    ·obtain⟨bb,hbb⟩:∃x,hs[t]?=some x:=⟨_,List.getElem?_eq_getElem (by have:=HHL.out;omega)⟩;obtain⟨b2,o2,_,hbe,hb1,rfl,hc⟩:=aB.bO hHw.hs hbb;simp only[Option.some.injEq,Addr.mk.injEq,and_true] at hbe;obtain⟨rfl,rfl⟩:=hbe;have d0:wr.cell? ⟨b1,o1+t,none⟩=some (.string (bs bb)):=by simpa[jS] using hc 0 _ rfl
     have hbl:=HHs.out bb (List.mem_of_getElem? hbb);have hst:=jH hbb (fun s b=>iV kk aa b s) z;clear hHw hc hbb;generalize hbz:bs bb=bz at*;have hW:=((ak.refl wr).alloc (.cells #[.string ba,.string bk] 129)).alloc (.cells #[.string bk,.string bz] 129);have HSW:=au (HSz.out.later hW);have l1:=HSW.out.Ri hal hkl;have l2:=HSW.out.Ri hkl hbl;rw[HBA.out,HBK.out] at l1;rw[hbz,HBK.out] at l2;have hm2:=HSz.out.m2.lt;clear hW HSz;cases h1:z.1 aa kk
     ·have E4:Hid (fwB hs kk aa y=(hs.drop (t+1)).foldl (fun s b=>iV kk aa b s) z):=by
       show _=_;rw[HE3.out,hst];unfold iV;rw[h1];rfl
      rw[h1] at l1;clear hst HE3 h1 l2 hbz;go_wp2
      go_roundg (p.length- (t+1))
      case measure=>omega
      case rel=>exact⟨t+1,by omega,by go_num,z,E4,HSW.out.mono (by omega)⟩
     cases h2:z.1 kk bb
     ·have E4:Hid (fwB hs kk aa y=(hs.drop (t+1)).foldl (fun s b=>iV kk aa b s) z):=by
       show _=_;rw[HE3.out,hst];unfold iV;rw[h1,h2];rfl
      rw[h1] at l1;rw[h2] at l2;clear hst HE3 h1 h2 hbz;go_wp2
      go_roundg (p.length- (t+1))
      case measure=>omega
      case rel=>exact⟨t+1,by omega,by go_num,z,E4,HSW.out.mono (by omega)⟩
     obtain⟨w3,hup,hS3,hP3⟩:=HSW.out.WO (by simp[maxLen];omega) hal hbl;have l3:=hS3.OI hal hkl;have l4:=hS3.OI hkl hbl;dsimp only at l3 l4;have kz0:w3.cell? ⟨wr.heap.size,0,none⟩=some (.string ba):=by rw[hP3.cell (x:=⟨wr.heap.size,0,none⟩) (by show _≤wr.heap.size;omega) (by simp;omega)];simp
     have kz1:w3.cell? ⟨wr.heap.size,1,none⟩=some (.string bk):=by rw[hP3.cell (x:=⟨wr.heap.size,1,none⟩) (by show _≤wr.heap.size;omega) (by simp;omega)];simp
     have kz2:w3.cell? ⟨wr.heap.size+1,0,none⟩=some (.string bk):=by rw[hP3.cell (x:=⟨wr.heap.size+1,0,none⟩) (by show _≤wr.heap.size+1;omega) (by simp)];simp
     have kz3:w3.cell? ⟨wr.heap.size+1,1,none⟩=some (.string bz):=by rw[hP3.cell (x:=⟨wr.heap.size+1,1,none⟩) (by show _≤wr.heap.size+1;omega) (by simp)];simp
     rw[h1] at l1;rw[h2] at l2;rw[HBA.out,HBK.out] at l3;rw[hbz,HBK.out] at l4;rw[hbz,HBA.out] at hup;have HU:=au hup;cases h3:(z.2 aa kk||z.2 kk bb)
     ·have E4:Hid (fwB hs kk aa y=(hs.drop (t+1)).foldl (fun s b=>iV kk aa b s) (z.1.put aa bb,z.2)):=by
       show _=_;rw[HE3.out,hst];unfold iV;rw[h1,h2,h3];rfl
      have HS3:=au hS3;rw[Bool.or_eq_false_iff] at h3;rw[h3.1] at l3;rw[h3.2] at l4;clear hst HE3 h1 h2 h3 hbz hup hS3 hP3
      go_wp2_with (first
       |(at_mapUpdate;refine aM _ rfl _ _ _ _ rfl _ _ _ _ rfl rfl rfl HU.out ?_)
       |go_in)
      go_roundg (p.length- (t+1))
      case measure=>omega
      case rel=>exact⟨t+1,by omega,by go_num,_,E4,HS3.out.mono (by omega)⟩
     have E4:Hid (fwB hs kk aa y=(hs.drop (t+1)).foldl (fun s b=>iV kk aa b s) (z.1.put aa bb,z.2.put aa bb)):=by show _=_;rw[HE3.out,hst];unfold iV;rw[h1,h2,h3];rfl
     obtain⟨w4,OM,hS4,hP4⟩:=hS3.WQ (by simp[maxLen];omega) hal hbl;rw[hbz,HBA.out] at OM;have HU4:=au OM;have HS4:=au hS4;clear hst HE3 h1 h2 hbz hup hS3 hP3 OM hS4 hP4;cases h4:z.2 aa kk
     ·rw[h4,Bool.false_or] at h3;rw[h4] at l3;rw[h3] at l4;clear h3 h4
      go_wp2_with (first
       |(at_mapUpdate;refine aM _ rfl _ _ _ _ rfl _ _ _ _ rfl rfl rfl HU.out ?_)
       |(at_mapUpdate;refine aM _ rfl _ _ _ _ rfl _ _ _ _ rfl rfl rfl HU4.out ?_)
       |go_in)
      go_roundg (p.length- (t+1))
      case measure=>omega
      case rel=>exact⟨t+1,by omega,by go_num,_,E4,HS4.out.mono (by omega)⟩
     rw[h4] at l3;clear h3 h4 l4
     go_wp2_with (first
      |(at_mapUpdate;refine aM _ rfl _ _ _ _ rfl _ _ _ _ rfl rfl rfl HU.out ?_)
      |(at_mapUpdate;refine aM _ rfl _ _ _ _ rfl _ _ _ _ rfl rfl rfl HU4.out ?_)
      |go_in)
     go_roundg (p.length- (t+1))
     case measure=>omega
     case rel=>exact⟨t+1,by omega,by go_num,_,E4,HS4.out.mono (by omega)⟩
    have E4:Hid (fwA hs kk s=(hs.drop (q+1)).foldl (fun s a=>fwB hs kk a s) z):=by
     show _=_;have e3:fwB hs kk aa y=z:=by rw[HE3.out,List.drop_eq_nil_of_le (by have:=HHL.out;omega)];rfl
     rw[HE2.out,Zb.out];show(hs.drop (q+1)).foldl _ (fwB hs kk aa y)=_;rw[e3]
    clear hHw;go_wp2
    go_roundg (p.length- (q+1))
    case measure=>omega
    case rel=>exact⟨q+1,by omega,by go_num,z,E4,HSz.out.mono (by omega)⟩
   have E4:Hid (FW=fwK hs (hs.drop (j+1)) y):=by
    show _=_;have e3:fwA hs kk s=y:=by rw[HE2.out,List.drop_eq_nil_of_le (by have:=HHL.out;omega)];rfl
    have e4:fwK hs (hs.drop j) s=(hs.drop (j+1)).foldl (fun s k=>fwA hs k s) (fwA hs kk s):=HST.out;rw[HE.out,e4,e3];rfl
   clear hHw;go_wp2
   go_roundg (p.length- (j+1))
   case measure=>omega
   case rel=>exact⟨j+1,by omega,by go_num,y,E4,HSy.out.mono (by omega)⟩
  have E2:Hid (FW=s):=by show _=_;rw[HE.out,List.drop_eq_nil_of_le (by have:=HHL.out;omega)];rfl
  have HS7:Hid (St w5 9000 FW wr):=by show St _ _ _ _;rw[E2.out];exact HS.out.mono (by omega)
  clear HE HS E2 HFW hHw;have HH7:=au (HH.out.below' HS7.out.below);generalize hw7:wr=w7 at*;clear hw7;go_wp2
  go_loopg [144] p.length (fun k i wr=>∃j:Nat,j+k=p.length∧i=.int .i64 j∧Hid (∀a∈hs.take j,FW.2 a a=false)∧wr=w7)
  case atStart=>exact⟨0,by omega,rfl,(fun a ha=>by simp at ha),rfl⟩
  obtain⟨j,hj,rfl,HN,hwe⟩:=hrel;subst hwe
  by_cases hlt:j<p.length
  ·obtain⟨aa,haa⟩:∃x,hs[j]?=some x:=⟨_,List.getElem?_eq_getElem (by have:=HHL.out;omega)⟩;obtain⟨b1,o1,_,rfl,hb1,rfl,hc⟩:=aB.bO HH7.out.hs haa;have d0:wr.cell? ⟨b1,o1+j,none⟩=some (.string (bs aa)):=by simpa[jS] using hc 0 _ rfl
   have hal:=HHs.out aa (List.mem_of_getElem? haa);have l1:=HS7.out.OI hal hal;clear hc;cases h1:FW.2 aa aa
   ·have HN2:Hid (∀a∈hs.take (j+1),FW.2 a a=false):=by
     intro a ha;rw[List.take_add_one,haa] at ha;rcases List.mem_append.1 ha with h|h
     ·exact HN.out a h
     simp at h;rw[h];exact h1
    rw[h1] at l1;clear haa h1 HN;generalize bs aa=ba at*;go_wp2
    go_roundg (p.length- (j+1))
    case measure=>omega
    case rel=>exact⟨j+1,by omega,by go_num,HN2,rfl⟩
   have F2:Hid (aV p=([],10,0)):=HNo.out aa (List.mem_of_getElem? haa) h1;rw[h1] at l1;have hR6:=HH7.out.row;have q0:wr.cell? ⟨w.heap.size,0,none⟩=some (.int .i64 0):=(by rw[cell_of_row _ _ _ _ _ _ hR6];rfl);have q1:wr.cell? ⟨w.heap.size,1,none⟩=some (.int .i64 0):=(by rw[cell_of_row _ _ _ _ _ _ hR6];rfl);have p0:wr.frozen? ⟨w.heap.size,0,none⟩=false:=aS 0 hR6;have p1:wr.frozen? ⟨w.heap.size,1,none⟩=false:=aS 1 hR6;clear hR6 haa h1 HN;generalize bs aa=ba at*;go_wp2;obtain⟨r0,r1⟩:=dW HH7.out.row (.int .i64 10) (.int .i64 0);refine bodyPost_ret (v:=.tuple #[.slice none 0 0,.agg #[.int .i64 10,.int .i64 0]]) (by simp[results,Tryz.results43,go_sem,r0,r1]) rfl ⟨.slice none 0 0,by rw[F2.out];rfl,by rw[F2.out];exact lS.eH _ _ _ _,?_⟩;exact(HH7.out.below.setCell (Nat.le_refl _) _).setCell (Nat.le_refl _) _
  have F2:=au (WR.out fun a ha=>HN.out a (by rw[List.take_of_length_le (by have:=HHL.out;omega)];exact ha));clear HN HNo WR HS7;generalize hw7:wr=w7 at*;clear hw7;generalize hL:Kk (jo hs) p (p.length+1) (fun _=>0)=L at*;have HL:=au hL;clear hL;have gx:=HH7.out.box;have hgl:=HH7.out.lt;go_wp2
  go_loopg [159] (p.length+1) (fun k i wr=>∃t:Nat,t+k=p.length+1∧i=.int .i64 t∧∃m,Hid (L=Kk (jo hs) p k (numOf m))∧Hid (eT wr w7.heap.size (80*t) m)∧Hid (∀s,numOf m s≤80*t)∧Hid (Below w7.heap.size w7 wr))
  case atStart=>exact⟨0,by omega,rfl,fun _=>none,HL.out.symm,j3.made Tryz.prog 9 3 w7,(fun s=>Nat.le_refl _),((ak.refl w7).alloc _).below⟩
  obtain⟨t,ht,rfl,m,HE,HM,HC,HB⟩:=hrel;clear gx hgl
  by_cases hlt:t<p.length+1
  ·obtain⟨k,rfl⟩:∃k',gk=k'+1:=⟨p.length-t,by omega⟩;have HE1:Hid (L=Kk (jo hs) p k (vg (jo hs) p (numOf m))):=HE;have htz:(t:Int)<(p.length:Int)+1:=by omega
   clear HE;go_wp2
   go_loopg [163] p.length (fun k i wr=>∃j:Nat,j+k=p.length∧i=.int .i64 j∧∃m2,Hid (vg (jo hs) p (numOf m)=(p.drop j).foldl (jQ (jo hs)) (numOf m2))∧Hid (eT wr w7.heap.size (80*t+5*j) m2)∧Hid (∀s,numOf m2 s≤80*t+5*j)∧Hid (Below w7.heap.size w7 wr))
   case atStart=>exact⟨0,by omega,rfl,m,(rfl:_=_),HM,HC,HB⟩
   obtain⟨j,hj,rfl,m2,HE2,HM2,HC2,HB2⟩:=hrel;clear HM HC HB
   by_cases Qc:j<p.length
   ·obtain⟨r,hr⟩:∃x,p[j]?=some x:=⟨_,List.getElem?_eq_getElem Qc⟩;obtain⟨b1,o1,_,rfl,hb1,⟨sv,su,rfl,hsv,hsu⟩,hcl⟩:=aB.bO HV.out hr;have hBw:Below w.heap.size w wr:=aj HH7.out.below HB2.out HH7.out.below.size;have d0:wr.cell? ⟨b1,o1+j*4,none⟩=some (.bool r.head.no):=by rw[hBw.cell hb1];exact hcl 0 _ rfl
    have d1:wr.cell? ⟨b1,o1+j*4+1,none⟩=some (.string (bs r.head.name)):=by rw[hBw.cell hb1];exact hcl 1 _ rfl
    have d2:wr.cell? ⟨b1,o1+j*4+2,none⟩=some sv:=by rw[hBw.cell hb1];exact hcl 2 _ rfl
    have d3:wr.cell? ⟨b1,o1+j*4+3,none⟩=some su:=by rw[hBw.cell hb1];exact hcl 3 _ rfl
    have hbr:b1<wr.heap.size:=by have:=hBw.size;omega
    obtain⟨f1,f2,f3⟩:=HFi.out r (List.mem_of_getElem? hr);have HSt:=au (jH hr (jQ (jo hs)) (numOf m2));obtain⟨a2,c2,rfl⟩:=aB.slice hsv;obtain⟨a3,c3,rfl⟩:=aB.slice hsu;have HSU:=au hsu;have HF3:=au f3;have hbl:r.body.length≤5:=f2;have hjp:j<16:=by omega
    clear hcl hr hsv hsu f3 f2 hBw;have HM3:=au (HM2.out.later ((ak.refl wr).alloc (.cells #[.bool r.head.no,.string (bs r.head.name),.slice a2 r.head.terms.length c2,.slice a3 r.body.length c3] 82)));have HB3:=au (HB2.out.alloc HB2.out.size (.cells #[.bool r.head.no,.string (bs r.head.name),.slice a2 r.head.terms.length c2,.slice a3 r.body.length c3] 82));have HZ1:Hid ((wr.alloc (.cells #[.bool r.head.no,.string (bs r.head.name),.slice a2 r.head.terms.length c2,.slice a3 r.body.length c3] 82)).cell? ⟨wr.heap.size,1,none⟩=some (.string (bs r.head.name))):=by show _=_;simp
    have hR1:wr.heap.size<(wr.alloc (.cells #[.bool r.head.no,.string (bs r.head.name),.slice a2 r.head.terms.length c2,.slice a3 r.body.length c3] 82)).heap.size:=by simp
    have hRM:w7.heap.size<wr.heap.size:=HM2.out.lt;generalize hnm:bs r.head.name=nm at*;have HNM:=au hnm;clear hnm;generalize r.head.no=no at*;generalize hR:wr.heap.size=R at*;clear HM2 HB2;go_wp2
    go_loopg [170] r.body.length (fun k i wr2=>∃q:Nat,q+k=r.body.length∧i=.int .i64 q∧∃m3,Hid (jQ (jo hs) (numOf m2) r=(r.body.drop q).foldl (mM (jo hs) r.head.name) (numOf m3))∧Hid (eT wr2 w7.heap.size (80*t+5*j+q) m3)∧Hid (∀s,numOf m3 s≤80*t+5*j+q)∧Hid (Below w7.heap.size w7 wr2)∧R<wr2.heap.size∧wr2.cell? ⟨R,1,none⟩=some (.string nm))
    case atStart=>
     refine⟨0,by omega,rfl,m2,(rfl:_=_),?_,HC2,?_,?_,?_⟩;·first|exact HM3|(subst hR;exact HM3)
     ·first|exact HB3|(subst hR;exact HB3)
     ·first|exact hR1|(subst hR;exact hR1)
     first|exact HZ1.out|(subst hR;exact HZ1.out)
    obtain⟨q,hq,rfl,m3,HE3,HM4,HC4,HB4,hRs,z1⟩:=hrel;clear HM3 HB3 HZ1 hR1 d0 d1 d2 d3
    by_cases hlq:q<r.body.length
    ·obtain⟨a,ha⟩:∃x,r.body[q]?=some x:=⟨_,List.getElem?_eq_getElem hlq⟩;obtain⟨b2,o2,_,rfl,hb2,⟨tv,rfl,htv⟩,hcl⟩:=aB.bO HSU.out ha;have hBw:Below w.heap.size w wr:=aj HH7.out.below HB4.out HH7.out.below.size;have d0:wr.cell? ⟨b2,o2+q*3,none⟩=some (.bool a.no):=by rw[hBw.cell hb2];exact hcl 0 _ rfl
     have d1:wr.cell? ⟨b2,o2+q*3+1,none⟩=some (.string (bs a.name)):=by rw[hBw.cell hb2];exact hcl 1 _ rfl
     have d2:wr.cell? ⟨b2,o2+q*3+2,none⟩=some tv:=by rw[hBw.cell hb2];exact hcl 2 _ rfl
     have RY:b2<wr.heap.size:=by have:=hBw.size;omega
     have hst:=jH ha (mM (jo hs) r.head.name) (numOf m3);have hal:=HF3.out a (List.mem_of_getElem? ha);obtain⟨a4,c4,rfl⟩:=aB.slice htv;have hLA:=(ak.refl wr).alloc (.cells #[.bool a.no,.string (bs a.name),.slice a4 a.terms.length c4] 79);have HMA:=au (HM4.out.later hLA);have HBA:=au (aj HB4.out hLA.below HB4.out.size);have hHA:=HH7.out.below' HBA.out;have HHd:=au (Rh hs _ G a.name _ hHA.box hHA.hs);have l1:=j3.look (T:=110) HMA.out Tryz.underlying9 Tryz.underlying3 Tryz.underlying110 (lg _) hal;have l2:=j3.look (T:=110) HMA.out Tryz.underlying9 Tryz.underlying3 Tryz.underlying110 (lg _) f1;rw[HNM.out] at l2;clear hHA hcl ha htv hBw;have c1:=HC4.out a.name;have c2':=HC4.out r.head.name;obtain⟨nn,hnn⟩:∃nn,nn=(if a.no&&jo hs a.name then numOf m3 a.name+1 else numOf m3 a.name):=⟨_,rfl⟩;have aat:nn≤80*t+5*j+q+1:=by rw[hnn];split <;> omega
     obtain⟨w4,hup,hM5,hg5⟩:=j3.store (T:=110) HMA.out Tryz.underlying9 Tryz.underlying3 Tryz.underlying110 (by simp[maxLen];omega) f1 (x:=max (numOf m3 r.head.name) nn) (uz (by omega));rw[HNM.out] at hup;have E4:Hid (jQ (jo hs) (numOf m2) r=(r.body.drop (q+1)).foldl (mM (jo hs) r.head.name) (numOf (m3.put r.head.name (max (numOf m3 r.head.name) nn)))):=by
      show _=_;rw[HE3.out,hst]
      congr 1
      funext s
      rw[gL];unfold mM;rw[←hnn]
     have HM5:=au hM5;have HC5:Hid (∀s,numOf (m3.put r.head.name (max (numOf m3 r.head.name) nn)) s≤80*t+5*j+(q+1)):=by intro s;have:=HC4.out s;rw[gL];split <;> omega
     have hT5:=Tn.gD hg5;have HB5:Hid (Below w7.heap.size w7 w4):=aj HBA.out (hT5.below (n:=w7.heap.size) (Nat.le_refl _) HBA.out.size) (Nat.le_refl _);have kz4:R<w4.heap.size:=by have:=hT5.size;simp at this;omega
     have kz1:w4.cell? ⟨R,1,none⟩=some (.string nm):=by rw[hT5.cell (x:=⟨R,1,none⟩) (by simp;omega) (by show R≠_;omega),hLA.cell (p:=⟨R,1,none⟩) hRs];exact z1
     generalize hn5:m3.put r.head.name (max (numOf m3 r.head.name) nn)=m5 at*;clear hn5 hM5 hg5 hT5 hLA hst HE3 HM4 HC4 HB4;cases han:a.no
     ·have hv:nn=numOf m3 a.name:=by rw[hnn,han];rfl
      subst hv;rw[han] at l1 l2 hup d0;clear hnn han HHd;generalize bs a.name=na at*;generalize numOf m3 a.name=ln at*;generalize numOf m3 r.head.name=lh at*
      by_cases hlm:lh<ln
      ·have hmx:(((max lh ln:Nat)):Int)=(ln:Int):=by omega
       have hmz:max (lh:Int) (ln:Int)=(ln:Int):=by omega
       rw[hmx] at hup;have HU:=au hup;clear hup hmx
       go_wp2_with (first
        |(at_mapUpdate;refine aM _ rfl _ _ _ _ rfl _ _ _ _ rfl rfl rfl HU.out ?_)
        |go_in)
       go_roundg (r.body.length- (q+1))
       case measure=>omega
       case rel=>exact⟨q+1,by omega,by go_num,m5,E4,HM5,HC5,HB5,kz4,kz1⟩
      have hmx:(((max lh ln:Nat)):Int)=(lh:Int):=by omega
      have hmz:max (lh:Int) (ln:Int)=(lh:Int):=by omega
      rw[hmx] at hup;have HU:=au hup;clear hup hmx
      go_wp2_with (first
       |(at_mapUpdate;refine aM _ rfl _ _ _ _ rfl _ _ _ _ rfl rfl rfl HU.out ?_)
       |go_in)
      go_roundg (r.body.length- (q+1))
      case measure=>omega
      case rel=>exact⟨q+1,by omega,by go_num,m5,E4,HM5,HC5,HB5,kz4,kz1⟩
     cases hh:jo hs a.name
     ·have hv:nn=numOf m3 a.name:=by rw[hnn,han,hh];rfl
      subst hv;rw[hh] at HHd;rw[han] at l1 l2 hup d0 HHd;clear hnn han hh;generalize bs a.name=na at*;generalize numOf m3 a.name=ln at*;generalize numOf m3 r.head.name=lh at*
      by_cases hlm:lh<ln
      ·have hmx:(((max lh ln:Nat)):Int)=(ln:Int):=by omega
       have hmz:max (lh:Int) (ln:Int)=(ln:Int):=by omega
       rw[hmx] at hup;have HU:=au hup;clear hup hmx
       go_wp2_with fail
       refine HHd.out.mono ?_;rintro e w' ⟨rfl,rfl⟩
       go_wp2_with (first
        |(at_mapUpdate;refine aM _ rfl _ _ _ _ rfl _ _ _ _ rfl rfl rfl HU.out ?_)
        |go_in)
       go_roundg (r.body.length- (q+1))
       case measure=>omega
       case rel=>exact⟨q+1,by omega,by go_num,m5,E4,HM5,HC5,HB5,kz4,kz1⟩
      have hmx:(((max lh ln:Nat)):Int)=(lh:Int):=by omega
      have hmz:max (lh:Int) (ln:Int)=(lh:Int):=by omega
      rw[hmx] at hup;have HU:=au hup;clear hup hmx
      go_wp2_with fail
      refine HHd.out.mono ?_;rintro e w' ⟨rfl,rfl⟩
      go_wp2_with (first
       |(at_mapUpdate;refine aM _ rfl _ _ _ _ rfl _ _ _ _ rfl rfl rfl HU.out ?_)
       |go_in)
      go_roundg (r.body.length- (q+1))
      case measure=>omega
      case rel=>exact⟨q+1,by omega,by go_num,m5,E4,HM5,HC5,HB5,kz4,kz1⟩
     have hv:nn=numOf m3 a.name+1:=by rw[hnn,han,hh];rfl
     subst hv;rw[hh] at HHd;rw[han] at l1 l2 hup d0 HHd;clear hnn han hh;generalize bs a.name=na at*;generalize numOf m3 a.name=ln at*;generalize numOf m3 r.head.name=lh at*
     by_cases hlm:lh<ln+1
     ·have hmx:(((max lh (ln+1):Nat)):Int)=(ln:Int)+1:=by omega
      have hmz:max (lh:Int) ((ln:Int)+1)=(ln:Int)+1:=by omega
      have hlz:(lh:Int)<(ln:Int)+1:=by omega
      rw[hmx] at hup;have HU:=au hup;clear hup hmx
      go_wp2_with fail
      refine HHd.out.mono ?_;rintro e w' ⟨rfl,rfl⟩
      go_wp2_with (first
       |(at_mapUpdate;refine aM _ rfl _ _ _ _ rfl _ _ _ _ rfl rfl rfl HU.out ?_)
       |go_in)
      go_roundg (r.body.length- (q+1))
      case measure=>omega
      case rel=>exact⟨q+1,by omega,by go_num,m5,E4,HM5,HC5,HB5,kz4,kz1⟩
     have hmx:(((max lh (ln+1):Nat)):Int)=(lh:Int):=by omega
     have hmz:max (lh:Int) ((ln:Int)+1)=(lh:Int):=by omega
     have hlz:¬(lh:Int)<(ln:Int)+1:=by omega
     rw[hmx] at hup;have HU:=au hup;clear hup hmx
     go_wp2_with fail
     refine HHd.out.mono ?_;rintro e w' ⟨rfl,rfl⟩
     go_wp2_with (first
      |(at_mapUpdate;refine aM _ rfl _ _ _ _ rfl _ _ _ _ rfl rfl rfl HU.out ?_)
      |go_in)
     go_roundg (r.body.length- (q+1))
     case measure=>omega
     case rel=>exact⟨q+1,by omega,by go_num,m5,E4,HM5,HC5,HB5,kz4,kz1⟩
    have E4:Hid (vg (jo hs) p (numOf m)=(p.drop (j+1)).foldl (jQ (jo hs)) (numOf m3)):=by
     show _=_;have e3:jQ (jo hs) (numOf m2) r=numOf m3:=by rw[HE3.out,List.drop_eq_nil_of_le (by omega)];rfl
     rw[HE2.out,HSt.out,e3]
    go_wp2
    go_roundg (p.length- (j+1))
    case measure=>omega
    case rel=>exact⟨j+1,by omega,by go_num,m3,E4,HM4.out.mono (by omega),fun s=>by have:=HC4.out s;omega,HB4⟩
   have E4:Hid (L=Kk (jo hs) p k (numOf m2)):=by
    show _=_;have e3:vg (jo hs) p (numOf m)=numOf m2:=by rw[HE2.out,List.drop_eq_nil_of_le (by omega)];rfl
    rw[HE1.out,e3]
   go_wp2
   go_roundg k
   case measure=>omega
   case rel=>exact⟨t+1,by omega,by go_num,m2,E4,HM2.out.mono (by omega),fun s=>by have:=HC2.out s;omega,HB2⟩
  obtain rfl:gk=0:=by omega
  have htz:¬(t:Int)<(p.length:Int)+1:=by omega
  have HE0:Hid (L=numOf m):=HE;have HH8:=au (HH7.out.below' HB.out);clear HE HC HB HH7;subst HE0;have HM8:=au HM.out;generalize hw8:wr=w8 at*;clear hw8 HM;go_wp2
  go_loopg [31,204] p.length (fun k o i wr=>∃j:Nat,j+k=p.length∧i=.int .i64 j∧Hid (lS.own 3 w8.heap.size wr o (each m (p.take j)))∧Hid (Below w8.heap.size w8 wr))
  case atStart=>exact⟨0,by omega,rfl,lS.fD _ _ _,Below.refl _ _⟩
  obtain⟨j,hj,rfl,HO,HB⟩:=hrel;obtain⟨ao2,co2,rfl⟩:=aB.aY HO.out;have hwr:=HB.out.size;have hm8:=HM8.out.lt
  by_cases hlt:j<p.length
  ·obtain⟨r,hr⟩:∃x,p[j]?=some x:=⟨_,List.getElem?_eq_getElem hlt⟩;obtain⟨b1,o1,_,rfl,hb1,⟨sv,su,rfl,hsv,hsu⟩,hcl⟩:=aB.bO HV.out hr;have hBw:Below w.heap.size w wr:=aj HH8.out.below HB.out HH8.out.below.size;have d0:wr.cell? ⟨b1,o1+j*4,none⟩=some (.bool r.head.no):=by rw[hBw.cell hb1];exact hcl 0 _ rfl
   have d1:wr.cell? ⟨b1,o1+j*4+1,none⟩=some (.string (bs r.head.name)):=by rw[hBw.cell hb1];exact hcl 1 _ rfl
   have d2:wr.cell? ⟨b1,o1+j*4+2,none⟩=some sv:=by rw[hBw.cell hb1];exact hcl 2 _ rfl
   have d3:wr.cell? ⟨b1,o1+j*4+3,none⟩=some su:=by rw[hBw.cell hb1];exact hcl 3 _ rfl
   have hbr:b1<wr.heap.size:=by have:=hBw.size;omega
   have E:=au (AO hr m);have hlen:(each m (p.take j)).length=j:=by simp[each];omega
   have f1:=(HFi.out r (List.mem_of_getElem? hr)).1;have hlk:=au (j3.look (T:=110) ((HM8.out.below HB.out).later ((ak.refl wr).alloc (.cells #[.bool r.head.no,.string (bs r.head.name),sv,su] 82))) Tryz.underlying9 Tryz.underlying3 Tryz.underlying110 (lg _) f1);have hOA:=aB.dI HO.out ((Tn.refl w7.heap.size wr).alloc (.cells #[.bool r.head.no,.string (bs r.head.name),sv,su] 82)) hm8;obtain⟨v',w4,hrun,o4,g4⟩:=xG hOA (x:=numOf m r.head.name) (by rw[hlen];omega) (by simp;omega);have HO4:Hid (lS.own 3 w8.heap.size w4 v' (each m (p.take (j+1)))):=by show lS.own _ _ _ _ _;rw[E.out];exact o4
   have HB4:Hid (Below w8.heap.size w8 w4):=by refine aj ((HB.out.alloc hwr _).alloc (by simp;omega) _) ⟨g4.os,g4.tape,g4.output,g4.size,fun k hk=>g4.block k (by simp;omega) (fun e=>?_)⟩ (Nat.le_refl _);have:=(aB.dL hOA e.symm).1;omega
   rw[hlen] at hrun;simp only[World.size_alloc] at hrun
   replace hrun:=au hrun
   rw[hlen];obtain⟨a2,c2,rfl⟩:=aB.slice hsv;obtain⟨a3,c3,rfl⟩:=aB.slice hsu;clear hcl hr hsv hsu hOA o4 g4 HO HB E f1 hBw;clear hlen;generalize numOf m r.head.name=nu at*;generalize bs r.head.name=nm at*;generalize r.head.no=no at*
   go_wp2_with (first
    |(at_lookup;refine bP _ rfl _ _ _ _ rfl _ _ _ rfl rfl (bK hlk) ?_)
    |(at_builtin;refine wpList_append_run rfl (.tmp 208) (.tmp 214) 67 rfl _ _ _ _ rfl rfl (bK hrun) ?_)
    |go_in)
   go_roundg (p.length- (j+1))
   case measure=>omega
   case rel=>exact⟨j+1,by omega,by go_num,HO4,HB4⟩
  have e:j=p.length:=by omega
  subst e;have hO:=HO.out;rw[List.take_length] at hO⊢;have HU8:=au (aB.fq hO (by simp[each];omega));have HH9:=au (HH8.out.below' HB.out);have hR6:=HH9.out.row;have hw8:=HH8.out.lo;have q0:wr.cell? ⟨w.heap.size,0,none⟩=some (.int .i64 0):=(by rw[cell_of_row _ _ _ _ _ _ hR6];rfl);have q1:wr.cell? ⟨w.heap.size,1,none⟩=some (.int .i64 0):=(by rw[cell_of_row _ _ _ _ _ _ hR6];rfl);have p0:wr.frozen? ⟨w.heap.size,0,none⟩=false:=aS 0 hR6;have p1:wr.frozen? ⟨w.heap.size,1,none⟩=false:=aS 1 hR6;have F3:Hid (aV p=(each m p,0,0)):=F2.out;clear hR6 hO HO HB F2;generalize(each m p).length=ne at*;go_wp2;obtain⟨r0,r1⟩:=dW HH9.out.row (.int .i64 0) (.int .i64 0);refine bodyPost_ret (v:=.tuple #[.slice ao2 ne co2,.agg #[.int .i64 0,.int .i64 0]]) (by simp[results,Tryz.results43,go_sem,r0,r1]) rfl ⟨.slice ao2 ne co2,by rw[F3.out];rfl,?_,?_⟩
  ·rw[F3.out];exact aB.bQ (aB.mW (aB.mW HU8.out hw8 _) hw8 _) fun k _ hk=>by have:w8.heap.size≤k:=hk;show w.heap.size≤k;omega
  exact(HH9.out.below.setCell (Nat.le_refl _) _).setCell (Nat.le_refl _) _
 have F:Hid (aV p=([],ex,ea)):=by show _=_;unfold aV;rw[hwp,if_neg h0]
 have hq:(ex != 0)=true:=by simpa using h0
 clear h0 hwp HV
 go_enter Tryz.func43,Tryz.ntmps43
 go_wp2_with (go_at_call 70;refine HW.out.mono ?_;rintro e w2 ⟨rfl,hB2,hR2,hs2⟩;have q0:w2.cell? ⟨w.heap.size,0,none⟩=some (.int .i64 0):=(by rw[cell_of_row _ _ _ _ _ _ hR2];rfl);have q1:w2.cell? ⟨w.heap.size,1,none⟩=some (.int .i64 0):=(by rw[cell_of_row _ _ _ _ _ _ hR2];rfl);have p0:w2.frozen? ⟨w.heap.size,0,none⟩=false:=aS 0 hR2;have p1:w2.frozen? ⟨w.heap.size,1,none⟩=false:=aS 1 hR2;replace hR2:=au hR2)
 go_region
 go_wp2;obtain⟨r0,r1⟩:=dW (bK hR2) (.int .i64 ex) (.int .i64 (ea:Int));have hL:=((ak.refl ((w2.setCell ⟨w.heap.size,0,none⟩ (.int .i64 ex)).setCell ⟨w.heap.size,1,none⟩ (.int .i64 (ea:Int)))).alloc (.cells #[.int .i64 ex,.int .i64 (ea:Int)] 69)).drew;rw[←hL.cell (p:=⟨w.heap.size,0,none⟩) (by simp only[size_setCell];exact hs2)] at r0;rw[←hL.cell (p:=⟨w.heap.size,1,none⟩) (by simp only[size_setCell];exact hs2)] at r1;refine bodyPost_ret (v:=.tuple #[.slice none 0 0,.agg #[.int .i64 ex,.int .i64 (ea:Int)]]) (by simp[results,Tryz.results43,go_sem,r0,r1]) rfl ⟨.slice none 0 0,by rw[F.out],by rw[F.out];exact lS.eH _ _ _ _,?_⟩;exact aj ((hB2.out.setCell (Nat.le_refl _) _).setCell (Nat.le_refl _) _) hL.below (by simp only[size_setCell];exact Nat.le_of_lt hs2)
def oq (p:List aG) (ss:List Nat) (C n k:Nat) (now:List aA):Int×List aA:=
 if n<C then(if(dM p ss n k now).1≠0 then((dM p ss n k now).1,[]) else kJ p ss (C-n-1) (n+1) (dM p ss n k now).2) else(0,now)
theorem xX {p:List aG} {ss:List Nat} {C n:Nat} {x:List aA} (h:n≤C):kJ p ss (C-n) n x=oq p ss C n 201 x:=by
 unfold oq
 by_cases e:n<C
 ·rw[if_pos e,show C-n=(C-n-1)+1 by omega]
  rfl
 rw[if_neg e,show C-n=0 by omega]
 rfl
theorem Bp {p:List aG} {ss:List Nat} {C n k:Nat} {now:List aA} (h:n<C):oq p ss C n (k+1) now=
  if(bW p ss n now).1≠0 then((bW p ss n now).1,[]) else if(bW p ss n now).2.length=now.length then oq p ss C (n+1) 201 (bW p ss n now).2 else oq p ss C n k (bW p ss n now).2:=by
 by_cases h1:(bW p ss n now).1≠0
 ·rw[if_pos h1];unfold oq;rw[if_pos h];have e:dM p ss n (k+1) now=((bW p ss n now).1,[]):=by rw[dM,if_pos h1]
  rw[e,if_pos h1]
 rw[if_neg h1]
 by_cases h2:(bW p ss n now).2.length=now.length
 ·rw[if_pos h2,←xX (by omega)];have e:dM p ss n (k+1) now=(0,(bW p ss n now).2):=by rw[dM,if_neg h1,if_pos h2]
  unfold oq;rw[if_pos h,e,if_neg (by simp),show C- (n+1)=C-n-1 by omega]
 rw[if_neg h2];have e:dM p ss n (k+1) now=dM p ss n k (bW p ss n now).2:=by rw[dM,if_neg h1,if_neg h2]
 unfold oq;rw[if_pos h,if_pos h,e]
def gH (p:List aG) (ss:List Nat) (C n k:Nat) (now:List aA):List (List aA):=
 if n<C then(if(aR p ss n k now).1≠0 then[] else(aR p ss n k now).2++(bC p ss (C-n-1) (n+1) (bR now (aR p ss n k now).2)).2) else[]
theorem rest_start {p:List aG} {ss:List Nat} {C n:Nat} {x:List aA} (h:n≤C):(bC p ss (C-n) n x).2=gH p ss C n 201 x:=by
 unfold gH
 by_cases e:n<C
 ·obtain⟨c,hc⟩:∃c,C-n=c+1:=⟨C-n-1,by omega⟩;rw[if_pos e,hc,show c+1-1=c by omega]
  by_cases h1:(aR p ss n 201 x).1≠0
  ·rw[if_pos h1,bC,if_pos h1]
  rw[if_neg h1,bC,if_neg h1]
 rw[if_neg e,show C-n=0 by omega]
 rfl
theorem rest_step {p:List aG} {ss:List Nat} {C n k:Nat} {now:List aA} (h:n<C) (h1:(bW p ss n now).1=0) (h0:(oq p ss C n (k+1) now).1=0):gH p ss C n (k+1) now=
  (bW p ss n now).2::(if(bW p ss n now).2.length=now.length then gH p ss C (n+1) 201 (bW p ss n now).2 else gH p ss C n k (bW p ss n now).2):=by
 have h1':¬(bW p ss n now).1≠0:=fun h=>h h1
 by_cases h2:(bW p ss n now).2.length=now.length
 ·rw[if_pos h2,←rest_start (by omega),show C- (n+1)=C-n-1 by omega];have e:aR p ss n (k+1) now=(0,[(bW p ss n now).2]):=by rw[aR,if_neg h1',if_pos h2]
  unfold gH;rw[if_pos h,e,if_neg (by simp)]
  rfl
 rw[if_neg h2];have e:aR p ss n (k+1) now=((aR p ss n k (bW p ss n now).2).1,(bW p ss n now).2::(aR p ss n k (bW p ss n now).2).2):=by rw[aR,if_neg h1',if_neg h2]
 rw[Bp h,if_neg h1',if_neg h2] at h0;have h3:¬(aR p ss n k (bW p ss n now).2).1≠0:=fun hc=>by rw[←(tN p ss n k (bW p ss n now).2).1] at hc;unfold oq at h0;rw[if_pos h,if_pos hc] at h0;exact hc h0
 unfold gH;rw[if_pos h,if_pos h,e,if_neg h3,if_neg h3,gy]
 rfl
def lD (w:World) (g:Nat) (ps:List (List aA)):Prop:=∀(i:Nat) L,ps[i]?=some L→∃u,w.cell? ⟨g,i,none⟩=some u∧Facts w u L
def qW (w:World) (v:Value) (er:Int) (a:Int×List aA) (ps:List (List aA)):Prop:=
 er=a.1∧(a.1≠0→v=.slice none 0 0)∧(a.1=0→∃g n cap u,v=.slice (some ⟨g,0,none⟩) (n+1) cap∧n≤1000000∧g<w.heap.size∧w.cell? ⟨g,n,none⟩=some u∧Facts w u a.2∧ps.length=n+1∧lD w g ps)
theorem nL.cells {lo:Nat} {w:World} {v:Value} {xs:List Value} {u:Value} (h:nL lo w v xs) {i:Nat} (hi:xs[i]?=some u):∀g n cap,v=.slice (some ⟨g,0,none⟩) n cap→w.cell? ⟨g,i,none⟩=some u:=fun g' n' cap' e'=>by
 obtain⟨g,cap,cur,e,h1,h2,h3,h4,h5,h6,_⟩:=h;rw[e] at e';simp only[Value.slice.injEq,Option.some.injEq,Addr.mk.injEq] at e';obtain⟨⟨rfl,_⟩,_,_⟩:=e';rw[cell_of_row _ _ _ _ _ _ h2,←Array.getElem?_toList];have:(cur.toList.take xs.length)[i]?=some u:=by rw[h6];exact hi
 rw[List.getElem?_take] at this;split at this;·exact this
 cases this
theorem nL.last {lo:Nat} {w:World} {v:Value} {xs:List Value} {u:Value} (h:nL lo w v (xs++[u])):∃g cap,v=.slice (some ⟨g,0,none⟩) (xs.length+1) cap∧lo≤g∧g<w.heap.size∧w.cell? ⟨g,xs.length,none⟩=some u:=by have hc:=h.cells (i:=xs.length) (u:=u) (by simp);obtain⟨g,cap,cur,e,h1,h2,_⟩:=h;exact⟨g,cap,by rw[e];simp,h1,(Array.getElem?_eq_some_iff.1 h2).1,hc g _ cap e⟩
theorem Jz {w:World} {Ls:List (List aA)} {xs:List Value} {now S:List aA} {u u2:Value} (h:∀(i:Nat) L,(Ls++[now])[i]?=some L→∃u',(xs++[u])[i]?=some u'∧Facts w u' L) (hl:Ls.length=xs.length) (hS:Facts w u2 S):∀(i:Nat) L,((Ls++[now])++[S])[i]?=some L→∃u',((xs++[u])++[u2])[i]?=some u'∧Facts w u' L:=fun i L hi=>by
 by_cases hlt:i<(Ls++[now]).length
 ·rw[List.getElem?_append_left hlt] at hi;obtain⟨u',h1,h2⟩:=h i L hi;exact⟨u',by rw[List.getElem?_append_left (List.getElem?_eq_some_iff.1 h1).1];exact h1,h2⟩
 have e:i=(Ls++[now]).length:=by have:=(List.getElem?_eq_some_iff.1 hi).1;rw[List.length_append] at this;simp only[List.length_singleton] at this;omega
 subst e;rw[List.getElem?_append_right (Nat.le_refl _),Nat.sub_self] at hi;simp only[List.getElem?_cons_zero,Option.some.injEq] at hi;subst hi;refine⟨u2,?_,hS⟩;have e2:(Ls++[now]).length=(xs++[u]).length:=by simp[hl]
 rw[e2,List.getElem?_append_right (Nat.le_refl _),Nat.sub_self]
 rfl
theorem JA (p:List aG) (l:List aA) (pv fv:Value) (w:World) (hp:eP.sl bf w pv p) (hf:Facts w fv l) (hlg:∀r∈p,Bg r) (hok:∀k,okF (l.getD k aC)):
  Calls Tryz.prog 22 #[pv,fv] w fun e w'=>∃v er,e=.returned (.tuple #[v,.int .i64 er])∧qW w' v er (jG p l) (l::(bC p (aV p).1 (countP (aV p).1) 0 l).2)∧Below w.heap.size w w':=by
 have HSt:=au (OJ p pv w hp hlg);obtain⟨pa,pc,rfl⟩:=aB.slice hp;obtain⟨fa,fc,rfl⟩:=aF hf;have HV:=au hp;have HF:=au hf;have HOk:=au hok;clear hp hf hlg hok;obtain⟨ss,ex,ea,hse⟩:∃ss ex ea,aV p=(ss,ex,ea):=⟨_,_,_,rfl⟩;rw[hse] at HSt;have HSE:=au hse;obtain⟨PS,hPS⟩:∃PS,PS=l::(bC p (aV p).1 (countP (aV p).1) 0 l).2:=⟨_,rfl⟩;rw[←hPS];rw[hse] at hPS;have HPS:=au hPS;clear hse hPS
 go_enter Tryz.func22,Tryz.ntmps22
 go_wp2_with fail
 refine HSt.out.mono ?_;rintro e w1 ⟨u,rfl,hu,hB1⟩;dsimp only at hu⊢;have HU:Hid (lS.sl bf w1 u ss):=aB.dO hu;obtain⟨ua,uc,rfl⟩:=aB.slice hu;have HB1:=au hB1;clear hu hB1 HSt
 by_cases h0:ex=0
 ·subst h0;obtain⟨hw0,m,hms,hdm,hlm,hsm⟩:=kF HSE.out;have hpR:=mP.1 hw0;have IV:∀s∈ss,s<1000:=fun s hs=>by
   rw[hms] at hs;obtain⟨r,hr,rfl⟩:=List.mem_map.1 hs;have:=pR hlm hsm r hr;have:=hpR.few;omega
  have hcs:countP ss≤1000:=countP_le IV;have HMS:Hid (ss=p.map fun r=>numOf m r.head.name):=hms;have HRP:=au hpR;obtain⟨w2,hw2⟩:∃w2,w2=w1.alloc (.cells #[.int .i64 0,.int .i64 (ea:Nat)] 69):=⟨_,rfl⟩;have hL2:ak w1 w2:=by rw[hw2];exact(ak.refl _).alloc _
  have hB2:Below w.heap.size w w2:=aj HB1.out hL2.below HB1.out.size;have HFC:=au (Ra p l (.slice pa p.length pc) (.slice fa l.length fc) w2 (aB.aJ HV.out hB2) (HF.out.below hB2) hpR HOk.out);obtain⟨fx,fe,hfe⟩:∃fx fe,eY p l=(fx,fe):=⟨_,_,rfl⟩;rw[hfe] at HFC;have HFE:=au hfe;have HB2:=au hB2;have HU2:=au (aB.aK HU.out hL2);have HSm:=au IV;have HW2:=au hw2;clear hw0 hms hdm hlm hsm hpR IV hL2 hB2 hfe hw2 HB1 HU
  go_wp2_with fail
  rw[←HW2.out];refine HFC.out.mono ?_;rintro e w3 ⟨rfl,hB3⟩;dsimp only;have HB3:Hid (Below w.heap.size w w3):=aj HB2.out hB3 HB2.out.size;have HU3:=au (aB.aJ HU2.out hB3);clear hB3 HFC HW2 HB2 HU2
  by_cases h1:fx=0
  ·subst h1;have hgood:GoodS p l:=mX (by rw[HFE.out]);have HX:Hid (jG p l=oq p ss (countP ss) 0 201 l):=by
    show _=_;rw[←xX (Nat.zero_le _),Nat.sub_zero];unfold jG;rw[HSE.out,HFE.out];simp
   have HQ:Hid ((jG p l).1=0→PS=[]++l::gH p ss (countP ss) 0 201 l):=fun _=>by
    rw[HPS.out,←rest_start (Nat.zero_le _),Nat.sub_zero]
    rfl
   obtain⟨w4,hw4⟩:∃w4,w4=w3.alloc (.cells #[.int .i64 0,.int .i64 fe] 69):=⟨_,rfl⟩;have hL4:ak w3 w4:=by rw[hw4];exact(ak.refl _).alloc _
   obtain⟨w5,hw5⟩:∃w5,w5=w4.alloc (.cells #[.slice fa l.length fc] 24):=⟨_,rfl⟩;have hL5:ak w4 w5:=by rw[hw5];exact(ak.refl _).alloc _
   have hB5:Below w.heap.size w w5:=aj HB3.out (hL4.trans hL5).below HB3.out.size;have hr5:w5.heap[w4.heap.size]?=some (.cells #[.slice fa l.length fc] 24 (0,0)):=by rw[hw5];exact heap_alloc_new w4 _
   have HR0:Hid (nL w.heap.size w5 (.slice (some ⟨w4.heap.size,0,none⟩) 1 1) ([]++[.slice fa l.length fc])):=
    ⟨w4.heap.size,1,_,rfl,Nat.le_trans HB3.out.size hL4.size,hr5,by simp,by simp[maxLen],by simp,by simp,fun u hu=>by simp at hu;subst hu;exact⟨_,_,_,rfl⟩⟩
   have HF5:=au (HF.out.below hB5);have HSe:Hid (∀(i:Nat) L,([]++[l])[i]?=some L→∃u',([]++[Value.slice fa l.length fc])[i]?=some u'∧Facts w5 u' L):=fun i L hi=>by
    cases i with
    |zero=>
     simp at hi;subst hi;exact⟨_,rfl,HF5.out⟩
    |succ i=>simp at hi
   have HU5:=au (aB.aK HU3.out (hL4.trans hL5));have HB5:=au hB5;have hs4:w4.heap.size=w3.heap.size+1:=by rw[hw4];simp
   have HG:=au hgood;have NU:=hgood.few;rw[hw4] at hw5;have HW5:=au hw5;rw[hs4] at HR0;clear hgood hL4 hL5 hB5 hr5 hw4 hw5 HB3 HU3 HSE HFE hs4;generalize hc:countP ss=C at*;have HCn:=au hc;clear hc;go_wp2;rw[←HW5.out]
   go_loopg [9,10] (C*202+201) (fun g o i wr=>∃(gg n k:Nat) (now:List aA) (xs:List Value) (u:Value) (Ls:List (List aA)),gg=g∧n≤C∧i=.int .i64 n∧Hid (nL w.heap.size wr o (xs++[u]))∧Hid (Facts wr u now)∧Hid (GoodS p now)∧(C-n)*202+(200-now.length)≤gg∧xs.length+gg≤C*202+201∧200<now.length+k∧Hid (jG p l=oq p ss C n k now)∧Hid (Below w.heap.size w wr)∧Hid (lS.sl bf wr (.slice ua ss.length uc) ss)∧Hid (Ls.length=xs.length)∧Hid (∀(i:Nat) L,(Ls++[now])[i]?=some L→∃u',(xs++[u])[i]?=some u'∧Facts wr u' L)∧Hid ((jG p l).1=0→PS=Ls++now::gH p ss C n k now))
   case atStart=>exact⟨_,0,201,l,[],_,[],rfl,by omega,rfl,HR0,HF5,HG,by omega,by simp,by omega,HX,HB5,HU5,(rfl:_=_),HSe,HQ⟩
   clear HR0 HF5 HG HX HB5 HW5 HU5 HSe HQ;obtain⟨gg,n,k,now,xs,u,Ls,hgg,hnC,rfl,HRw,HFn,HG,hgm,hxg,hfu,HX,HBr,HU,HLl,HSe,HQ⟩:=hrel;obtain⟨g0,cap0,hov,hg0,hg1,hcu⟩:=HRw.out.last;subst hov;have HCt:=au (Q5 ss (.slice ua ss.length uc) wr HU.out HSm.out);rw[HCn.out] at HCt
   by_cases hlt:n<C
   ·have hltz:(n:Int)<(C:Int):=by omega
    obtain⟨na,nc,hnv⟩:=aF HFn.out;subst hnv;have Zc:=HG.out.few;obtain⟨k',rfl⟩:∃k',k=k'+1:=⟨k-1,by omega⟩;have hst:=Bp (p:=p) (ss:=ss) (k:=k') (now:=now) hlt;rw[←HX.out] at hst;have hrs:(bW p ss n now).1=0→(jG p l).1=0→PS=(Ls++[now])++(bW p ss n now).2::(if(bW p ss n now).2.length=now.length then gH p ss C (n+1) 201 (bW p ss n now).2 else gH p ss C n k' (bW p ss n now).2):=fun h1 h2=>by rw[HQ.out h2,rest_step hlt h1 (by rw[←HX.out];exact h2)];simp
    have HOn:=au (UF p ss n now (.slice pa p.length pc) (.slice ua ss.length uc) (.slice na now.length nc) wr (aB.aJ HV.out HBr.out) HU.out HFn.out HRP.out HG.out);obtain⟨er,S,hS⟩:∃er S,bW p ss (n:Int) now=(er,S):=⟨_,_,rfl⟩;rw[hS] at HOn hst hrs;dsimp only at hst hrs;have HRs:=au hrs;have HSt:=au hst;have HGS:Hid (er=0→GoodS p S∧∀f∈now,f∈S):=fun he=>by subst he;have h:=hS;rw[HMS.out] at h;exact jl HRP.out _ HG.out h
    have e1:((xs.length:Int)+1-1)=(xs.length:Int):=by omega
    have hxl:xs.length≤1000000:=by omega
    clear hst hS HX hrs HQ
    go_wp2_with fail
    refine HCt.out.mono ?_;rintro e w6 ⟨rfl,rfl⟩;clear HCt
    go_wp2_with fail
    refine HOn.out.mono ?_;rintro e w7 ⟨v7,er',rfl,⟨her,hT1,hT2⟩,hB7⟩;dsimp only at her hT1 hT2;have NV:=her.symm;clear her;subst NV;have Rj:=au (aj HBr.out hB7 HBr.out.size)
    by_cases he:er=0
    ·subst he;have hF7:=hT2 rfl;obtain⟨hG7,hsub⟩:=HGS.out rfl;have hle:=EN HG.out.up hsub;have Zd:=hG7.few;have UM:nL w.heap.size w7 (.slice (some ⟨g0,0,none⟩) (xs.length+1) cap0) (xs++[.slice na now.length nc]):=HRw.out.block fun k hk _=>hB7.block k hk;have hU7:=aB.aJ HU.out hB7;obtain⟨a7,c7,rfl⟩:=aF hF7;obtain⟨v8,w8,hrun,hR8,hg8⟩:=UM.more Rj.out.size (u:=.slice a7 S.length c7) ⟨_,_,_,rfl⟩ (by simp;omega);have hLa:ak w7 (w7.alloc (.cells #[.slice a7 S.length c7] 24)):=(ak.refl _).alloc _;have hRa:nL w.heap.size (w7.alloc (.cells #[.slice a7 S.length c7] 24)) (.slice (some ⟨g0,0,none⟩) (xs.length+1) cap0) (xs++[.slice na now.length nc]):=UM.block fun k hk _=>hLa.block hk;have HF8:=au (oh hRa hg8 (hF7.later hLa));have WS:=au (Jz (u2:=.slice a7 S.length c7) (S:=S) (w:=w8) (fun i L hi=>by
      obtain⟨u',h1,h2⟩:=HSe.out i L hi;exact⟨u',h1,oh hRa hg8 ((h2.below hB7).later hLa)⟩) HLl.out HF8.out)
     have WT:Hid ((Ls++[now]).length=(xs++[Value.slice na now.length nc]).length):=by show _=_;rw[List.length_append,List.length_append,HLl.out];rfl
     have HU8:=au (FN hRa hg8 (aB.aK hU7 hLa));have HB8:Hid (Below w.heap.size w w8):=(aj Rj.out hLa.below Rj.out.size).grown hg8 (by have:=Rj.out.size;simp;omega) (fun k e=>by simp[Value.ownBlock] at e;omega);obtain⟨g8,aau,hv8,_,_,_⟩:=hR8.last;subst hv8;have HR8:=au hR8;have HG7:=au hG7;have HRn:=au hrun;have Ze:(xs++[Value.slice na now.length nc]).length=xs.length+1:=by simp
     rw[Ze] at HRn HR8;simp only[ne_eq,not_true_eq_false,if_false] at HSt;have Sy:=au (HRs.out rfl);clear hT1 hT2 hB7 hF7 hG7 hsub UM hU7 hrun hR8 hg8 hLa hRa HOn HGS HRw HFn HG HU HBr hcu HSe HLl HRs
     by_cases hl:S.length=now.length
     ·have HX':Hid (jG p l=oq p ss C (n+1) 201 S):=by show _=_;rw[HSt.out,if_pos hl]
      have HQ':Hid ((jG p l).1=0→PS=(Ls++[now])++S::gH p ss C (n+1) 201 S):=fun h=>by have:=Sy.out h;rw[if_pos hl] at this;exact this
      have hlz:((S.length:Int)==(now.length:Int))=true:=by
       have:(S.length:Int)=(now.length:Int):=by omega
       simp[this]
      clear HSt hl Sy
      go_wp2_with (at_builtin;refine wpList_append_run rfl (.tmp 62) (.tmp 64) 51 rfl _ _ _ _ rfl rfl HRn.out ?_)
      go_roundg (gg-1)
      case measure=>omega
      case rel=>exact⟨_,n+1,201,S,xs++[Value.slice na now.length nc],_,Ls++[now],rfl,by omega,by go_num,HR8,HF8,HG7,by omega,by simp;omega,by omega,HX',HB8,HU8,WT,WS,HQ'⟩
     have HX':Hid (jG p l=oq p ss C n k' S):=by show _=_;rw[HSt.out,if_neg hl]
     have HQ':Hid ((jG p l).1=0→PS=(Ls++[now])++S::gH p ss C n k' S):=fun h=>by have:=Sy.out h;rw[if_neg hl] at this;exact this
     have hlz:((S.length:Int)==(now.length:Int))=false:=by
      have:¬(S.length:Int)=(now.length:Int):=by omega
      simpa using this
     clear HSt Sy
     go_wp2_with (at_builtin;refine wpList_append_run rfl (.tmp 62) (.tmp 64) 51 rfl _ _ _ _ rfl rfl HRn.out ?_)
     go_roundg (gg-1)
     case measure=>omega
     case rel=>exact⟨_,n,k',S,xs++[Value.slice na now.length nc],_,Ls++[now],rfl,by omega,by go_num,HR8,HF8,HG7,by omega,by simp;omega,by omega,HX',HB8,HU8,WT,WS,HQ'⟩
    have e2:=hT1 he;subst e2;have HT:Hid (∀w',qW w' (.slice none 0 0) er (jG p l) PS):=fun w'=>by rw[HSt.out,if_pos he];exact⟨rfl,fun _=>rfl,fun h=>absurd h he⟩
    have hne:(er != 0)=true:=by simpa using he
    clear hT1 hT2 HGS HSt hB7 HOn;go_wp2;exact bodyPost_ret (v:=.tuple #[.slice none 0 0,.int .i64 er]) (by simp[results,Tryz.results22,go_sem]) rfl ⟨_,er,rfl,HT.out _,Rj.out⟩
   have hltz:¬(n:Int)<(C:Int):=by omega
   have hx:=HX.out;unfold oq at hx;rw[if_neg hlt] at hx;have hpe:PS=Ls++[now]:=by have:=HQ.out (by rw[hx]);unfold gH at this;rw[if_neg hlt] at this;exact this
   have HT:Hid (qW wr (.slice (some ⟨g0,0,none⟩) (xs.length+1) cap0) 0 (jG p l) PS):=by show qW _ _ _ _ _;rw[hx];refine⟨rfl,fun h=>absurd rfl h,fun _=>⟨g0,xs.length,cap0,u,rfl,by omega,hg1,hcu,HFn.out,by rw[hpe,List.length_append,HLl.out];rfl,fun i L hi=>?_⟩⟩;rw[hpe] at hi;obtain⟨u',h1,h2⟩:=HSe.out i L hi;exact⟨u',HRw.out.cells h1 g0 _ cap0 rfl,h2⟩
   clear hx HX hpe
   go_wp2_with fail
   refine HCt.out.mono ?_;rintro e w6 ⟨rfl,rfl⟩;clear HCt;go_wp2;exact bodyPost_ret (v:=.tuple #[.slice (some ⟨g0,0,none⟩) (xs.length+1) cap0,.int .i64 0]) (by simp[results,Tryz.results22,go_sem]) rfl ⟨_,0,rfl,HT.out,HBr.out⟩
  have HT:Hid (∀w',qW w' (.slice none 0 0) fx (jG p l) PS):=fun w'=>by unfold jG;rw[HSE.out,HFE.out];simp only[ne_eq,not_true_eq_false,if_false,h1,not_false_eq_true,if_true];exact⟨rfl,fun _=>rfl,fun h=>absurd h h1⟩
  have hne:(fx != 0)=true:=by simpa using h1
  have HB4:Hid (Below w.heap.size w (w3.alloc (.cells #[.int .i64 fx,.int .i64 fe] 69))):=aj HB3.out ((ak.refl _).alloc _).below HB3.out.size;clear HSE HFE h1 HV HF HU3;go_wp2
  go_quiet (fail)
  go_wp2;exact bodyPost_ret (v:=.tuple #[.slice none 0 0,.int .i64 fx]) (by simp[results,Tryz.results22,go_sem]) rfl ⟨_,fx,rfl,HT.out _,below_drewN HB4.out _⟩
 have HT:Hid (∀w',qW w' (.slice none 0 0) ex (jG p l) PS):=fun w'=>by unfold jG;rw[HSE.out];simp only[ne_eq,h0,not_false_eq_true,if_true];exact⟨rfl,fun _=>rfl,fun h=>absurd h h0⟩
 have hne:(ex != 0)=true:=by simpa using h0
 have HB4:Hid (Below w.heap.size w (w1.alloc (.cells #[.int .i64 ex,.int .i64 (ea:Nat)] 69))):=aj HB1.out ((ak.refl _).alloc _).below HB1.out.size;clear HSE h0 HV HF HU;go_wp2
 go_quiet (fail)
 go_wp2;exact bodyPost_ret (v:=.tuple #[.slice none 0 0,.int .i64 ex]) (by simp[results,Tryz.results22,go_sem]) rfl ⟨_,ex,rfl,HT.out _,below_drewN HB4.out _⟩
theorem Zf (p:List aG) (l:List aA) (pv fv:Value) (w:World) (hp:eP.sl bf w pv p) (hf:Facts w fv l) (hlg:∀r∈p,Bg r) (hok:∀k,okF (l.getD k aC)):
  Calls Tryz.prog 16 #[pv,fv] w fun e w'=>∃v er,e=.returned (.tuple #[v,.int .i64 er])∧lT w' v er (jG p l)∧Below w.heap.size w w':=by
 have HR:=au (JA p l pv fv w hp hf hlg hok);obtain⟨pa,pc,rfl⟩:=aB.slice hp;obtain⟨fa,fc,rfl⟩:=aF hf;clear hp hf hlg hok;obtain⟨er,L,hA⟩:∃er L,jG p l=(er,L):=⟨_,_,rfl⟩;rw[hA] at HR;have HAL:=au hA;clear hA
 go_enter Tryz.func16,Tryz.ntmps16
 go_wp2_with fail
 refine HR.out.mono ?_;rintro e w1 ⟨v1,er',rfl,⟨her,h1,h2⟩,hB1⟩;dsimp only at her h1 h2;have NV:=her.symm;clear her;subst NV;have HB1:=au hB1;clear hB1 HR
 by_cases he:er=0
 ·subst he;obtain⟨g,n,cap,u,rfl,hn,hg,hc,hF,_,_⟩:=h2 rfl;have HF:=au hF;obtain⟨a2,c2,rfl⟩:=aF hF;have e1:((n:Int)+1-1)=(n:Int):=by omega
  clear h1 h2 hF;go_wp2;exact bodyPost_ret (v:=.tuple #[.slice a2 L.length c2,.int .i64 0]) (by simp[results,Tryz.results16,go_sem]) rfl ⟨_,0,rfl,by rw[HAL.out];exact⟨rfl,fun h=>absurd rfl h,fun _=>HF.out⟩,HB1.out⟩
 have e2:=h1 he;subst e2;have hne:(er != 0)=true:=by simpa using he
 clear h1 h2;go_wp2;exact bodyPost_ret (v:=.tuple #[.slice none 0 0,.int .i64 er]) (by simp[results,Tryz.results16,go_sem]) rfl ⟨_,er,rfl,by rw[HAL.out];exact⟨rfl,fun _=>rfl,fun h=>absurd h he⟩,HB1.out⟩
theorem vw {w:World} {lo n:Nat} {e:Ending} {o:Option (List aD)} (h:Ur w lo n e o):∃r:Option Nat,e=.returned (.map r)∧(o=none→r=none)∧∀l,o=some l→∃b,r=some b∧lo≤b∧jR w b n l:=by
 cases o with
 |none=>exact⟨none,h,fun _=>rfl,fun l h=>(by cases h)⟩
 |some l=>
  obtain⟨b,he,hb,hE⟩:=h;exact⟨some b,he,fun h=>(by cases h),fun l' h=>(by cases h;exact⟨b,rfl,hb,hE⟩)⟩
theorem vB {p:List aG} (hp:dP p):∀r∈p,(∀t∈r.head.terms,t.2.length≤maxLen)∧∀a∈r.body,∀t∈a.terms,t.2.length≤maxLen:=fun r hr=>by
 have key:∀a,aP a=0→∀t∈a.terms,t.2.length≤maxLen:=fun a ha t ht=>by obtain⟨_,_,hz3⟩:=gQ ha;have:=jc (hz3 t ht);unfold maxLen;omega
 have hR:=hp.rules r hr;obtain⟨_,hat⟩:=fM hR.body;exact⟨key _ hR.head,fun a ha=>key a (hat a ha)⟩
theorem LM {PS:List (List aA)} {f:aA} {j:Nat} {L:List aA} (h:PS[j]?=some L):dJ (PS.drop j) f=if inB L f then 0 else dJ (PS.drop (j+1)) f+1:=by obtain⟨hi,e⟩:=List.getElem?_eq_some_iff.1 h;rw[List.drop_eq_getElem_cons hi,e];unfold dJ;rw[List.findIdx_cons];cases inB L f <;> rfl
theorem lD.later {w w':World} {g:Nat} {ps:List (List aA)} (h:lD w g ps) (hg:g<w.heap.size) (k:ak w w'):lD w' g ps:=fun i L hi=>by obtain⟨u,h1,h2⟩:=h i L hi;exact⟨u,by rw[k.cell (p:=⟨g,i,none⟩) hg];exact h1,h2.later k⟩
theorem lD.below {w w':World} {g:Nat} {ps:List (List aA)} (h:lD w g ps) (hg:g<w.heap.size) (k:Below w.heap.size w w'):lD w' g ps:=fun i L hi=>by obtain⟨u,h1,h2⟩:=h i L hi;exact⟨u,by rw[k.cell (p:=⟨g,i,none⟩) hg];exact h1,h2.below k⟩
theorem WU (PS:List (List aA)) (f:aA) (g cap P:Nat) (pv cv fv:Value) (w:World) (hrow:w.heap[P]?=some (.cells #[pv,.slice (some ⟨g,0,none⟩) PS.length cap,cv] 62 (0,0))) (hR:lD w g PS) (hg:g<w.heap.size) (hl:PS.length≤1000001) (hf:dD w fv f):
  Calls Tryz.prog 48 #[.pointer (some ⟨P,0,none⟩),fv] w fun e w'=>e=.returned (.int .i64 ((dJ PS f:Nat):Int))∧ak w w':=by
 obtain⟨s,rfl,hs⟩:=hf;obtain⟨sa,sc,rfl⟩:=bA hs;have hPl:=(Array.getElem?_eq_some_iff.1 hrow).1;obtain⟨w1,hw1⟩:∃w1,w1=w.alloc (.cells #[.string f.1,.slice sa f.2.length sc] 27):=⟨_,rfl⟩;have hL1:ak w w1:=by rw[hw1];exact(ak.refl w).alloc _
 have hr1:w1.heap[w.heap.size]?=some (.cells #[.string f.1,.slice sa f.2.length sc] 27 (0,0)):=by rw[hw1];exact heap_alloc_new w _
 have HC:Hid (∀w',ak w1 w'→w'.cell? ⟨P,1,none⟩=some (.slice (some ⟨g,0,none⟩) PS.length cap)∧w'.cell? ⟨w.heap.size,0,none⟩=some (.string f.1)∧w'.cell? ⟨w.heap.size,0+1,none⟩=some (.slice sa f.2.length sc)):=fun w' h=>by have h0:=((hL1.trans h).block hPl).trans hrow;have h1:=(h.block (Array.getElem?_eq_some_iff.1 hr1).1).trans hr1;exact⟨by rw[cell_of_row _ _ _ _ _ _ h0];rfl,by rw[cell_of_row _ _ _ _ _ _ h1];rfl,by rw[cell_of_row _ _ _ _ _ _ h1];rfl⟩
 have HR:=au (hR.later hg hL1);have hg1:=Nat.lt_of_lt_of_le hg hL1.size;have HSt:=au (hs.later hL1);have HL1:=au hL1;have HW1:=au hw1;obtain⟨A,hA⟩:∃A,A=dJ PS f:=⟨_,rfl⟩;rw[←hA];have HA:Hid (A=0+dJ (PS.drop 0) f):=by show _=_;rw[hA,List.drop_zero,Nat.zero_add]
 clear hrow hR hs hL1 hr1 hw1 hA hg;obtain⟨fn,aH⟩:=f;dsimp only at*
 go_enter Tryz.func48,Tryz.ntmps48
 go_wp2_with (first|(rw[←HW1.out])|fail)
 go_loopg [5] PS.length (fun q i wr=>∃j:Nat,j+q=PS.length∧i=.int .i64 j∧Hid (A=j+dJ (PS.drop j) (fn,aH))∧Hid (ak w1 wr))
 case atStart=>exact⟨0,by omega,rfl,HA,ak.refl _⟩
 clear HA;obtain⟨j,hj,rfl,HA,HL⟩:=hrel
 by_cases hlt:j<PS.length
 ·obtain⟨L,hLj⟩:∃L,PS[j]?=some L:=⟨_,List.getElem?_eq_getElem hlt⟩;have hod:=LM (f:=(fn,aH)) hLj;obtain⟨u,hu,hF⟩:=HR.out j L hLj;obtain⟨ua,uc,rfl⟩:=aF hF;have HU:Hid (∀w',ak w1 w'→w'.cell? ⟨g,j,none⟩=some (.slice ua L.length uc)):=fun w' h=>by rw[h.cell (p:=⟨g,j,none⟩) hg1];exact hu
  have HIn:Hid (∀w',ak w1 w'→Calls Tryz.prog 24 #[.slice ua L.length uc,.agg #[.string fn,.slice sa aH.length sc]] w' fun e w''=>e=.returned (.bool (inB L (fn,aH)))∧ak w1 w''):=fun w' h=>by have:=rIn (.slice ua L.length uc) (.agg #[.string fn,.slice sa aH.length sc]) L (fn,aH) w' (hF.later h) ⟨_,rfl,HSt.out.later h⟩;rw[qL] at this;exact this.mono fun e w'' ⟨he,hL⟩=>⟨he,h.trans hL⟩
  have hd:decide ((j:Int)<(PS.length:Int))=true:=decide_eq_true (by omega);have hdi:(j:Int)<(PS.length:Int):=by omega
  rw[hod] at HA;clear hLj hod hu hF;obtain⟨q,hq⟩:∃q,q=inB L (fn,aH):=⟨_,rfl⟩;rw[←hq] at HIn HA;clear hq;go_wp2;refine wp_region_held_drew (S:=fun w'=>ak w1 w') (by kernel_rfl) HL.out.drew (fun hHeld=>?_);refine tkY 0 6 hHeld ?_;refine tkY 1 7 hHeld ?_;refine tkY 2 8 hHeld ?_;refine tkY 3 9 hHeld ?_;refine tkY 4 10 hHeld ?_ rfl fun w hSw=>by obtain⟨p0,p1,p2⟩:=HC.out _ hSw;go_simp;try with_reducible rfl
  refine tkY 5 11 hHeld ?_;refine tkY 6 12 hHeld ?_;refine tkY 7 13 hHeld ?_;refine tkY 8 14 hHeld ?_;refine tkY 9 15 hHeld ?_;refine tkY 10 16 hHeld ?_;refine tkY 11 17 hHeld ?_ rfl fun w hSw=>by obtain⟨p0,p1,p2⟩:=HC.out _ hSw;go_simp;try with_reducible rfl
  refine tkY 12 18 hHeld ?_;refine tkY 13 19 hHeld ?_;refine tkY 14 20 hHeld ?_ rfl fun w hSw=>by have p0:=HU.out _ hSw;go_simp;try with_reducible rfl
  refine tkY 15 21 hHeld ?_ rfl fun w hSw=>by obtain⟨p0,p1,p2⟩:=HC.out _ hSw;go_simp;try with_reducible rfl
  refine tkC 16 fun K hK=>?_;go_simp;refine(HIn.out _ hHeld).mono ?_;rintro e w3 ⟨rfl,hL3⟩;refine hK.out _ _ hL3 (fun hHeld=>?_);clear hK K;refine tkY 17 23 hHeld ?_;refine tkY 18 24 hHeld ?_;refine wpAnyH_done (by kernel_rfl) ?_ _;have HL3:=au hL3;clear hL3 hHeld HIn HU HL;cases q with
  |true=>
   have HE:Hid (A=j):=by show _=_;have:=HA.out;simpa using this
   clear HA;go_wp2;go_ret;exact⟨by rw[HE.out];rfl,HL1.out.trans HL3.out⟩
  |false=>
   have HE:Hid (A=(j+1)+dJ (PS.drop (j+1)) (fn,aH)):=by show _=_;have:=HA.out;simp only[Bool.false_eq_true,if_false] at this;omega
   clear HA;go_wp2
   go_roundg (PS.length- (j+1))
   case measure=>omega
   case rel=>exact⟨j+1,by omega,by go_num,HE,HL3⟩
 have HE:Hid (A=j):=by show _=_;have:=HA.out;rw[List.drop_eq_nil_of_le (by omega)] at this;exact this
 have hd:decide ((j:Int)<(PS.length:Int))=false:=decide_eq_false (by omega);clear HA;go_wp2;refine wp_region_held_drew (S:=fun w'=>ak w1 w') (by kernel_rfl) HL.out.drew (fun hHeld=>?_);refine tkY 0 6 hHeld ?_;refine tkY 1 7 hHeld ?_;refine tkY 2 8 hHeld ?_;refine tkY 3 9 hHeld ?_;refine tkY 4 10 hHeld ?_ rfl fun w hSw=>by obtain⟨p0,p1,p2⟩:=HC.out _ hSw;go_simp;try with_reducible rfl
 refine tkY 5 11 hHeld ?_;refine tkY 6 12 hHeld ?_;refine tkY 7 13 hHeld ?_;refine tkN 8 14 hHeld ?_;refine tkN 9 15 hHeld ?_;refine tkN 10 16 hHeld ?_;refine tkN 11 17 hHeld ?_;refine tkN 12 18 hHeld ?_;refine tkN 13 19 hHeld ?_;refine tkN 14 20 hHeld ?_;refine tkN 15 21 hHeld ?_;refine tkN 16 22 hHeld ?_;refine tkN 17 23 hHeld ?_;refine tkY 18 24 hHeld ?_;refine wpAnyH_done (by kernel_rfl) ?_ _;have HL3:=au hHeld;clear hHeld HL;go_wp2;go_ret;exact⟨by rw[HE.out];rfl,HL1.out.trans HL3.out⟩
section
variable {α:Type} {c:α→α→Int}
structure Mrg (c:α→α→Int) (A out a b:List α):Prop where
 hout:out.Pairwise fun x y=>c x y<0
 hleft:a.Pairwise fun x y=>c x y<0
 hright:b.Pairwise fun x y=>c x y<0
 hle:∀x∈out,∀y,y∈a∨y∈b→c x y≤0
 hmem:∀x,x∈A↔x∈out∨x∈a∨x∈b
theorem Mrg.start {a b:List α} (ha:a.Pairwise fun x y=>c x y<0) (hb:b.Pairwise fun x y=>c x y<0):Mrg c (a++b) [] a b:=
 ⟨List.Pairwise.nil,ha,hb,fun x hx=>absurd hx (List.not_mem_nil),fun x=>by simp⟩
theorem Mrg.swap {A out a b:List α} (h:Mrg c A out a b):Mrg c A out b a:=
 ⟨h.hout,h.hright,h.hleft,fun x hx y hy=>h.hle x hx y hy.symm,fun x=>by rw[h.hmem];exact⟨fun h=>h.elim Or.inl fun h=>Or.inr h.symm,fun h=>h.elim Or.inl fun h=>Or.inr h.symm⟩⟩
theorem Mrg.next {A out a b:List α} {x:α} (hc:Three c) (h:Mrg c A out (x::a) b) (hx:∀y∈b,c x y≤0):(∀z,out.getLast?=some z→c z x<0)→Mrg c A (out++[x]) a b:=fun hl=>by
 have ha:=List.pairwise_cons.1 h.hleft;have hlt:∀z∈out,c z x<0:=by
  intro z hz;rcases List.eq_nil_or_concat out with e|⟨o,y,e⟩
  ·rw[e] at hz;cases hz
  rw[e] at hz hl;have hy:c y x<0:=hl y (by simp);have ho:=h.hout;rw[e,List.concat_eq_append,List.pairwise_append] at ho;rw[List.concat_eq_append] at hz;rcases List.mem_append.1 hz with hz|hz
  ·exact hc.trans _ _ _ (ho.2.2 z hz y (by simp)) hy
  simp only[List.mem_singleton] at hz;rw[hz];exact hy
 refine⟨?_,ha.2,h.hright,?_,fun z=>?_⟩;·rw[List.pairwise_append];exact⟨h.hout,by simp,fun z hz y hy=>by simp only[List.mem_singleton] at hy;rw[hy];exact hlt z hz⟩
 ·intro z hz y hy;rcases List.mem_append.1 hz with hz|hz
  ·exact h.hle z hz y (hy.imp (fun h=>by simp[h]) id)
  simp only[List.mem_singleton] at hz;rw[hz];rcases hy with hy|hy
  ·exact Int.le_of_lt (ha.1 y hy)
  exact hx y hy
 rw[h.hmem,List.mem_append,List.mem_cons,List.mem_singleton]
 constructor
 ·rintro(h|(h|h)|h);·exact Or.inl (Or.inl h)
  ·exact Or.inl (Or.inr h)
  ·exact Or.inr (Or.inl h)
  exact Or.inr (Or.inr h)
 rintro((h|h)|h|h);·exact Or.inl h
 ·exact Or.inr (Or.inl (Or.inl h))
 ·exact Or.inr (Or.inl (Or.inr h))
 exact Or.inr (Or.inr h)
theorem Mrg.skip {A out a b:List α} {x z:α} (hc:Three c) (h:Mrg c A out (x::a) b) (hz:out.getLast?=some z) (hn:¬c z x<0):Mrg c A out a b:=by
 have hzm:z∈out:=List.mem_of_getLast? hz;have h1:=h.hle z hzm x (Or.inl (by simp));have e:z=x:=hc.zero z x (by omega);have ha:=List.pairwise_cons.1 h.hleft;refine⟨h.hout,ha.2,h.hright,fun u hu y hy=>h.hle u hu y (hy.imp (fun h=>by simp[h]) id),fun u=>?_⟩;rw[h.hmem,List.mem_cons]
 constructor
 ·rintro(h|(h|h)|h);·exact Or.inl h
  ·rw[h,←e];exact Or.inl hzm
  ·exact Or.inr (Or.inl h)
  exact Or.inr (Or.inr h)
 rintro(h|h|h);·exact Or.inl h
 ·exact Or.inr (Or.inl (Or.inr h))
 exact Or.inr (Or.inr h)
theorem Mrg.first {A out a b:List α} {x y:α} (hc:Three c) (h:Mrg c A out (x::a) (y::b)) (hn:¬c y x<0):∀z∈y::b,c x z≤0:=fun z hz=>by
 have hxy:c x y≤0:=by have:=hc.swap x y;omega
 rcases List.mem_cons.1 hz with rfl|hz;·exact hxy
 exact hc.le_trans hxy (Int.le_of_lt ((List.pairwise_cons.1 h.hright).1 z hz))
theorem Mrg.done {A out:List α} (h:Mrg c A out [] []):(out.Pairwise fun x y=>c x y<0)∧∀x,x∈out↔x∈A:=⟨h.hout,fun x=>by rw[h.hmem];simp⟩
theorem Rk {l:List α} {x:α} {k:Nat} (hl:l.Pairwise fun x y=>c x y<0) (h1:∀y∈l.take k,c y x<0) (h2:∀y∈l.drop k,c x y<0):(l.take k++[x]++l.drop k).Pairwise fun x y=>c x y<0:=by
 have hs:=hl;rw[←List.take_append_drop k l,List.pairwise_append] at hs;rw[List.append_assoc,List.pairwise_append,List.singleton_append,List.pairwise_cons];refine⟨hs.1,⟨h2,hs.2.1⟩,fun a ha b hb=>?_⟩;rcases List.mem_cons.1 hb with rfl|hb
 ·exact h1 a ha
 exact hs.2.2 a ha b hb
theorem CR {l:List α} {x:α} (k:Nat):(l.take k++[x]++l.drop k).Perm (x::l):=by rw[List.append_assoc,List.singleton_append];refine List.perm_middle.trans (List.Perm.cons x ?_);rw[List.take_append_drop]
end
theorem OP {pick:Nat→List aA} {body:List aI} (hc:Covers body) (hp:∀i,(pick i).Nodup) {ms:List (List aD)} (hm:dF pick 0 body [[]]=some ms) {R:List (List aD)} (hR:R.Pairwise fun a b=>gM a b<0)
  (hmem:∀x,x∈R↔∃l∈ms.filter (fun l=> !barredB pick 0 body l),x=gX l):lF pick body=some R:=by
 have h:lF pick body=some (iU gM ((ms.filter fun l=> !barredB pick 0 body l).map gX)):=by unfold lF;rw[hm]
 have e:=oM bF (EJ hc hp h) hR fun x=>by rw[(bM _).mem_iff,List.mem_map,hmem];exact⟨fun⟨l,hl,e⟩=>⟨l,hl,e.symm⟩,fun⟨l,hl,e⟩=>⟨l,hl,e.symm⟩⟩
 rw[h,e]
end Go.Proofs.YtaallngooaaonaaGreatDoor
