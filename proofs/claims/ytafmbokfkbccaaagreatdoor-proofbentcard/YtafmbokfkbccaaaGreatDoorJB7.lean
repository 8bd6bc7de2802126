import Derived.Test.YtafmbokfkbccaaaGreatDoorJB6
import Derived.Test.YtafmbokfkbccaaaGreatDoorJB5
import Derived.Test.YtafmbokfkbccaaaGreatDoorJB3
namespace Go.Proofs.YtafmbokfkbccaaaGreatDoor
open Go.RowKit Go.Sort
def bsK:Kind ByteArray where
 size:=1
 is:=fun _ _ c t=>c=[.string t]
 len:=fun h=>by subst h;rfl
 one:=fun h u hu=>by subst h;simp at hu;subst hu;rfl
 kept:=fun h _ _=>h
 mono:=fun h _=>h
theorem Kind.vD {α:Type} {P:Program} {K:Kind α} {t ty:TypeId} {lo bytes:Nat} {w:World} {v:Value} {l:List α} (h:K.own ty lo w v l) {i:TypeInfo} {z:Value}
  (ht:P.underlying t=some (.slice ty)) (hi:P.info? ty=some i) (hz:i.zero=some z) (hsize:i.size=K.size) (hby:i.bytes=bytes) (hzs:z.cells.size=K.size) (hsz:0<K.size)
  {c:List Value} {x:α} (hc:K.is (fun k=>lo≤k∧v.ownBlock≠some k) w c x) (hl:(l.length+1)*bytes≤140737488355328) (hl2:l.length+1≤maxLen) (hlo:lo≤w.heap.size):
  ∃v' w',(Builtin.append_ #[t,t] t #[v,.slice (some ⟨w.heap.size,0,none⟩) 1 1]).run P (w.alloc (.cells c.toArray ty))=.ok v' w'∧K.own ty lo w' v' (l++[x])∧(w.alloc (.cells c.toArray ty)).grownBy w' v.ownBlock∧w.drawn≤w'.drawn∧
   ∀k,v'.ownBlock=some k→v.ownBlock=some k∨w.heap.size<k:=by
 obtain⟨xs,ho,hx⟩:=h;have hcl:=K.len hc;have hnews:∀j u,c[j]?=some u→(w.alloc (.cells c.toArray ty)).cell? ((⟨w.heap.size,0,none⟩:Addr).add j)=some u:=by
  intro j u hu;rw[Addr.add_lit,Nat.zero_add,cell_of_row _ w.heap.size j c.toArray ty (0,0) (heap_alloc_new w _)];simpa using hu
 obtain⟨v',w',hrun,r1,r2,r3,r4⟩:=eT (P:=P) (w.alloc (.cells c.toArray ty)) lo t t ty i z K.size bytes ht hi hz hsize hby hzs hsz v l.length xs (ho.alloc _) ⟨w.heap.size,0,none⟩ 1 1 c (by rw[hcl];simp) hnews
  (K.one hc) hl2 hl (by simp;omega)
 have hxl:xs.length=l.length*K.size:=ho.1;have own':∀k,v'.ownBlock=some k→v.ownBlock=some k∨w.heap.size<k:=fun k e=>by
  rcases r4 k e with e|e
  ·exact Or.inl e
  ·simp at e;exact Or.inr (by omega)
 have keep:∀k,k<w.heap.size→(lo≤k∧v.ownBlock≠some k)→w'.heap[k]?=w.heap[k]?:=fun k hk hB=>
  (r2.block k (by simp;omega) (fun e=>hB.2 e.symm)).trans (Below.heap_alloc w _ k hk)
 have hsz':w.heap.size≤w'.heap.size:=Nat.le_trans (by simp) r2.size;have move:∀{c:List Value} {y:α},K.is (fun k=>lo≤k∧v.ownBlock≠some k) w c y→K.is (fun k=>lo≤k∧v'.ownBlock≠some k) w' c y:=fun {c y} hy=>
  K.kept (K.mono hy fun k hk hB=>(⟨⟨hB.1,fun e=>by rcases own' k e with e|e;exact hB.2 e;omega⟩,hB⟩:(lo≤k∧v'.ownBlock≠some k)∧(lo≤k∧v.ownBlock≠some k))) hsz' (fun k hk hB=>keep k hk hB.2) |> fun h=>K.mono h fun _ _ hB=>hB.1
 refine⟨v',w',hrun,⟨xs++c,by simpa using r1,fun j y hj=> ?_⟩,r2,r3,own'⟩
 by_cases hjl:j<l.length
 ·rw[List.getElem?_append_left hjl] at hj;obtain⟨d,d1,d2⟩:=hx j y hj;refine⟨d,move d1,fun q u hu=> ?_⟩;have:=d2 q u hu;rw[List.getElem?_append_left (List.getElem?_eq_some_iff.1 this).1];exact this
 ·rw[List.getElem?_append_right (by omega)] at hj;have hj':j=l.length:=by
   have:=(List.getElem?_eq_some_iff.1 hj).1;simp at this;omega
  subst hj';simp at hj;subst hj;refine⟨c,move hc,fun q u hu=> ?_⟩;rw[List.getElem?_append_right (by omega),hxl,Nat.add_sub_cancel_left];exact hu
theorem Later.more {w0 w w':World} {v:Value} {o:Obj} (h:Later w0 w) (hg:(w.alloc o).grownBy w' v.ownBlock) (hd:w.drawn≤w'.drawn) (hv:∀k,v.ownBlock=some k→w0.heap.size≤k):Later w0 w':=
 Later.of_below ((h.alloc o).below.grown hg (h.alloc o).size hv) (Nat.le_trans h.drawn hd)
theorem H9 {lo:Nat} {w:World} {v:Value} {l:List ByteArray} (h:bsK.own 9 lo w v l) (hl:l.length≤8796093022208):Strs w v l:=by
 obtain⟨⟨h0,_⟩,a,cap,rfl,h1⟩:=Kind.gW h hl;refine⟨h0,a,cap,rfl,fun hne=> ?_⟩;obtain⟨b,off,rfl,_,hb,hc⟩:=h1 hne;refine⟨b,off,rfl,hb,fun i hi=> ?_⟩;obtain⟨c,rfl,c2⟩:=hc i _ (List.getElem?_eq_getElem hi);have:=c2 0 _ rfl;rw[List.getD_eq_getElem?_getD,List.getElem?_eq_getElem hi];simpa[bsK] using this
theorem EM {lo:Nat} {w:World} {v:Value} {l:List ByteArray} (h:bsK.own 9 lo w v l) (x:ByteArray) (hl:l.length+1≤8796093022208) (hlo:lo≤w.heap.size):
  ∃v' w',(Builtin.append_ #[25,25] 25 #[v,.slice (some ⟨w.heap.size,0,none⟩) 1 1]).run Tryz.prog (w.alloc (.cells #[.string x] 9))=.ok v' w'∧bsK.own 9 lo w' v' (l++[x])∧(w.alloc (.cells #[.string x] 9)).grownBy w' v.ownBlock∧w.drawn≤w'.drawn∧
   ∀k,v'.ownBlock=some k→v.ownBlock=some k∨w.heap.size<k:=by
 obtain⟨i,i1,i2,i3,i4⟩:=vk;exact Kind.vD h Tryz.underlying25 i1 i2 i3 i4 rfl (by decide) (c:=[.string x]) rfl (by omega) (by simp[maxLen];omega) hlo
theorem xL:∀args w,(callFunc 163 args).run Tryz.prog w=.ok (.enter 163 args) w:=enters_of Tryz.func163 (by kernel_rfl) rfl
set_option maxHeartbeats 400000 in
theorem EN (c:Nat) (u:Value) (l:List aC) (w0:World) (hc:w0.cell? ⟨c,0,none⟩=some u) (hb:c<w0.heap.size) (hu:bA.sl bJ w0 u l):Ka 163 #[.pointer (some ⟨c,0,none⟩)] l w0:=by
 intro w v hL;have HG:=hide (Ob u l v w (Kind.aI hu hL));have hc':w.cell? ⟨c,0,none⟩=some u:=by rw[hL.cell hb];exact hc
 have hb':c<w.heap.size:=Nat.lt_of_lt_of_le hb hL.size;obtain⟨a,cap,rfl⟩:=Kind.slice hu;clear hu hc hb hL;unfold j3 at HG⊢;generalize(bT l v).getD ByteArray.empty=s at*;generalize(bT l v).isSome=b at*;show Calls _ _ #[.string v,.pointer (some ⟨c,0,none⟩)] _ _
 go_enter Tryz.func163,Tryz.ntmps163
 go_wp2_with (go_at_call 164;refine HG.out.mono ?_;rintro e w2 ⟨rfl,hL2⟩;replace hL2:=hide hL2)
 go_ret2
 exact⟨rfl,bE hL2⟩
theorem vE {l:List aC} {ts:List dh} {j:Nat} {t:dh} {r:List ByteArray} (h:ts[j]?=some t) (hr:aJ l (ts.take j)=some r):
  aJ l (ts.take (j+1))=(aV l t).map fun s=>r++[s]:=by
 have gen:∀(q:List dh) (r:List ByteArray),aJ l q=some r→aJ l (q++[t])=(aV l t).map fun s=>r++[s]:=by
  intro q
  induction q with
  |nil=>
   intro r hr;cases hr;simp only[List.nil_append,aJ];cases aV l t <;> rfl
  |cons x q ih=>
   intro r hr;simp only[List.cons_append,aJ] at hr⊢;cases e:aV l x with
   |none=>rw[e] at hr;cases hr
   |some s=>
    rw[e] at hr;dsimp only at hr⊢;cases e2:aJ l q with
    |none=>rw[e2] at hr;cases hr
    |some r'=>
     rw[e2] at hr;cases hr;rw[ih r' e2];cases aV l t <;> rfl
 rw[List.take_add_one,h];exact gen _ r hr
theorem mW {l:List aC}:∀{ts q:List dh},aJ l ts=none→aJ l (ts++q)=none
 |[],_,h=>by cases h
 |t::ts,q,h=>by
  simp only[List.cons_append,aJ] at h⊢;cases e:aV l t with
  |none=>rfl
  |some s=>
   rw[e] at h;dsimp only at h⊢;cases e2:aJ l ts with
   |none=>rw[mW e2]
   |some r=>rw[e2] at h;cases h
theorem vF {l:List aC} {ts:List dh} {j:Nat} (h:aJ l (ts.take j)=none):aJ l ts=none:=by
 have:=mW (q:=ts.drop j) h
 rwa [List.take_append_drop] at this
def filled (a:aF) (l:List aC):aG:=(aQ a l).getD aB
theorem bO (w:World) (o:Obj) (k:Nat):(w.alloc o).heap[k]?=if k=w.heap.size then some o else w.heap[k]?:=by
 split
 ·rename_i h;subst h;exact heap_alloc_new w o
 ·rename_i h
  by_cases hk:k<w.heap.size
  ·exact Below.heap_alloc w o k hk
  ·rw[Array.getElem?_eq_none (by simp;omega),Array.getElem?_eq_none (by omega)]
theorem G7 {w:World} {R:Nat} {u0:Value} {t:TypeId} (h:w.heap[R]?=some (.cells #[u0] t (0,0))):w.cell? ⟨R,0,none⟩=some u0∧w.frozen? ⟨R,0,none⟩=false∧R<w.heap.size:=
 ⟨by rw[cell_of_row _ _ _ _ _ _ h];rfl,by simp[World.frozen?,h],(Array.getElem?_eq_some_iff.1 h).1⟩
theorem lH {w:World} {R:Nat} {u0 u1:Value} {t:TypeId} (h:w.heap[R]?=some (.cells #[u0,u1] t (0,0))):w.cell? ⟨R,0,none⟩=some u0∧w.cell? ⟨R,1,none⟩=some u1∧w.frozen? ⟨R,0,none⟩=false∧w.frozen? ⟨R,1,none⟩=false∧R<w.heap.size:=
 ⟨by rw[cell_of_row _ _ _ _ _ _ h];rfl,by rw[cell_of_row _ _ _ _ _ _ h];rfl,by simp[World.frozen?,h],by simp[World.frozen?,h],(Array.getElem?_eq_some_iff.1 h).1⟩
theorem dY {w:World} {g j:Nat} {cs:Array Value} {t:TypeId} {fr:Nat×Nat} (h:w.heap[g]?=some (.cells cs t fr)) (u:Value):(w.setCell ⟨g,j,none⟩ u).heap[g]?=some (.cells (cs.setIfInBounds j u) t fr):=by
 simp[World.setCell,Array.getElem?_modify,h]
theorem EO {w:World} {R:Nat} {u0 u1:Value} {t:TypeId} {fr:Nat×Nat} (h:w.heap[R]?=some (.cells #[u0,u1] t fr)) (x y:Value):
  ((w.setCell ⟨R,0,none⟩ x).setCell ⟨R,1,none⟩ y).cell? ⟨R,0,none⟩=some x∧((w.setCell ⟨R,0,none⟩ x).setCell ⟨R,1,none⟩ y).cell? ⟨R,1,none⟩=some y:=by
 have h2:=dY (j:=1) (dY (j:=0) h x) y;exact⟨by rw[cell_of_row _ _ _ _ _ _ h2];rfl,by rw[cell_of_row _ _ _ _ _ _ h2];rfl⟩
theorem CK {w w':World} {n:ByteArray} {s:Value} {r:List ByteArray} {lo:Nat} (h:bsK.own 9 lo w s r) (hl:r.length≤8796093022208) (hk:∀k,lo≤k→w'.heap[k]?=w.heap[k]?) (hs:w.heap.size≤w'.heap.size):bW w' (.agg #[.string n,s]) (n,r):=
 ⟨s,rfl,H9 (Kind.jA h hs fun k _ hlo=>hk k hlo) hl⟩
def Sn (w w':World) (v:Value):Prop:=∃n s,v=.agg #[n,s]∧∀k,s.ownBlock=some k→w.heap.size≤k∧k<w'.heap.size
set_option maxRecDepth 100000 in
set_option maxHeartbeats 2000000 in
theorem Mt (a:aF) (tv u:Value) (l:List aC) (w:World) (ht:dn.sl bJ w tv a.terms) (hu:bA.sl bJ w u l):
  Calls Tryz.prog 90 #[.agg #[.bool a.no,.string (bs a.name),tv],u] w fun e w'=>∃v,e=.returned (.tuple #[v,.bool (aQ a l).isSome])∧bW w' v (filled a l)∧Later w w'∧Sn w w' v:=by
 obtain⟨sa,cap,rfl⟩:=Kind.slice ht;obtain⟨sb,Cr,rfl⟩:=Kind.slice hu;have HT:=hide ht;have HU:=hide hu;have hn:=ht.1.1;clear ht hu;obtain⟨no,name,ts⟩:=a;dsimp only at*;have F:Hid (∀r,aJ l ts=r→aQ ⟨no,name,ts⟩ l=r.map fun x=>(bs name,x)):=fun r h=>by unfold aQ;rw[h];cases r <;> rfl
 unfold filled;generalize hfb:aQ ⟨no,name,ts⟩ l=fb at*;clear hfb;generalize bs name=nm at*
 go_enter Tryz.func90,Tryz.ntmps90
 go_wp2
 go_loopg [19] ts.length (fun g i wr=>∃j:Nat,j+g=ts.length∧i=.int .i64 j∧∃r o,Hid (aJ l (ts.take j)=some r)∧Hid (bsK.own 9 (w.heap.size+4) wr o r)∧Hid (r.length=j)∧Hid (Later w wr)∧w.heap.size+4≤wr.heap.size∧
  Hid (wr.heap[w.heap.size+1]?=some (.cells #[.slice sb l.length Cr] 158 (0,0)))∧Hid (wr.heap[w.heap.size+2]?=some (.cells #[.string {data:=#[]},.slice none 0 0] 27 (0,0)))∧Hid (wr.heap[w.heap.size+3]?=some (.cells #[.string nm,o] 27 (0,0))))
 case atStart=>
  refine⟨0,by omega,rfl,[],.slice none 0 0,(rfl:_=_),bsK.jg _ _ _,(rfl:_=_),((by repeat (first|exact Later.refl _|assumption|refine Later.drewN ?_ _|refine Later.drew ?_|refine Later.alloc ?_ _|refine Later.grow ?_ _)):Later _ _),by simp,?_,?_,?_⟩
  all_goals
   show _=_;simp only[bO,World.size_alloc]
   repeat (first|rw[if_pos trivial]|rw[if_pos (by omega)]|rw[if_neg (by omega)])
 case round=>
  obtain⟨j,hj,rfl,r,o,HR,HO,hrl,HL,hsz,H1,H2,H3⟩:=hrel;obtain⟨ao,co,rfl⟩:=Kind.dI HO.out
  by_cases hlt:j<ts.length
  ·obtain⟨x,hx⟩:∃x,ts[j]?=some x:=⟨_,List.getElem?_eq_getElem hlt⟩;obtain⟨b1,o1,_,rfl,hb1,rfl,hc⟩:=Kind.fP HT.out hx;have d0:wr.cell? ⟨b1,o1+j*2,none⟩=some (.bool x.1):=by rw[HL.out.cell hb1];exact hc 0 _ rfl
   have d1:wr.cell? ⟨b1,o1+j*2+1,none⟩=some (.string (bs x.2)):=by rw[HL.out.cell hb1];exact hc 1 _ rfl
   have hbr:b1<wr.heap.size:=by omega
   have HS:=hide (vE hx HR.out);obtain⟨wt,hwt⟩:∃wt,wt=wr.alloc (.cells #[.bool x.1,.string (bs x.2)] 187):=⟨_,rfl⟩;have hLt:Later w wt:=by rw[hwt];exact HL.out.alloc _
   have hst:wt.heap.size=wr.heap.size+1:=by rw[hwt];simp
   have hbl:∀k,k<wr.heap.size→wt.heap[k]?=wr.heap[k]?:=fun k hk=>by rw[hwt];exact Below.heap_alloc _ _ _ hk
   have K1:=G7 ((hbl _ (by omega)).trans H1.out);have HW:Hid (Calls Tryz.prog 165 #[.agg #[.bool x.1,.string (bs x.2)],.func (.func 163) #[] #[.pointer (some ⟨w.heap.size+1,0,none⟩)]] wt fun e w2=>e=.returned (j3 (aV l x))∧Later wt w2):=
    JF _ _ xL x l wt wt (EN (w.heap.size+1) _ l wt K1.1 K1.2.2 (Kind.aI HU.out hLt)) (Later.refl _)
   rw[hwt] at HW;have HWT:=hide hwt;clear hc hx K1 hwt;obtain⟨x1,x2⟩:=x;dsimp only at*;cases hw:aV l (x1,x2) with
   |none=>
    rw[hw] at HW HS;have HF:Hid (fb=none):=F.out none (vF HS.out);have hw0:j3 none=.tuple #[.string ByteArray.empty,.bool false]:=rfl;rw[hw0] at HW;clear hw hw0 HS;generalize bs x2=kx at*
    go_wp2_with fail
    refine HW.out.mono ?_;rintro e w2 ⟨rfl,hL2⟩;rw[←HWT.out] at hL2;have hb2:∀k,k<wr.heap.size→w2.heap[k]?=wr.heap[k]?:=fun k hk=>(hL2.block (by omega)).trans (hbl k hk);have Z2:=hide ((hb2 _ (by omega)).trans H2.out);obtain⟨q0,q1,p0,p1,q2⟩:=lH Z2.out;have HL2:=hide (hLt.trans hL2);clear hL2 hb2 HW;go_wp2;obtain⟨r0,r1⟩:=EO Z2.out (.string {data:=#[]}) (.slice none 0 0);refine bodyPost_ret (v:=.tuple #[.agg #[.string {data:=#[]},.slice none 0 0],.bool false]) (by simp[results,Tryz.results90,go_sem,r0,r1]) rfl ⟨_,by rw[HF.out];rfl,?_,?_,_,_,rfl,fun k e=>by simp[Value.ownBlock] at e⟩
    ·rw[HF.out];exact⟨_,rfl,by simp[aB],none,0,rfl,fun h=>absurd rfl h⟩
    ·exact(HL2.out.setCell (by show w.heap.size≤w.heap.size+2;omega) _).setCell (by show w.heap.size≤w.heap.size+2;omega) _
   |some s=>
    rw[hw] at HW HS;have HS1:Hid (aJ l (ts.take (j+1))=some (r++[s])):=HS.out;have hw0:j3 (some s)=.tuple #[.string s,.bool true]:=rfl;rw[hw0] at HW;clear hw hw0 HS;generalize bs x2=kx at*
    go_wp2_with fail
    refine HW.out.mono ?_;rintro e w2 ⟨rfl,hL2⟩;rw[←HWT.out] at hL2;have hb2:∀k,k<wr.heap.size→w2.heap[k]?=wr.heap[k]?:=fun k hk=>(hL2.block (by omega)).trans (hbl k hk);have hs2:wr.heap.size<w2.heap.size:=by have:=hL2.size;omega
    obtain⟨q0,q1,p0,p1,q2⟩:=lH ((hb2 _ (by omega)).trans H3.out);obtain⟨v',w4,hrun,hO4,hg4,hd4,hv4⟩:=EM (Kind.jA HO.out (Nat.le_of_lt hs2) fun k hk _=>hb2 k hk) s (by have:=hrl.out;omega) (by omega);have hlo:∀k,(Value.slice ao r.length co).ownBlock=some k→w.heap.size+4≤k:=fun k e=>(Kind.fu HO.out e).1;have hb4:∀k,k<w.heap.size+4→w4.heap[k]?=wr.heap[k]?:=fun k hk=>by
     rw[hg4.block k (by simp;omega) (fun e=>by have:=hlo k e.symm;omega),Below.heap_alloc _ _ _ (by omega)];exact hb2 k (by omega)
    have hs4:w2.heap.size<w4.heap.size:=by have:=hg4.size;simp at this;omega
    have HL4:=hide ((hLt.trans hL2).more hg4 hd4 fun k e=>by have:=hlo k e;omega);have Z3:=hide ((hb4 _ (by omega)).trans H3.out);obtain⟨_,y1,_,t1,y2⟩:=lH Z3.out;have Z1:=hide ((hb4 _ (by omega)).trans H1.out);have Z2:=hide ((hb4 _ (by omega)).trans H2.out);obtain⟨a4,n4,c4,rfl⟩:∃a n c,v'=.slice a n c:=by obtain⟨a,c,e⟩:=Kind.dI hO4;exact⟨a,_,c,e⟩
    have HR4:=hide hrun;have HO4:=hide hO4;clear hL2 hb2 HW hrun hO4 hg4 hd4 hv4 hb4
    go_wp2_with (at_builtin;refine wpList_append_run rfl (.tmp 33) (.tmp 35) 25 rfl _ _ _ _ rfl rfl HR4.out ?_)
    go_roundg (ts.length- (j+1))
    case measure=>omega
    case rel=>
     refine⟨j+1,by omega,by go_num,r++[s],.slice a4 n4 c4,HS1,?_,(by simp[hrl.out]:(r++[s]).length=j+1),?_,?_,?_,?_,?_⟩
     ·exact Kind.jA HO4.out (by simp[World.setCell]) fun k _ hk=>Below.heap_setCell _ _ _ _ (by show k≠w.heap.size+3;omega)
     ·exact(Later.setCell HL4.out (p:=⟨w.heap.size+1+1+1,1,none⟩) (by show w.heap.size≤w.heap.size+3;omega) _:Later _ _)
     ·simp[World.setCell];omega
     ·show _=_;rw[Below.heap_setCell _ _ _ _ (by show w.heap.size+1≠w.heap.size+3;omega)];exact Z1.out
     ·show _=_;rw[Below.heap_setCell _ _ _ _ (by show w.heap.size+2≠w.heap.size+3;omega)];exact Z2.out
     ·show _=_;rw[dY Z3.out];rfl
  ·have e:j=ts.length:=by omega
   subst e;have HR1:Hid (fb=some (nm,r)):=by
    have:=HR.out;rw[List.take_length] at this;exact F.out _ this
   obtain⟨q0,q1,p0,p1,q2⟩:=lH H2.out;obtain⟨y0,y1,t0,t1,y2⟩:=lH H3.out;go_wp2;obtain⟨r0,r1⟩:=EO (R:=w.heap.size+1+1) H2.out (.string nm) (.slice ao r.length co);refine bodyPost_ret (v:=.tuple #[.agg #[.string nm,.slice ao r.length co],.bool true]) (by simp[results,Tryz.results90,go_sem,r0,r1]) rfl ⟨_,by rw[HR1.out];rfl,?_,?_,_,_,rfl,fun k e=> ?_⟩
   ·rw[HR1.out];refine CK HO.out (by have:=hrl.out;omega) (fun k hk=> ?_) (by simp[World.setCell]);rw[Below.heap_setCell _ _ _ _ (by show k≠w.heap.size+2;omega),Below.heap_setCell _ _ _ _ (by show k≠w.heap.size+2;omega)]
   ·exact(HL.out.setCell (by show w.heap.size≤w.heap.size+2;omega) _).setCell (by show w.heap.size≤w.heap.size+2;omega) _
   ·have:=Kind.fu HO.out e;rw[size_setCell,size_setCell];omega
theorem Kg (a:aF) (tv u:Value) (l:List aC) (w:World) (ht:dn.sl bJ w tv a.terms) (hu:bA.sl bJ w u l):
  Calls Tryz.prog 90 #[.agg #[.bool a.no,.string (bs a.name),tv],u] w fun e w'=>∃v,e=.returned (.tuple #[v,.bool (aQ a l).isSome])∧bW w' v (filled a l)∧Later w w':=
 (Mt a tv u l w ht hu).mono fun _ _ ⟨v,h1,h2,h3,_⟩=>⟨v,h1,h2,h3⟩
end Go.Proofs.YtafmbokfkbccaaaGreatDoor
namespace Go.Proofs.YtafmbokfkbccaaaGreatDoor
open Go.RowKit Go.Sort Go.ChangeShapes Go.WideShapes Go.ChangeAt Go.Deep
variable {H:Type} {enc:TypeId×Value→H} {W:World}
def Ia:Kind aG where
 size:=2
 is:=fun B w c f=>∃s,c=[.string f.1,s]∧bsK.sl B w s f.2
 len:=fun⟨s,h,_⟩=>by subst h;rfl
 one:=fun⟨s,h,hs⟩ u hu=>by
  subst h;obtain⟨a,cap,rfl⟩:=Kind.slice hs;simp at hu;rcases hu with rfl|rfl <;> rfl
 kept:=fun⟨v,h,hs⟩ h1 h2=>⟨v,h,Kind.aT hs h1 h2⟩
 mono:=fun⟨v,h,hs⟩ h1=>⟨v,h,Kind.aW hs h1⟩
theorem kJ {B:Nat→Prop} {w:World} {v:Value} {l:List ByteArray} (h:bsK.sl B w v l):Strs w v l:=by
 obtain⟨⟨h0,_⟩,a,cap,rfl,h1⟩:=h;refine⟨h0,a,cap,rfl,fun hne=> ?_⟩;obtain⟨b,off,rfl,_,hb,hc⟩:=h1 hne;refine⟨b,off,rfl,hb,fun i hi=> ?_⟩;obtain⟨c,rfl,c2⟩:=hc i _ (List.getElem?_eq_getElem hi);have:=c2 0 _ rfl;rw[List.getD_eq_getElem?_getD,List.getElem?_eq_getElem hi];simpa[bsK] using this
theorem Ib {B:Nat→Prop} {w:World} {v:Value} {l:List aG} (h:Ia.sl B w v l) (hl:l.length≤3518437208883):Facts w v l:=by
 obtain⟨_,a,cap,rfl,h1⟩:=h;refine⟨hl,a,cap,rfl,fun hne=> ?_⟩;obtain⟨b,off,rfl,_,hb,hc⟩:=h1 hne;refine⟨b,off,rfl,hb,fun i hi=> ?_⟩;obtain⟨c,⟨s,rfl,hs⟩,c2⟩:=hc i _ (List.getElem?_eq_getElem hi);rw[List.getD_eq_getElem?_getD,List.getElem?_eq_getElem hi];exact⟨by simpa[Ia] using c2 0 _ rfl,s,by simpa[Ia] using c2 1 _ rfl,kJ hs⟩
def okS (s:ByteArray):Prop:=s.size≤maxLen
def Qy (f:aG):Prop:=okS f.1∧∀s∈f.2,okS s
theorem tJ:Tryz.prog.cellsOf 27=2:=by kernel_rfl
theorem CO:Tryz.prog.cellsOf 25=1:=by kernel_rfl
theorem tK:Tryz.prog.bytesOf 27=40:=by kernel_rfl
theorem EP:Tryz.prog.bytesOf 9=16:=by kernel_rfl
set_option maxRecDepth 100000 in
theorem Ic:Opens enc W 9 bsK okS:=by
 intro n cs x h _;obtain⟨s,hs,_,hsz⟩:=DataW.trod_string Tryz.underlying9 h;exact⟨s,hs,hsz⟩
set_option maxRecDepth 100000 in
theorem xM:Opens enc W 27 Ia Qy:=by
 intro n cs x h hw;obtain⟨y0,y1,m,hx,hl,h0,h1⟩:=trod_struct2 Tryz.underlying27 h;rw[tJ] at hl
 match cs,hl with
 |[c0,c1],_=>
  have e0:Tryz.prog.cellsOf 9=1:=mV;have e1:Tryz.prog.cellsOf 25=1:=CO;simp only[e0,e1,List.drop_zero,List.drop_succ_cons,List.take_succ_cons,List.take_zero] at h0 h1;obtain⟨s,hs,_,hsz⟩:=DataW.trod_string Tryz.underlying9 h0;simp only[List.cons.injEq,and_true] at hs;have hw2:lC 25 y1.1:=by
   unfold lC at hw⊢;rw[hx,DataW.weights,Tryz.underlying27] at hw;simp only[List.map_cons,List.map_nil,DataW.weightsEach,List.all_append,Bool.and_eq_true] at hw;exact hw.2.1
  obtain⟨l,hl,hlk⟩:=Bq Tryz.underlying25 mV (by rw[EP];decide) (by decide) Ic h1 hw2;exact⟨(s,l),⟨c1,by show[c0,c1]=_;rw[hs],hl⟩,hsz,hlk⟩
set_option maxRecDepth 100000 in
theorem CP {b0:Nat} {v:Value} {d:DataW H} {p:List MemPlace} (hv:Value.okWide Tryz.prog W .any b0 24 v) (h:DataW.Trod enc Tryz.prog W 0 (fun _=>true) true 24 v d p) (hw:lC 24 d):∃l,Facts W v l∧∀f∈l,Qy f:=by
 obtain⟨a0,Mr,cap0,rfl⟩:=okWide_slice Tryz.underlying24 hv;obtain⟨fuel,hf⟩:=h;obtain⟨l,h1,h2,h3⟩:=Ez Tryz.underlying24 tJ (by rw[tK];decide) (by decide) xM (x:=(d,p)) (by simpa[Value.cells] using hf) hw;rw[tK] at h3;exact⟨l,Ib h1 (by unfold reachBytes at h3;omega),h2⟩
end Go.Proofs.YtafmbokfkbccaaaGreatDoor
namespace Go.Proofs.YtafmbokfkbccaaaGreatDoor
open Go.RowKit Go.Sort
def noK:Kind bf:={size:=4,is:=fun _ _ _ _=>False,len:=fun h=>h.elim,one:=fun h=>h.elim,kept:=fun h _ _=>h,mono:=fun h _=>h}
def Sq (K:Kind bf):Kind bf where
 size:=4
 is:=fun B w c x=>∃s kv,c=[.string x.fact.1,s,.int .i64 x.rule,kv]∧bsK.sl B w s x.fact.2∧K.sl B w kv x.kids
 len:=fun⟨s,kv,h,_⟩=>by subst h;rfl
 one:=fun⟨s,kv,h,h1,h2⟩ u hu=>by
  subst h;obtain⟨a,cap,rfl⟩:=Kind.slice h1;obtain⟨a',cap',rfl⟩:=Kind.slice h2;simp at hu;rcases hu with rfl|rfl|rfl|rfl <;> rfl
 kept:=fun⟨s,kv,h,h1,h2⟩ k1 k2=>⟨s,kv,h,Kind.aT h1 k1 k2,Kind.aT h2 k1 k2⟩
 mono:=fun⟨s,kv,h,h1,h2⟩ k1=>⟨s,kv,h,Kind.aW h1 k1,Kind.aW h2 k1⟩
def o7:Nat→Kind bf
 |0=>noK
 |n+1=>Sq (o7 n)
theorem xO {α:Type} {K:Kind α} {B:Nat→Prop} {w:World} {v:Value} {l:List α} (h:K.sl B w v l) {x:α} (hx:x∈l):∃c,K.is B w c x:=by
 obtain⟨i,hi,e⟩:=List.getElem_of_mem hx;obtain⟨_,a,cap,_,h1⟩:=h;obtain⟨b,off,_,_,_,hc⟩:=h1 (by intro e;rw[e] at hx;cases hx);obtain⟨c,c1,_⟩:=hc i x (by rw[List.getElem?_eq_getElem hi,e]);exact⟨c,c1⟩
theorem vG {B:Nat→Prop} {w:World}:∀(n:Nat) (c:List Value) (x:bf),(o7 n).is B w c x→Deep n x
 |0,_,_,h=>h.elim
 |n+1,c,x,⟨s,kv,_,_,h2⟩=>fun k hk=>by
  obtain⟨d,hd⟩:=xO h2 hk;exact vG n d k hd
def sI (n:Nat) (B:Nat→Prop) (w:World) (v:Value) (x:bf):Prop:=∃s kv,v=.agg #[.string x.fact.1,s,.int .i64 x.rule,kv]∧bsK.sl B w s x.fact.2∧(o7 n).sl B w kv x.kids
theorem sI.deep {n:Nat} {B:Nat→Prop} {w:World} {v:Value} {x:bf} (h:sI n B w v x):Deep (n+1) x:=by
 obtain⟨s,kv,rfl,h1,h2⟩:=h;exact vG (B:=B) (w:=w) (n+1) _ x ⟨s,kv,rfl,h1,h2⟩
theorem sI.kept {n:Nat} {B:Nat→Prop} {w w':World} {v:Value} {x:bf} (h:sI n B w v x) (hs:w.heap.size≤w'.heap.size) (hk:∀k,k<w.heap.size→B k→w'.heap[k]?=w.heap[k]?):sI n B w' v x:=by
 obtain⟨s,kv,rfl,h1,h2⟩:=h;exact⟨s,kv,rfl,Kind.aT h1 hs hk,Kind.aT h2 hs hk⟩
theorem sI.below {n:Nat} {B:Nat→Prop} {w w':World} {v:Value} {x:bf} (h:sI n B w v x) (k:Below w.heap.size w w'):sI n B w' v x:=h.kept k.size fun i hi _=>k.block i hi
theorem sI.fact {n:Nat} {B:Nat→Prop} {w:World} {s kv:Value} {x:bf} {nm:ByteArray} {r:Int} (h:sI n B w (.agg #[.string nm,s,.int .i64 r,kv]) x):bW w (.agg #[.string nm,s]) x.fact:=by
 obtain⟨s',kv',e,h1,_⟩:=h;simp only[Value.agg.injEq,Array.mk.injEq,List.cons.injEq,Value.string.injEq,and_true] at e;obtain⟨rfl,rfl,_,_⟩:=e;exact⟨_,rfl,kJ h1⟩
def nT {α:Type} (K:Kind α) (ty:TypeId) (B:Nat→Prop) (w0:World) (lo:Nat) (w:World) (v:Value) (l:List (List α)):Prop:=
 ∃xs,w.ownsRow lo ty 1 v l.length xs∧∀(i:Nat) a,l[i]?=some a→∃u,K.sl B w0 u a∧xs[i]?=some u
section
variable {α:Type} {K:Kind α} {ty:TypeId} {B:Nat→Prop} {w0:World} {lo:Nat} {w:World} {v:Value} {l:List (List α)}
theorem nT.nil (K:Kind α) (ty:TypeId) (B:Nat→Prop) (w0:World) (lo:Nat) (w:World):nT K ty B w0 lo w (.slice none 0 0) []:=⟨[],World.ownsRow_nil w _ _ _,fun i a h=>by simp at h⟩
theorem nT.slice (h:nT K ty B w0 lo w v l):∃a cap,v=.slice a l.length cap:=by
 obtain⟨xs,ho,_⟩:=h;rcases ho.2 with⟨rfl,e⟩|⟨g,cap,cur,rfl,_⟩
 ·exact⟨none,0,by rw[e]⟩
 ·exact⟨_,cap,rfl⟩
theorem nT.lo_le (h:nT K ty B w0 lo w v l):∀k,v.ownBlock=some k→lo≤k∧k<w.heap.size:=fun k e=>by
 obtain⟨xs,ho,_⟩:=h;exact ho.lt k e
theorem nT.kept {w':World} (h:nT K ty B w0 lo w v l) (hk:∀k,v.ownBlock=some k→w'.heap[k]?=w.heap[k]?):nT K ty B w0 lo w' v l:=by
 obtain⟨xs,ho,hx⟩:=h;refine⟨xs,⟨ho.1,?_⟩,hx⟩;rcases ho.2 with e|⟨g,cap,cur,rfl,hbg,hg,r⟩
 ·exact Or.inl e
 ·exact Or.inr ⟨g,cap,cur,rfl,hbg,by rw[hk g rfl];exact hg,r⟩
theorem nT.more {T:TypeId} {i:TypeInfo} (h:nT K ty B w0 lo w v l) (hT:Tryz.prog.underlying T=some (.slice ty)) (i1:Tryz.prog.info? ty=some i) (i2:i.zero=some (.slice none 0 0)) (i3:i.size=1) (i4:i.bytes=24) (hs:lo≤w.heap.size) {u:Value} {a:List α} (hc:K.sl B w0 u a) (hl:l.length+1≤1099511627776):
  ∃v' w',(Builtin.append_ #[T,T] T #[v,.slice (some ⟨w.heap.size,0,none⟩) 1 1]).run Tryz.prog (w.alloc (.cells #[u] ty))=.ok v' w'∧nT K ty B w0 lo w' v' (l++[a])∧(w.alloc (.cells #[u] ty)).grownBy w' v.ownBlock∧w.drawn≤w'.drawn:=by
 obtain⟨xs,ho,hx⟩:=h;have hnews:∀j x,([u]:List Value)[j]?=some x→(w.alloc (.cells #[u] ty)).cell? ((⟨w.heap.size,0,none⟩:Addr).add j)=some x:=by
  intro j x hx;rw[Addr.add_lit,Nat.zero_add,cell_of_row _ w.heap.size j #[u] ty (0,0) (heap_alloc_new w _)];simpa using hx
 have hone:∀x∈[u],Value.oneCell' x=true:=by
  intro x hx;simp at hx;subst hx;obtain⟨a,cap,rfl⟩:=Kind.slice hc
  rfl
 obtain⟨v',w',hrun,r1,r2,r3,r4⟩:=eT (P:=Tryz.prog) (w.alloc (.cells #[u] ty)) lo T T ty i _ 1 24 hT i1 i2 i3 i4 rfl (by omega) v l.length xs (ho.alloc _) ⟨w.heap.size,0,none⟩ 1 1 [u] rfl hnews hone (by simp only[maxLen];omega) (by omega) (by simp;omega);have hxl:xs.length=l.length:=by have:=ho.1;omega
 refine⟨v',w',hrun,⟨xs++[u],by simpa using r1,fun j b hj=> ?_⟩,r2,r3⟩
 by_cases hjl:j<l.length
 ·rw[List.getElem?_append_left hjl] at hj;obtain⟨q,q1,q2⟩:=hx j b hj;exact⟨q,q1,by rw[List.getElem?_append_left (by omega)];exact q2⟩
 ·rw[List.getElem?_append_right (by omega)] at hj;have hj':j=l.length:=by
   have:=(List.getElem?_eq_some_iff.1 hj).1;simp at this;omega
  subst hj';simp at hj;subst hj;exact⟨u,hc,by rw[List.getElem?_append_right (by omega),hxl];simp⟩
theorem nT.at (h:nT K ty B w0 lo w v l) {i:Nat} {a:List α} (hi:l[i]?=some a):∃g cap u,v=.slice (some ⟨g,0,none⟩) l.length cap∧g<w.heap.size∧K.sl B w0 u a∧w.cell? ⟨g,i,none⟩=some u:=by
 obtain⟨xs,ho,hx⟩:=h;obtain⟨u,hu,hxu⟩:=hx i a hi;rcases ho.2 with⟨rfl,e⟩|⟨g,cap,cur,rfl,hbg,hg,hnc,_⟩
 ·have:=(List.getElem?_eq_some_iff.1 hi).1;omega
 ·refine⟨g,cap,u,rfl,(Array.getElem?_eq_some_iff.1 hg).1,hu,?_⟩;have:=ho.cells (g:=g) rfl i u hxu;rw[Addr.add_lit] at this;simpa using this
end
end Go.Proofs.YtafmbokfkbccaaaGreatDoor
namespace Go.Proofs.YtafmbokfkbccaaaGreatDoor
def aP (p:List aA) (ss:List Nat) (n:Int):Nat→List aj→Int×List (List aj)
 |0,_=>(0,[])
 |k+1,l=>if(bV p ss n l).1≠0 then((bV p ss n l).1,[]) else if(bV p ss n l).2.length=l.length then(0,[(bV p ss n l).2])
  else((aP p ss n k (bV p ss n l).2).1,(bV p ss n l).2::(aP p ss n k (bV p ss n l).2).2)
def aX (l:List aj) (ps:List (List aj)):List aj:=ps.getLast?.getD l
theorem gB (l m:List aj) (ps:List (List aj)):aX l (m::ps)=aX m ps:=by
 unfold aX;cases ps with
 |nil=>rfl
 |cons a ps=>rw[List.getLast?_cons_cons];rw[List.getLast?_cons];rfl
theorem fQ (l:List aj) (ps qs:List (List aj)):aX l (ps++qs)=aX (aX l ps) qs:=by
 induction ps generalizing l with
 |nil=>rfl
 |cons a ps ih=>rw[List.cons_append,gB,gB,ih]
def bg (p:List aA) (ss:List Nat):Nat→Nat→List aj→Int×List (List aj)
 |0,_,_=>(0,[])
 |c+1,n,l=>if(aP p ss n 201 l).1≠0 then((aP p ss n 201 l).1,[])
  else((bg p ss c (n+1) (aX l (aP p ss n 201 l).2)).1,(aP p ss n 201 l).2++(bg p ss c (n+1) (aX l (aP p ss n 201 l).2)).2)
theorem xP (p:List aA) (ss:List Nat) (n:Int):∀(k:Nat) (l:List aj),(dH p ss n k l).1=(aP p ss n k l).1∧((aP p ss n k l).1=0→dH p ss n k l=(0,aX l (aP p ss n k l).2))
 |0,l=>⟨rfl,fun _=>rfl⟩
 |k+1,l=>by
  unfold dH aP
  by_cases h0:(bV p ss n l).1=0
  ·have h0':¬(bV p ss n l).1≠0:=fun h=>h h0;simp only[if_neg h0']
   by_cases h1:(bV p ss n l).2.length=l.length
   ·simp only[if_pos h1];exact⟨trivial,fun _=>rfl⟩
   ·simp only[if_neg h1];obtain⟨h2,h3⟩:=xP p ss n k (bV p ss n l).2;exact⟨h2,fun h=>by rw[h3 h,gB]⟩
  ·have h0':(bV p ss n l).1≠0:=h0;simp only[if_pos h0'];exact⟨trivial,fun h=>absurd h h0⟩
theorem pJ (p:List aA) (ss:List Nat):∀(c n:Nat) (l:List aj),(gQ p ss c n l).1=(bg p ss c n l).1∧((bg p ss c n l).1=0→gQ p ss c n l=(0,aX l (bg p ss c n l).2))
 |0,n,l=>⟨rfl,fun _=>rfl⟩
 |c+1,n,l=>by
  obtain⟨o1,o2⟩:=xP p ss n 201 l;unfold gQ bg
  by_cases h0:(aP p ss n 201 l).1=0
  ·have o3:=o2 h0;have h1:¬(dH p ss n 201 l).1≠0:=fun h=>h (o1.trans h0);have h2:¬(aP p ss n 201 l).1≠0:=fun h=>h h0;simp only[if_neg h1,if_neg h2];rw[o3];obtain⟨h2,h3⟩:=pJ p ss c (n+1) (aX l (aP p ss n 201 l).2);exact⟨h2,fun h=>by rw[h3 h,fQ]⟩
  ·have h1:(dH p ss n 201 l).1≠0:=fun h=>h0 (o1.symm.trans h);have h2:(aP p ss n 201 l).1≠0:=h0;simp only[if_pos h1,if_pos h2];exact⟨o1,fun h=>absurd h h0⟩
def dD (b:List aC) (t:dh):dh:=if t.1 then(match bT b (bs t.2) with|some s=>(false,raw s)|none=>t) else t
def eH (b:List aC) (a:aF):aF:=⟨a.no,a.name,a.terms.map (dD b)⟩
def dS (b:List aC) (body:List aF):List aF:=body.map (eH b)
def fB (body:List aF) (l:List aC):List aj:=body.filterMap fun a=>if a.no then none else aQ a l
def oK (body:List aF) (all:List aj) (er:Int):List (List aC):=if er≠0 then[] else(lF (fun _=>all) body).getD []
def byP (err:List aF→Int) (all old:List aj) (r:aA) (f:aj):Option (List aj):=match dL r.head f [] with
 |none=>none
 |some b=>((oK (dS b r.body) all (err (dS b r.body))).map (fB (dS b r.body))).find? fun of=>of.all (inB old)
def gN (ps:List (List aj)) (f:aj):Nat:=ps.findIdx fun l=>inB l f
def jh (g:aA→Option (List aj)):Nat→List aA→Int×List aj
 |_,[]=>(-1,[])
 |i,r::p=>match g r with
  |some of=>(i,of)
  |none=>jh g (i+1) p
def mX (err:List aF→Int) (p:List aA) (told all:List aj) (ps:List (List aj)) (f:aj):Int×List aj:=
 if inB told f then(-1,[]) else jh (fun r=>byP err all (ps.getD (gN ps f-1) []) r f) 0 p
def iP (g:aj→Nat×Nat→Option bf×(Nat×Nat)):List aj→Nat×Nat→Option (List bf)×(Nat×Nat)
 |[],s=>(some [],s)
 |f::fs,s=>match(g f s).1 with
  |none=>(none,(g f s).2)
  |some k=>match(iP g fs (g f s).2).1 with
   |none=>(none,(iP g fs (g f s).2).2)
   |some ks=>(some (k::ks),(iP g fs (g f s).2).2)
def bq (how:aj→Int×List aj):Nat→aj→Nat→Nat×Nat→Option bf×(Nat×Nat)
 |0,_,_,s=>(none,s)
 |n+1,f,d,s=>if kr (s.1+1,max s.2 d) then(none,(s.1+1,max s.2 d))
  else match(iP (fun g s=>bq how n g (d+1) s) (how f).2 (s.1+1,max s.2 d)).1 with
   |none=>(none,(iP (fun g s=>bq how n g (d+1) s) (how f).2 (s.1+1,max s.2 d)).2)
   |some ks=>(some (.mk f (how f).1 ks),(iP (fun g s=>bq how n g (d+1) s) (how f).2 (s.1+1,max s.2 d)).2)
end Go.Proofs.YtafmbokfkbccaaaGreatDoor
