import Derived.Test.YtafmbokfkbccaaaGreatDoorJN7
import Derived.Test.YtafmbokfkbccaaaGreatDoorJN6
import Derived.Shelf.Spec.SlicesGrow
import Derived.Test.YtafmbokfkbccaaaGreatDoorProg
namespace Go.Proofs.YtafmbokfkbccaaaGreatDoor
open Go.RowKit Go.Sort
def bsK:Kind ByteArray where
 size:=1
 is:=fun _ _ c t=>c=[.string t]
 len:=fun h=>by subst h;rfl
 one:=fun h u hu=>by subst h;simp at hu;subst hu;rfl
 kept:=fun h _ _=>h
 mono:=fun h _=>h
theorem Kind.rZ {α:Type} {P:Program} {K:Kind α} {t ty:TypeId} {lo bytes:Nat} {w:World} {v:Value} {l:List α} (h:K.own ty lo w v l) {i:TypeInfo} {z:Value}
  (ht:P.underlying t=some (.slice ty)) (hi:P.info? ty=some i) (hz:i.zero=some z) (hsize:i.size=K.size) (hby:i.bytes=bytes) (hzs:z.cells.size=K.size) (hsz:0<K.size)
  {c:List Value} {x:α} (hc:K.is (fun k=>lo≤k∧v.ownBlock≠some k) w c x) (hl:(l.length+1)*bytes≤140737488355328) (hl2:l.length+1≤maxLen) (hlo:lo≤w.heap.size):
  ∃v' w',(Builtin.append_ #[t,t] t #[v,.slice (some ⟨w.heap.size,0,none⟩) 1 1]).run P (w.alloc (.cells c.toArray ty))=.ok v' w'∧K.own ty lo w' v' (l++[x])∧(w.alloc (.cells c.toArray ty)).grownBy w' v.ownBlock∧w.drawn≤w'.drawn∧
   ∀k,v'.ownBlock=some k→v.ownBlock=some k∨w.heap.size<k:=by
 obtain⟨xs,ho,hx⟩:=h;have hcl:=K.len hc;have hnews:∀j u,c[j]?=some u→(w.alloc (.cells c.toArray ty)).cell? ((⟨w.heap.size,0,none⟩:Addr).add j)=some u:=by
  intro j u hu;rw[Addr.add_lit,Nat.zero_add,cell_of_row _ w.heap.size j c.toArray ty (0,0) (heap_alloc_new w _)];simpa using hu
 obtain⟨v',w',hrun,r1,r2,r3,r4⟩:=dY (P:=P) (w.alloc (.cells c.toArray ty)) lo t t ty i z K.size bytes ht hi hz hsize hby hzs hsz v l.length xs (ho.alloc _) ⟨w.heap.size,0,none⟩ 1 1 c (by rw[hcl];simp) hnews
  (K.one hc) hl2 hl (by simp;omega)
 have hxl:xs.length=l.length*K.size:=ho.1;have own':∀k,v'.ownBlock=some k→v.ownBlock=some k∨w.heap.size<k:=fun k e=>by
  rcases r4 k e with e|e
  ·exact Or.inl e
  ·simp at e;exact Or.inr (by omega)
 have keep:∀k,k<w.heap.size→(lo≤k∧v.ownBlock≠some k)→w'.heap[k]?=w.heap[k]?:=fun k hk hB=>
  (r2.block k (by simp;omega) (fun e=>hB.2 e.symm)).trans (Below.heap_alloc w _ k hk)
 have hsz':w.heap.size≤w'.heap.size:=Nat.le_trans (by simp) r2.size;have move:∀{c:List Value} {y:α},K.is (fun k=>lo≤k∧v.ownBlock≠some k) w c y→K.is (fun k=>lo≤k∧v'.ownBlock≠some k) w' c y:=fun {c y} hy=>
  K.kept (K.mono hy fun k hk hB=>(⟨⟨hB.1,fun e=>by rcases own' k e with e|e;exact hB.2 e;omega⟩,hB⟩:(lo≤k∧v'.ownBlock≠some k)∧(lo≤k∧v.ownBlock≠some k))) hsz' (fun k hk hB=>keep k hk hB.2) |> fun h=>K.mono h fun _ _ hB=>hB.1
 refine⟨v',w',hrun,⟨xs++c,by simpa using r1,fun j y hj=> ?_⟩,r2,r3,own'⟩
 by_cases hjl:j<l.length
 ·rw[List.getElem?_append_left hjl] at hj;obtain⟨d,d1,d2⟩:=hx j y hj;refine⟨d,move d1,fun q u hu=> ?_⟩;have:=d2 q u hu;rw[List.getElem?_append_left (List.getElem?_eq_some_iff.1 this).1];exact this
 ·rw[List.getElem?_append_right (by omega)] at hj;have hj':j=l.length:=by
   have:=(List.getElem?_eq_some_iff.1 hj).1;simp at this;omega
  subst hj';simp at hj;subst hj;refine⟨c,move hc,fun q u hu=> ?_⟩;rw[List.getElem?_append_right (by omega),hxl,Nat.add_sub_cancel_left];exact hu
theorem Later.more {w0 w w':World} {v:Value} {o:Obj} (h:Later w0 w) (hg:(w.alloc o).grownBy w' v.ownBlock) (hd:w.drawn≤w'.drawn) (hv:∀k,v.ownBlock=some k→w0.heap.size≤k):Later w0 w':=
 Later.of_below ((h.alloc o).below.grown hg (h.alloc o).size hv) (Nat.le_trans h.drawn hd)
theorem Dk {lo:Nat} {w:World} {v:Value} {l:List ByteArray} (h:bsK.own 9 lo w v l) (hl:l.length≤8796093022208):Strs w v l:=by
 obtain⟨⟨h0,_⟩,a,cap,rfl,h1⟩:=Kind.iV h hl;refine⟨h0,a,cap,rfl,fun hne=> ?_⟩;obtain⟨b,off,rfl,_,hb,hc⟩:=h1 hne;refine⟨b,off,rfl,hb,fun i hi=> ?_⟩;obtain⟨c,rfl,c2⟩:=hc i _ (List.getElem?_eq_getElem hi);have:=c2 0 _ rfl;rw[List.getD_eq_getElem?_getD,List.getElem?_eq_getElem hi];simpa[bsK] using this
theorem zV {lo:Nat} {w:World} {v:Value} {l:List ByteArray} (h:bsK.own 9 lo w v l) (x:ByteArray) (hl:l.length+1≤8796093022208) (hlo:lo≤w.heap.size):
  ∃v' w',(Builtin.append_ #[25,25] 25 #[v,.slice (some ⟨w.heap.size,0,none⟩) 1 1]).run Tryz.prog (w.alloc (.cells #[.string x] 9))=.ok v' w'∧bsK.own 9 lo w' v' (l++[x])∧(w.alloc (.cells #[.string x] 9)).grownBy w' v.ownBlock∧w.drawn≤w'.drawn∧
   ∀k,v'.ownBlock=some k→v.ownBlock=some k∨w.heap.size<k:=by
 obtain⟨i,i1,i2,i3,i4⟩:=xP;exact Kind.rZ h Tryz.underlying25 i1 i2 i3 i4 rfl (by decide) (c:=[.string x]) rfl (by omega) (by simp[maxLen];omega) hlo
theorem zW:∀args w,(callFunc 163 args).run Tryz.prog w=.ok (.enter 163 args) w:=enters_of Tryz.func163 (by kernel_rfl) rfl
set_option maxHeartbeats 400000 in
theorem Gr (c:Nat) (u:Value) (l:List aD) (w0:World) (hc:w0.cell? ⟨c,0,none⟩=some u) (hb:c<w0.heap.size) (hu:bL.sl bZ w0 u l):LQ 163 #[.pointer (some ⟨c,0,none⟩)] l w0:=by
 intro w v hL;have HG:=hide (Qj u l v w (Kind.aQ hu hL));have hc':w.cell? ⟨c,0,none⟩=some u:=by rw[hL.cell hb];exact hc
 have hb':c<w.heap.size:=Nat.lt_of_lt_of_le hb hL.size;obtain⟨a,cap,rfl⟩:=Kind.slice hu;clear hu hc hb hL;unfold lD at HG⊢;generalize(dX l v).getD ByteArray.empty=s at*;generalize(dX l v).isSome=b at*;show Calls _ _ #[.string v,.pointer (some ⟨c,0,none⟩)] _ _
 go_enter Tryz.func163,Tryz.ntmps163
 go_wp2_with (go_at_call 164;refine HG.out.mono ?_;rintro e w2 ⟨rfl,hL2⟩;replace hL2:=hide hL2)
 go_ret2
 exact⟨rfl,bD hL2⟩
theorem yt {l:List aD} {ts:List dH} {j:Nat} {t:dH} {r:List ByteArray} (h:ts[j]?=some t) (hr:aN l (ts.take j)=some r):
  aN l (ts.take (j+1))=(bq l t).map fun s=>r++[s]:=by
 have gen:∀(q:List dH) (r:List ByteArray),aN l q=some r→aN l (q++[t])=(bq l t).map fun s=>r++[s]:=by
  intro q
  induction q with
  |nil=>
   intro r hr;cases hr;simp only[List.nil_append,aN];cases bq l t <;> rfl
  |cons x q ih=>
   intro r hr;simp only[List.cons_append,aN] at hr⊢;cases e:bq l x with
   |none=>rw[e] at hr;cases hr
   |some s=>
    rw[e] at hr;dsimp only at hr⊢;cases e2:aN l q with
    |none=>rw[e2] at hr;cases hr
    |some r'=>
     rw[e2] at hr;cases hr;rw[ih r' e2];cases bq l t <;> rfl
 rw[List.take_add_one,h];exact gen _ r hr
theorem pz {l:List aD}:∀{ts q:List dH},aN l ts=none→aN l (ts++q)=none
 |[],_,h=>by cases h
 |t::ts,q,h=>by
  simp only[List.cons_append,aN] at h⊢;cases e:bq l t with
  |none=>rfl
  |some s=>
   rw[e] at h;dsimp only at h⊢;cases e2:aN l ts with
   |none=>rw[pz e2]
   |some r=>rw[e2] at h;cases h
theorem yu {l:List aD} {ts:List dH} {j:Nat} (h:aN l (ts.take j)=none):aN l ts=none:=by
 have:=pz (q:=ts.drop j) h
 rwa [List.take_append_drop] at this
def filled (a:aF) (l:List aD):aI:=(aV a l).getD aC
theorem iB (w:World) (o:Obj) (k:Nat):(w.alloc o).heap[k]?=if k=w.heap.size then some o else w.heap[k]?:=by
 split
 ·rename_i h;subst h;exact heap_alloc_new w o
 ·rename_i h
  by_cases hk:k<w.heap.size
  ·exact Below.heap_alloc w o k hk
  ·rw[Array.getElem?_eq_none (by simp;omega),Array.getElem?_eq_none (by omega)]
theorem Jj {w:World} {R:Nat} {u0:Value} {t:TypeId} (h:w.heap[R]?=some (.cells #[u0] t (0,0))):w.cell? ⟨R,0,none⟩=some u0∧w.frozen? ⟨R,0,none⟩=false∧R<w.heap.size:=
 ⟨by rw[cell_of_row _ _ _ _ _ _ h];rfl,by simp[World.frozen?,h],(Array.getElem?_eq_some_iff.1 h).1⟩
theorem jN {w:World} {R:Nat} {u0 u1:Value} {t:TypeId} (h:w.heap[R]?=some (.cells #[u0,u1] t (0,0))):w.cell? ⟨R,0,none⟩=some u0∧w.cell? ⟨R,1,none⟩=some u1∧w.frozen? ⟨R,0,none⟩=false∧w.frozen? ⟨R,1,none⟩=false∧R<w.heap.size:=
 ⟨by rw[cell_of_row _ _ _ _ _ _ h];rfl,by rw[cell_of_row _ _ _ _ _ _ h];rfl,by simp[World.frozen?,h],by simp[World.frozen?,h],(Array.getElem?_eq_some_iff.1 h).1⟩
theorem eu {w:World} {g j:Nat} {cs:Array Value} {t:TypeId} {fr:Nat×Nat} (h:w.heap[g]?=some (.cells cs t fr)) (u:Value):(w.setCell ⟨g,j,none⟩ u).heap[g]?=some (.cells (cs.setIfInBounds j u) t fr):=by
 simp[World.setCell,Array.getElem?_modify,h]
theorem Gs {w:World} {R:Nat} {u0 u1:Value} {t:TypeId} {fr:Nat×Nat} (h:w.heap[R]?=some (.cells #[u0,u1] t fr)) (x y:Value):
  ((w.setCell ⟨R,0,none⟩ x).setCell ⟨R,1,none⟩ y).cell? ⟨R,0,none⟩=some x∧((w.setCell ⟨R,0,none⟩ x).setCell ⟨R,1,none⟩ y).cell? ⟨R,1,none⟩=some y:=by
 have h2:=eu (j:=1) (eu (j:=0) h x) y;exact⟨by rw[cell_of_row _ _ _ _ _ _ h2];rfl,by rw[cell_of_row _ _ _ _ _ _ h2];rfl⟩
theorem En {w w':World} {n:ByteArray} {s:Value} {r:List ByteArray} {lo:Nat} (h:bsK.own 9 lo w s r) (hl:r.length≤8796093022208) (hk:∀k,lo≤k→w'.heap[k]?=w.heap[k]?) (hs:w.heap.size≤w'.heap.size):dF w' (.agg #[.string n,s]) (n,r):=
 ⟨s,rfl,Dk (Kind.j3 h hs fun k _ hlo=>hk k hlo) hl⟩
def Vn (w w':World) (v:Value):Prop:=∃n s,v=.agg #[n,s]∧∀k,s.ownBlock=some k→w.heap.size≤k∧k<w'.heap.size
set_option maxRecDepth 100000 in
set_option maxHeartbeats 2000000 in
theorem LU (a:aF) (tv u:Value) (l:List aD) (w:World) (ht:dL.sl bZ w tv a.terms) (hu:bL.sl bZ w u l):
  Calls Tryz.prog 90 #[.agg #[.bool a.no,.string (bs a.name),tv],u] w fun e w'=>∃v,e=.returned (.tuple #[v,.bool (aV a l).isSome])∧dF w' v (filled a l)∧Later w w'∧Vn w w' v:=by
 obtain⟨sa,cap,rfl⟩:=Kind.slice ht;obtain⟨sb,D5,rfl⟩:=Kind.slice hu;have HT:=hide ht;have HU:=hide hu;have hn:=ht.1.1;clear ht hu;obtain⟨no,name,ts⟩:=a;dsimp only at*;have F:Hid (∀r,aN l ts=r→aV ⟨no,name,ts⟩ l=r.map fun x=>(bs name,x)):=fun r h=>by unfold aV;rw[h];cases r <;> rfl
 unfold filled;generalize hfb:aV ⟨no,name,ts⟩ l=fb at*;clear hfb;generalize bs name=nm at*
 go_enter Tryz.func90,Tryz.ntmps90
 go_wp2
 go_loopg [19] ts.length (fun g i wr=>∃j:Nat,j+g=ts.length∧i=.int .i64 j∧∃r o,Hid (aN l (ts.take j)=some r)∧Hid (bsK.own 9 (w.heap.size+4) wr o r)∧Hid (r.length=j)∧Hid (Later w wr)∧w.heap.size+4≤wr.heap.size∧
  Hid (wr.heap[w.heap.size+1]?=some (.cells #[.slice sb l.length D5] 158 (0,0)))∧Hid (wr.heap[w.heap.size+2]?=some (.cells #[.string {data:=#[]},.slice none 0 0] 27 (0,0)))∧Hid (wr.heap[w.heap.size+3]?=some (.cells #[.string nm,o] 27 (0,0))))
 case atStart=>
  refine⟨0,by omega,rfl,[],.slice none 0 0,(rfl:_=_),bsK.iW _ _ _,(rfl:_=_),((by repeat (first|exact Later.refl _|assumption|refine Later.drewN ?_ _|refine Later.drew ?_|refine Later.alloc ?_ _|refine Later.grow ?_ _)):Later _ _),by simp,?_,?_,?_⟩
  all_goals
   show _=_;simp only[iB,World.size_alloc]
   repeat (first|rw[if_pos trivial]|rw[if_pos (by omega)]|rw[if_neg (by omega)])
 case round=>
  obtain⟨j,hj,rfl,r,o,HR,HO,hrl,HL,hsz,H1,H2,H3⟩:=hrel;obtain⟨ao,co,rfl⟩:=Kind.bT HO.out
  by_cases hlt:j<ts.length
  ·obtain⟨x,hx⟩:∃x,ts[j]?=some x:=⟨_,List.getElem?_eq_getElem hlt⟩;obtain⟨b1,o1,_,rfl,hb1,rfl,hc⟩:=Kind.fC HT.out hx;have d0:wr.cell? ⟨b1,o1+j*2,none⟩=some (.bool x.1):=by rw[HL.out.cell hb1];exact hc 0 _ rfl
   have d1:wr.cell? ⟨b1,o1+j*2+1,none⟩=some (.string (bs x.2)):=by rw[HL.out.cell hb1];exact hc 1 _ rfl
   have hbr:b1<wr.heap.size:=by omega
   have HS:=hide (yt hx HR.out);obtain⟨wt,hwt⟩:∃wt,wt=wr.alloc (.cells #[.bool x.1,.string (bs x.2)] 187):=⟨_,rfl⟩;have hLt:Later w wt:=by rw[hwt];exact HL.out.alloc _
   have hst:wt.heap.size=wr.heap.size+1:=by rw[hwt];simp
   have hbl:∀k,k<wr.heap.size→wt.heap[k]?=wr.heap[k]?:=fun k hk=>by rw[hwt];exact Below.heap_alloc _ _ _ hk
   have K1:=Jj ((hbl _ (by omega)).trans H1.out);have HW:Hid (Calls Tryz.prog 165 #[.agg #[.bool x.1,.string (bs x.2)],.func (.func 163) #[] #[.pointer (some ⟨w.heap.size+1,0,none⟩)]] wt fun e w2=>e=.returned (lD (bq l x))∧Later wt w2):=
    KW _ _ zW x l wt wt (Gr (w.heap.size+1) _ l wt K1.1 K1.2.2 (Kind.aQ HU.out hLt)) (Later.refl _)
   rw[hwt] at HW;have HWT:=hide hwt;clear hc hx K1 hwt;obtain⟨x1,x2⟩:=x;dsimp only at*;cases hw:bq l (x1,x2) with
   |none=>
    rw[hw] at HW HS;have HF:Hid (fb=none):=F.out none (yu HS.out);have hw0:lD none=.tuple #[.string ByteArray.empty,.bool false]:=rfl;rw[hw0] at HW;clear hw hw0 HS;generalize bs x2=kx at*
    go_wp2_with fail
    refine HW.out.mono ?_;rintro e w2 ⟨rfl,hL2⟩;rw[←HWT.out] at hL2;have hb2:∀k,k<wr.heap.size→w2.heap[k]?=wr.heap[k]?:=fun k hk=>(hL2.block (by omega)).trans (hbl k hk);have Z2:=hide ((hb2 _ (by omega)).trans H2.out);obtain⟨q0,q1,p0,p1,q2⟩:=jN Z2.out;have HL2:=hide (hLt.trans hL2);clear hL2 hb2 HW;go_wp2;obtain⟨r0,r1⟩:=Gs Z2.out (.string {data:=#[]}) (.slice none 0 0);refine bodyPost_ret (v:=.tuple #[.agg #[.string {data:=#[]},.slice none 0 0],.bool false]) (by simp[results,Tryz.results90,go_sem,r0,r1]) rfl ⟨_,by rw[HF.out];rfl,?_,?_,_,_,rfl,fun k e=>by simp[Value.ownBlock] at e⟩
    ·rw[HF.out];exact⟨_,rfl,by simp[aC],none,0,rfl,fun h=>absurd rfl h⟩
    ·exact(HL2.out.setCell (by show w.heap.size≤w.heap.size+2;omega) _).setCell (by show w.heap.size≤w.heap.size+2;omega) _
   |some s=>
    rw[hw] at HW HS;have HS1:Hid (aN l (ts.take (j+1))=some (r++[s])):=HS.out;have hw0:lD (some s)=.tuple #[.string s,.bool true]:=rfl;rw[hw0] at HW;clear hw hw0 HS;generalize bs x2=kx at*
    go_wp2_with fail
    refine HW.out.mono ?_;rintro e w2 ⟨rfl,hL2⟩;rw[←HWT.out] at hL2;have hb2:∀k,k<wr.heap.size→w2.heap[k]?=wr.heap[k]?:=fun k hk=>(hL2.block (by omega)).trans (hbl k hk);have hs2:wr.heap.size<w2.heap.size:=by have:=hL2.size;omega
    obtain⟨q0,q1,p0,p1,q2⟩:=jN ((hb2 _ (by omega)).trans H3.out);obtain⟨v',w4,hrun,hO4,hg4,hd4,hv4⟩:=zV (Kind.j3 HO.out (Nat.le_of_lt hs2) fun k hk _=>hb2 k hk) s (by have:=hrl.out;omega) (by omega);have hlo:∀k,(Value.slice ao r.length co).ownBlock=some k→w.heap.size+4≤k:=fun k e=>(Kind.eT HO.out e).1;have hb4:∀k,k<w.heap.size+4→w4.heap[k]?=wr.heap[k]?:=fun k hk=>by
     rw[hg4.block k (by simp;omega) (fun e=>by have:=hlo k e.symm;omega),Below.heap_alloc _ _ _ (by omega)];exact hb2 k (by omega)
    have hs4:w2.heap.size<w4.heap.size:=by have:=hg4.size;simp at this;omega
    have HL4:=hide ((hLt.trans hL2).more hg4 hd4 fun k e=>by have:=hlo k e;omega);have Z3:=hide ((hb4 _ (by omega)).trans H3.out);obtain⟨_,y1,_,t1,y2⟩:=jN Z3.out;have Z1:=hide ((hb4 _ (by omega)).trans H1.out);have Z2:=hide ((hb4 _ (by omega)).trans H2.out);obtain⟨a4,n4,c4,rfl⟩:∃a n c,v'=.slice a n c:=by obtain⟨a,c,e⟩:=Kind.bT hO4;exact⟨a,_,c,e⟩
    have HR4:=hide hrun;have HO4:=hide hO4;clear hL2 hb2 HW hrun hO4 hg4 hd4 hv4 hb4
    go_wp2_with (at_builtin;refine wpList_append_run rfl (.tmp 33) (.tmp 35) 25 rfl _ _ _ _ rfl rfl HR4.out ?_)
    go_roundg (ts.length- (j+1))
    case measure=>omega
    case rel=>
     refine⟨j+1,by omega,by go_num,r++[s],.slice a4 n4 c4,HS1,?_,(by simp[hrl.out]:(r++[s]).length=j+1),?_,?_,?_,?_,?_⟩
     ·exact Kind.j3 HO4.out (by simp[World.setCell]) fun k _ hk=>Below.heap_setCell _ _ _ _ (by show k≠w.heap.size+3;omega)
     ·exact(Later.setCell HL4.out (p:=⟨w.heap.size+1+1+1,1,none⟩) (by show w.heap.size≤w.heap.size+3;omega) _:Later _ _)
     ·simp[World.setCell];omega
     ·show _=_;rw[Below.heap_setCell _ _ _ _ (by show w.heap.size+1≠w.heap.size+3;omega)];exact Z1.out
     ·show _=_;rw[Below.heap_setCell _ _ _ _ (by show w.heap.size+2≠w.heap.size+3;omega)];exact Z2.out
     ·show _=_;rw[eu Z3.out];rfl
  ·have e:j=ts.length:=by omega
   subst e;have HR1:Hid (fb=some (nm,r)):=by
    have:=HR.out;rw[List.take_length] at this;exact F.out _ this
   obtain⟨q0,q1,p0,p1,q2⟩:=jN H2.out;obtain⟨y0,y1,t0,t1,y2⟩:=jN H3.out;go_wp2;obtain⟨r0,r1⟩:=Gs (R:=w.heap.size+1+1) H2.out (.string nm) (.slice ao r.length co);refine bodyPost_ret (v:=.tuple #[.agg #[.string nm,.slice ao r.length co],.bool true]) (by simp[results,Tryz.results90,go_sem,r0,r1]) rfl ⟨_,by rw[HR1.out];rfl,?_,?_,_,_,rfl,fun k e=> ?_⟩
   ·rw[HR1.out];refine En HO.out (by have:=hrl.out;omega) (fun k hk=> ?_) (by simp[World.setCell]);rw[Below.heap_setCell _ _ _ _ (by show k≠w.heap.size+2;omega),Below.heap_setCell _ _ _ _ (by show k≠w.heap.size+2;omega)]
   ·exact(HL.out.setCell (by show w.heap.size≤w.heap.size+2;omega) _).setCell (by show w.heap.size≤w.heap.size+2;omega) _
   ·have:=Kind.eT HO.out e;rw[size_setCell,size_setCell];omega
theorem Od (a:aF) (tv u:Value) (l:List aD) (w:World) (ht:dL.sl bZ w tv a.terms) (hu:bL.sl bZ w u l):
  Calls Tryz.prog 90 #[.agg #[.bool a.no,.string (bs a.name),tv],u] w fun e w'=>∃v,e=.returned (.tuple #[v,.bool (aV a l).isSome])∧dF w' v (filled a l)∧Later w w':=
 (LU a tv u l w ht hu).mono fun _ _ ⟨v,h1,h2,h3,_⟩=>⟨v,h1,h2,h3⟩
end Go.Proofs.YtafmbokfkbccaaaGreatDoor
namespace Go.Proofs
open Go.Shelf
def Tryz.growBinds_ren:Go.Shelf.Ren:=⟨fun|4=>288|n=>n,fun|22=>158|25=>190|3=>3|4=>4|9=>9|20=>20|0=>0|n=>n,fun|n=>n⟩
theorem Tryz.growBinds:Go.Proofs.Lays8.n4 Tryz.prog Tryz.growBinds_ren:={
 mixed:=by kernel_rfl
 f4:=⟨Tryz.f288.name,by decide,Tryz.func288.trans (congrArg some (by kernel_rfl))⟩
 t0:=Tryz.underlying0
 a0:=Tryz.isAgg0
 z0:=Tryz.sizeOf0
 v0:=Tryz.zeroValue0
 t3:=Tryz.underlying3
 a3:=Tryz.isAgg3
 z3:=Tryz.sizeOf3
 v3:=Tryz.zeroValue3
 t4:=Tryz.underlying4
 a4:=Tryz.isAgg4
 z4:=Tryz.sizeOf4
 v4:=Tryz.zeroValue4
 t9:=Tryz.underlying9
 a9:=Tryz.isAgg9
 z9:=Tryz.sizeOf9
 v9:=Tryz.zeroValue9
 t20:=Tryz.underlying20
 a20:=Tryz.isAgg20
 z20:=Tryz.sizeOf20
 v20:=Tryz.zeroValue20
 t22:=Tryz.underlying158
 a22:=Tryz.isAgg158
 z22:=Tryz.sizeOf158
 v22:=Tryz.zeroValue158}
end Go.Proofs
namespace Go.Proofs.YtafmbokfkbccaaaGreatDoor
open Go.RowKit Go.Sort Go.Shelf
theorem yw:∃i,Tryz.prog.info? 190=some i∧i.zero=some (.agg #[.string ByteArray.empty,.string ByteArray.empty])∧i.size=2∧i.bytes=32:=⟨Tryz.t190,by kernel_rfl,by kernel_rfl,by kernel_rfl,by kernel_rfl⟩
def y7 (b:aD):List Value:=[.string b.1,.string b.2]
def iJ (l:List aD):List Value:=l.flatMap y7
theorem yx (l m:List aD):iJ (l++m)=iJ l++iJ m:=by simp[iJ]
theorem mY:∀l:List aD,(iJ l).length=l.length*2
 |[]=>rfl
 |b::l=>by
  have:=mY l;simp only[iJ,List.flatMap_cons,List.length_append,y7,List.length_cons] at this⊢;rw[this];simp;omega
theorem mE:∀(l:List aD) (i j:Nat),j<2→(iJ l)[i*2+j]?=(l[i]?).bind fun b=>(y7 b)[j]?
 |[],i,j,_=>by simp[iJ]
 |b::l,0,j,hj=>by
  have:j=0∨j=1:=by omega
  rcases this with rfl|rfl <;> simp[iJ,y7]
 |b::l,i+1,j,hj=>by
  have e:(i+1)*2+j=(i*2+j)+2:=by omega
  rw[e];simp only[List.getElem?_cons_succ];rw[←mE l i j hj];show([.string b.1,.string b.2]++iJ l)[i*2+j+2]?=_;rw[List.getElem?_append_right (by simp)];simp
theorem Eo {l:List aD}:∀u∈iJ l,u.oneCell'=true:=fun u hu=>by
 obtain⟨b,_,hb⟩:=List.mem_flatMap.1 hu;simp[y7] at hb;rcases hb with rfl|rfl <;> rfl
theorem tH {ty:TypeId} {lo:Nat} {w:World} {v:Value} {l:List aD} (h:bL.own ty lo w v l):w.ownsRow lo ty 2 v l.length (iJ l):=by
 obtain⟨xs,ho,hx⟩:=h;have e:xs=iJ l:=by
  apply List.ext_getElem?
  intro n
  by_cases hn:n<l.length*2
  ·have hi:n/2<l.length:=by omega
   obtain⟨c,rfl,hc⟩:=hx (n/2) _ (List.getElem?_eq_getElem hi);have hm:n%2<2:=Nat.mod_lt _ (by omega);have e1:n=n/2*2+n%2:=by omega
   have e2:=mE l (n/2) (n%2) hm;rw[List.getElem?_eq_getElem hi] at e2;rw[←e1] at e2;rw[e2];rcases(by omega:n%2=0∨n%2=1) with h0|h0
   ·have:=hc 0 _ rfl;rw[show n/2*bL.size+0=n by show n/2*2+0=n;omega] at this;rw[this,h0];rfl
   ·have:=hc 1 _ rfl;rw[show n/2*bL.size+1=n by show n/2*2+1=n;omega] at this;rw[this,h0];rfl
  ·have h1:xs.length=l.length*2:=ho.1;rw[List.getElem?_eq_none (by omega),List.getElem?_eq_none (by rw[mY];omega)]
 rw[←e];exact ho
theorem KX {ty:TypeId} {lo:Nat} {w:World} {v:Value} {l:List aD} (h:w.ownsRow lo ty 2 v l.length (iJ l)):bL.own ty lo w v l:=by
 refine⟨iJ l,h,fun i x hi=>⟨_,rfl,fun j u hu=> ?_⟩⟩;have hj:j<2:=(List.getElem?_eq_some_iff.1 hu).1;show(iJ l)[i*2+j]?=_;rw[mE l i j hj,hi];exact hu
theorem yA {B:Nat→Prop} {w:World} {a:Addr} {n cap:Nat} {l:List aD} (h:bL.sl B w (.slice (some a) n cap) l):∀j u,(iJ l)[j]?=some u→w.cell? (a.add j)=some u:=fun j u hu=>by
 have hj:j<l.length*2:=by rw[←mY];exact(List.getElem?_eq_some_iff.1 hu).1
 have hi:j/2<l.length:=by omega
 obtain⟨b,off,c,e,hb,rfl,hc⟩:=Kind.fC h (List.getElem?_eq_getElem hi);cases e;have e1:j=j/2*2+j%2:=by omega
 have e2:=mE l (j/2) (j%2) (Nat.mod_lt _ (by omega));rw[List.getElem?_eq_getElem hi] at e2;rw[←e1,hu] at e2;have:=hc (j%2) u e2.symm;rw[Addr.add_lit];rw[show off+j/2*bL.size+j%2=off+j by show off+j/2*2+j%2=off+j;omega] at this;exact this
theorem tJ {lo:Nat} {w:World} {v:Value} {l m:List aD} {a:Option Addr} {cap:Nat} (h:bL.own 190 lo w v l) (hm:bL.sl bZ w (.slice a m.length cap) m) (hl:l.length+m.length≤4398046511104) (hlo:lo≤w.heap.size):
  ∃v' w',(Builtin.append_ #[158,158] 158 #[v,.slice a m.length cap]).run Tryz.prog w=.ok v' w'∧bL.own 190 lo w' v' (l++m)∧w.grownBy w' v.ownBlock∧w.drawn≤w'.drawn∧∀k,v'.ownBlock=some k→v.ownBlock=some k∨w.heap.size≤k:=by
 obtain⟨i,i1,i2,i3,i4⟩:=yw;have ho:=tH h;cases a with
 |none=>
  have hm0:m=[]:=by
   refine Classical.byContradiction fun hne=> ?_;obtain⟨_,a',_,e,h1⟩:=hm;simp only[Value.slice.injEq] at e;obtain⟨b,off,e',_⟩:=h1 hne;rw[e'] at e;cases e.1
  subst hm0;refine⟨v,w,?_,by rw[List.append_nil];exact h,⟨rfl,rfl,rfl,Nat.le_refl _,fun _ _ _=>rfl⟩,Nat.le_refl _,fun k hk=>Or.inl hk⟩;rcases ho.2 with⟨rfl,e0⟩|⟨g,c,cur,rfl,_,_,hnc,_⟩
  ·simp[Builtin.append_,run_underlying Tryz.underlying158,sizeOf,typeInfo,i1,Builtin.lenOf,Builtin.firstCells]
  ·simp[Builtin.append_,run_underlying Tryz.underlying158,sizeOf,typeInfo,i1,Builtin.lenOf,Builtin.firstCells,hnc,storeCells]
 |some a=>
  obtain⟨v',w',hrun,r1,r2,r3,r4⟩:=dY (P:=Tryz.prog) w lo 158 158 190 i _ 2 32 Tryz.underlying158 i1 i2 i3 i4 rfl (by omega) v l.length (iJ l) ho a m.length cap (iJ m) (mY m) (yA hm) Eo (by simp only[maxLen];omega) (by omega) hlo;exact⟨v',w',hrun,KX (by rw[List.length_append,yx];exact r1),r2,r3,r4⟩
theorem Ep {lo:Nat} {w:World} {v:Value} {l:List aD} (h:bL.own 190 lo w v l) (x y:ByteArray) (hl:l.length+1≤4398046511104) (hlo:lo≤w.heap.size):
  ∃v' w',(Builtin.append_ #[158,158] 158 #[v,.slice (some ⟨w.heap.size,0,none⟩) 1 1]).run Tryz.prog (w.alloc (.cells #[.string x,.string y] 190))=.ok v' w'∧bL.own 190 lo w' v' (l++[(x,y)])∧(w.alloc (.cells #[.string x,.string y] 190)).grownBy w' v.ownBlock∧w.drawn≤w'.drawn∧
   ∀k,v'.ownBlock=some k→v.ownBlock=some k∨w.heap.size<k:=by
 obtain⟨i,i1,i2,i3,i4⟩:=yw;exact Kind.rZ h Tryz.underlying158 i1 i2 i3 i4 rfl (by decide) (c:=[.string x,.string y]) (x:=(x,y)) rfl (by omega) (by simp[maxLen];omega) hlo
theorem QX (w:World) (n:Nat) (hn:n≤4398046511104):Calls Tryz.prog 288 #[.slice none 0 0,.int .i64 n] w fun e w'=>
  ∃v',e=.returned v'∧bL.own 190 w.heap.size w' v' []∧Later w w':=by
 by_cases h0:n=0
 ·subst h0;exact(Any8.slices_Grow_room Tryz.growBinds none 0 0 0 w (Nat.le_refl _) (by omega) (by omega) (Nat.le_refl _)).mono fun e w' ⟨he,hw⟩=>
   ⟨_,he,bL.iW _ _ _,by rw[hw];exact Later.refl _⟩
 ·obtain⟨i,i1,i2,i3,i4⟩:=yw;refine(Any8.slices_Grow_grow Tryz.growBinds i _ i1 i2 (by omega) none 0 0 n [] w (Nat.le_refl _) (by omega) (by rw[i4];omega) (by omega) (by simp) (fun _=>rfl) (fun a h=>by cases h)).mono fun e w' ⟨he,hw⟩=>⟨_,he,?_,?_⟩
  ·rw[hw];have hcm:=grownCap_le_maxLen w (0+n) 0 (Tryz.growBinds_ren.t 25) (by simp only[maxLen];omega);have hge:=grownCap_ge w (0+n) 0 (Tryz.growBinds_ren.t 25);refine KX (World.ownsRow_made (base:=w.heap.size) (e:=190) (size:=2) w.drew _ _ (Nat.le_refl _) hcm ?_);simp only[Array.size_append,List.size_toArray,size_zeroCells];show 0+(0+n-0)*2+(grownCap w (0+n) 0 (Tryz.growBinds_ren.t 25)- (0+n))*2=_;omega
  ·rw[hw];exact(Later.refl w).drew.alloc _
theorem pE {ty:TypeId} {lo:Nat} {w w':World} {v:Value} {l:List aD} (h:bL.own ty lo w v l) (k:Later w w'):bL.own ty lo w' v l:=kL h fun _ e=>k.block (Kind.eT h e).2
set_option maxHeartbeats 1000000 in
theorem LV (w:World) (c cp:Nat) (va vb:Value) (la lb:List aD) (ha:bL.sl bZ w va la) (hb:bL.sl bZ w vb lb) (hn:la.length+lb.length≤4398046511104) (hc0:w.cell? ⟨c,0,none⟩=some va) (hc1:w.cell? ⟨c,1,none⟩=some vb) (hcb:c<w.heap.size):
  Calls Tryz.prog 240 #[.slice (some ⟨c,0,none⟩) 2 cp] w fun e w'=>∃v',e=.returned v'∧bL.own 190 w.heap.size w' v' (la++lb)∧Later w w':=by
 have HA:=hide ha;have HB:=hide hb;obtain⟨a1,c1,rfl⟩:=Kind.slice ha;obtain⟨a2,c2,rfl⟩:=Kind.slice hb;clear ha hb;have s1:¬((la.length:Int)<0):=by omega
 have s2:¬((la.length:Int)+(lb.length:Int)<0):=by omega
 go_enter Tryz.func240,Tryz.ntmps240
 go_wp2;refine wp_loop_rounds 3 ?_;rw[rounds_succ];go_wp2;rw[rounds_succ];go_wp2;rw[rounds_succ]
 go_wp2_with fail
 rw[show((la.length:Int)+(lb.length:Int))=((la.length+lb.length:Nat):Int) by omega];refine(QX w (la.length+lb.length) hn).mono ?_;rintro e w1 ⟨v1,rfl,hR1,hL1⟩;obtain⟨v2,w2,Oe,hR2,hg2,hd2,hk2⟩:=tJ hR1 (Kind.aQ HA.out hL1) (by simp;omega) hL1.size;have hL2:Later w w2:=Later.of_below (hL1.below.grown hg2 hL1.size fun k hk=>(Kind.eT hR1 hk).1) (Nat.le_trans hL1.drawn hd2);obtain⟨v3,w3,Og,hR3,hg3,hd3,hk3⟩:=tJ hR2 (Kind.aQ HB.out hL2) (by simp;omega) hL2.size;have hL3:Later w w3:=Later.of_below (hL2.below.grown hg3 hL2.size fun k hk=>(Kind.eT hR2 hk).1) (Nat.le_trans hL2.drawn hd3);rw[List.nil_append] at hR3;have y0:w1.cell? ⟨c,0,none⟩=some (.slice a1 la.length c1):=by rw[hL1.cell (p:=⟨c,0,none⟩) hcb];exact hc0
 have y1:w1.cell? ⟨c,1,none⟩=some (.slice a2 lb.length c2):=by rw[hL1.cell (p:=⟨c,1,none⟩) hcb];exact hc1
 have y2:w2.cell? ⟨c,1,none⟩=some (.slice a2 lb.length c2):=by rw[hL2.cell (p:=⟨c,1,none⟩) hcb];exact hc1
 have R2:=hide Oe;have R3:=hide Og;have HR:=hide hR3;clear Oe Og hR1 hR2 hR3 hg2 hg3;go_wp2;refine wp_loop_rounds 3 ?_;rw[rounds_succ]
 go_wp2_with (at_builtin;refine wpList_append_run rfl (.tmp 31) (.tmp 32) 158 rfl _ _ _ _ rfl rfl R2.out ?_)
 rw[rounds_succ]
 go_wp2_with (at_builtin;refine wpList_append_run rfl (.tmp 31) (.tmp 32) 158 rfl _ _ _ _ rfl rfl R3.out ?_)
 rw[rounds_succ];go_wp2;go_ret;exact⟨v3,rfl,HR.out,hL3⟩
theorem zX:∀args w,(callFunc 239 args).run Tryz.prog w=.ok (.enter 239 args) w:=enters_of Tryz.func239 (by kernel_rfl) rfl
set_option maxHeartbeats 1000000 in
theorem Gt (cl cm:Nat) (u um:Value) (l m:List aD) (w0:World) (hc:w0.cell? ⟨cl,0,none⟩=some u) (hb:cl<w0.heap.size) (hd:w0.cell? ⟨cm,0,none⟩=some um) (he:cm<w0.heap.size) (hu:bL.sl bZ w0 u l) (hm:bL.sl bZ w0 um m):
  LQ 239 #[.pointer (some ⟨cl,0,none⟩),.pointer (some ⟨cm,0,none⟩)] (l++m) w0:=by
 intro w v hL;have HG:=hide (Qj u l v w (Kind.aQ hu hL));have HM:Hid (∀w2,Later w w2→w2.cell? ⟨cm,0,none⟩=some um∧cm<w2.heap.size∧Calls Tryz.prog 164 #[um,.string v] w2 fun e w'=>e=.returned (lD (dX m v))∧Hid (Later w w')):=fun w2 h2=>
  ⟨by rw[(hL.trans h2).cell he];exact hd,Nat.lt_of_lt_of_le he (hL.trans h2).size,(Qj um m v w2 (Kind.aQ hm (hL.trans h2))).mono fun e w' ⟨h3,h4⟩=>⟨h3,h2.trans h4⟩⟩
 have hc':w.cell? ⟨cl,0,none⟩=some u:=by rw[hL.cell hb];exact hc
 have hb':cl<w.heap.size:=Nat.lt_of_lt_of_le hb hL.size;obtain⟨a,cap,rfl⟩:=Kind.slice hu;obtain⟨am,WW,rfl⟩:=Kind.slice hm;have E:=hide (fJ l m v);clear hu hm hc hb hd he hL;show Calls _ _ #[.string v,.pointer (some ⟨cl,0,none⟩),.pointer (some ⟨cm,0,none⟩)] _ _;cases hg:dX l v with
 |some s=>
  have E1:Hid (dX (l++m) v=some s):=by show _=_;rw[E.out,hg]
  rw[hg] at HG;unfold lD at HG;simp only[Option.getD_some,Option.isSome_some] at HG;clear HM hg E
  go_enter Tryz.func239,Tryz.ntmps239
  go_wp2_with (go_at_call 164;refine HG.out.mono ?_;rintro e w2 ⟨rfl,hL2⟩;replace hL2:=hide hL2)
  go_ret2
  exact⟨by rw[E1.out];rfl,bD hL2⟩
 |none=>
  have E1:Hid (dX (l++m) v=dX m v):=by show _=_;rw[E.out,hg]
  rw[hg] at HG;unfold lD at HG HM;simp only[Option.getD_none,Option.isSome_none] at HG;clear hg E;generalize hgm:(dX m v).getD ByteArray.empty=s at*;generalize hbm:(dX m v).isSome=b at*;have E2:Hid (lD (dX (l++m) v)=.tuple #[.string s,.bool b]):=by show _=_;rw[E1.out];unfold lD;rw[hgm,hbm]
  clear hgm hbm E1
  go_enter Tryz.func239,Tryz.ntmps239
  go_wp2_with fail
  refine HG.out.mono ?_;rintro e w2 ⟨rfl,hL2⟩;obtain⟨y0,y1,hcall⟩:=HM.out w2 hL2;have HC:=hide hcall;clear hcall hL2 HM HG
  go_wp2_with fail
  refine HC.out.mono ?_;rintro e w3 ⟨rfl,hL3⟩;go_wp2
  go_ret2
  exact⟨by rw[E2.out];rfl,hL3.out⟩
end Go.Proofs.YtafmbokfkbccaaaGreatDoor
namespace Go.Proofs.YtafmbokfkbccaaaGreatDoor
open Go.RowKit Go.Sort
theorem Ci {l:List aD} {ts:List dH} {xs:List ByteArray} {j:Nat} {t:dH} {x:ByteArray} (ht:ts[j]?=some t) (hx:xs[j]?=some x):
  eG l (ts.drop j) (xs.drop j)=match bq l t with|none=>eG (l++[(bs t.2,x)]) (ts.drop (j+1)) (xs.drop (j+1))|some s=>if s=x then eG l (ts.drop (j+1)) (xs.drop (j+1)) else none:=by
 obtain⟨h1,e1⟩:=List.getElem?_eq_some_iff.1 ht;obtain⟨h2,e2⟩:=List.getElem?_eq_some_iff.1 hx;rw[List.drop_eq_getElem_cons h1,List.drop_eq_getElem_cons h2,e1,e2];rfl
def QY (w0 w:World) (v:Value) (r:Option (List aD)):Prop:=match r with
 |none=>v=.slice none 0 0
 |some m=>bL.own 190 w0.heap.size w v m
set_option maxRecDepth 100000 in
set_option maxHeartbeats 1000000 in
theorem LW (a:aF) (sa:Option Addr) (cap:Nat) (fn:ByteArray) (fa:Option Addr) (nf Gu:Nat) (sb:Option Addr) (nb D5:Nat) (w:World) (h:(decide (bs a.name=fn)&&decide ((a.terms.length:Int)=nf))=false):
  Calls Tryz.prog 175 #[.agg #[.bool a.no,.string (bs a.name),.slice sa a.terms.length cap],.agg #[.string fn,.slice fa nf Gu],.slice sb nb D5] w fun e w'=>e=.returned (.tuple #[.slice none 0 0,.bool false])∧Later w w':=by
 obtain⟨no,name,ts⟩:=a;dsimp only at*;generalize bs name=nm at*;have E:=Ch (a:=nm) (b:=fn);cases hq:(nm.toList==fn.toList) with
 |false=>
  clear h E
  go_enter Tryz.func175,Tryz.ntmps175
  go_wp2
  go_ret2
  exact⟨rfl,(by repeat (first|exact Later.refl _|assumption|refine Later.drewN ?_ _|refine Later.drew ?_|refine Later.alloc ?_ _|refine Later.grow ?_ _))⟩
 |true=>
  rw[←E,hq] at h;have hne:¬((ts.length:Int)=(nf:Int)):=by simpa using h
  have hne2:((ts.length:Int) != (nf:Int))=true:=by simpa using hne
  clear h E hne
  go_enter Tryz.func175,Tryz.ntmps175
  go_wp2
  go_ret2
  exact⟨rfl,(by repeat (first|exact Later.refl _|assumption|refine Later.drewN ?_ _|refine Later.drew ?_|refine Later.alloc ?_ _|refine Later.grow ?_ _))⟩
set_option maxRecDepth 100000 in
set_option maxHeartbeats 4000000 in
theorem JE (a:aF) (sa:Option Addr) (cap:Nat) (xs:List ByteArray) (fa:Option Addr) (Gu:Nat) (u:Value) (l:List aD) (w:World) (ht:dL.sl bZ w (.slice sa a.terms.length cap) a.terms) (hf:Strs w (.slice fa a.terms.length Gu) xs) (hu:bL.sl bZ w u l)
  (hlen:xs.length=a.terms.length) (hn:l.length+a.terms.length≤4398046511104):
  Calls Tryz.prog 175 #[.agg #[.bool a.no,.string (bs a.name),.slice sa a.terms.length cap],.agg #[.string (bs a.name),.slice fa a.terms.length Gu],u] w fun e w'=>∃v,e=.returned (.tuple #[v,.bool (eG l a.terms xs).isSome])∧QY w w' v (eG l a.terms xs)∧Later w w':=by
 obtain⟨sb,D5,rfl⟩:=Kind.slice hu;have HT:=hide ht;have HU:=hide hu;have HFS:=hide hf;have HLen:=hide hlen;clear ht hu hf hlen;obtain⟨no,name,ts⟩:=a;dsimp only at*;generalize bs name=nm at*;have hq:(nm.toList==nm.toList)=true:=by simp
 have hq2:((ts.length:Int) != (ts.length:Int))=false:=by simp
 go_enter Tryz.func175,Tryz.ntmps175
 go_wp2
 go_loopg [32] ts.length (fun g i wr=>∃j:Nat,j+g=ts.length∧i=.int .i64 j∧∃mm o,Hid (eG l ts xs=eG (l++mm) (ts.drop j) (xs.drop j))∧Hid (bL.own 190 (w.heap.size+4) wr o mm)∧Hid (mm.length≤j)∧Hid (Later w wr)∧w.heap.size+4≤wr.heap.size∧
  Hid (wr.heap[w.heap.size+1]?=some (.cells #[.string nm,.slice fa ts.length Gu] 27 (0,0)))∧Hid (wr.heap[w.heap.size+2]?=some (.cells #[.slice sb l.length D5] 158 (0,0)))∧Hid (wr.heap[w.heap.size+3]?=some (.cells #[o] 158 (0,0))))
 case atStart=>
  refine⟨0,by omega,rfl,[],.slice none 0 0,(by simp:_=_),bL.iW _ _ _,(Nat.le_refl _:_≤_),((by repeat (first|exact Later.refl _|assumption|refine Later.drewN ?_ _|refine Later.drew ?_|refine Later.alloc ?_ _|refine Later.grow ?_ _)):Later _ _),by simp,?_,?_,?_⟩
  all_goals
   show _=_;simp only[iB,World.size_alloc]
   repeat (first|rw[if_pos trivial]|rw[if_pos (by omega)]|rw[if_neg (by omega)])
 case round=>
  obtain⟨j,hj,rfl,mm,o,HE,HO,HML,HL,hsz,H1,H2,H3⟩:=hrel;obtain⟨ao,no',co,rfl⟩:∃a n c,o=.slice a n c:=by obtain⟨a,c,e⟩:=Kind.bT HO.out;exact⟨a,_,c,e⟩
  by_cases hlt:j<ts.length
  ·obtain⟨x,hx⟩:∃x,ts[j]?=some x:=⟨_,List.getElem?_eq_getElem hlt⟩;have hltx:j<xs.length:=by rw[HLen.out];exact hlt
   obtain⟨y,hy⟩:∃y,xs[j]?=some y:=⟨_,List.getElem?_eq_getElem hltx⟩;obtain⟨b1,o1,_,rfl,hb1,rfl,hc⟩:=Kind.fC HT.out hx;have d0:wr.cell? ⟨b1,o1+j*2,none⟩=some (.bool x.1):=by rw[HL.out.cell hb1];exact hc 0 _ rfl
   have d1:wr.cell? ⟨b1,o1+j*2+1,none⟩=some (.string (bs x.2)):=by rw[HL.out.cell hb1];exact hc 1 _ rfl
   have hbr:b1<wr.heap.size:=by omega
   obtain⟨b2,o2,rfl,hb2,hyc⟩:∃b2 o2,fa=some ⟨b2,o2,none⟩∧b2<w.heap.size∧w.cell? ⟨b2,o2+j,none⟩=some (.string y):=by
    obtain⟨_,a',cap',e,h1⟩:=HFS.out;simp only[Value.slice.injEq] at e;obtain⟨rfl,_,_⟩:=e;obtain⟨b,off,rfl,hb,hcc⟩:=h1 (by intro e;rw[e] at hltx;simp at hltx);have:=hcc j hltx;rw[List.getD_eq_getElem?_getD,hy] at this;exact⟨b,off,rfl,hb,this⟩
   have HS:=hide (Ci (l:=l++mm) hx hy);obtain⟨wt,hwt⟩:∃wt,wt=wr.alloc (.cells #[.bool x.1,.string (bs x.2)] 187):=⟨_,rfl⟩;have hLt:Later w wt:=by rw[hwt];exact HL.out.alloc _
   have hLr:Later wr wt:=by rw[hwt];exact(Later.refl _).alloc _
   have hst:wt.heap.size=wr.heap.size+1:=by rw[hwt];simp
   have hbl:∀k,k<wr.heap.size→wt.heap[k]?=wr.heap[k]?:=fun k hk=>by rw[hwt];exact Below.heap_alloc _ _ _ hk
   have htm:wt.heap[wr.heap.size]?=some (.cells #[.bool x.1,.string (bs x.2)] 187 (0,0)):=by rw[hwt];exact heap_alloc_new _ _
   have K2:=Jj ((hbl _ (by omega)).trans H2.out);have K3:=Jj ((hbl _ (by omega)).trans H3.out);have hml:=HML.out;have HW:Hid (Calls Tryz.prog 165 #[.agg #[.bool x.1,.string (bs x.2)],.func (.func 239) #[] #[.pointer (some ⟨w.heap.size+2,0,none⟩),.pointer (some ⟨w.heap.size+3,0,none⟩)]] wt fun e w2=>e=.returned (lD (bq (l++mm) x))∧Later wt w2):=
    KW _ _ zX x (l++mm) wt wt (Gt (w.heap.size+2) (w.heap.size+3) _ _ l mm wt K2.1 K2.2.2 K3.1 K3.2.2 (Kind.aQ HU.out hLt) (Kind.dz (Kind.iV (pE HO.out hLr) (by omega)))) (Later.refl _)
   rw[hwt] at HW;have HWT:=hide hwt;have HTM:=hide htm;clear hc hx hy K2 K3 hwt htm;obtain⟨x1,x2⟩:=x;dsimp only at*;cases hw:bq (l++mm) (x1,x2) with
   |some s=>
    rw[hw] at HW HS;have hw0:lD (some s)=.tuple #[.string s,.bool true]:=rfl;rw[hw0] at HW;clear hw hw0;generalize bs x2=kx at*
    by_cases hsy:s=y
    ·have HE1:Hid (eG l ts xs=eG (l++mm) (ts.drop (j+1)) (xs.drop (j+1))):=by
      show _=_;have h1:=HS.out;dsimp only at h1;rw[if_pos hsy] at h1;rw[HE.out,h1]
     have hqs:(s.toList==y.toList)=true:=by rw[hsy];simp
     clear HS HE hsy
     go_wp2_with fail
     refine HW.out.mono ?_;rintro e w2 ⟨rfl,hL2⟩;rw[←HWT.out] at hL2;have hb2':∀k,k<wr.heap.size→w2.heap[k]?=wr.heap[k]?:=fun k hk=>(hL2.block (by omega)).trans (hbl k hk);have hs2:wr.heap.size<w2.heap.size:=by have:=hL2.size;omega
     obtain⟨q0,q1,p0,p1,q2⟩:=jN ((hb2' _ (by omega)).trans H1.out);have d2:w2.cell? ⟨b2,o2+j,none⟩=some (.string y):=by rw[(hLt.trans hL2).cell hb2];exact hyc
     have Tf:b2<w2.heap.size:=by have:=(hLt.trans hL2).size;omega
     have Z1:=hide ((hb2' _ (by omega)).trans H1.out);have Z2:=hide ((hb2' _ (by omega)).trans H2.out);have Z3:=hide ((hb2' _ (by omega)).trans H3.out);have HL2:=hide (hLt.trans hL2);have HO2:=hide (pE HO.out (hLr.trans hL2));clear hL2 hb2' HW hbl;go_wp2
     go_roundg (ts.length- (j+1))
     case measure=>omega
     case rel=>exact⟨j+1,by omega,by go_num,mm,_,HE1,HO2,(by omega:mm.length≤j+1),HL2,by omega,Z1,Z2,Z3⟩
    ·have HE1:Hid (eG l ts xs=none):=by
      show _=_;have h1:=HS.out;dsimp only at h1;rw[if_neg hsy] at h1;rw[HE.out,h1]
     have hqs:(s.toList==y.toList)=false:=by rw[Ch];simpa using hsy
     clear HS HE hsy
     go_wp2_with fail
     refine HW.out.mono ?_;rintro e w2 ⟨rfl,hL2⟩;rw[←HWT.out] at hL2;have hb2':∀k,k<wr.heap.size→w2.heap[k]?=wr.heap[k]?:=fun k hk=>(hL2.block (by omega)).trans (hbl k hk);have hs2:wr.heap.size<w2.heap.size:=by have:=hL2.size;omega
     obtain⟨q0,q1,p0,p1,q2⟩:=jN ((hb2' _ (by omega)).trans H1.out);have d2:w2.cell? ⟨b2,o2+j,none⟩=some (.string y):=by rw[(hLt.trans hL2).cell hb2];exact hyc
     have Tf:b2<w2.heap.size:=by have:=(hLt.trans hL2).size;omega
     have HL2:=hide (hLt.trans hL2);clear hL2 hb2' HW hbl;go_wp2
     go_ret2
     exact⟨_,by rw[HE1.out];rfl,by rw[HE1.out];exact rfl,HL2.out⟩
   |none=>
    rw[hw] at HW HS;have hw0:lD none=.tuple #[.string ByteArray.empty,.bool false]:=rfl;rw[hw0] at HW;have HE1:Hid (eG l ts xs=eG (l++(mm++[(bs x2,y)])) (ts.drop (j+1)) (xs.drop (j+1))):=by
     show _=_;have h1:=HS.out;dsimp only at h1;rw[HE.out,h1,List.append_assoc]
    clear hw hw0 HS HE;generalize bs x2=kx at*
    go_wp2_with fail
    refine HW.out.mono ?_;rintro e w2 ⟨rfl,hL2⟩;rw[←HWT.out] at hL2;have hb2':∀k,k<wr.heap.size→w2.heap[k]?=wr.heap[k]?:=fun k hk=>(hL2.block (by omega)).trans (hbl k hk);have hs2:wr.heap.size<w2.heap.size:=by have:=hL2.size;omega
    obtain⟨q0,q1,p0,p1,q2⟩:=jN ((hb2' _ (by omega)).trans H1.out);have d2:w2.cell? ⟨b2,o2+j,none⟩=some (.string y):=by rw[(hLt.trans hL2).cell hb2];exact hyc
    have Tf:b2<w2.heap.size:=by have:=(hLt.trans hL2).size;omega
    obtain⟨t0,t1,_,_,t2⟩:=jN ((hL2.block (by omega)).trans HTM.out);obtain⟨m0,m1,m2⟩:=Jj ((hb2' _ (by omega)).trans H3.out);obtain⟨v',w4,hrun,hO4,hg4,hd4,hv4⟩:=Ep (w:=w2.drew) (pE HO.out ((hLr.trans hL2).drew)) kx y (by omega) (by show w.heap.size+4≤w2.heap.size;omega);have hlo:∀k,(Value.slice ao no' co).ownBlock=some k→w.heap.size+4≤k:=fun k e=>(Kind.eT HO.out e).1;have hb4:∀k,k<w.heap.size+4→w4.heap[k]?=wr.heap[k]?:=fun k hk=>by
     rw[hg4.block k (by simp;omega) (fun e=>by have:=hlo k e.symm;omega),Below.heap_alloc _ _ _ (by show k<w2.heap.size;omega)];exact hb2' k (by omega)
    have hs4:w2.heap.size<w4.heap.size:=by have:=hg4.size;simp at this;omega
    have HL4:=hide ((hLt.trans hL2).drew.more hg4 hd4 fun k e=>by have:=hlo k e;omega);have Z3:=hide ((hb4 _ (by omega)).trans H3.out);have Z1:=hide ((hb4 _ (by omega)).trans H1.out);have Z2:=hide ((hb4 _ (by omega)).trans H2.out);obtain⟨n0,n1,n2⟩:=Jj Z3.out;obtain⟨a4,n4,c4,rfl⟩:∃a n c,v'=.slice a n c:=by obtain⟨a,c,e⟩:=Kind.bT hO4;exact⟨a,_,c,e⟩
    have HR4:=hide hrun;have HO4:=hide hO4;clear hL2 hb2' HW hrun hO4 hg4 hd4 hv4 hb4 hbl;go_wp2
    go_region_law (refine iH rfl (.tmp 45) (.tmp 54) 158 rfl _ _ _ _ (by simp[Act.eval]) (by simp[Act.eval]) HR4.out ?_)
    all_goals
     go_wp2
     go_roundg (ts.length- (j+1))
     case measure=>omega
     case rel=>
      refine⟨j+1,by omega,by go_num,mm++[(kx,y)],.slice a4 n4 c4,HE1,?_,(by simp;omega:(mm++[(kx,y)]).length≤j+1),?_,?_,?_,?_,?_⟩
      ·exact Kind.j3 HO4.out (by simp[World.setCell]) fun k _ hk=>Below.heap_setCell _ _ _ _ (by show k≠w.heap.size+3;omega)
      ·exact(Later.setCell HL4.out (p:=⟨w.heap.size+1+1+1,0,none⟩) (by show w.heap.size≤w.heap.size+3;omega) _:Later _ _)
      ·simp[World.setCell];omega
      ·show _=_;rw[Below.heap_setCell _ _ _ _ (by show w.heap.size+1≠w.heap.size+3;omega)];exact Z1.out
      ·show _=_;rw[Below.heap_setCell _ _ _ _ (by show w.heap.size+2≠w.heap.size+3;omega)];exact Z2.out
      ·show _=_;rw[eu Z3.out];rfl
  ·have e:j=ts.length:=by omega
   subst e;have HE1:Hid (eG l ts xs=some (l++mm)):=by
    show _=_;rw[HE.out,List.drop_length];rfl
   have hml:=HML.out;have hLc:Later wr (wr.alloc (.cells #[.slice sb l.length D5,.slice ao no' co] 158)):=(Later.refl _).alloc _;have HCc:=hide (LV (wr.alloc (.cells #[.slice sb l.length D5,.slice ao no' co] 158)) wr.heap.size 2 (.slice sb l.length D5) (.slice ao no' co) l mm (Kind.aQ HU.out (HL.out.trans hLc)) (Kind.dz (Kind.iV (pE HO.out hLc) (by omega))) (by omega) (by simp) (by simp) (by simp));obtain⟨q0,p0,q2⟩:=Jj H2.out;obtain⟨y0,t0,y2⟩:=Jj H3.out;clear hLc
   go_wp2_with fail
   refine HCc.out.mono ?_;rintro e w2 ⟨v,rfl,hO2,hL2⟩;have HL2:=hide ((HL.out.alloc (.cells #[.slice sb l.length D5,.slice ao no' co] 158)).trans hL2);have HO2:=hide (yj hO2 (lo':=w.heap.size) (by simp;omega));clear hO2 hL2 HCc;go_wp2
   go_ret2
   exact⟨v,by rw[HE1.out];rfl,by rw[HE1.out];exact HO2.out,HL2.out⟩
theorem Oh (a:aF) (tv fv u:Value) (f:aI) (l:List aD) (w:World) (ht:dL.sl bZ w tv a.terms) (hf:dF w fv f) (hu:bL.sl bZ w u l) (hn:l.length+a.terms.length≤4398046511104):
  Calls Tryz.prog 175 #[.agg #[.bool a.no,.string (bs a.name),tv],fv,u] w fun e w'=>∃v,e=.returned (.tuple #[v,.bool (fK a f l).isSome])∧QY w w' v (fK a f l)∧Later w w':=by
 obtain⟨sa,cap,rfl⟩:=Kind.slice ht;obtain⟨s,rfl,hs⟩:=hf;obtain⟨fa,Gu,rfl⟩:=aW hs;unfold fK;split
 ·rename_i h;obtain⟨h1,h2⟩:=h;rw[←h1,←h2];rw[←h2] at hs;exact JE a sa cap f.2 fa Gu u l w ht hs hu h2.symm hn
 ·rename_i h;obtain⟨sb,D5,rfl⟩:=Kind.slice hu;refine(LW a sa cap f.1 fa f.2.length Gu sb l.length D5 w ?_).mono fun e w' ⟨he,hL⟩=>⟨_,he,rfl,hL⟩;rw[Bool.and_eq_false_iff]
  by_cases h1:bs a.name=f.1
  ·right
   simp only[decide_eq_false_iff_not];intro h2;exact h ⟨h1,by omega⟩
  ·left;simpa using h1
end Go.Proofs.YtafmbokfkbccaaaGreatDoor
