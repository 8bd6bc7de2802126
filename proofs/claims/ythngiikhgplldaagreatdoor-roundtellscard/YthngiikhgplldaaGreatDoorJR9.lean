import Derived.Test.YthngiikhgplldaaGreatDoorJR8
import Derived.Test.YthngiikhgplldaaGreatDoorJR6
import Derived.Shelf.Spec.SlicesGrow
import Derived.Test.YthngiikhgplldaaGreatDoorProg
open Go.RowKit Go.Sort Go.Shelf
set_option maxHeartbeats 4000000
set_option maxRecDepth 100000
namespace Go.Proofs.YthngiikhgplldaaGreatDoor
def bsK:aB ByteArray where
 size:=1
 is:=fun _ _ c t=>c=[.string t]
 len:=fun h=>by subst h;rfl
 one:=fun h u hu=>by subst h;simp at hu;subst hu;rfl
 kept:=fun h _ _=>h
 mono:=fun h _=>h
theorem aB.tC {α:Type} {P:Program} {K:aB α} {t ty:TypeId} {lo bytes:Nat} {w:World} {v:Value} {l:List α} (h:K.own ty lo w v l) {i:TypeInfo} {z:Value}
  (ht:P.underlying t=some (.slice ty)) (hi:P.info? ty=some i) (hz:i.zero=some z) (hsize:i.size=K.size) (hby:i.bytes=bytes) (hzs:z.cells.size=K.size) (hsz:0<K.size)
  {c:List Value} {x:α} (hc:K.is (fun k=>lo≤k∧v.ownBlock≠some k) w c x) (hl:(l.length+1)*bytes≤140737488355328) (hl2:l.length+1≤maxLen) (hlo:lo≤w.heap.size):
  ∃v' w',(Builtin.append_ #[t,t] t #[v,.slice (some ⟨w.heap.size,0,none⟩) 1 1]).run P (w.alloc (.cells c.toArray ty))=.ok v' w'∧K.own ty lo w' v' (l++[x])∧(w.alloc (.cells c.toArray ty)).grownBy w' v.ownBlock∧w.drawn≤w'.drawn∧
   ∀k,v'.ownBlock=some k→v.ownBlock=some k∨w.heap.size<k:=by
 obtain⟨xs,ho,hx⟩:=h;have hcl:=K.len hc;have hnews:∀j u,c[j]?=some u→(w.alloc (.cells c.toArray ty)).cell? ((⟨w.heap.size,0,none⟩:Addr).add j)=some u:=by intro j u hu;rw[Addr.add_lit,Nat.zero_add,cell_of_row _ w.heap.size j c.toArray ty (0,0) (heap_alloc_new w _)];simpa using hu
 obtain⟨v',w',hrun,r1,r2,r3,r4⟩:=d9 (P:=P) (w.alloc (.cells c.toArray ty)) lo t t ty i z K.size bytes ht hi hz hsize hby hzs hsz v l.length xs (ho.alloc _) ⟨w.heap.size,0,none⟩ 1 1 c (by rw[hcl];simp) hnews
  (K.one hc) hl2 hl (by simp;omega)
 have hxl:xs.length=l.length*K.size:=ho.1;have own':∀k,v'.ownBlock=some k→v.ownBlock=some k∨w.heap.size<k:=fun k e=>by
  rcases r4 k e with e|e;·exact Or.inl e
  simp at e;exact Or.inr (by omega)
 have keep:∀k,k<w.heap.size→(lo≤k∧v.ownBlock≠some k)→w'.heap[k]?=w.heap[k]?:=fun k hk hB=>
  (r2.block k (by simp;omega) (fun e=>hB.2 e.symm)).trans (Below.heap_alloc w _ k hk)
 have hsz':w.heap.size≤w'.heap.size:=Nat.le_trans (by simp) r2.size;have move:∀{c:List Value} {y:α},K.is (fun k=>lo≤k∧v.ownBlock≠some k) w c y→K.is (fun k=>lo≤k∧v'.ownBlock≠some k) w' c y:=fun {c y} hy=>
  K.kept (K.mono hy fun k hk hB=>(⟨⟨hB.1,fun e=>by rcases own' k e with e|e;exact hB.2 e;omega⟩,hB⟩:(lo≤k∧v'.ownBlock≠some k)∧(lo≤k∧v.ownBlock≠some k))) hsz' (fun k hk hB=>keep k hk hB.2) |> fun h=>K.mono h fun _ _ hB=>hB.1
 refine⟨v',w',hrun,⟨xs++c,by simpa using r1,fun j y hj=>?_⟩,r2,r3,own'⟩
 by_cases hjl:j<l.length
 ·rw[List.getElem?_append_left hjl] at hj;obtain⟨d,d1,d2⟩:=hx j y hj;refine⟨d,move d1,fun q u hu=>?_⟩;have:=d2 q u hu;rw[List.getElem?_append_left (List.getElem?_eq_some_iff.1 this).1];exact this
 rw[List.getElem?_append_right (by omega)] at hj;have hj':j=l.length:=by have:=(List.getElem?_eq_some_iff.1 hj).1;simp at this;omega
 subst hj';simp at hj;subst hj;refine⟨c,move hc,fun q u hu=>?_⟩;rw[List.getElem?_append_right (by omega),hxl,Nat.add_sub_cancel_left];exact hu
theorem aj.more {w0 w w':World} {v:Value} {o:Obj} (h:aj w0 w) (hg:(w.alloc o).grownBy w' v.ownBlock) (hd:w.drawn≤w'.drawn) (hv:∀k,v.ownBlock=some k→w0.heap.size≤k):aj w0 w':=
 aj.of_below ((h.alloc o).below.grown hg (h.alloc o).size hv) (Nat.le_trans h.drawn hd)
theorem Dr {lo:Nat} {w:World} {v:Value} {l:List ByteArray} (h:bsK.own 9 lo w v l) (hl:l.length≤8796093022208):Strs w v l:=by obtain⟨⟨h0,_⟩,a,cap,rfl,h1⟩:=aB.gQ h hl;refine⟨h0,a,cap,rfl,fun hne=>?_⟩;obtain⟨b,off,rfl,_,hb,hc⟩:=h1 hne;refine⟨b,off,rfl,hb,fun i hi=>?_⟩;obtain⟨c,rfl,c2⟩:=hc i _ (List.getElem?_eq_getElem hi);have:=c2 0 _ rfl;rw[List.getD_eq_getElem?_getD,List.getElem?_eq_getElem hi];simpa[bsK] using this
theorem vH {lo:Nat} {w:World} {v:Value} {l:List ByteArray} (h:bsK.own 9 lo w v l) (x:ByteArray) (hl:l.length+1≤8796093022208) (hlo:lo≤w.heap.size):
  ∃v' w',(Builtin.append_ #[48,48] 48 #[v,.slice (some ⟨w.heap.size,0,none⟩) 1 1]).run Tryz.prog (w.alloc (.cells #[.string x] 9))=.ok v' w'∧bsK.own 9 lo w' v' (l++[x])∧(w.alloc (.cells #[.string x] 9)).grownBy w' v.ownBlock∧w.drawn≤w'.drawn∧
   ∀k,v'.ownBlock=some k→v.ownBlock=some k∨w.heap.size<k:=by
 obtain⟨i,i1,i2,i3,i4⟩:=sV;exact aB.tC h Tryz.underlying48 i1 i2 i3 i4 rfl (by decide) (c:=[.string x]) rfl (by omega) (by simp[maxLen];omega) hlo
theorem vI:∀args w,(callFunc 123 args).run Tryz.prog w=.ok (.enter 123 args) w:=enters_of Tryz.func123 (by kernel_rfl) rfl
theorem Bh (c:Nat) (u:Value) (l:List aI) (w0:World) (hc:w0.cell? ⟨c,0,none⟩=some u) (hb:c<w0.heap.size) (hu:bO.sl bT w0 u l):Fh 123 #[.pointer (some ⟨c,0,none⟩)] l w0:=by
 intro w v hL;have HG:=au (Jl u l v w (aB.aS hu hL));have hc':w.cell? ⟨c,0,none⟩=some u:=by rw[hL.cell hb];exact hc
 have hb':c<w.heap.size:=Nat.lt_of_lt_of_le hb hL.size;obtain⟨a,cap,rfl⟩:=aB.slice hu;clear hu hc hb hL;unfold jJ at HG⊢;generalize(fu l v).getD ByteArray.empty=s at*;generalize(fu l v).isSome=b at*;show Calls _ _ #[.string v,.pointer (some ⟨c,0,none⟩)] _ _
 go_enter Tryz.func123,Tryz.ntmps123
 go_wp2_with (go_at_call 124;refine HG.out.mono ?_;rintro e w2 ⟨rfl,hL2⟩;replace hL2:=au hL2)
 go_ret2
 exact⟨rfl,bg hL2⟩
theorem l7 {l:List aI} {ts:List dM} {j:Nat} {t:dM} {r:List ByteArray} (h:ts[j]?=some t) (hr:aT l (ts.take j)=some r):
  aT l (ts.take (j+1))=(bH l t).map fun s=>r++[s]:=by
 have gen:∀(q:List dM) (r:List ByteArray),aT l q=some r→aT l (q++[t])=(bH l t).map fun s=>r++[s]:=by
  intro q
  induction q with
  |nil=>
   intro r hr;cases hr;simp only[List.nil_append,aT];cases bH l t <;> rfl
  |cons x q ih=>
   intro r hr;simp only[List.cons_append,aT] at hr⊢;cases e:bH l x with
   |none=>rw[e] at hr;cases hr
   |some s=>
    rw[e] at hr;dsimp only at hr⊢;cases e2:aT l q with
    |none=>rw[e2] at hr;cases hr
    |some r'=>
     rw[e2] at hr;cases hr;rw[ih r' e2];cases bH l t <;> rfl
 rw[List.take_add_one,h];exact gen _ r hr
theorem l8 {l:List aI}:∀{ts q:List dM},aT l ts=none→aT l (ts++q)=none
 |[],_,h=>by cases h
 |t::ts,q,h=>by
  simp only[List.cons_append,aT] at h⊢;cases e:bH l t with
  |none=>rfl
  |some s=>
   rw[e] at h;dsimp only at h⊢;cases e2:aT l ts with
   |none=>rw[l8 e2]
   |some r=>rw[e2] at h;cases h
theorem l9 {l:List aI} {ts:List dM} {j:Nat} (h:aT l (ts.take j)=none):aT l ts=none:=by
 have:=l8 (q:=ts.drop j) h
 rwa [List.take_append_drop] at this
def filled (a:aJ) (l:List aI):aG:=(bf a l).getD aA
theorem fT (w:World) (o:Obj) (k:Nat):(w.alloc o).heap[k]?=if k=w.heap.size then some o else w.heap[k]?:=by
 split;·rename_i h;subst h;exact heap_alloc_new w o
 rename_i h
 by_cases hk:k<w.heap.size
 ·exact Below.heap_alloc w o k hk
 rw[Array.getElem?_eq_none (by simp;omega),Array.getElem?_eq_none (by omega)]
theorem CZ {w:World} {R:Nat} {u0:Value} {t:TypeId} (h:w.heap[R]?=some (.cells #[u0] t (0,0))):w.cell? ⟨R,0,none⟩=some u0∧w.frozen? ⟨R,0,none⟩=false∧R<w.heap.size:=
 ⟨by rw[cell_of_row _ _ _ _ _ _ h];rfl,by simp[World.frozen?,h],(Array.getElem?_eq_some_iff.1 h).1⟩
theorem nQ {w:World} {R:Nat} {u0 u1:Value} {t:TypeId} (h:w.heap[R]?=some (.cells #[u0,u1] t (0,0))):w.cell? ⟨R,0,none⟩=some u0∧w.cell? ⟨R,1,none⟩=some u1∧w.frozen? ⟨R,0,none⟩=false∧w.frozen? ⟨R,1,none⟩=false∧R<w.heap.size:=
 ⟨by rw[cell_of_row _ _ _ _ _ _ h];rfl,by rw[cell_of_row _ _ _ _ _ _ h];rfl,by simp[World.frozen?,h],by simp[World.frozen?,h],(Array.getElem?_eq_some_iff.1 h).1⟩
theorem dW {w:World} {g j:Nat} {cs:Array Value} {t:TypeId} {fr:Nat×Nat} (h:w.heap[g]?=some (.cells cs t fr)) (u:Value):(w.setCell ⟨g,j,none⟩ u).heap[g]?=some (.cells (cs.setIfInBounds j u) t fr):=by simp[World.setCell,Array.getElem?_modify,h]
theorem pq {w:World} {R:Nat} {u0 u1:Value} {t:TypeId} {fr:Nat×Nat} (h:w.heap[R]?=some (.cells #[u0,u1] t fr)) (x y:Value):
  ((w.setCell ⟨R,0,none⟩ x).setCell ⟨R,1,none⟩ y).cell? ⟨R,0,none⟩=some x∧((w.setCell ⟨R,0,none⟩ x).setCell ⟨R,1,none⟩ y).cell? ⟨R,1,none⟩=some y:=by
 have h2:=dW (j:=1) (dW (j:=0) h x) y;exact⟨by rw[cell_of_row _ _ _ _ _ _ h2];rfl,by rw[cell_of_row _ _ _ _ _ _ h2];rfl⟩
theorem rA {w w':World} {n:ByteArray} {s:Value} {r:List ByteArray} {lo:Nat} (h:bsK.own 9 lo w s r) (hl:r.length≤8796093022208) (hk:∀k,lo≤k→w'.heap[k]?=w.heap[k]?) (hs:w.heap.size≤w'.heap.size):dh w' (.agg #[.string n,s]) (n,r):=
 ⟨s,rfl,Dr (aB.fQ h hs fun k _ hlo=>hk k hlo) hl⟩
def Lx (w w':World) (v:Value):Prop:=∃n s,v=.agg #[n,s]∧∀k,s.ownBlock=some k→w.heap.size≤k∧k<w'.heap.size
theorem GR (a:aJ) (tv u:Value) (l:List aI) (w:World) (ht:gJ.sl bT w tv a.terms) (hu:bO.sl bT w u l):
  Calls Tryz.prog 105 #[.agg #[.bool a.no,.string (bs a.name),tv],u] w fun e w'=>∃v,e=.returned (.tuple #[v,.bool (bf a l).isSome])∧dh w' v (filled a l)∧aj w w'∧Lx w w' v:=by
 obtain⟨sa,cap,rfl⟩:=aB.slice ht;obtain⟨sb,zu,rfl⟩:=aB.slice hu;have HT:=au ht;have HU:=au hu;have hn:=ht.1.1;clear ht hu;obtain⟨no,name,ts⟩:=a;dsimp only at*;have F:Hid (∀r,aT l ts=r→bf ⟨no,name,ts⟩ l=r.map fun x=>(bs name,x)):=fun r h=>by unfold bf;rw[h];cases r <;> rfl
 unfold filled;generalize hfb:bf ⟨no,name,ts⟩ l=fb at*;clear hfb;generalize bs name=nm at*
 go_enter Tryz.func105,Tryz.ntmps105
 go_wp2
 go_loopg [19] ts.length (fun g i wr=>∃j:Nat,j+g=ts.length∧i=.int .i64 j∧∃r o,Hid (aT l (ts.take j)=some r)∧Hid (bsK.own 9 (w.heap.size+4) wr o r)∧Hid (r.length=j)∧Hid (aj w wr)∧w.heap.size+4≤wr.heap.size∧
  Hid (wr.heap[w.heap.size+1]?=some (.cells #[.slice sb l.length zu] 142 (0,0)))∧Hid (wr.heap[w.heap.size+2]?=some (.cells #[.string {data:=#[]},.slice none 0 0] 50 (0,0)))∧Hid (wr.heap[w.heap.size+3]?=some (.cells #[.string nm,o] 50 (0,0))))
 case atStart=>
  refine⟨0,by omega,rfl,[],.slice none 0 0,(rfl:_=_),bsK.gX _ _ _,(rfl:_=_),((by repeat (first|exact aj.refl _|assumption|refine aj.drewN ?_ _|refine aj.drew ?_|refine aj.alloc ?_ _|refine aj.grow ?_ _)):aj _ _),by simp,?_,?_,?_⟩
  all_goals
   show _=_;simp only[fT,World.size_alloc]
   repeat (first|rw[if_pos trivial]|rw[if_pos (by omega)]|rw[if_neg (by omega)])
 obtain⟨j,hj,rfl,r,o,HR,HO,hrl,HL,hsz,H1,H2,H3⟩:=hrel;obtain⟨ao,co,rfl⟩:=aB.bI HO.out
 by_cases hlt:j<ts.length
 ·obtain⟨x,hx⟩:∃x,ts[j]?=some x:=⟨_,List.getElem?_eq_getElem hlt⟩;obtain⟨b1,o1,_,rfl,hb1,rfl,hc⟩:=aB.bR HT.out hx;have d0:wr.cell? ⟨b1,o1+j*2,none⟩=some (.bool x.1):=by rw[HL.out.cell hb1];exact hc 0 _ rfl
  have d1:wr.cell? ⟨b1,o1+j*2+1,none⟩=some (.string (bs x.2)):=by rw[HL.out.cell hb1];exact hc 1 _ rfl
  have hbr:b1<wr.heap.size:=by omega
  have HS:=au (l7 hx HR.out);obtain⟨wt,hwt⟩:∃wt,wt=wr.alloc (.cells #[.bool x.1,.string (bs x.2)] 98):=⟨_,rfl⟩;have hLt:aj w wt:=by rw[hwt];exact HL.out.alloc _
  have hst:wt.heap.size=wr.heap.size+1:=by rw[hwt];simp
  have hbl:∀k,k<wr.heap.size→wt.heap[k]?=wr.heap[k]?:=fun k hk=>by rw[hwt];exact Below.heap_alloc _ _ _ hk
  have K1:=CZ ((hbl _ (by omega)).trans H1.out);have HW:Hid (Calls Tryz.prog 125 #[.agg #[.bool x.1,.string (bs x.2)],.func (.func 123) #[] #[.pointer (some ⟨w.heap.size+1,0,none⟩)]] wt fun e w2=>e=.returned (jJ (bH l x))∧aj wt w2):=
   En _ _ vI x l wt wt (Bh (w.heap.size+1) _ l wt K1.1 K1.2.2 (aB.aS HU.out hLt)) (aj.refl _)
  rw[hwt] at HW;have HWT:=au hwt;clear hc hx K1 hwt;obtain⟨x1,x2⟩:=x;dsimp only at*;cases hw:bH l (x1,x2) with
  |none=>
   rw[hw] at HW HS;have HF:Hid (fb=none):=F.out none (l9 HS.out);have hw0:jJ none=.tuple #[.string ByteArray.empty,.bool false]:=rfl;rw[hw0] at HW;clear hw hw0 HS;generalize bs x2=kx at*
   go_wp2_with fail
   refine HW.out.mono ?_;rintro e w2 ⟨rfl,hL2⟩;rw[←HWT.out] at hL2;have hb2:∀k,k<wr.heap.size→w2.heap[k]?=wr.heap[k]?:=fun k hk=>(hL2.block (by omega)).trans (hbl k hk);have Z2:=au ((hb2 _ (by omega)).trans H2.out);obtain⟨q0,q1,p0,p1,q2⟩:=nQ Z2.out;have HL2:=au (hLt.trans hL2);clear hL2 hb2 HW;go_wp2;obtain⟨r0,r1⟩:=pq Z2.out (.string {data:=#[]}) (.slice none 0 0);refine bodyPost_ret (v:=.tuple #[.agg #[.string {data:=#[]},.slice none 0 0],.bool false]) (by simp[results,Tryz.results105,go_sem,r0,r1]) rfl ⟨_,by rw[HF.out];rfl,?_,?_,_,_,rfl,fun k e=>by simp[Value.ownBlock] at e⟩
   ·rw[HF.out];exact⟨_,rfl,by simp[aA],none,0,rfl,fun h=>absurd rfl h⟩
   exact(HL2.out.setCell (by show w.heap.size≤w.heap.size+2;omega) _).setCell (by show w.heap.size≤w.heap.size+2;omega) _
  |some s=>
   rw[hw] at HW HS;have HS1:Hid (aT l (ts.take (j+1))=some (r++[s])):=HS.out;have hw0:jJ (some s)=.tuple #[.string s,.bool true]:=rfl;rw[hw0] at HW;clear hw hw0 HS;generalize bs x2=kx at*
   go_wp2_with fail
   refine HW.out.mono ?_;rintro e w2 ⟨rfl,hL2⟩;rw[←HWT.out] at hL2;have hb2:∀k,k<wr.heap.size→w2.heap[k]?=wr.heap[k]?:=fun k hk=>(hL2.block (by omega)).trans (hbl k hk);have hs2:wr.heap.size<w2.heap.size:=by have:=hL2.size;omega
   obtain⟨q0,q1,p0,p1,q2⟩:=nQ ((hb2 _ (by omega)).trans H3.out);obtain⟨v',w4,hrun,hO4,hg4,hd4,hv4⟩:=vH (aB.fQ HO.out (Nat.le_of_lt hs2) fun k hk _=>hb2 k hk) s (by have:=hrl.out;omega) (by omega);have hlo:∀k,(Value.slice ao r.length co).ownBlock=some k→w.heap.size+4≤k:=fun k e=>(aB.dV HO.out e).1;have hb4:∀k,k<w.heap.size+4→w4.heap[k]?=wr.heap[k]?:=fun k hk=>by rw[hg4.block k (by simp;omega) (fun e=>by have:=hlo k e.symm;omega),Below.heap_alloc _ _ _ (by omega)];exact hb2 k (by omega)
   have hs4:w2.heap.size<w4.heap.size:=by have:=hg4.size;simp at this;omega
   have HL4:=au ((hLt.trans hL2).more hg4 hd4 fun k e=>by have:=hlo k e;omega);have Z3:=au ((hb4 _ (by omega)).trans H3.out);obtain⟨_,y1,_,t1,y2⟩:=nQ Z3.out;have Z1:=au ((hb4 _ (by omega)).trans H1.out);have Z2:=au ((hb4 _ (by omega)).trans H2.out);obtain⟨a4,n4,c4,rfl⟩:∃a n c,v'=.slice a n c:=by obtain⟨a,c,e⟩:=aB.bI hO4;exact⟨a,_,c,e⟩
   have HR4:=au hrun;have HO4:=au hO4;clear hL2 hb2 HW hrun hO4 hg4 hd4 hv4 hb4
   go_wp2_with (at_builtin;refine wpList_append_run rfl (.tmp 33) (.tmp 35) 48 rfl _ _ _ _ rfl rfl HR4.out ?_)
   go_roundg (ts.length- (j+1))
   case measure=>omega
   case rel=>
    refine⟨j+1,by omega,by go_num,r++[s],.slice a4 n4 c4,HS1,?_,(by simp[hrl.out]:(r++[s]).length=j+1),?_,?_,?_,?_,?_⟩;·exact aB.fQ HO4.out (by simp[World.setCell]) fun k _ hk=>Below.heap_setCell _ _ _ _ (by show k≠w.heap.size+3;omega)
    ·exact(aj.setCell HL4.out (p:=⟨w.heap.size+1+1+1,1,none⟩) (by show w.heap.size≤w.heap.size+3;omega) _:aj _ _)
    ·simp[World.setCell];omega
    ·show _=_;rw[Below.heap_setCell _ _ _ _ (by show w.heap.size+1≠w.heap.size+3;omega)];exact Z1.out
    ·show _=_;rw[Below.heap_setCell _ _ _ _ (by show w.heap.size+2≠w.heap.size+3;omega)];exact Z2.out
    show _=_;rw[dW Z3.out];rfl
 have e:j=ts.length:=by omega
 subst e;have HR1:Hid (fb=some (nm,r)):=by have:=HR.out;rw[List.take_length] at this;exact F.out _ this
 obtain⟨q0,q1,p0,p1,q2⟩:=nQ H2.out;obtain⟨y0,y1,t0,t1,y2⟩:=nQ H3.out;go_wp2;obtain⟨r0,r1⟩:=pq (R:=w.heap.size+1+1) H2.out (.string nm) (.slice ao r.length co);refine bodyPost_ret (v:=.tuple #[.agg #[.string nm,.slice ao r.length co],.bool true]) (by simp[results,Tryz.results105,go_sem,r0,r1]) rfl ⟨_,by rw[HR1.out];rfl,?_,?_,_,_,rfl,fun k e=>?_⟩
 ·rw[HR1.out];refine rA HO.out (by have:=hrl.out;omega) (fun k hk=>?_) (by simp[World.setCell]);rw[Below.heap_setCell _ _ _ _ (by show k≠w.heap.size+2;omega),Below.heap_setCell _ _ _ _ (by show k≠w.heap.size+2;omega)]
 ·exact(HL.out.setCell (by show w.heap.size≤w.heap.size+2;omega) _).setCell (by show w.heap.size≤w.heap.size+2;omega) _
 have:=aB.dV HO.out e;rw[size_setCell,size_setCell];omega
theorem GU (a:aJ) (tv u:Value) (l:List aI) (w:World) (ht:gJ.sl bT w tv a.terms) (hu:bO.sl bT w u l):
  Calls Tryz.prog 105 #[.agg #[.bool a.no,.string (bs a.name),tv],u] w fun e w'=>∃v,e=.returned (.tuple #[v,.bool (bf a l).isSome])∧dh w' v (filled a l)∧aj w w':=
 (GR a tv u l w ht hu).mono fun _ _ ⟨v,h1,h2,h3,_⟩=>⟨v,h1,h2,h3⟩
end Go.Proofs.YthngiikhgplldaaGreatDoor
section
namespace Go.Proofs
open Go.Shelf
def Tryz.growBinds_ren:Go.Shelf.Ren:=⟨fun|4=>193|n=>n,fun|22=>142|25=>170|3=>3|4=>4|9=>9|20=>20|0=>0|n=>n,fun|n=>n⟩
theorem Tryz.growBinds:Go.Proofs.Lays8.n4 Tryz.prog Tryz.growBinds_ren:={
 mixed:=by kernel_rfl
 f4:=⟨Tryz.f193.name,by decide,Tryz.func193.trans (congrArg some (by kernel_rfl))⟩
 t0:=Tryz.underlying0
 a0:=Tryz.isAgg0
 z0:=Tryz.sizeOf0
 v0:=Tryz.zeroValue0
 t3:=Tryz.underlying3
 a3:=Tryz.isAgg3
 z3:=Tryz.sizeOf3
 v3:=Tryz.zeroValue3
 t4:=Tryz.underlying4
 a4:=Tryz.isAgg4
 z4:=Tryz.sizeOf4
 v4:=Tryz.zeroValue4
 t9:=Tryz.underlying9
 a9:=Tryz.isAgg9
 z9:=Tryz.sizeOf9
 v9:=Tryz.zeroValue9
 t20:=Tryz.underlying20
 a20:=Tryz.isAgg20
 z20:=Tryz.sizeOf20
 v20:=Tryz.zeroValue20
 t22:=Tryz.underlying142
 a22:=Tryz.isAgg142
 z22:=Tryz.sizeOf142
 v22:=Tryz.zeroValue142}
end Go.Proofs
end
namespace Go.Proofs.YthngiikhgplldaaGreatDoor
theorem tF:∃i,Tryz.prog.info? 170=some i∧i.zero=some (.agg #[.string ByteArray.empty,.string ByteArray.empty])∧i.size=2∧i.bytes=32:=⟨Tryz.t170,by kernel_rfl,by kernel_rfl,by kernel_rfl,by kernel_rfl⟩
def uI (b:aI):List Value:=[.string b.1,.string b.2]
def fU (l:List aI):List Value:=l.flatMap uI
theorem tH (l m:List aI):fU (l++m)=fU l++fU m:=by simp[fU]
theorem kD:∀l:List aI,(fU l).length=l.length*2
 |[]=>rfl
 |b::l=>by have:=kD l;simp only[fU,List.flatMap_cons,List.length_append,uI,List.length_cons] at this⊢;rw[this];simp;omega
theorem jX:∀(l:List aI) (i j:Nat),j<2→(fU l)[i*2+j]?=(l[i]?).bind fun b=>(uI b)[j]?
 |[],i,j,_=>by simp[fU]
 |b::l,0,j,hj=>by
  have:j=0∨j=1:=by omega
  rcases this with rfl|rfl <;> simp[fU,uI]
 |b::l,i+1,j,hj=>by
  have e:(i+1)*2+j=(i*2+j)+2:=by omega
  rw[e];simp only[List.getElem?_cons_succ];rw[←jX l i j hj];show([.string b.1,.string b.2]++fU l)[i*2+j+2]?=_;rw[List.getElem?_append_right (by simp)];simp
theorem zK {l:List aI}:∀u∈fU l,u.oneCell'=true:=fun u hu=>by obtain⟨b,_,hb⟩:=List.mem_flatMap.1 hu;simp[uI] at hb;rcases hb with rfl|rfl <;> rfl
theorem pz {ty:TypeId} {lo:Nat} {w:World} {v:Value} {l:List aI} (h:bO.own ty lo w v l):w.ownsRow lo ty 2 v l.length (fU l):=by
 obtain⟨xs,ho,hx⟩:=h;have e:xs=fU l:=by
  apply List.ext_getElem?
  intro n
  by_cases hn:n<l.length*2
  ·have hi:n/2<l.length:=by omega
   obtain⟨c,rfl,hc⟩:=hx (n/2) _ (List.getElem?_eq_getElem hi);have hm:n%2<2:=Nat.mod_lt _ (by omega);have e1:n=n/2*2+n%2:=by omega
   have e2:=jX l (n/2) (n%2) hm;rw[List.getElem?_eq_getElem hi] at e2;rw[←e1] at e2;rw[e2];rcases(by omega:n%2=0∨n%2=1) with h0|h0
   ·have:=hc 0 _ rfl;rw[show n/2*bO.size+0=n by show n/2*2+0=n;omega] at this;rw[this,h0];rfl
   have:=hc 1 _ rfl;rw[show n/2*bO.size+1=n by show n/2*2+1=n;omega] at this;rw[this,h0];rfl
  have h1:xs.length=l.length*2:=ho.1;rw[List.getElem?_eq_none (by omega),List.getElem?_eq_none (by rw[kD];omega)]
 rw[←e];exact ho
theorem Eo {ty:TypeId} {lo:Nat} {w:World} {v:Value} {l:List aI} (h:w.ownsRow lo ty 2 v l.length (fU l)):bO.own ty lo w v l:=by refine⟨fU l,h,fun i x hi=>⟨_,rfl,fun j u hu=>?_⟩⟩;have hj:j<2:=(List.getElem?_eq_some_iff.1 hu).1;show(fU l)[i*2+j]?=_;rw[jX l i j hj,hi];exact hu
theorem tJ {B:Nat→Prop} {w:World} {a:Addr} {n cap:Nat} {l:List aI} (h:bO.sl B w (.slice (some a) n cap) l):∀j u,(fU l)[j]?=some u→w.cell? (a.add j)=some u:=fun j u hu=>by
 have hj:j<l.length*2:=by rw[←kD];exact(List.getElem?_eq_some_iff.1 hu).1
 have hi:j/2<l.length:=by omega
 obtain⟨b,off,c,e,hb,rfl,hc⟩:=aB.bR h (List.getElem?_eq_getElem hi);cases e;have e1:j=j/2*2+j%2:=by omega
 have e2:=jX l (j/2) (j%2) (Nat.mod_lt _ (by omega));rw[List.getElem?_eq_getElem hi] at e2;rw[←e1,hu] at e2;have:=hc (j%2) u e2.symm;rw[Addr.add_lit];rw[show off+j/2*bO.size+j%2=off+j by show off+j/2*2+j%2=off+j;omega] at this;exact this
theorem pE {lo:Nat} {w:World} {v:Value} {l m:List aI} {a:Option Addr} {cap:Nat} (h:bO.own 170 lo w v l) (hm:bO.sl bT w (.slice a m.length cap) m) (hl:l.length+m.length≤4398046511104) (hlo:lo≤w.heap.size):
  ∃v' w',(Builtin.append_ #[142,142] 142 #[v,.slice a m.length cap]).run Tryz.prog w=.ok v' w'∧bO.own 170 lo w' v' (l++m)∧w.grownBy w' v.ownBlock∧w.drawn≤w'.drawn∧∀k,v'.ownBlock=some k→v.ownBlock=some k∨w.heap.size≤k:=by
 obtain⟨i,i1,i2,i3,i4⟩:=tF;have ho:=pz h;cases a with
 |none=>
  have hm0:m=[]:=by refine Classical.byContradiction fun hne=>?_;obtain⟨_,a',_,e,h1⟩:=hm;simp only[Value.slice.injEq] at e;obtain⟨b,off,e',_⟩:=h1 hne;rw[e'] at e;cases e.1
  subst hm0;refine⟨v,w,?_,by rw[List.append_nil];exact h,⟨rfl,rfl,rfl,Nat.le_refl _,fun _ _ _=>rfl⟩,Nat.le_refl _,fun k hk=>Or.inl hk⟩;rcases ho.2 with⟨rfl,e0⟩|⟨g,c,cur,rfl,_,_,hnc,_⟩
  ·simp[Builtin.append_,run_underlying Tryz.underlying142,sizeOf,typeInfo,i1,Builtin.lenOf,Builtin.firstCells]
  simp[Builtin.append_,run_underlying Tryz.underlying142,sizeOf,typeInfo,i1,Builtin.lenOf,Builtin.firstCells,hnc,storeCells]
 |some a=>
  obtain⟨v',w',hrun,r1,r2,r3,r4⟩:=d9 (P:=Tryz.prog) w lo 142 142 170 i _ 2 32 Tryz.underlying142 i1 i2 i3 i4 rfl (by omega) v l.length (fU l) ho a m.length cap (fU m) (kD m) (tJ hm) zK (by simp only[maxLen];omega) (by omega) hlo;exact⟨v',w',hrun,Eo (by rw[List.length_append,tH];exact r1),r2,r3,r4⟩
theorem zL {lo:Nat} {w:World} {v:Value} {l:List aI} (h:bO.own 170 lo w v l) (x y:ByteArray) (hl:l.length+1≤4398046511104) (hlo:lo≤w.heap.size):
  ∃v' w',(Builtin.append_ #[142,142] 142 #[v,.slice (some ⟨w.heap.size,0,none⟩) 1 1]).run Tryz.prog (w.alloc (.cells #[.string x,.string y] 170))=.ok v' w'∧bO.own 170 lo w' v' (l++[(x,y)])∧(w.alloc (.cells #[.string x,.string y] 170)).grownBy w' v.ownBlock∧w.drawn≤w'.drawn∧
   ∀k,v'.ownBlock=some k→v.ownBlock=some k∨w.heap.size<k:=by
 obtain⟨i,i1,i2,i3,i4⟩:=tF;exact aB.tC h Tryz.underlying142 i1 i2 i3 i4 rfl (by decide) (c:=[.string x,.string y]) (x:=(x,y)) rfl (by omega) (by simp[maxLen];omega) hlo
theorem Jm (w:World) (n:Nat) (hn:n≤4398046511104):Calls Tryz.prog 193 #[.slice none 0 0,.int .i64 n] w fun e w'=>
  ∃v',e=.returned v'∧bO.own 170 w.heap.size w' v' []∧aj w w':=by
 by_cases h0:n=0
 ·subst h0;exact(Any8.slices_Grow_room Tryz.growBinds none 0 0 0 w (Nat.le_refl _) (by omega) (by omega) (Nat.le_refl _)).mono fun e w' ⟨he,hw⟩=>
   ⟨_,he,bO.gX _ _ _,by rw[hw];exact aj.refl _⟩
 obtain⟨i,i1,i2,i3,i4⟩:=tF;refine(Any8.slices_Grow_grow Tryz.growBinds i _ i1 i2 (by omega) none 0 0 n [] w (Nat.le_refl _) (by omega) (by rw[i4];omega) (by omega) (by simp) (fun _=>rfl) (fun a h=>by cases h)).mono fun e w' ⟨he,hw⟩=>⟨_,he,?_,?_⟩
 ·rw[hw];have hcm:=grownCap_le_maxLen w (0+n) 0 (Tryz.growBinds_ren.t 25) (by simp only[maxLen];omega);have hge:=grownCap_ge w (0+n) 0 (Tryz.growBinds_ren.t 25);refine Eo (World.ownsRow_made (base:=w.heap.size) (e:=170) (size:=2) w.drew _ _ (Nat.le_refl _) hcm ?_);simp only[Array.size_append,List.size_toArray,size_zeroCells];show 0+(0+n-0)*2+(grownCap w (0+n) 0 (Tryz.growBinds_ren.t 25)- (0+n))*2=_;omega
 rw[hw];exact(aj.refl w).drew.alloc _
theorem mg {ty:TypeId} {lo:Nat} {w w':World} {v:Value} {l:List aI} (h:bO.own ty lo w v l) (k:aj w w'):bO.own ty lo w' v l:=ji h fun _ e=>k.block (aB.dV h e).2
theorem Fj (w:World) (c cp:Nat) (va vb:Value) (la lb:List aI) (ha:bO.sl bT w va la) (hb:bO.sl bT w vb lb) (hn:la.length+lb.length≤4398046511104) (hc0:w.cell? ⟨c,0,none⟩=some va) (hc1:w.cell? ⟨c,1,none⟩=some vb) (hcb:c<w.heap.size):
  Calls Tryz.prog 173 #[.slice (some ⟨c,0,none⟩) 2 cp] w fun e w'=>∃v',e=.returned v'∧bO.own 170 w.heap.size w' v' (la++lb)∧aj w w':=by
 have HA:=au ha;have HB:=au hb;obtain⟨a1,c1,rfl⟩:=aB.slice ha;obtain⟨a2,c2,rfl⟩:=aB.slice hb;clear ha hb;have s1:¬((la.length:Int)<0):=by omega
 have s2:¬((la.length:Int)+(lb.length:Int)<0):=by omega
 go_enter Tryz.func173,Tryz.ntmps173
 go_wp2;refine wp_loop_rounds 3 ?_;rw[rounds_succ];go_wp2;rw[rounds_succ];go_wp2;rw[rounds_succ]
 go_wp2_with fail
 rw[show((la.length:Int)+(lb.length:Int))=((la.length+lb.length:Nat):Int) by omega];refine(Jm w (la.length+lb.length) hn).mono ?_;rintro e w1 ⟨v1,rfl,hR1,hL1⟩;obtain⟨v2,w2,Ep,hR2,hg2,hd2,hk2⟩:=pE hR1 (aB.aS HA.out hL1) (by simp;omega) hL1.size;have hL2:aj w w2:=aj.of_below (hL1.below.grown hg2 hL1.size fun k hk=>(aB.dV hR1 hk).1) (Nat.le_trans hL1.drawn hd2);obtain⟨v3,w3,GV,hR3,hg3,hd3,hk3⟩:=pE hR2 (aB.aS HB.out hL2) (by simp;omega) hL2.size;have hL3:aj w w3:=aj.of_below (hL2.below.grown hg3 hL2.size fun k hk=>(aB.dV hR2 hk).1) (Nat.le_trans hL2.drawn hd3);rw[List.nil_append] at hR3;have y0:w1.cell? ⟨c,0,none⟩=some (.slice a1 la.length c1):=by rw[hL1.cell (p:=⟨c,0,none⟩) hcb];exact hc0
 have y1:w1.cell? ⟨c,1,none⟩=some (.slice a2 lb.length c2):=by rw[hL1.cell (p:=⟨c,1,none⟩) hcb];exact hc1
 have y2:w2.cell? ⟨c,1,none⟩=some (.slice a2 lb.length c2):=by rw[hL2.cell (p:=⟨c,1,none⟩) hcb];exact hc1
 have R2:=au Ep;have R3:=au GV;have HR:=au hR3;clear Ep GV hR1 hR2 hR3 hg2 hg3;go_wp2;refine wp_loop_rounds 3 ?_;rw[rounds_succ]
 go_wp2_with (at_builtin;refine wpList_append_run rfl (.tmp 31) (.tmp 32) 142 rfl _ _ _ _ rfl rfl R2.out ?_)
 rw[rounds_succ]
 go_wp2_with (at_builtin;refine wpList_append_run rfl (.tmp 31) (.tmp 32) 142 rfl _ _ _ _ rfl rfl R3.out ?_)
 rw[rounds_succ];go_wp2;go_ret;exact⟨v3,rfl,HR.out,hL3⟩
theorem vJ:∀args w,(callFunc 172 args).run Tryz.prog w=.ok (.enter 172 args) w:=enters_of Tryz.func172 (by kernel_rfl) rfl
theorem Bj (cl cm:Nat) (u um:Value) (l m:List aI) (w0:World) (hc:w0.cell? ⟨cl,0,none⟩=some u) (hb:cl<w0.heap.size) (hd:w0.cell? ⟨cm,0,none⟩=some um) (he:cm<w0.heap.size) (hu:bO.sl bT w0 u l) (hm:bO.sl bT w0 um m):
  Fh 172 #[.pointer (some ⟨cl,0,none⟩),.pointer (some ⟨cm,0,none⟩)] (l++m) w0:=by
 intro w v hL;have HG:=au (Jl u l v w (aB.aS hu hL));have HM:Hid (∀w2,aj w w2→w2.cell? ⟨cm,0,none⟩=some um∧cm<w2.heap.size∧Calls Tryz.prog 124 #[um,.string v] w2 fun e w'=>e=.returned (jJ (fu m v))∧Hid (aj w w')):=fun w2 h2=>
  ⟨by rw[(hL.trans h2).cell he];exact hd,Nat.lt_of_lt_of_le he (hL.trans h2).size,(Jl um m v w2 (aB.aS hm (hL.trans h2))).mono fun e w' ⟨h3,h4⟩=>⟨h3,h2.trans h4⟩⟩
 have hc':w.cell? ⟨cl,0,none⟩=some u:=by rw[hL.cell hb];exact hc
 have hb':cl<w.heap.size:=Nat.lt_of_lt_of_le hb hL.size;obtain⟨a,cap,rfl⟩:=aB.slice hu;obtain⟨am,MX,rfl⟩:=aB.slice hm;have E:=au (gF l m v);clear hu hm hc hb hd he hL;show Calls _ _ #[.string v,.pointer (some ⟨cl,0,none⟩),.pointer (some ⟨cm,0,none⟩)] _ _;cases hg:fu l v with
 |some s=>
  have E1:Hid (fu (l++m) v=some s):=by show _=_;rw[E.out,hg]
  rw[hg] at HG;unfold jJ at HG;simp only[Option.getD_some,Option.isSome_some] at HG;clear HM hg E
  go_enter Tryz.func172,Tryz.ntmps172
  go_wp2_with (go_at_call 124;refine HG.out.mono ?_;rintro e w2 ⟨rfl,hL2⟩;replace hL2:=au hL2)
  go_ret2
  exact⟨by rw[E1.out];rfl,bg hL2⟩
 |none=>
  have E1:Hid (fu (l++m) v=fu m v):=by show _=_;rw[E.out,hg]
  rw[hg] at HG;unfold jJ at HG HM;simp only[Option.getD_none,Option.isSome_none] at HG;clear hg E;generalize hgm:(fu m v).getD ByteArray.empty=s at*;generalize hbm:(fu m v).isSome=b at*;have E2:Hid (jJ (fu (l++m) v)=.tuple #[.string s,.bool b]):=by show _=_;rw[E1.out];unfold jJ;rw[hgm,hbm]
  clear hgm hbm E1
  go_enter Tryz.func172,Tryz.ntmps172
  go_wp2_with fail
  refine HG.out.mono ?_;rintro e w2 ⟨rfl,hL2⟩;obtain⟨y0,y1,hcall⟩:=HM.out w2 hL2;have HC:=au hcall;clear hcall hL2 HM HG
  go_wp2_with fail
  refine HC.out.mono ?_;rintro e w3 ⟨rfl,hL3⟩;go_wp2
  go_ret2
  exact⟨by rw[E2.out];rfl,hL3.out⟩
theorem xC {l:List aI} {ts:List dM} {xs:List ByteArray} {j:Nat} {t:dM} {x:ByteArray} (ht:ts[j]?=some t) (hx:xs[j]?=some x):
  dN l (ts.drop j) (xs.drop j)=match bH l t with|none=>dN (l++[(bs t.2,x)]) (ts.drop (j+1)) (xs.drop (j+1))|some s=>if s=x then dN l (ts.drop (j+1)) (xs.drop (j+1)) else none:=by
 obtain⟨h1,e1⟩:=List.getElem?_eq_some_iff.1 ht;obtain⟨h2,e2⟩:=List.getElem?_eq_some_iff.1 hx;rw[List.drop_eq_getElem_cons h1,List.drop_eq_getElem_cons h2,e1,e2];rfl
def Jo (w0 w:World) (v:Value) (r:Option (List aI)):Prop:=match r with
 |none=>v=.slice none 0 0
 |some m=>bO.own 170 w0.heap.size w v m
theorem Fp (a:aJ) (sa:Option Addr) (cap:Nat) (fn:ByteArray) (fa:Option Addr) (nf Bl:Nat) (sb:Option Addr) (nb zu:Nat) (w:World) (h:(decide (bs a.name=fn)&&decide ((a.terms.length:Int)=nf))=false):
  Calls Tryz.prog 161 #[.agg #[.bool a.no,.string (bs a.name),.slice sa a.terms.length cap],.agg #[.string fn,.slice fa nf Bl],.slice sb nb zu] w fun e w'=>e=.returned (.tuple #[.slice none 0 0,.bool false])∧aj w w':=by
 obtain⟨no,name,ts⟩:=a;dsimp only at*;generalize bs name=nm at*;have E:=jW (a:=nm) (b:=fn);cases hq:(nm.toList==fn.toList) with
 |false=>
  clear h E
  go_enter Tryz.func161,Tryz.ntmps161
  go_wp2
  go_ret2
  exact⟨rfl,(by repeat (first|exact aj.refl _|assumption|refine aj.drewN ?_ _|refine aj.drew ?_|refine aj.alloc ?_ _|refine aj.grow ?_ _))⟩
 |true=>
  rw[←E,hq] at h;have hne:¬((ts.length:Int)=(nf:Int)):=by simpa using h
  have hne2:((ts.length:Int) != (nf:Int))=true:=by simpa using hne
  clear h E hne
  go_enter Tryz.func161,Tryz.ntmps161
  go_wp2
  go_ret2
  exact⟨rfl,(by repeat (first|exact aj.refl _|assumption|refine aj.drewN ?_ _|refine aj.drew ?_|refine aj.alloc ?_ _|refine aj.grow ?_ _))⟩
theorem Dt (a:aJ) (sa:Option Addr) (cap:Nat) (xs:List ByteArray) (fa:Option Addr) (Bl:Nat) (u:Value) (l:List aI) (w:World) (ht:gJ.sl bT w (.slice sa a.terms.length cap) a.terms) (hf:Strs w (.slice fa a.terms.length Bl) xs) (hu:bO.sl bT w u l)
  (hlen:xs.length=a.terms.length) (hn:l.length+a.terms.length≤4398046511104):
  Calls Tryz.prog 161 #[.agg #[.bool a.no,.string (bs a.name),.slice sa a.terms.length cap],.agg #[.string (bs a.name),.slice fa a.terms.length Bl],u] w fun e w'=>∃v,e=.returned (.tuple #[v,.bool (dN l a.terms xs).isSome])∧Jo w w' v (dN l a.terms xs)∧aj w w':=by
 obtain⟨sb,zu,rfl⟩:=aB.slice hu;have HT:=au ht;have HU:=au hu;have HFS:=au hf;have HLen:=au hlen;clear ht hu hf hlen;obtain⟨no,name,ts⟩:=a;dsimp only at*;generalize bs name=nm at*;have hq:(nm.toList==nm.toList)=true:=by simp
 have hq2:((ts.length:Int) != (ts.length:Int))=false:=by simp
 go_enter Tryz.func161,Tryz.ntmps161
 go_wp2
 go_loopg [32] ts.length (fun g i wr=>∃j:Nat,j+g=ts.length∧i=.int .i64 j∧∃mm o,Hid (dN l ts xs=dN (l++mm) (ts.drop j) (xs.drop j))∧Hid (bO.own 170 (w.heap.size+4) wr o mm)∧Hid (mm.length≤j)∧Hid (aj w wr)∧w.heap.size+4≤wr.heap.size∧
  Hid (wr.heap[w.heap.size+1]?=some (.cells #[.string nm,.slice fa ts.length Bl] 50 (0,0)))∧Hid (wr.heap[w.heap.size+2]?=some (.cells #[.slice sb l.length zu] 142 (0,0)))∧Hid (wr.heap[w.heap.size+3]?=some (.cells #[o] 142 (0,0))))
 case atStart=>
  refine⟨0,by omega,rfl,[],.slice none 0 0,(by simp:_=_),bO.gX _ _ _,(Nat.le_refl _:_≤_),((by repeat (first|exact aj.refl _|assumption|refine aj.drewN ?_ _|refine aj.drew ?_|refine aj.alloc ?_ _|refine aj.grow ?_ _)):aj _ _),by simp,?_,?_,?_⟩
  all_goals
   show _=_;simp only[fT,World.size_alloc]
   repeat (first|rw[if_pos trivial]|rw[if_pos (by omega)]|rw[if_neg (by omega)])
 obtain⟨j,hj,rfl,mm,o,HE,HO,HML,HL,hsz,H1,H2,H3⟩:=hrel;obtain⟨ao,no',co,rfl⟩:∃a n c,o=.slice a n c:=by obtain⟨a,c,e⟩:=aB.bI HO.out;exact⟨a,_,c,e⟩
 by_cases hlt:j<ts.length
 ·obtain⟨x,hx⟩:∃x,ts[j]?=some x:=⟨_,List.getElem?_eq_getElem hlt⟩;have hltx:j<xs.length:=by rw[HLen.out];exact hlt
  obtain⟨y,hy⟩:∃y,xs[j]?=some y:=⟨_,List.getElem?_eq_getElem hltx⟩;obtain⟨b1,o1,_,rfl,hb1,rfl,hc⟩:=aB.bR HT.out hx;have d0:wr.cell? ⟨b1,o1+j*2,none⟩=some (.bool x.1):=by rw[HL.out.cell hb1];exact hc 0 _ rfl
  have d1:wr.cell? ⟨b1,o1+j*2+1,none⟩=some (.string (bs x.2)):=by rw[HL.out.cell hb1];exact hc 1 _ rfl
  have hbr:b1<wr.heap.size:=by omega
  obtain⟨b2,o2,rfl,hb2,hyc⟩:∃b2 o2,fa=some ⟨b2,o2,none⟩∧b2<w.heap.size∧w.cell? ⟨b2,o2+j,none⟩=some (.string y):=by obtain⟨_,a',cap',e,h1⟩:=HFS.out;simp only[Value.slice.injEq] at e;obtain⟨rfl,_,_⟩:=e;obtain⟨b,off,rfl,hb,hcc⟩:=h1 (by intro e;rw[e] at hltx;simp at hltx);have:=hcc j hltx;rw[List.getD_eq_getElem?_getD,hy] at this;exact⟨b,off,rfl,hb,this⟩
  have HS:=au (xC (l:=l++mm) hx hy);obtain⟨wt,hwt⟩:∃wt,wt=wr.alloc (.cells #[.bool x.1,.string (bs x.2)] 98):=⟨_,rfl⟩;have hLt:aj w wt:=by rw[hwt];exact HL.out.alloc _
  have hLr:aj wr wt:=by rw[hwt];exact(aj.refl _).alloc _
  have hst:wt.heap.size=wr.heap.size+1:=by rw[hwt];simp
  have hbl:∀k,k<wr.heap.size→wt.heap[k]?=wr.heap[k]?:=fun k hk=>by rw[hwt];exact Below.heap_alloc _ _ _ hk
  have htm:wt.heap[wr.heap.size]?=some (.cells #[.bool x.1,.string (bs x.2)] 98 (0,0)):=by rw[hwt];exact heap_alloc_new _ _
  have K2:=CZ ((hbl _ (by omega)).trans H2.out);have K3:=CZ ((hbl _ (by omega)).trans H3.out);have hml:=HML.out;have HW:Hid (Calls Tryz.prog 125 #[.agg #[.bool x.1,.string (bs x.2)],.func (.func 172) #[] #[.pointer (some ⟨w.heap.size+2,0,none⟩),.pointer (some ⟨w.heap.size+3,0,none⟩)]] wt fun e w2=>e=.returned (jJ (bH (l++mm) x))∧aj wt w2):=
   En _ _ vJ x (l++mm) wt wt (Bj (w.heap.size+2) (w.heap.size+3) _ _ l mm wt K2.1 K2.2.2 K3.1 K3.2.2 (aB.aS HU.out hLt) (aB.dO (aB.gQ (mg HO.out hLr) (by omega)))) (aj.refl _)
  rw[hwt] at HW;have HWT:=au hwt;have HTM:=au htm;clear hc hx hy K2 K3 hwt htm;obtain⟨x1,x2⟩:=x;dsimp only at*;cases hw:bH (l++mm) (x1,x2) with
  |some s=>
   rw[hw] at HW HS;have hw0:jJ (some s)=.tuple #[.string s,.bool true]:=rfl;rw[hw0] at HW;clear hw hw0;generalize bs x2=kx at*
   by_cases hsy:s=y
   ·have HE1:Hid (dN l ts xs=dN (l++mm) (ts.drop (j+1)) (xs.drop (j+1))):=by
     show _=_;have h1:=HS.out;dsimp only at h1;rw[if_pos hsy] at h1;rw[HE.out,h1]
    have hqs:(s.toList==y.toList)=true:=by rw[hsy];simp
    clear HS HE hsy
    go_wp2_with fail
    refine HW.out.mono ?_;rintro e w2 ⟨rfl,hL2⟩;rw[←HWT.out] at hL2;have hb2':∀k,k<wr.heap.size→w2.heap[k]?=wr.heap[k]?:=fun k hk=>(hL2.block (by omega)).trans (hbl k hk);have hs2:wr.heap.size<w2.heap.size:=by have:=hL2.size;omega
    obtain⟨q0,q1,p0,p1,q2⟩:=nQ ((hb2' _ (by omega)).trans H1.out);have d2:w2.cell? ⟨b2,o2+j,none⟩=some (.string y):=by rw[(hLt.trans hL2).cell hb2];exact hyc
    have KC:b2<w2.heap.size:=by have:=(hLt.trans hL2).size;omega
    have Z1:=au ((hb2' _ (by omega)).trans H1.out);have Z2:=au ((hb2' _ (by omega)).trans H2.out);have Z3:=au ((hb2' _ (by omega)).trans H3.out);have HL2:=au (hLt.trans hL2);have HO2:=au (mg HO.out (hLr.trans hL2));clear hL2 hb2' HW hbl;go_wp2
    go_roundg (ts.length- (j+1))
    case measure=>omega
    case rel=>exact⟨j+1,by omega,by go_num,mm,_,HE1,HO2,(by omega:mm.length≤j+1),HL2,by omega,Z1,Z2,Z3⟩
   have HE1:Hid (dN l ts xs=none):=by show _=_;have h1:=HS.out;dsimp only at h1;rw[if_neg hsy] at h1;rw[HE.out,h1]
   have hqs:(s.toList==y.toList)=false:=by rw[jW];simpa using hsy
   clear HS HE hsy
   go_wp2_with fail
   refine HW.out.mono ?_;rintro e w2 ⟨rfl,hL2⟩;rw[←HWT.out] at hL2;have hb2':∀k,k<wr.heap.size→w2.heap[k]?=wr.heap[k]?:=fun k hk=>(hL2.block (by omega)).trans (hbl k hk);have hs2:wr.heap.size<w2.heap.size:=by have:=hL2.size;omega
   obtain⟨q0,q1,p0,p1,q2⟩:=nQ ((hb2' _ (by omega)).trans H1.out);have d2:w2.cell? ⟨b2,o2+j,none⟩=some (.string y):=by rw[(hLt.trans hL2).cell hb2];exact hyc
   have KC:b2<w2.heap.size:=by have:=(hLt.trans hL2).size;omega
   have HL2:=au (hLt.trans hL2);clear hL2 hb2' HW hbl;go_wp2
   go_ret2
   exact⟨_,by rw[HE1.out];rfl,by rw[HE1.out];exact rfl,HL2.out⟩
  |none=>
   rw[hw] at HW HS;have hw0:jJ none=.tuple #[.string ByteArray.empty,.bool false]:=rfl;rw[hw0] at HW;have HE1:Hid (dN l ts xs=dN (l++(mm++[(bs x2,y)])) (ts.drop (j+1)) (xs.drop (j+1))):=by show _=_;have h1:=HS.out;dsimp only at h1;rw[HE.out,h1,List.append_assoc]
   clear hw hw0 HS HE;generalize bs x2=kx at*
   go_wp2_with fail
   refine HW.out.mono ?_;rintro e w2 ⟨rfl,hL2⟩;rw[←HWT.out] at hL2;have hb2':∀k,k<wr.heap.size→w2.heap[k]?=wr.heap[k]?:=fun k hk=>(hL2.block (by omega)).trans (hbl k hk);have hs2:wr.heap.size<w2.heap.size:=by have:=hL2.size;omega
   obtain⟨q0,q1,p0,p1,q2⟩:=nQ ((hb2' _ (by omega)).trans H1.out);have d2:w2.cell? ⟨b2,o2+j,none⟩=some (.string y):=by rw[(hLt.trans hL2).cell hb2];exact hyc
   have KC:b2<w2.heap.size:=by have:=(hLt.trans hL2).size;omega
   obtain⟨t0,t1,_,_,t2⟩:=nQ ((hL2.block (by omega)).trans HTM.out);obtain⟨m0,m1,m2⟩:=CZ ((hb2' _ (by omega)).trans H3.out);obtain⟨v',w4,hrun,hO4,hg4,hd4,hv4⟩:=zL (w:=w2.drew) (mg HO.out ((hLr.trans hL2).drew)) kx y (by omega) (by show w.heap.size+4≤w2.heap.size;omega);have hlo:∀k,(Value.slice ao no' co).ownBlock=some k→w.heap.size+4≤k:=fun k e=>(aB.dV HO.out e).1;have hb4:∀k,k<w.heap.size+4→w4.heap[k]?=wr.heap[k]?:=fun k hk=>by rw[hg4.block k (by simp;omega) (fun e=>by have:=hlo k e.symm;omega),Below.heap_alloc _ _ _ (by show k<w2.heap.size;omega)];exact hb2' k (by omega)
   have hs4:w2.heap.size<w4.heap.size:=by have:=hg4.size;simp at this;omega
   have HL4:=au ((hLt.trans hL2).drew.more hg4 hd4 fun k e=>by have:=hlo k e;omega);have Z3:=au ((hb4 _ (by omega)).trans H3.out);have Z1:=au ((hb4 _ (by omega)).trans H1.out);have Z2:=au ((hb4 _ (by omega)).trans H2.out);obtain⟨n0,n1,n2⟩:=CZ Z3.out;obtain⟨a4,n4,c4,rfl⟩:∃a n c,v'=.slice a n c:=by obtain⟨a,c,e⟩:=aB.bI hO4;exact⟨a,_,c,e⟩
   have HR4:=au hrun;have HO4:=au hO4;clear hL2 hb2' HW hrun hO4 hg4 hd4 hv4 hb4 hbl;go_wp2
   go_region_law (refine fP rfl (.tmp 45) (.tmp 54) 142 rfl _ _ _ _ (by simp[Act.eval]) (by simp[Act.eval]) HR4.out ?_)
   all_goals
    go_wp2
    go_roundg (ts.length- (j+1))
    case measure=>omega
    case rel=>
     refine⟨j+1,by omega,by go_num,mm++[(kx,y)],.slice a4 n4 c4,HE1,?_,(by simp;omega:(mm++[(kx,y)]).length≤j+1),?_,?_,?_,?_,?_⟩
     ·exact aB.fQ HO4.out (by simp[World.setCell]) fun k _ hk=>Below.heap_setCell _ _ _ _ (by show k≠w.heap.size+3;omega)
     ·exact(aj.setCell HL4.out (p:=⟨w.heap.size+1+1+1,0,none⟩) (by show w.heap.size≤w.heap.size+3;omega) _:aj _ _)
     ·simp[World.setCell];omega
     ·show _=_;rw[Below.heap_setCell _ _ _ _ (by show w.heap.size+1≠w.heap.size+3;omega)];exact Z1.out
     ·show _=_;rw[Below.heap_setCell _ _ _ _ (by show w.heap.size+2≠w.heap.size+3;omega)];exact Z2.out
     show _=_;rw[dW Z3.out];rfl
 have e:j=ts.length:=by omega
 subst e;have HE1:Hid (dN l ts xs=some (l++mm)):=by show _=_;rw[HE.out,List.drop_length];rfl
 have hml:=HML.out;have hLc:aj wr (wr.alloc (.cells #[.slice sb l.length zu,.slice ao no' co] 142)):=(aj.refl _).alloc _;have HCc:=au (Fj (wr.alloc (.cells #[.slice sb l.length zu,.slice ao no' co] 142)) wr.heap.size 2 (.slice sb l.length zu) (.slice ao no' co) l mm (aB.aS HU.out (HL.out.trans hLc)) (aB.dO (aB.gQ (mg HO.out hLc) (by omega))) (by omega) (by simp) (by simp) (by simp));obtain⟨q0,p0,q2⟩:=CZ H2.out;obtain⟨y0,t0,y2⟩:=CZ H3.out;clear hLc
 go_wp2_with fail
 refine HCc.out.mono ?_;rintro e w2 ⟨v,rfl,hO2,hL2⟩;have HL2:=au ((HL.out.alloc (.cells #[.slice sb l.length zu,.slice ao no' co] 142)).trans hL2);have HO2:=au (tq hO2 (lo':=w.heap.size) (by simp;omega));clear hO2 hL2 HCc;go_wp2
 go_ret2
 exact⟨v,by rw[HE1.out];rfl,by rw[HE1.out];exact HO2.out,HL2.out⟩
theorem Jp (a:aJ) (tv fv u:Value) (f:aG) (l:List aI) (w:World) (ht:gJ.sl bT w tv a.terms) (hf:dh w fv f) (hu:bO.sl bT w u l) (hn:l.length+a.terms.length≤4398046511104):
  Calls Tryz.prog 161 #[.agg #[.bool a.no,.string (bs a.name),tv],fv,u] w fun e w'=>∃v,e=.returned (.tuple #[v,.bool (fA a f l).isSome])∧Jo w w' v (fA a f l)∧aj w w':=by
 obtain⟨sa,cap,rfl⟩:=aB.slice ht;obtain⟨s,rfl,hs⟩:=hf;obtain⟨fa,Bl,rfl⟩:=bP hs;unfold fA;split;·rename_i h;obtain⟨h1,h2⟩:=h;rw[←h1,←h2];rw[←h2] at hs;exact Dt a sa cap f.2 fa Bl u l w ht hs hu h2.symm hn
 rename_i h;obtain⟨sb,zu,rfl⟩:=aB.slice hu;refine(Fp a sa cap f.1 fa f.2.length Bl sb l.length zu w ?_).mono fun e w' ⟨he,hL⟩=>⟨_,he,rfl,hL⟩;rw[Bool.and_eq_false_iff]
 by_cases h1:bs a.name=f.1
 ·right
  simp only[decide_eq_false_iff_not];intro h2;exact h ⟨h1,by omega⟩
 left;simpa using h1
end Go.Proofs.YthngiikhgplldaaGreatDoor
