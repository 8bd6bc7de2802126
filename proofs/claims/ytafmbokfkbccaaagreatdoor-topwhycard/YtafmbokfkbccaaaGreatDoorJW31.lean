import Derived.Test.YtafmbokfkbccaaaGreatDoorJW30
namespace Go.Proofs.YtafmbokfkbccaaaGreatDoor
open Go.RowKit Go.Sort Go.Maps
structure Kq (P mb:Nat) (w w':World):Prop where
 os:w'.os=w.os
 tape:w'.tape=w.tape
 output:w'.output=w.output
 size:w.heap.size≤w'.heap.size
 block:∀k,k<w.heap.size→k≠P→k≠mb→w'.heap[k]?=w.heap[k]?
theorem Kq.refl (P mb:Nat) (w:World):Kq P mb w w:=⟨rfl,rfl,rfl,Nat.le_refl _,fun _ _ _ _=>rfl⟩
theorem Kq.trans {P mb:Nat} {a b c:World} (h:Kq P mb a b) (k:Kq P mb b c):Kq P mb a c:=
 ⟨k.os.trans h.os,k.tape.trans h.tape,k.output.trans h.output,Nat.le_trans h.size k.size,fun i hi h1 h2=>(k.block i (Nat.lt_of_lt_of_le hi h.size) h1 h2).trans (h.block i hi h1 h2)⟩
theorem Kq.of_below {P mb:Nat} {a b:World} (h:Below a.heap.size a b):Kq P mb a b:=⟨h.os,h.tape,h.output,h.size,fun k hk _ _=>h.block k hk⟩
theorem Kq.Na {P mb:Nat} {a b:World} (h:Tn P a b):Kq P mb a b:=⟨h.os,h.tape,h.output,h.size,fun k hk h1 _=>h.block k hk h1⟩
theorem Kq.JB {P mb:Nat} {a b:World} (h:Tn mb a b):Kq P mb a b:=⟨h.os,h.tape,h.output,h.size,fun k hk _ h2=>h.block k hk h2⟩
theorem Kq.below {P mb n:Nat} {a b:World} (h:Kq P mb a b) (h1:n≤P) (h2:n≤mb) (hn:n≤a.heap.size):Below n a b:=⟨h.os,h.tape,h.output,h.size,fun k hk=>h.block k (by omega) (by omega) (by omega)⟩
theorem JC {ty:TypeId} {lo:Nat} {w:World} {v:Value} {l:List ByteArray} (h:bsK.own ty lo w v l) (hl:l.length≤8796093022208):bsK.sl (jA v) w v l:=by
 obtain⟨xs,ho,hx⟩:=h;rcases ho.2 with⟨rfl,e⟩|⟨g,cap,cur,rfl,hbg,hg,hnc,_⟩
 ·have:l=[]:=List.eq_nil_of_length_eq_zero e;subst this;exact bsK.iq _ _ _ _
 ·refine⟨⟨hl,hnc⟩,_,cap,rfl,fun _=>⟨g,0,rfl,rfl,(Array.getElem?_eq_some_iff.1 hg).1,fun i x hi=> ?_⟩⟩;obtain⟨c,c1,c2⟩:=hx i x hi;refine⟨c,c1,fun j u hu=> ?_⟩;have:=ho.cells (g:=g) rfl _ u (c2 j u hu);rw[Addr.add_lit] at this;rw[Nat.add_assoc];exact this
def uT (w:World) (b:Nat) (x0 x1 x2 x3:Value):World:=(((w.setCell ⟨b,0,none⟩ x0).setCell ⟨b,1,none⟩ x1).setCell ⟨b,2,none⟩ x2).setCell ⟨b,3,none⟩ x3
theorem jd {w:World} {b:Nat} {u0 u1 u2 u3:Value} {t:TypeId} (h:w.heap[b]?=some (.cells #[u0,u1,u2,u3] t (0,0))) (x0 x1 x2 x3:Value):(uT w b x0 x1 x2 x3).heap[b]?=some (.cells #[x0,x1,x2,x3] t (0,0)):=by
 unfold uT;rw[dJ (j:=3) (dJ (j:=2) (dJ (j:=1) (dJ (j:=0) h _) _) _) _]
 rfl
theorem oG (w:World) (b:Nat) (x0 x1 x2 x3:Value):Tn b w (uT w b x0 x1 x2 x3):=
 ((((Tn.refl b w).setCell (Or.inl rfl) _).setCell (Or.inl rfl) _).setCell (Or.inl rfl) _).setCell (Or.inl rfl) _
theorem iV {w:World} {R:Nat} {u0 u1 u2 u3:Value} {t:TypeId} (h:w.heap[R]?=some (.cells #[u0,u1,u2,u3] t (0,0))):(w.cell? ⟨R,0,none⟩=some u0∧w.cell? ⟨R,1,none⟩=some u1∧w.cell? ⟨R,2,none⟩=some u2∧w.cell? ⟨R,3,none⟩=some u3)∧(w.cell? ⟨R,0+1,none⟩=some u1∧w.cell? ⟨R,0+2,none⟩=some u2∧w.cell? ⟨R,0+3,none⟩=some u3)∧(w.frozen? ⟨R,0,none⟩=false∧w.frozen? ⟨R,1,none⟩=false∧w.frozen? ⟨R,2,none⟩=false∧w.frozen? ⟨R,3,none⟩=false)∧R<w.heap.size:=by
 refine⟨⟨?_,?_,?_,?_⟩,⟨?_,?_,?_⟩,⟨fG h,fG h,fG h,fG h⟩,(Array.getElem?_eq_some_iff.1 h).1⟩ <;> (rw[cell_of_row _ _ _ _ _ _ h];rfl)
theorem Ck {P mb:Nat} {w w':World} (hn:pz w P) (hm:∃es q,w.heap[mb]?=some (.map es q)) (hg:Kq P mb w w') {u:Value} {l:List aj} (hf:Facts w u l):Facts w' u l:=by
 have key:∀{b off:Nat} {s:ByteArray},w.cell? ⟨b,off,none⟩=some (.string s)→w'.heap[b]?=w.heap[b]?:=fun {b off s} hc=>by
  refine hg.block b (World.block_lt_of_cell? w _ hc) (fun e=> ?_) (fun e=> ?_)
  ·subst e;exact hn off s hc
  ·subst e;obtain⟨es,q,h⟩:=hm;unfold World.cell? at hc;dsimp only at hc;rw[h] at hc;simp at hc
 have cell_of:∀{b off:Nat},w'.heap[b]?=w.heap[b]?→w'.cell? ⟨b,off,none⟩=w.cell? ⟨b,off,none⟩:=fun {b off} e=>by
  unfold World.cell?;dsimp only;rw[e]
 have strs:∀{q:Value} {r:List ByteArray},Strs w q r→Strs w' q r:=fun {q r} hs=>by
  obtain⟨h0,a,cap,rfl,h1⟩:=hs;refine⟨h0,a,cap,rfl,fun hl=> ?_⟩;obtain⟨b,off,rfl,hb,hc⟩:=h1 hl;refine⟨b,off,rfl,Nat.lt_of_lt_of_le hb hg.size,fun i hi=> ?_⟩;rw[cell_of (key (hc i hi))];exact hc i hi
 obtain⟨h0,a,cap,rfl,h1⟩:=hf;refine⟨h0,a,cap,rfl,fun hl=> ?_⟩;obtain⟨b,off,rfl,hb,hc⟩:=h1 hl;refine⟨b,off,rfl,Nat.lt_of_lt_of_le hb hg.size,fun i hi=> ?_⟩;obtain⟨c1,s,c2,c3⟩:=hc i hi;exact⟨by rw[cell_of (key c1)];exact c1,s,by rw[cell_of (key c1)];exact c2,strs c3⟩
structure Gp (wF:World) (P lo mb:Nat) (av sv:Value) (xs:List Value) (all:List aj) (PS:List (List aj)):Prop where
 past:tF lo wF sv xs
 fa:Facts wF av all
 len:xs.length=PS.length
 fx:∀(i:Nat) u l,xs[i]?=some u→PS[i]?=some l→Facts wF u l
 nt:pz wF P
 mp:∃es q,wF.heap[mb]?=some (.map es q)
 ne:P≠mb
 lo1:P<lo
 lo2:mb<lo
 lo3:lo≤wF.heap.size
structure PvS (B:Nat→Prop) (wF w:World) (P mb:Nat) (pv tv av sv:Value) (c d:Int) (n:Nat) (all:List aj) (how:aj→Int×List aj):Prop where
 row:PrB w P pv tv av c d sv mb
 kq:Kq P mb wF w
 ways:jm B w mb n all how
section
variable {B:Nat→Prop} {wF w w':World} {P lo mb:Nat} {pv tv av sv:Value} {c d:Int} {n:Nat} {all:List aj} {how:aj→Int×List aj}
theorem PvS.prx {xs:List Value} {PS:List (List aj)} (h:PvS B wF w P mb pv tv av sv c d n all how) (G:Gp wF P lo mb av sv xs all PS):PrX B w P lo pv tv c d mb n all PS how:=by
 have hlo3:=G.lo3;have hlo1:=G.lo1;have hlo2:=G.lo2;refine⟨⟨av,sv,xs,h.row,?_,Ck G.nt G.mp h.kq G.fa,G.len,fun i u l hu hl=>Ck G.nt G.mp h.kq (G.fx i u l hu hl)⟩,h.ways,G.ne,G.lo1,G.lo2,Nat.le_trans hlo3 h.kq.size⟩;rcases G.past with e|h2
 ·exact Or.inl e
 ·exact Or.inr (h2.block fun i hi hl=>h.kq.block i hi (by omega) (by omega))
theorem PvS.below (h:PvS B wF w P mb pv tv av sv c d n all how) (k:Below w.heap.size w w'):PvS B wF w' P mb pv tv av sv c d n all how:=
 ⟨h.row.below k,h.kq.trans (Kq.of_below k),h.ways.below k⟩
theorem PvS.mono {B':Nat→Prop} (h:PvS B wF w P mb pv tv av sv c d n all how) (hm:∀k,k<w.heap.size→B k→B' k):PvS B' wF w P mb pv tv av sv c d n all how:=⟨h.row,h.kq,h.ways.mono hm⟩
theorem PvS.turned (h:PvS B wF w P mb pv tv av sv c d n all how) (ho:w'.os=w.os) (ht:w'.tape=w.tape) (hp:w'.output=w.output) (hs:w.heap.size≤w'.heap.size) (hk:∀k,k<w.heap.size→(k<wF.heap.size∨k=P∨k=mb∨B k)→w'.heap[k]?=w.heap[k]?):PvS B wF w' P mb pv tv av sv c d n all how:=by
 have hP:=h.row.cells.2.2.2.2.2.2.2;refine⟨h.row.block (hk P hP (Or.inr (Or.inl rfl))),⟨ho.trans h.kq.os,ht.trans h.kq.tape,hp.trans h.kq.output,Nat.le_trans h.kq.size hs,fun k hk' h1 h2=>(hk k (Nat.lt_of_lt_of_le hk' h.kq.size) (Or.inl hk')).trans (h.kq.block k hk' h1 h2)⟩,h.ways.kept (hk mb h.ways.lt (Or.inr (Or.inr (Or.inl rfl)))) hs fun k hk' hB=>hk k hk' (Or.inr (Or.inr (Or.inr hB)))⟩
theorem PvS.counts (h:PvS B wF w P mb pv tv av sv c d n all how) (hne:P≠mb) (hB:∀k,B k→k≠P) (j:Nat) (x c' d':Int) (hj:(j=3∧c'=x∧d'=d)∨(j=4∧c'=c∧d'=x)):PvS B wF (w.setCell ⟨P,j,none⟩ (.int .i64 x)) P mb pv tv av sv c' d' n all how:=by
 have hT:Tn P w (w.setCell ⟨P,j,none⟩ (.int .i64 x)):=Tn.setCell (p:=P) (Tn.refl _ _) (x:=⟨P,j,none⟩) (Or.inl rfl) _;refine⟨⟨?_⟩,h.kq.trans (Kq.Na hT),h.ways.kept (hT.block mb h.ways.lt (fun e=>hne e.symm)) hT.size fun k hk hb=>hT.block k hk (hB k hb)⟩;rcases hj with⟨rfl,rfl,rfl⟩|⟨rfl,rfl,rfl⟩
 ·rw[dJ (j:=3) h.row.row];rfl
 ·rw[dJ (j:=4) h.row.row];rfl
theorem PvS.cells (h:PvS B wF w P mb pv tv av sv c d n all how):w.cell? ⟨P,3,none⟩=some (.int .i64 c)∧w.cell? ⟨P,4,none⟩=some (.int .i64 d)∧w.frozen? ⟨P,3,none⟩=false∧w.frozen? ⟨P,4,none⟩=false∧P<w.heap.size∧w.cell? ⟨P,3+1,none⟩=some (.int .i64 d):=
 ⟨h.row.cells.2.2.2.1,h.row.cells.2.2.2.2.1,fG h.row.row,fG h.row.row,h.row.cells.2.2.2.2.2.2.2,h.row.cells.2.2.2.2.1⟩
end
def kD:Value:=.agg #[.string ByteArray.empty,.slice none 0 0,.int .i64 0,.slice none 0 0]
def Pw (lo N:Nat) (w:World) (v:Value) (er:Int):Option bE→Prop
 |none=>er=4∧v=kD
 |some x=>er=0∧sN N (From lo) w v x
end Go.Proofs.YtafmbokfkbccaaaGreatDoor
namespace Go.Proofs.YtafmbokfkbccaaaGreatDoor
open Go.RowKit Go.Sort Go.Maps
theorem DN:∃i,Tryz.prog.info? 30=some i∧i.zero=some (.agg #[.string ByteArray.empty,.slice none 0 0,.int .i64 0,.slice none 0 0])∧i.size=4∧i.bytes=72:=⟨Tryz.t30,by kernel_rfl,by kernel_rfl,by kernel_rfl,by kernel_rfl⟩
def Gf (all:List aj) (P mb:Nat) (pv tv av sv:Value) (wF:World) (how:aj→Int×List aj) (N:Nat):Prop:=
 ∀(B:Nat→Prop) (f:aj) (fv:Value) (dep c d n:Nat) (w:World),N+dep=62→(∀k,B k→k≠mb∧k≠P)→(∀k,w.heap.size≤k→B k)→PvS B wF w P mb pv tv av sv (c:Int) (d:Int) n all how→n≤c→c≤400→d≤60→f∈all→bW w fv f→
  Calls Tryz.prog 60 #[.pointer (some ⟨P,0,none⟩),fv,.int .i64 (dep:Int)] w fun e w'=>∃v er n',e=.returned (.tuple #[v,.int .i64 er])∧Pw w.heap.size (N-1) w' v er (bC how N f dep (c,d)).1∧PvS B wF w' P mb pv tv av sv (((bC how N f dep (c,d)).2.1:Nat):Int) (((bC how N f dep (c,d)).2.2:Nat):Int) n' all how∧n'≤(bC how N f dep (c,d)).2.1∧Kq P mb w w'
def pJ (g:aj→Nat×Nat→Option bE×(Nat×Nat)) (fs:List aj) (done:List bE) (s:Nat×Nat):Option (List bE)×(Nat×Nat):=((iF g fs s).1.map (done++ ·),(iF g fs s).2)
theorem DR {g:aj→Nat×Nat→Option bE×(Nat×Nat)} {f:aj} {fs:List aj} {done:List bE} {s s':Nat×Nat} (h:g f s=(none,s')):pJ g (f::fs) done s=(none,s'):=by
 unfold pJ
 conv=>lhs;unfold iF
 rw[h]
 rfl
theorem DT {g:aj→Nat×Nat→Option bE×(Nat×Nat)} {f:aj} {fs:List aj} {done:List bE} {s s':Nat×Nat} {k:bE} (h:g f s=(some k,s')):pJ g (f::fs) done s=pJ g fs (done++[k]) s':=by
 unfold pJ
 conv=>lhs;unfold iF
 rw[h];dsimp only;cases h2:(iF g fs s').1 with
 |none=>rfl
 |some ks=>simp
theorem oH {how:aj→Int×List aj}:∀(n:Nat) (f:aj) (dep:Nat) (s:Nat×Nat) (x:bE) (s':Nat×Nat),bC how n f dep s=(some x,s')→s'.1≤400∧s'.2≤60
 |0,f,dep,s,x,s',h=>by simp[bC] at h
 |n+1,f,dep,s,x,s',h=>by
  unfold bC at h;split at h
  ·simp at h
  ·rename_i hm;have h0:s.1+1≤400∧max s.2 dep≤60:=by
    unfold j5 at hm;simp only[Bool.or_eq_true,decide_eq_true_eq,not_or] at hm;omega
   have key:∀(fs:List aj) (s1 s2:Nat×Nat) (ks:List bE),s1.1≤400∧s1.2≤60→iF (fun g s=>bC how n g (dep+1) s) fs s1=(some ks,s2)→s2.1≤400∧s2.2≤60:=by
    intro fs
    induction fs with
    |nil=>intro s1 s2 ks hs hk;simp[iF] at hk;rw[←hk.2];exact hs
    |cons g fs ih=>
     intro s1 s2 ks hs hk;unfold iF at hk;obtain⟨o,s3,h3⟩:∃o s3,bC how n g (dep+1) s1=(o,s3):=⟨_,_,rfl⟩;rw[h3] at hk;dsimp only at hk;cases o with
     |none=>simp at hk
     |some k=>
      dsimp only at hk;obtain⟨o2,s4,h4⟩:∃o s4,iF (fun g s=>bC how n g (dep+1) s) fs s3=(o,s4):=⟨_,_,rfl⟩;rw[h4] at hk;dsimp only at hk;cases o2 with
      |none=>simp at hk
      |some ks2=>
       simp only[Prod.mk.injEq] at hk;rw[←hk.2];exact ih s3 s4 ks2 (oH n g (dep+1) s1 k s3 h3) h4
   obtain⟨o,s1,h1⟩:∃o s1,iF (fun g s=>bC how n g (dep+1) s) (how f).2 (s.1+1,max s.2 dep)=(o,s1):=⟨_,_,rfl⟩;rw[h1] at h;dsimp only at h;cases o with
   |none=>simp at h
   |some ks=>
    simp only[Prod.mk.injEq] at h;rw[←h.2];exact key _ _ s1 ks h0 h1
end Go.Proofs.YtafmbokfkbccaaaGreatDoor
namespace Go.Proofs.YtafmbokfkbccaaaGreatDoor
open Go.RowKit Go.Sort Go.Maps
theorem zu {l:List ByteArray} {a:Addr} {cap:Nat} {w:World} (hs:Strs w (.slice (some a) l.length cap) l) (hl:l.length≤1000000):
  ∃v' w',(Builtin.append_ #[25,25] 25 #[.slice (some ⟨w.heap.size,0,none⟩) 0 0,.slice (some a) l.length cap]).run Tryz.prog (w.alloc (.cells #[] 9))=.ok v' w'∧bsK.own 9 0 w' v' l∧(w.alloc (.cells #[] 9)).grownBy w' (some w.heap.size)∧∀k,v'.ownBlock=some k→w.heap.size≤k:=by
 obtain⟨i,z,i1,i2,i3,i4,i5⟩:=IE;obtain⟨xs,ho,_⟩:bsK.own 9 0 (w.alloc (.cells #[] 9)) (.slice (some ⟨w.heap.size,0,none⟩) 0 0) []:=rW bsK 9 w;have hxs:xs=[]:=List.eq_nil_of_length_eq_zero (by have:=ho.1;simpa using this);subst hxs;have hcell:∀(j:Nat) u,(l.map Value.string)[j]?=some u→(w.alloc (.cells #[] 9)).cell? (a.add j)=some u:=fun j u hu=>by
  have hj:j<l.length:=by have:=(List.getElem?_eq_some_iff.1 hu).1;simpa using this
  obtain⟨_,a',cap',e,h1⟩:=hs;simp only[Value.slice.injEq] at e;obtain⟨rfl,_,_⟩:=e;obtain⟨b,off,e,hb,hc⟩:=h1 (by intro e;rw[e] at hj;simp at hj);simp only[Option.some.injEq] at e;subst e;have:=hc j hj;rw[Addr.add_lit,World.cell?_of_block (w:=w) (Below.heap_alloc w _ b hb),this];rw[List.getElem?_map,List.getElem?_eq_getElem hj] at hu;rw[List.getD_eq_getElem?_getD,List.getElem?_eq_getElem hj];simpa using hu
 obtain⟨v',w',hrun,r1,r2,r3,r4⟩:=eP (P:=Tryz.prog) (w.alloc (.cells #[] 9)) 0 25 25 9 i z 1 16 Tryz.underlying25 i1 i2 i3 i4 i5 (by decide) _ 0 [] ho a l.length cap (l.map Value.string) (by simp) hcell (fun u hu=>by rw[List.mem_map] at hu;obtain⟨x,_,rfl⟩:=hu;rfl) (by simp only[maxLen];omega) (by omega) (Nat.zero_le _);refine⟨v',w',hrun,⟨l.map Value.string,by have h:=r1;simp only[List.nil_append,Nat.zero_add] at h;exact h,fun j x hj=>⟨[.string x],rfl,fun q u hu=> ?_⟩⟩,r2,fun k e=> ?_⟩
 ·rcases q with _|q
  ·simp at hu;subst hu;show(l.map Value.string)[j*1+0]?=_;rw[Nat.mul_one,Nat.add_zero,List.getElem?_map,hj]
   rfl
  ·simp at hu
 ·rcases r4 k e with h|h
  ·simp[Value.ownBlock] at h;omega
  ·simp at h;omega
set_option maxHeartbeats 1000000 in
theorem DU (l:List ByteArray) (v:Value) (w:World) (h:Strs w v l) (hl:l.length≤1000000):
  Calls Tryz.prog 108 #[v] w fun e w'=>∃v',e=.returned v'∧bsK.own 9 0 w' v' l∧(∀k,v'.ownBlock=some k→w.heap.size≤k)∧Below w.heap.size w w':=by
 obtain⟨a,cap,rfl⟩:=aW h;cases a with
 |none=>
  have hl0:l=[]:=by
   refine Classical.byContradiction fun hne=> ?_;obtain⟨_,a',cap',e,h1⟩:=h;simp only[Value.slice.injEq] at e;obtain⟨rfl,_,_⟩:=e;obtain⟨b,off,e,_⟩:=h1 hne;cases e
  subst hl0;have hnil:=fun w=>Lib.run_eql_slice_nil (P:=Tryz.prog) w 25 9 none 0 cap 0 0 Tryz.underlying25;clear h hl;simp only[List.length_nil]
  go_enter Tryz.func108,Tryz.ntmps108
  go_wp2;go_ret;exact⟨_,rfl,bsK.iT _ _ _,fun k e=>(by cases e),Below.refl _ _⟩
 |some b=>
  have hnil:=fun w=>Lib.run_eql_slice_nil (P:=Tryz.prog) w 25 9 (some b) l.length cap 0 0 Tryz.underlying25;obtain⟨v',w',hrun,hR,hg,hk⟩:=zu h hl;have HB:Hid (Below w.heap.size w w'):=(((Later.refl w).alloc (.cells #[] 9)).below).grown hg (by simp) (fun k e=>by simp at e;omega);have HK:=hide hk;have HR:=hide hrun;have HF:=hide hR;clear hrun hR hg hk h
  go_enter Tryz.func108,Tryz.ntmps108
  go_wp2_with (at_builtin;refine wpList_append_run rfl (.tmp 5) (.tmp 6) 25 rfl _ _ _ _ rfl rfl HR.out ?_)
  go_ret;exact⟨v',rfl,HF.out,HK.out,HB.out⟩
end Go.Proofs.YtafmbokfkbccaaaGreatDoor
namespace Go.Proofs.YtafmbokfkbccaaaGreatDoor
open Go.RowKit Go.Sort Go.Maps
structure Gq (w0 wF:World) (P lo mb:Nat) (p:List aA) (told all:List aj) (PS:List (List aj)) (pv tv av sv:Value) (xs:List Value):Prop where
 gp:Gp wF P lo mb av sv xs all PS
 gr:Grd w0 P p told all PS pv tv
 lm:w0.heap.size≤mb
 b0:Below w0.heap.size w0 wF
 cl:∀f∈all,(∀g∈(lK (lF all) p told all PS f).2,g∈all)∧(lK (lF all) p told all PS f).2.length≤1000
 ag:∀f∈all,f.2.length≤1000
 pi:mG pv∧mG tv
theorem Bg {P:Nat} {w w':World} {v:Value} {l:List ByteArray} (hn:pz w P) (k:Tn P w w') (h:Strs w v l):Strs w' v l:=by
 obtain⟨h0,a,cap,rfl,h1⟩:=h;refine⟨h0,a,cap,rfl,fun hl=> ?_⟩;obtain⟨b,off,rfl,hb,hc⟩:=h1 hl;refine⟨b,off,rfl,Nat.lt_of_lt_of_le hb k.size,fun i hi=> ?_⟩;rw[World.cell?_of_block (w:=w) (k.block b hb (fun e=>by subst e;exact hn _ _ (hc i hi)))];exact hc i hi
theorem PvS.uS {B:Nat→Prop} {wF w:World} {P lo mb:Nat} {pv tv av sv:Value} {xs:List Value} {c d:Int} {n:Nat} {all:List aj} {PS:List (List aj)} {how:aj→Int×List aj} (h:PvS B wF w P mb pv tv av sv c d n all how) (hp:mG pv) (ht:mG tv) (G:Gp wF P lo mb av sv xs all PS):pz w P:=by
 have ha:mG av:=by obtain⟨a,c,e⟩:=aD G.fa;exact⟨a,_,c,e⟩
 exact h.row.uS hp ht ha G.past.mG
set_option maxRecDepth 100000 in
set_option maxHeartbeats 8000000 in
theorem uU (w0 wF:World) (P lo mb:Nat) (p:List aA) (told all:List aj) (PS:List (List aj)) (pv tv av sv:Value) (xs:List Value) (hG:Gq w0 wF P lo mb p told all PS pv tv av sv xs) (N:Nat) (ih:1≤N→Gf all P mb pv tv av sv wF (lK (lF all) p told all PS) N):Gf all P mb pv tv av sv wF (lK (lF all) p told all PS) (N+1):=by
 intro B f fv dep c d n w hN hB1 hB2 hS hnc hc4 hd6 hfa hf;obtain⟨how,GR⟩:∃how,how=lK (lF all) p told all PS:=⟨_,rfl⟩;rw[←GR] at hS ih⊢;obtain⟨s,rfl,hs⟩:=hf;obtain⟨sa,sc,rfl⟩:=aW hs;have hne:=hG.gp.ne;have hlo1:=hG.gp.lo1;have hlo2:=hG.gp.lo2;have hlo3:=hG.gp.lo3;have Tk:=hS.kq.size;obtain⟨w1,hw1⟩:∃w1,w1=(w.alloc (.cells #[.string f.1,.slice sa f.2.length sc] 27)).alloc (.cells #[.string ⟨#[]⟩,.slice none 0 0,.int .i64 0,.slice none 0 0] 30):=⟨_,rfl⟩;have hL1:Later w w1:=by rw[hw1];exact((Later.refl w).alloc _).alloc _
 have hs1:w1.heap.size=w.heap.size+2:=by rw[hw1];simp
 have hr0:w1.heap[w.heap.size]?=some (.cells #[.string f.1,.slice sa f.2.length sc] 27 (0,0)):=by
  rw[hw1];simp only[bI,World.size_alloc]
  repeat (first|rw[if_pos trivial]|rw[if_pos (by omega)]|rw[if_neg (by omega)])
 have hr1:w1.heap[w.heap.size+1]?=some (.cells #[.string ⟨#[]⟩,.slice none 0 0,.int .i64 0,.slice none 0 0] 30 (0,0)):=by
  rw[hw1];simp only[bI,World.size_alloc]
  repeat (first|rw[if_pos trivial]|rw[if_pos (by omega)]|rw[if_neg (by omega)])
 obtain⟨c1,hc1⟩:∃c1:Nat,c1=c+1:=⟨_,rfl⟩;obtain⟨d1,hd1⟩:∃d1:Nat,d1=max d dep:=⟨_,rfl⟩;have hci:(c1:Int)=(c:Int)+1:=by omega
 have hdi:(d1:Int)=max (d:Int) (dep:Int):=by omega
 have hS1:=(hS.mono (B':=fun k=>B k∧k≠w.heap.size∧k≠w.heap.size+1) fun k hk hb=>⟨hb,by omega,by omega⟩).below hL1.below;obtain⟨w2,hw2⟩:∃w2,w2=w1.setCell ⟨P,3,none⟩ (.int .i64 ((c:Int)+1)):=⟨_,rfl⟩;have hS2:PvS (fun k=>B k∧k≠w.heap.size∧k≠w.heap.size+1) wF w2 P mb pv tv av sv (c1:Int) (d:Int) n all how:=by rw[hw2,hci];exact hS1.counts hne (fun k hb=>(hB1 k hb.1).2) 3 _ _ _ (Or.inl ⟨rfl,rfl,rfl⟩)
 obtain⟨w3,hw3⟩:∃w3,w3=w2.setCell ⟨P,4,none⟩ (.int .i64 (max (d:Int) (dep:Int))):=⟨_,rfl⟩;have hS3:PvS (fun k=>B k∧k≠w.heap.size∧k≠w.heap.size+1) wF w3 P mb pv tv av sv (c1:Int) (d1:Int) n all how:=by rw[hw3,hdi];exact hS2.counts hne (fun k hb=>(hB1 k hb.1).2) 4 _ _ _ (Or.inr ⟨rfl,rfl,rfl⟩)
 have hPw:=hS.cells.2.2.2.2.1;have Nb:Tn P w1 w3:=by
  rw[hw3,hw2];exact Tn.setCell (p:=P) (Tn.setCell (p:=P) (Tn.refl _ _) (x:=⟨P,3,none⟩) (Or.inl rfl) _) (x:=⟨P,4,none⟩) (Or.inl rfl) _
 have hs3:w3.heap.size=w.heap.size+2:=by rw[hw3,hw2,size_setCell,size_setCell,hs1]
 have Nc:w3.heap[w.heap.size]?=some (.cells #[.string f.1,.slice sa f.2.length sc] 27 (0,0)):=(Nb.block _ (by omega) (by omega)).trans hr0;have Cj:w3.heap[w.heap.size+1]?=some (.cells #[.string ⟨#[]⟩,.slice none 0 0,.int .i64 0,.slice none 0 0] 30 (0,0)):=(Nb.block _ (by omega) (by omega)).trans hr1;have Q9:Kq P mb w w3:=(Kq.of_below hL1.below).trans (Kq.Na Nb);obtain⟨a3,_,a5,_,_,_⟩:=hS1.cells;obtain⟨_,b4,_,b6,_,_⟩:=hS2.cells;obtain⟨g3,_,_,_,_,g8⟩:=hS3.cells;have HMu:=hide (Ka c1 d1 w3);have HC1:=hide hc1;have HD1:=hide hd1;clear hc1 hd1 hci hdi;have HW1:=hide hw1;have HW2:=hide hw2;have HW3:=hide hw3;have HS3:=hide hS3;have HR0:=hide Nc;have HR1:=hide Cj;have HK3:=hide Q9;have HG:=hide hG;have HB1:=hide hB1;have HB2:=hide hB2;have HIh:=hide ih;have Px:=hide GR;have Ra:Strs w3 (.slice sa f.2.length sc) f.2:=Bg (hS1.uS hG.pi.1 hG.pi.2 hG.gp) Nb (hs.later hL1);have Rb:=hide Ra;clear hG hB1 hB2 hS hs GR ih hw1 hw2 hw3 hL1 hr0 hr1 hS1 hS2 hS3 Nb Nc Cj Q9 Ra;obtain⟨fn,aI⟩:=f;dsimp only at*
 go_enter Tryz.func60,Tryz.ntmps60
 go_wp2_with (first|(rw[←HW1.out])|(rw[←HW2.out])|(rw[←HW3.out])|fail)
 refine HMu.out.mono ?_;rintro e w4 ⟨rfl,hL4⟩;have MG:=hL4.size;have hS4:=HS3.out.below hL4.below;have Nf:=(hL4.block (by omega:w.heap.size<w3.heap.size)).trans HR0.out;have GV:=(hL4.block (by omega:w.heap.size+1<w3.heap.size)).trans HR1.out;have hK4:Kq P mb w w4:=HK3.out.trans (Kq.of_below hL4.below);have HS4:=hide hS4;have Py:=hide Nf;have LG:=hide GV;have HK4:=hide hK4;have Pz:=hide (Rb.out.later hL4);have HFin:Hid (∀(x0 x1 x2 x3:Value) (wr:World),wr.heap[w.heap.size+1]?=some (.cells #[.string ⟨#[]⟩,.slice none 0 0,.int .i64 0,.slice none 0 0] 30 (0,0))→Kq P mb w wr→Kq P mb w (uT wr (w.heap.size+1) x0 x1 x2 x3)):=fun x0 x1 x2 x3 wr hr hK=>by
  have hT:=oG wr (w.heap.size+1) x0 x1 x2 x3;exact⟨hT.os.trans hK.os,hT.tape.trans hK.tape,hT.output.trans hK.output,Nat.le_trans hK.size hT.size,fun k hk h1 h2=>(hT.block k (Nat.lt_of_lt_of_le hk hK.size) (by omega)).trans (hK.block k hk h1 h2)⟩
 have HTu:Hid (∀(B':Nat→Prop) (cx dx:Int) (nx:Nat) (x0 x1 x2 x3:Value) (wr:World),(∀k,B' k→k≠w.heap.size+1)→PvS B' wF wr P mb pv tv av sv cx dx nx all how→PvS B' wF (uT wr (w.heap.size+1) x0 x1 x2 x3) P mb pv tv av sv cx dx nx all how):=fun B' cx dx nx x0 x1 x2 x3 wr hb hS=>by
  have hT:=oG wr (w.heap.size+1) x0 x1 x2 x3;refine hS.turned hT.os hT.tape hT.output hT.size fun k hk h=>hT.block k hk ?_;rcases h with h|h|h|h
  ·omega
  ·omega
  ·omega
  ·exact hb k h
 clear hS4 Nf hK4 HMu g3 g8 a3 a5 b4 b6 HS3 HR0 HR1 HK3 Rb;cases hm:j5 (c1,d1) with
 |true=>
  have HX:Hid (bC how (N+1) (fn,aI) dep (c,d)=(none,(c1,d1))):=by
   show _=_;unfold bC;dsimp only;rw[←HC1.out,←HD1.out,if_pos hm]
  have HK:=hide (HFin.out (.string ⟨#[]⟩) (.slice none 0 0) (.int .i64 0) (.slice none 0 0) w4 LG.out HK4.out);have HP:=hide (HTu.out _ _ _ _ (.string ⟨#[]⟩) (.slice none 0 0) (.int .i64 0) (.slice none 0 0) w4 (fun k hb=>hb.2.2) HS4.out);have HZ:=hide (iV (jd LG.out (.string ⟨#[]⟩) (.slice none 0 0) (.int .i64 0) (.slice none 0 0))).1;obtain⟨_,_,⟨t0,t1,t2,t3⟩,_⟩:=iV GV;clear hm GV HFin HTu HIh HG hL4;go_wp2;obtain⟨z0,z1,z2,z3⟩:=HZ.out;unfold uT at z0 z1 z2 z3;have hc1:=HC1.out;refine bodyPost_ret (v:=.tuple #[kD,.int .i64 4]) (by simp[results,Tryz.results60,go_sem,z0,z1,z2,z3];rfl) rfl ⟨kD,4,n,rfl,?_,?_,?_,HK.out⟩
  ·rw[HX.out];exact⟨rfl,rfl⟩
  ·rw[HX.out];exact HP.out.mono fun k _ hb=>hb.1
  ·rw[HX.out];show n≤c1;omega
 |false=>
  have hcd:c1≤400∧d1≤60:=by
   unfold j5 at hm;simp only[Bool.or_eq_false_iff,decide_eq_false_iff_not] at hm;omega
  have hN1:1≤N:=by have:=HD1.out;omega
  have hNc:n≤1000:=by omega
  obtain⟨rl,of,hho⟩:∃rl of,how (fn,aI)=(rl,of):=⟨_,_,rfl⟩;have HPG:Hid (bC how (N+1) (fn,aI) dep (c,d)=((pJ (fun g s=>bC how N g (dep+1) s) of [] (c1,d1)).1.map (bE.mk (fn,aI) rl),(pJ (fun g s=>bC how N g (dep+1) s) of [] (c1,d1)).2)):=by
   show _=_
   conv=>lhs;unfold bC
   dsimp only;rw[←HC1.out,←HD1.out,if_neg (by rw[hm];simp),hho];unfold pJ;dsimp only;cases(iF (fun g s=>bC how N g (dep+1) s) of (c1,d1)).1 <;> rfl
  have Rc:Below w0.heap.size w0 w4:=ak HG.out.b0 ((HS4.out.kq).below HG.out.gr.low HG.out.lm HG.out.b0.size) (Nat.le_refl _);have Rf:bW w4 (.agg #[.string fn,.slice sa aI.length sc]) (fn,aI):=⟨_,rfl,Pz.out⟩;have hWy:=Po (fun k=>B k∧k≠w.heap.size∧k≠w.heap.size+1) p told all PS (fn,aI) P lo pv tv (.agg #[.string fn,.slice sa aI.length sc]) (c1:Int) (d1:Int) mb n w0 w4 HG.out.gr Rc (by rw[←Px.out];exact HS4.out.prx HG.out.gp) (fun k hb=>(HB1.out k hb.1).1) (fun k hk=>⟨HB2.out k (by omega),by omega,by omega⟩) Rf hfa hNc;rw[←Px.out,hho] at hWy;have HWy:=hide hWy;have hcl:=HG.out.cl (fn,aI) hfa;rw[←Px.out,hho] at hcl;dsimp only at hcl;obtain⟨Rh,Uw⟩:=hcl;have Ux:aI.length≤1000:=HG.out.ag (fn,aI) hfa;have TK:=hide Rh;have HHo:=hide hho;obtain⟨q0,q1,_,_,_⟩:=jR Py.out;have q1':w4.cell? ⟨w.heap.size,0+1,none⟩=some (.slice sa aI.length sc):=q1;clear hm hho Rc Rf hWy Rh GV q1
  go_wp2_with fail
  refine HWy.out.mono ?_;rintro e w5 ⟨v5,n5,rfl,⟨u5,rfl,hF5⟩,hX5,hn5,hT5⟩;dsimp only at hF5;have hF5:dQ (fun k=>B k∧k≠w.heap.size∧k≠w.heap.size+1) w5 u5 of:=hF5;obtain⟨ha,hc,rfl⟩:=aD hF5.facts;have Uy:=HS4.out.ways.lt;have hP4:=HS4.out.cells.2.2.2.2.1;have hS5:PvS (fun k=>B k∧k≠w.heap.size∧k≠w.heap.size+1) wF w5 P mb pv tv av sv (c1:Int) (d1:Int) n5 all how:=⟨HS4.out.row.block (hT5.block P hP4 hne),HS4.out.kq.trans (Kq.JB hT5),hX5.ways⟩;obtain⟨w6,hw6⟩:∃w6,w6=w5.alloc (.cells #[.int .i64 rl,.slice ha of.length hc] 182):=⟨_,rfl⟩;have hL6:Later w5 w6:=by rw[hw6];exact(Later.refl w5).alloc _
  have hs6:w5.heap.size<w6.heap.size:=by rw[hw6];simp
  have PD:w6.heap[w5.heap.size]?=some (.cells #[.int .i64 rl,.slice ha of.length hc] 182 (0,0)):=by rw[hw6];exact heap_alloc_new w5 _
  have hsz5:=hT5.size;have QJ:w.heap.size+2≤w4.heap.size:=by omega
  have Ri:=(hT5.block w.heap.size (by omega) (by omega)).trans Py.out;have Bf:=(hT5.block (w.heap.size+1) (by omega) (by omega)).trans LG.out;have Rj:=(hL6.block (by omega:w.heap.size<w5.heap.size)).trans Ri;have IQ:=(hL6.block (by omega:w.heap.size+1<w5.heap.size)).trans Bf;have hS6:=hS5.below hL6.below;have hF6:=hF5.below hL6.below;have hK6:Kq P mb w w6:=(HK4.out.trans (Kq.JB hT5)).trans (Kq.of_below hL6.below);have Rk:Strs w6 (.slice sa aI.length sc) aI:=(AR Pz.out HS4.out.ways.isMap hT5).later hL6;have HCl:Hid (∀w',Below w6.heap.size w6 w'→Calls Tryz.prog 108 #[.slice sa aI.length sc] w' fun e w''=>∃v',e=.returned v'∧bsK.own 9 0 w'' v' aI∧(∀k,v'.ownBlock=some k→w'.heap.size≤k)∧Below w6.heap.size w6 w''∧Below w'.heap.size w' w''):=fun w' h=>
   (DU aI _ w' (Rk.below h) (by omega)).mono fun e w'' ⟨v',h1,h2,h3,h4⟩=>⟨v',h1,h2,h3,ak h h4 h.size,h4⟩
  have HCe:Hid (∀w',Below w6.heap.size w6 w'→w'.cell? ⟨w.heap.size,0,none⟩=some (.string fn)∧w'.cell? ⟨w.heap.size,1,none⟩=some (.slice sa aI.length sc)∧w'.cell? ⟨w5.heap.size,0,none⟩=some (.int .i64 rl)):=fun w' h=>by
   have h0:=(h.block _ (by omega)).trans Rj;have h1:=(h.block _ (by omega)).trans PD;exact⟨by rw[cell_of_row _ _ _ _ _ _ h0];rfl,by rw[cell_of_row _ _ _ _ _ _ h0];rfl,by rw[cell_of_row _ _ _ _ _ _ h1];rfl⟩
  have HW6:=hide hw6;have HS6:=hide hS6;have HF6:=hide hF6;have HK6:=hide hK6;have Rl:=hide IQ;have Rm:=hide PD;clear hF5 hX5 hT5 hS5 hw6 hL6 PD Ri Bf Rj IQ hS6 hF6 hK6 Rk HWy q0 q1' HS4 Pz Py LG HK4 hL4
  go_wp2_with (rw[←HW6.out])
  refine wp_region_held_drew (S:=fun w'=>Below w6.heap.size w6 w') (by kernel_rfl) (Below.refl _ _).drew (fun hHeld=> ?_);refine au (i:=0) (d:=some 43) (v:= ?_) rfl rfl hHeld ?_ ?_;rotate_left;focus intro w hSw;(try dsimp only at hSw);go_simp;try with_reducible rfl
  simp only[aZ,bf,aze,asu];refine au (i:=1) (d:=some 44) (v:= ?_) rfl rfl hHeld ?_ ?_;rotate_left;focus intro w hSw;(try dsimp only at hSw);obtain⟨p0,p1,p2⟩:=HCe.out _ hSw;go_simp;try with_reducible rfl
  simp only[aZ,bf,aze,asu];refine au (i:=2) (d:=some 45) (v:= ?_) rfl rfl hHeld ?_ ?_;rotate_left;focus intro w hSw;(try dsimp only at hSw);go_simp;try with_reducible rfl
  simp only[aZ,bf,aze,asu];refine au (i:=3) (d:=some 46) (v:= ?_) rfl rfl hHeld ?_ ?_;rotate_left;focus intro w hSw;(try dsimp only at hSw);obtain⟨p0,p1,p2⟩:=HCe.out _ hSw;go_simp;try with_reducible rfl
  simp only[aZ,bf,aze,asu];refine au (i:=6) (d:=some 49) (v:= ?_) rfl rfl hHeld ?_ ?_;rotate_left;focus intro w hSw;(try dsimp only at hSw);go_simp;try with_reducible rfl
  simp only[aZ,bf,aze,asu];refine au (i:=7) (d:=some 50) (v:= ?_) rfl rfl hHeld ?_ ?_;rotate_left;focus intro w hSw;(try dsimp only at hSw);obtain⟨p0,p1,p2⟩:=HCe.out _ hSw;go_simp;try with_reducible rfl
  simp only[aZ,bf,aze,asu];have hBe:Below w6.heap.size w6 w6.drew:=(Below.refl _ _).drew;refine wpAnyH_ready (rs:=[4,9]) (by kernel_rfl) (by simp) ?_;refine AllReadyH.cons rfl (fun K' hK=> ?ga) (AllReadyH.cons rfl (fun K' hK=> ?gb) AllReadyH.nil)
  case' ga=>
   go_simp;refine(HCl.out _ hBe).mono ?_;rintro e wx ⟨v1,rfl,hO1,hv0,hB1,KR⟩;have hsl1:=JC hO1 (by omega);obtain⟨xa,xc,rfl⟩:=Kind.slice hsl1;have hv1:∀k,(Value.slice xa aI.length xc).ownBlock=some k→w6.heap.size≤k:=hv0;have PE:∀k,(Value.slice xa aI.length xc).ownBlock=some k→k<wx.heap.size:=fun k e=>by
    obtain⟨ys,ho,_⟩:=hO1;exact(ho.lt k e).2
   refine hK.out _ _ hB1 (fun hHeld=> ?_);clear hK K' hBe hO1 KR hv0;have hBe:=hB1;clear hB1;refine au (i:=5) (d:=some 48) (v:= ?_) rfl rfl hHeld ?_ ?_;rotate_left;focus intro w hSw;(try dsimp only at hSw);go_simp;try with_reducible rfl
   simp only[aZ,bf,aze,asu];refine au (i:=8) (d:=some 51) (v:= ?_) rfl rfl hHeld ?_ ?_;rotate_left;focus intro w hSw;(try dsimp only at hSw);go_simp;try with_reducible rfl
   simp only[aZ,bf,aze,asu];refine wpAnyH_ready (rs:=[9]) (by kernel_rfl) (by simp) ?_;refine AllReadyH.cons rfl (fun K' hK=> ?_) AllReadyH.nil;go_simp;have hzN:=heap_alloc_new wx (.cells #[.string ⟨#[]⟩,.slice none 0 0,.int .i64 0,.slice none 0 0] 30);have hLz:=(Later.refl wx).alloc (.cells #[.string ⟨#[]⟩,.slice none 0 0,.int .i64 0,.slice none 0 0] 30);have wU:=ak hBe hLz.below hBe.size;have hsl:bsK.sl (jA (.slice xa aI.length xc)) (wx.alloc (.cells #[.string ⟨#[]⟩,.slice none 0 0,.int .i64 0,.slice none 0 0] 30)) (.slice xa aI.length xc) aI:=Kind.aT hsl1 hLz.size fun k hk _=>hLz.block hk;have hbx:w6.heap.size≤wx.heap.size:=hBe.size;have hvx:∀k,(Value.slice xa aI.length xc).ownBlock=some k→w6.heap.size≤k∧k≠wx.heap.size∧k<(wx.alloc (.cells #[.string ⟨#[]⟩,.slice none 0 0,.int .i64 0,.slice none 0 0] 30)).heap.size:=fun k e=>⟨hv1 k e,by have:=PE k e;omega,by have:=PE k e;simp;omega⟩;refine hK.out _ _ wU (fun hHeld=> ?_);clear hK K' hBe hHeld hv1 PE hsl1 hLz;generalize wx.heap.size=bx at*;generalize wx.alloc (.cells #[.string ⟨#[]⟩,.slice none 0 0,.int .i64 0,.slice none 0 0] 30)=wf at*;have hBe:=wU;have hHeld:=wU;clear wU
  case' gb=>
   go_simp;have hzN:((w6.alloc (.cells #[.string ⟨#[]⟩,.slice none 0 0,.int .i64 0,.slice none 0 0] 30)).drew).heap[w6.heap.size]?=some (.cells #[.string ⟨#[]⟩,.slice none 0 0,.int .i64 0,.slice none 0 0] 30 (0,0)):=heap_alloc_new w6 _;have wU:Below w6.heap.size w6 ((w6.alloc (.cells #[.string ⟨#[]⟩,.slice none 0 0,.int .i64 0,.slice none 0 0] 30)).drew):=((Later.refl w6).alloc (.cells #[.string ⟨#[]⟩,.slice none 0 0,.int .i64 0,.slice none 0 0] 30)).drew.below;have hbl:w6.heap.size<((w6.alloc (.cells #[.string ⟨#[]⟩,.slice none 0 0,.int .i64 0,.slice none 0 0] 30)).drew).heap.size:=by simp
   obtain⟨bx,M7⟩:∃bx,w6.heap.size=bx:=⟨_,rfl⟩;rw[M7] at hzN hbl;have hbx:w6.heap.size≤bx:=by omega
   refine hK.out _ _ wU (fun hHeld=> ?_);clear hK K' hBe hHeld;generalize((w6.alloc (.cells #[.string ⟨#[]⟩,.slice none 0 0,.int .i64 0,.slice none 0 0] 30)).drew)=wz at*;have hBe:=wU;have hHeld:=wU;clear wU;refine wpAnyH_ready (rs:=[4]) (by kernel_rfl) (by simp) ?_;refine AllReadyH.cons rfl (fun K' hK=> ?_) AllReadyH.nil;go_simp;refine(HCl.out _ hBe).mono ?_;rintro e wf ⟨v1,rfl,hO1,hv1,hB1,KR⟩;have hsl:=JC hO1 (by omega);obtain⟨xa,xc,rfl⟩:=Kind.slice hsl;have hvx:∀k,(Value.slice xa aI.length xc).ownBlock=some k→w6.heap.size≤k∧k≠bx∧k<wf.heap.size:=fun k e=>⟨by have:=hv1 k e;omega,by have:=hv1 k e;omega,by obtain⟨ys,ho,_⟩:=hO1;exact(ho.lt k e).2⟩;have hzN:=(KR.block _ hbl).trans hzN;refine hK.out _ _ hB1 (fun hHeld=> ?_);clear hK K' hBe KR hbl M7 hO1 hv1;have hBe:=hB1;clear hB1;refine au (i:=5) (d:=some 48) (v:= ?_) rfl rfl hHeld ?_ ?_;rotate_left;focus intro w hSw;(try dsimp only at hSw);go_simp;try with_reducible rfl
   simp only[aZ,bf,aze,asu];refine au (i:=8) (d:=some 51) (v:= ?_) rfl rfl hHeld ?_ ?_;rotate_left;focus intro w hSw;(try dsimp only at hSw);go_simp;try with_reducible rfl
   simp only[aZ,bf,aze,asu]
  all_goals
   refine wpAnyH_ready (rs:=[10]) (by kernel_rfl) (by simp) ?_;refine AllReadyH.cons rfl (fun K' hK=> ?_) AllReadyH.nil;obtain⟨_,_,⟨t0,t1,t2,t3⟩,hbl⟩:=iV hzN;go_simp;have hT7:=oG wf bx (.string fn) (.slice xa aI.length xc) (.int .i64 rl) (.slice none 0 0);have hR7:=jd hzN (.string fn) (.slice xa aI.length xc) (.int .i64 rl) (.slice none 0 0);have Ci:Below w6.heap.size w6 (uT wf bx (.string fn) (.slice xa aI.length xc) (.int .i64 rl) (.slice none 0 0)):=ak hBe (hT7.below hbx hBe.size) (Nat.le_refl _);have N9:bsK.sl (jA (.slice xa aI.length xc)) (uT wf bx (.string fn) (.slice xa aI.length xc) (.int .i64 rl) (.slice none 0 0)) (.slice xa aI.length xc) aI:=Kind.aT hsl hT7.size fun k hk e=>hT7.block k hk (hvx k e).2.1;refine hK.out _ _ Ci (fun hHeld=> ?_);clear hK K' hHeld;refine wpAnyH_done (by kernel_rfl) ?_ _;obtain⟨w7,hw7⟩:∃w7,w7=uT wf bx (.string fn) (.slice xa aI.length xc) (.int .i64 rl) (.slice none 0 0):=⟨_,rfl⟩;have Rn:=hT7.size;rw[←hw7] at hR7 Ci N9 Rn;unfold uT at hw7;rw[←hw7];obtain⟨M,rfl⟩:∃M,N=M+1:=⟨N-1,by omega⟩;have Uz:bx<w7.heap.size:=by omega
   have TL:=Ci.size;obtain⟨v1,Ro⟩:∃v1,v1=Value.slice xa aI.length xc:=⟨_,rfl⟩;rw[←Ro] at N9 hR7 hvx;have hS7:=(HS6.out.mono (B':=fun k=>(B k∧k≠w.heap.size∧k≠w.heap.size+1)∧k≠bx) fun k hk hb=>⟨hb,by omega⟩).below Ci;have TM:=(Ci.block (w.heap.size+1) (by omega)).trans Rl.out;have Rp:=(Ci.block w5.heap.size (by omega)).trans Rm.out;have y1:w7.cell? ⟨w5.heap.size,1,none⟩=some (.slice ha of.length hc):=by rw[cell_of_row _ _ _ _ _ _ Rp];rfl
   have HSl:=hide N9;have HR7:=hide hR7;have HVx:Hid (∀k,v1.ownBlock=some k→w6.heap.size≤k∧k≠bx∧k<w7.heap.size):=fun k e=>⟨(hvx k e).1,(hvx k e).2.1,Nat.lt_of_lt_of_le (hvx k e).2.2 Rn⟩;have HS7:Hid (PvS (fun k=>((B k∧k≠w.heap.size∧k≠w.heap.size+1)∧k≠bx)∧(Value.slice none 0 0).ownBlock≠some k) wF w7 P mb pv tv av sv (c1:Int) (d1:Int) n5 all how):=hS7.mono fun k _ hb=>⟨hb,by simp[Value.ownBlock]⟩;have HK7:Hid (Kq P mb w6 w7):=Kq.of_below Ci;have Rq:Hid (∃PG,PG=pJ (fun g s=>bC how (M+1) g (dep+1) s) of [] (c1,d1)):=⟨_,rfl⟩;obtain⟨PG,hPG⟩:=Rq.out;rw[←hPG] at HPG;have IU:=hide hPG;have TN:n5≤c1:=by have:=HC1.out;omega
   obtain⟨TP,TQ⟩:=hcd;clear N9 hR7 hvx hS7 TM Rp hw7 hT7 Ci hzN hBe hsl t0 t1 t2 t3 Rq hPG HCl HCe HW6 hHeld Rm HS6;go_wp2;clear y1
   go_loopg [55] of.length (fun g i wr=>∃(j:Nat) (done:List bE) (cc dd nn:Nat) (ka:Option Addr) (kn kc:Nat),j+g=of.length∧i=.int .i64 j∧Hid (done.length=j)∧Hid ((ru (M+1)).own 30 w7.heap.size wr (.slice ka kn kc) done)∧Hid (wr.heap[bx]?=some (.cells #[.string fn,v1,.int .i64 rl,.slice ka kn kc] 30 (0,0)))∧Hid (PG=pJ (fun g s=>bC how (M+1) g (dep+1) s) (of.drop j) done (cc,dd))∧Hid (PvS (fun k=>((B k∧k≠w.heap.size∧k≠w.heap.size+1)∧k≠bx)∧(Value.slice ka kn kc).ownBlock≠some k) wF wr P mb pv tv av sv (cc:Int) (dd:Int) nn all how)∧nn≤cc∧cc≤400∧dd≤60∧Hid (Kq P mb w6 wr)∧Hid (bsK.sl (jA v1) wr v1 aI)∧w7.heap.size≤wr.heap.size)
   case atStart=>exact⟨0,[],c1,d1,n5,none,0,0,by omega,rfl,(rfl:_=_),Kind.iT _ _ _ _,HR7.out,(by rw[List.drop_zero];exact IU.out:_=_),HS7,TN,TP,TQ,HK7,HSl,Nat.le_refl _⟩
   case round=>
    clear IU HS7 HR7 HSl HK7;obtain⟨j,done,cc,dd,nn,ka,kn,kc,hj,rfl,HDn,HO,HR,IU,HS,hnn,hcc,hdd,HK,HSl,Tj⟩:=hrel;have LH:=(HK.out.block (w.heap.size+1) (by omega) (by omega) (by omega)).trans Rl.out;have Rs:=hide LH
    by_cases hlt:j<of.length
    ·have hFr:=HF6.out.kept HK.out.size fun k hk hb=>HK.out.block k hk (HB1.out k hb.1).2 (HB1.out k hb.1).1;have hgA:of.getD j aB∈of:=by
      rw[List.getD_eq_getElem?_getD,List.getElem?_eq_getElem hlt];exact List.getElem_mem hlt
     have hdr:of.drop j=of.getD j aB::of.drop (j+1):=by
      rw[List.drop_eq_getElem_cons hlt,List.getD_eq_getElem?_getD,List.getElem?_eq_getElem hlt]
      rfl
     obtain⟨_,_,_,e0,Rt⟩:=hFr;simp only[Value.slice.injEq,true_and] at e0;obtain⟨rfl,rfl⟩:=e0;obtain⟨fb,fo,hfe,_,UA,hfc⟩:=Rt (by intro e;rw[e] at hlt;simp at hlt);subst hfe;obtain⟨f0,gs,f1,hgs,_⟩:=hfc j hlt;obtain⟨ga,gc,rfl⟩:=aW hgs;obtain⟨G,hGe⟩:∃G,G=of.getD j aB:=⟨_,rfl⟩;rw[←hGe] at f0 f1 hgs hgA hdr;obtain⟨gn,gargs⟩:=G;dsimp only at f0 f1 hgs;have hGa:(gn,gargs)∈all:=TK.out _ hgA;obtain⟨w8,hw8⟩:∃w8,w8=wr.alloc (.cells #[.string gn,.slice ga gargs.length gc] 27):=⟨_,rfl⟩;have hL8:Later wr w8:=by rw[hw8];exact(Later.refl wr).alloc _
     have hR8:w8.heap[wr.heap.size]?=some (.cells #[.string gn,.slice ga gargs.length gc] 27 (0,0)):=by rw[hw8];exact heap_alloc_new wr _
     obtain⟨x0,x1,_,_,_⟩:=jR hR8;have x1':w8.cell? ⟨wr.heap.size,0+1,none⟩=some (.slice ga gargs.length gc):=x1;have UC:=hL8.size;have hown:∀k,(Value.slice ka kn kc).ownBlock=some k→w7.heap.size≤k∧k<wr.heap.size:=fun k e=>by
      obtain⟨ys,ho,_⟩:=HO.out;exact ho.lt k e
     have Oa:=HIh.out (by omega) (fun k=>((B k∧k≠w.heap.size∧k≠w.heap.size+1)∧k≠bx)∧(Value.slice ka kn kc).ownBlock≠some k) (gn,gargs) (.agg #[.string gn,.slice ga gargs.length gc]) (dep+1) cc dd nn w8 (by omega) (fun k hb=>HB1.out k hb.1.1.1) (fun k hk=>⟨⟨⟨HB2.out k (by omega),by omega,by omega⟩,by omega⟩,fun e=>by have:=(hown k e).2;omega⟩) (HS.out.below hL8.below) hnn hcc hdd hGa ⟨_,rfl,hgs.later hL8⟩;rw[show(((dep+1:Nat):Int))=(dep:Int)+1 from rfl] at Oa;obtain⟨PX,hPX⟩:∃PX,PX=bC how (M+1) (gn,gargs) (dep+1) (cc,dd):=⟨_,rfl⟩;rw[←hPX] at Oa;have Ru:=hide Oa;have HPX:=hide hPX;have HW8:=hide hw8;have HL8:=hide hL8;have HOw:=hide hown;have HDr:=hide hdr;clear Oa hPX hw8 hR8 hL8 Rt hfc hgs hgA hGa hGe x1 hown hdr
     go_wp2_with (first|(rw[←HW8.out])|fail)
     refine Ru.out.mono ?_;rintro e w9 ⟨v9,er9,n9,rfl,hV9,hS9,hn9,hK9⟩;obtain⟨PX1,c9,d9⟩:=PX;dsimp only at hV9 hS9 hn9;have UD:=hK9.size;have IV:Kq P mb wr w9:=(Kq.of_below HL8.out.below).trans hK9;have Ob:=(IV.block (w.heap.size+1) (by omega) (by omega) (by omega)).trans Rs.out;clear Ru f0 f1 x0 x1' HW8;cases PX1 with
     |none=>
      obtain⟨rfl,rfl⟩:=hV9;have HE:Hid (bC how (M+1+1) (fn,aI) dep (c,d)=(none,(c9,d9))):=by
       show _=_;rw[HPG.out,IU.out,HDr.out,DR HPX.out.symm]
       rfl
      obtain⟨es,hes⟩:∃es:ByteArray,es=⟨#[]⟩:=⟨_,rfl⟩;rw[show kD=.agg #[.string es,.slice none 0 0,.int .i64 0,.slice none 0 0] by rw[hes];rfl];clear hes;obtain⟨w10,JD⟩:∃w10,w10=w9.alloc (.cells #[.string es,.slice none 0 0,.int .i64 0,.slice none 0 0] 30):=⟨_,rfl⟩;have zw:Later w9 w10:=by rw[JD];exact(Later.refl w9).alloc _
      have IW:=(zw.block (Array.getElem?_eq_some_iff.1 Ob).1).trans Ob;have hKw:Kq P mb w w10:=((HK6.out.trans HK.out).trans IV).trans (Kq.of_below zw.below);have HKf:=hide (HFin.out (.string ⟨#[]⟩) (.slice none 0 0) (.int .i64 0) (.slice none 0 0) w10 IW hKw);have HPf:=hide ((HTu.out _ _ _ _ (.string ⟨#[]⟩) (.slice none 0 0) (.int .i64 0) (.slice none 0 0) w10 (fun k hb=>hb.1.1.2.2) (hS9.below zw.below)).mono (B':=B) fun k _ hb=>hb.1.1.1);have HZ:=hide (iV (jd IW (.string ⟨#[]⟩) (.slice none 0 0) (.int .i64 0) (.slice none 0 0))).1;obtain⟨_,_,⟨t0,t1,t2,t3⟩,_⟩:=iV IW;have PI:=hide JD;clear JD zw IW hKw Ob IV hS9 hK9 IU HO HS HIh HPX
      go_wp2_with (rw[←PI.out])
      obtain⟨z0,z1,z2,z3⟩:=HZ.out;unfold uT at z0 z1 z2 z3;refine bodyPost_ret (v:=.tuple #[kD,.int .i64 4]) (by simp[results,Tryz.results60,go_sem,z0,z1,z2,z3];rfl) rfl ⟨kD,4,n9,rfl,?_,?_,?_,HKf.out⟩
      ·rw[HE.out];exact⟨rfl,rfl⟩
      ·rw[HE.out];exact HPf.out
      ·rw[HE.out];exact hn9
     |some x=>
      obtain⟨rfl,s9,k9,rfl,hs9,hk9⟩:=hV9;have hk9:(ru M).sl (From w8.heap.size) w9 k9 x.kids:=hk9;obtain⟨sa9,sc9,rfl⟩:=Kind.slice hs9;obtain⟨ka9,kc9,rfl⟩:=Kind.slice hk9;have hbd:=oH (M+1) (gn,gargs) (dep+1) (cc,dd) x (c9,d9) HPX.out.symm;dsimp only at hbd;have HE:Hid (PG=pJ (fun g s=>bC how (M+1) g (dep+1) s) (of.drop (j+1)) (done++[x]) (c9,d9)):=by
       show _=_;rw[IU.out,HDr.out];exact DT HPX.out.symm
      obtain⟨w10,JD⟩:∃w10,w10=w9.alloc (.cells #[.string x.fact.1,.slice sa9 x.fact.2.length sc9,.int .i64 x.rule,.slice ka9 x.kids.length kc9] 30):=⟨_,rfl⟩;have zw:Later w9 w10:=by rw[JD];exact(Later.refl w9).alloc _
      have Rv:w10.heap[w9.heap.size]?=some (.cells #[.string x.fact.1,.slice sa9 x.fact.2.length sc9,.int .i64 x.rule,.slice ka9 x.kids.length kc9] 30 (0,0)):=by rw[JD];exact heap_alloc_new w9 _
      have TR:=zw.size;have Rw:=(IV.block bx (by omega) (by omega) (by omega)).trans HR.out;have IX:=(zw.block (by omega:bx<w9.heap.size)).trans Rw;have IY:Kq P mb w6 w10:=(HK.out.trans IV).trans (Kq.of_below zw.below);have Rx:(ru (M+1)).own 30 w7.heap.size w10 (.slice ka kn kc) done:=Kind.jv (Kind.jv HO.out IV.size fun k hk hl=>IV.block k hk (by omega) (by omega)) zw.size fun k hk _=>zw.block hk;have uV:∀k,(Value.slice ka kn kc).ownBlock=some k→w7.heap.size≤k∧k<wr.heap.size:=HOw.out;have hcx:(ru (M+1)).is (fun k=>w7.heap.size≤k∧(Value.slice ka kn kc).ownBlock≠some k) w10 [.string x.fact.1,.slice sa9 x.fact.2.length sc9,.int .i64 x.rule,.slice ka9 x.kids.length kc9] x:=by
       have hm:∀k,k<w10.heap.size→From w8.heap.size k→(w7.heap.size≤k∧(Value.slice ka kn kc).ownBlock≠some k):=fun k _ (hb:w8.heap.size≤k)=>⟨by omega,fun e=>by have:=(uV k e).2;omega⟩;exact⟨_,_,rfl,Kind.aX (Kind.aT hs9 zw.size fun k hk _=>zw.block hk) hm,Kind.aX (Kind.aT hk9 zw.size fun k hk _=>zw.block hk) hm⟩
      have hdl:=HDn.out;obtain⟨ti,i1,i2,i3,i4⟩:=DN;obtain⟨v11,w11,hrun,KW,DV,_,Ry⟩:=Kind.vS (P:=Tryz.prog) (t:=28) Rx Tryz.underlying28 i1 i2 i3 i4 rfl (by show 0<4;decide) hcx (by omega) (by simp only[maxLen];omega) (by omega);obtain⟨ka2,kn2,kc2,rfl⟩:∃a n c,v11=.slice a n c:=by
       obtain⟨a,c,e⟩:=Kind.slice (Kind.iw KW (by rw[List.length_append];simp;omega));exact⟨a,_,c,e⟩
      have TS:=DV.size;have OO:(w10.alloc (.cells #[.string x.fact.1,.slice sa9 x.fact.2.length sc9,.int .i64 x.rule,.slice ka9 x.kids.length kc9] 30)).heap.size=w10.heap.size+1:=by simp
      have KX:w11.heap[bx]?=some (.cells #[.string fn,v1,.int .i64 rl,.slice ka kn kc] 30 (0,0)):=(DV.block bx (by omega) (fun e=>by have:=(uV bx e.symm).1;omega)).trans ((Below.heap_alloc w10 _ bx (by omega)).trans IX);obtain⟨wN,hwN⟩:∃wN,wN=w11.setCell ⟨bx,3,none⟩ (.slice ka2 kn2 kc2):=⟨_,rfl⟩;have hTN:Tn bx w11 wN:=by rw[hwN];exact Tn.setCell (p:=bx) (Tn.refl _ _) (x:=⟨bx,3,none⟩) (Or.inl rfl) _
      have Rz:wN.heap[bx]?=some (.cells #[.string fn,v1,.int .i64 rl,.slice ka2 kn2 kc2] 30 (0,0)):=by rw[hwN,dJ (j:=3) KX];rfl
      have UE:=hTN.size;have hPN:PvS (fun k=>((B k∧k≠w.heap.size∧k≠w.heap.size+1)∧k≠bx)∧(Value.slice ka2 kn2 kc2).ownBlock≠some k) wF wN P mb pv tv av sv (c9:Int) (d9:Int) n9 all how:=by
       have hSa:=hS9.below zw.below;have hSb:=hSa.mono (B':=fun k=>(((B k∧k≠w.heap.size∧k≠w.heap.size+1)∧k≠bx)∧(Value.slice ka kn kc).ownBlock≠some k)∧(Value.slice ka2 kn2 kc2).ownBlock≠some k) fun k hk hb=>⟨hb,fun e=>by
        rcases Ry k e with h|h
        ·exact hb.2 h
        ·omega⟩
       have hSc:=hSb.below ((Later.refl w10).alloc (.cells #[.string x.fact.1,.slice sa9 x.fact.2.length sc9,.int .i64 x.rule,.slice ka9 x.kids.length kc9] 30)).below;have hSd:=hSc.turned DV.os DV.tape DV.output DV.size fun k hk h=>DV.block k hk fun e=>by
        have ho:=uV k e.symm;rcases h with h|h|h|h
        ·omega
        ·omega
        ·omega
        ·exact h.1.2 e.symm
       have hSe:=hSd.turned hTN.os hTN.tape hTN.output hTN.size fun k hk h=>hTN.block k hk (by
        rcases h with h|h|h|h
        ·omega
        ·omega
        ·omega
        ·exact h.1.1.2)
       exact hSe.mono fun k _ hb=>⟨hb.1.1,hb.2⟩
      have hKN:Kq P mb w6 wN:=⟨(hTN.os.trans DV.os).trans IY.os,(hTN.tape.trans DV.tape).trans IY.tape,(hTN.output.trans DV.output).trans IY.output,by have:=IY.size;omega,fun k hk h1 h2=>
       ((hTN.block k (by have:=IY.size;omega) (by omega)).trans (DV.block k (by have:=IY.size;omega) (fun e=>by have:=(uV k e.symm).1;omega))).trans ((Below.heap_alloc w10 _ k (by have:=IY.size;omega)).trans (IY.block k hk h1 h2))⟩
      have RA:bsK.sl (jA v1) wN v1 aI:=Kind.aT HSl.out (by omega) fun k hk e=>by
       have hx:=HVx.out k e;exact((hTN.block k (by omega) hx.2.1).trans (DV.block k (by omega) (fun e'=>by have:=(uV k e'.symm).1;omega))).trans ((Below.heap_alloc w10 _ k (by omega)).trans ((zw.block (by omega)).trans (IV.block k hk (by omega) (by omega))))
      have hON:(ru (M+1)).own 30 w7.heap.size wN (.slice ka2 kn2 kc2) (done++[x]):=Kind.dM KW hTN (by omega);obtain⟨_,⟨_,_,_⟩,_,_⟩:=iV IX;obtain⟨⟨l0,l1,l2,l3⟩,⟨l4,l5,l6⟩,_,_⟩:=iV Rv;obtain⟨⟨_,_,_,m3⟩,_,_,_⟩:=iV IX;obtain⟨⟨_,_,_,o3⟩,_,⟨_,_,_,t3⟩,_⟩:=iV KX;have PK:=hide hrun;have PI:=hide JD;have HWN:=hide hwN;have HON:=hide hON;have HRN:=hide Rz;have HPN:=hide hPN;have HKN:=hide hKN;have HSN:=hide RA;have HDN:Hid ((done++[x]).length=j+1):=by show _=_;rw[List.length_append,HDn.out];rfl
      have QL:w7.heap.size≤wN.heap.size:=by omega
      clear hrun JD hwN hON Rz hPN hKN RA hTN KX IX Rw DV KW Ry hcx Rx IY zw Rv hs9 hk9 hS9 hK9 IV Ob LH uV hdl i1 i2 i3 i4 OO TS IU HO HS HDn HR HSl HK HPX HDr HOw Rs
      go_wp2_with (first|(rw[←PI.out])|(rw[←HWN.out])|(at_builtin;refine wpList_append_run rfl (.tmp 72) (.tmp 74) 28 rfl _ _ _ _ rfl rfl PK.out ?_))
      go_roundg (of.length- (j+1))
      case measure=>omega
      case rel=>exact⟨j+1,done++[x],c9,d9,n9,ka2,kn2,kc2,by omega,by go_num,HDN,HON,HRN,HE,HPN,hn9,hbd.1,hbd.2,HKN,HSN,QL⟩
    ·have hj0:j=of.length:=by omega
     have HE:Hid (PG=(some done,(cc,dd))):=by
      show _=_;rw[IU.out,List.drop_eq_nil_of_le (by omega)];unfold pJ iF;simp
     have HE2:Hid (bC how (M+1+1) (fn,aI) dep (c,d)=(some (bE.mk (fn,aI) rl done),(cc,dd))):=by
      show _=_;rw[HPG.out,HE.out];rfl
     obtain⟨⟨e0,e1,e2,e3⟩,⟨e4,e5,e6⟩,_,_⟩:=iV HR.out;obtain⟨_,_,⟨t0,t1,t2,t3⟩,_⟩:=iV LH;have hKw:Kq P mb w wr:=HK6.out.trans HK.out;have hT:=oG wr (w.heap.size+1) (.string fn) v1 (.int .i64 rl) (.slice ka kn kc);have HKf:=hide (HFin.out (.string fn) v1 (.int .i64 rl) (.slice ka kn kc) wr LH hKw);have HPf:=hide ((HTu.out _ _ _ _ (.string fn) v1 (.int .i64 rl) (.slice ka kn kc) wr (fun k hb=>hb.1.1.2.2) HS.out).mono (B':=B) fun k _ hb=>hb.1.1.1);have HZ:=hide (iV (jd LH (.string fn) v1 (.int .i64 rl) (.slice ka kn kc))).1;have HVf:Hid (sN (M+1) (From w.heap.size) (uT wr (w.heap.size+1) (.string fn) v1 (.int .i64 rl) (.slice ka kn kc)) (.agg #[.string fn,v1,.int .i64 rl,.slice ka kn kc]) (bE.mk (fn,aI) rl done)):=by
      have ho:=Kind.iw (Kind.dM HO.out hT (by omega)) (by have:=HDn.out;omega);refine⟨v1,.slice ka kn kc,rfl,Kind.aX (Kind.aT HSl.out hT.size fun k hk e=>hT.block k hk (by have:=(HVx.out k e).1;omega)) fun k _ e=> ?_,Kind.aX ho fun k _ (hb:w7.heap.size≤k)=> ?_⟩
      ·show w.heap.size≤k;have:=(HVx.out k e).1;omega
      ·show w.heap.size≤k;omega
     clear hj0 IU HE hT hKw LH HO HS HIh;subst Ro;go_wp2;obtain⟨z0,z1,z2,z3⟩:=HZ.out;unfold uT at z0 z1 z2 z3;refine bodyPost_ret (v:=.tuple #[.agg #[.string fn,.slice xa aI.length xc,.int .i64 rl,.slice ka kn kc],.int .i64 0]) (by simp[results,Tryz.results60,go_sem,z0,z1,z2,z3]) rfl ⟨_,0,nn,rfl,?_,?_,?_,HKf.out⟩
     ·rw[HE2.out];exact⟨rfl,HVf.out⟩
     ·rw[HE2.out];exact HPf.out
     ·rw[HE2.out];exact hnn
end Go.Proofs.YtafmbokfkbccaaaGreatDoor
