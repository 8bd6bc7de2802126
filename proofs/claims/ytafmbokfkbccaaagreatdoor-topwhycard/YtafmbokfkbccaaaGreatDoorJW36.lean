import Derived.Test.YtafmbokfkbccaaaGreatDoorJW5
import Derived.Laws.Rows
import Derived.Test.YtafmbokfkbccaaaGreatDoorJW33
import Derived.Test.YtafmbokfkbccaaaGreatDoorJW35
import Derived.Test.YtafmbokfkbccaaaGreatDoorJW4
import Derived.Deep.WholeRow
import Derived.Test.YtafmbokfkbccaaaGreatDoorJW19
import Derived.Test.YtafmbokfkbccaaaGreatDoorJW22
namespace Go.Proofs.YtafmbokfkbccaaaGreatDoor
open Go.RowKit Go.Sort
def dF (f:Nat→Nat→Bool):Array Value:=((List.range 64).map fun i=>Value.bool (f (i/8) (i%8))).toArray
theorem dO (f:Nat→Nat→Bool):(dF f).size=64:=by simp[dF]
theorem sJ (f:Nat→Nat→Bool) {i:Nat} (h:i<64):(dF f)[i]?=some (.bool (f (i/8) (i%8))):=by simp[dF,h]
theorem Eb (f:Nat→Nat→Bool) {a c:Nat} (ha:a<8) (hc:c<8) (v:Bool):(dF f).setIfInBounds (a*8+c) (.bool v)=dF fun x y=>if x=a∧y=c then v else f x y:=by
 refine Array.ext_getElem? fun i=> ?_;rw[Array.getElem?_setIfInBounds,dO]
 by_cases hi:i<64
 ·rw[sJ _ hi,sJ _ hi]
  by_cases e:a*8+c=i
  ·rw[if_pos e,if_pos (by omega),if_pos (by omega)]
  ·rw[if_neg e,if_neg (by omega)]
 ·rw[if_neg (by omega),Array.getElem?_eq_none (by rw[dO];omega),Array.getElem?_eq_none (by rw[dO];omega)]
theorem vg (f:Nat→Nat→Bool):∀v∈(dF f).toList,v.oneCell'=true:=by
 intro v hv;simp only[dF,List.mem_map] at hv;obtain⟨_,_,rfl⟩:=hv
 rfl
def nO (T:TypeId) (w:World) (b:Nat) (f:Nat→Nat→Bool):Prop:=w.heap[b]?=some (.cells (dF f) T (0,0))
theorem nO.cell {T:TypeId} {w:World} {b a c:Nat} {f:Nat→Nat→Bool} (h:nO T w b f) (ha:a<8) (hc:c<8):w.cell? ⟨b,a*8+c,none⟩=some (.bool (f a c)):=by
 rw[cell_of_row _ _ _ _ _ _ h,sJ _ (by omega),show(a*8+c)/8=a by omega,show(a*8+c)%8=c by omega]
theorem nO.free {T:TypeId} {w:World} {b j:Nat} {f:Nat→Nat→Bool} (h:nO T w b f):w.frozen? ⟨b,j,none⟩=false:=by unfold nO at h;simp[World.frozen?,h]
theorem nO.lt {T:TypeId} {w:World} {b:Nat} {f:Nat→Nat→Bool} (h:nO T w b f):b<w.heap.size:=(Array.getElem?_eq_some_iff.1 h).1
theorem nO.set {T:TypeId} {w:World} {b a c:Nat} {f:Nat→Nat→Bool} (h:nO T w b f) (ha:a<8) (hc:c<8) (v:Bool):nO T (w.setCell ⟨b,a*8+c,none⟩ (.bool v)) b fun x y=>if x=a∧y=c then v else f x y:=by
 unfold nO at*;rw[←Eb f ha hc];simp[World.setCell,Array.getElem?_modify,h]
def Ec (b a d c:Nat) (x0 x1 x2:Bool) (w:World):Prop:=(x0=false→w.cell? ⟨b,a*8+d,none⟩=some (.bool x1))∧(x0=false→x1=true→w.cell? ⟨b,d*8+c,none⟩=some (.bool x2))
theorem Ec.one {b a d c:Nat} {x1 x2:Bool} {w:World} (h:Ec b a d c false x1 x2 w):w.cell? ⟨b,a*8+d,none⟩=some (.bool x1):=h.1 rfl
theorem Ec.two {b a d c:Nat} {x2:Bool} {w:World} (h:Ec b a d c false true x2 w):w.cell? ⟨b,d*8+c,none⟩=some (.bool x2):=h.2 rfl rfl
theorem nO.keep {T:TypeId} {w:World} {b a d c:Nat} {f:Nat→Nat→Bool} (h:nO T w b f) (ha:a<8) (hd:d<8) (hc:c<8) {u:Bool} (hu:u=(f a c||(f a d&&f d c))):
  Ec b a d c (f a c) (f a d) (f d c) (w.setCell ⟨b,a*8+c,none⟩ (.bool u)):=by
 have h':=h.set ha hc u;subst hu;refine⟨fun h0=> ?_,fun h0 h1=> ?_⟩
 ·rw[h'.cell ha hd]
  by_cases e:d=c
  ·subst e;simp[h0]
  ·simp[e]
 ·rw[h'.cell hd hc]
  by_cases e:d=a
  ·subst e;simp[h0]
  ·simp[e]
end Go.Proofs.YtafmbokfkbccaaaGreatDoor
namespace Go.Proofs.YtafmbokfkbccaaaGreatDoor
open Go.RowKit Go.Sort Go.Maps
def oK (n:Nat) (x:Int):Nat:=(Int.tmod (Int.tmod x n+n) n).toNat
theorem wZ {n:Nat} (hn:1≤n) (x:Int):Int.tmod (Int.tmod x n+n) n=(oK n x:Int):=by
 have h1: -(n:Int)<Int.tmod x n:=by have:=Int.lt_tmod_of_pos x (b:=(n:Int)) (by omega);omega
 unfold oK;rw[Int.toNat_of_nonneg (Int.tmod_nonneg _ (by omega))]
theorem qg {n:Nat} (hn:1≤n) (x:Int):oK n x<n:=by
 have h:=wZ hn x;have:=Int.tmod_lt_of_pos (Int.tmod x n+n) (b:=(n:Int)) (by omega);omega
theorem zN {n:Nat} (hn:1≤n) (x:Int): -(n:Int)<Int.tmod x n∧Int.tmod x n<n:=
 ⟨Int.lt_tmod_of_pos x (by omega),Int.tmod_lt_of_pos x (by omega)⟩
def zO (w:World) (v:Value) (g:Nat→Int) (n:Nat):Prop:=∃a cap,v=.slice a n cap∧(0<n→∃b off,a=some ⟨b,off,none⟩∧b<w.heap.size∧∀i,i<n→w.cell? ⟨b,off+i,none⟩=some (.int .i64 (g i)))
def sO (n:Nat) (g h:Nat→Int) (m:Nat):Nat→Nat→Nat→Bool
 |0=>fun _ _=>false
 |j+1=>if j<m then fun x y=>if x=oK n (g j)∧y=oK n (h j) then true else sO n g h m j x y else sO n g h m j
def tJ (n:Nat) (g h:Nat→Int) (m:Nat):Nat→List aj
 |0=>[]
 |j+1=>if j<m then tJ n g h m j++[rdF (chN (oK n (g j))) (chN (oK n (h j)))] else tJ n g h m j
def xg:Nat→List aj
 |0=>[]
 |k+1=>xg k++[twF (chN k)]
theorem qh (n:Nat) (g h:Nat→Int) (m:Nat):∀j,(tJ n g h m j).length≤j
 |0=>Nat.le_refl _
 |j+1=>by
  have:=qh n g h m j;unfold tJ;split
  ·rw[List.length_append];simp;omega
  ·omega
theorem xq:∀k,(xg k).length=k
 |0=>rfl
 |k+1=>by rw[xg,List.length_append,xq k];rfl
theorem Cu {f:aj}:∀{k:Nat},f∈xg k↔∃i,i<k∧f=twF (chN i)
 |0=>by simp[xg]
 |k+1=>by
  rw[xg,List.mem_append,Cu,List.mem_singleton]
  constructor
  ·rintro(⟨i,hi,e⟩|e)
   ·exact⟨i,by omega,e⟩
   ·exact⟨k,by omega,e⟩
  ·rintro⟨i,hi,e⟩
   by_cases h:i=k
   ·subst h;exact Or.inr e
   ·exact Or.inl ⟨i,by omega,e⟩
theorem xu {n:Nat} {g h:Nat→Int} {m:Nat} {f:aj}:∀{j:Nat},f∈tJ n g h m j↔∃a b,sO n g h m j a b=true∧f=rdF (chN a) (chN b)
 |0=>by simp[tJ,sO]
 |j+1=>by
  by_cases hm:j<m
  ·rw[tJ,sO,if_pos hm,if_pos hm,List.mem_append,xu,List.mem_singleton]
   constructor
   ·rintro(⟨a,b,h1,e⟩|e)
    ·refine⟨a,b,?_,e⟩;split
     ·rfl
     ·exact h1
    ·exact⟨_,_,by rw[if_pos ⟨rfl,rfl⟩],e⟩
   ·rintro⟨a,b,h1,e⟩;split at h1
    ·rename_i h2;rw[h2.1,h2.2] at e;exact Or.inr e
    ·exact Or.inl ⟨a,b,h1,e⟩
  ·rw[tJ,sO,if_neg hm,if_neg hm];exact xu
theorem oL {n:Nat} (hn:1≤n) {g h:Nat→Int} {m:Nat}:∀{j a b:Nat},sO n g h m j a b=true→a<n∧b<n
 |0,a,b,e=>by simp[sO] at e
 |j+1,a,b,e=>by
  rw[sO] at e;split at e
  ·dsimp only at e;split at e
   ·rename_i h2;rw[h2.1,h2.2];exact⟨qg hn _,qg hn _⟩
   ·exact oL hn e
  ·exact oL hn e
theorem Gx {n:Nat} (h1:1≤n) (h6:n≤6) {g h:Nat→Int} {m j:Nat} (hj:j≤12):Net n (fun a b=>sO n g h m j a b=true) (eY (tJ n g h m j++xg n)) where
 n6:=h6
 e8 a b e:=by have:=oL h1 e;omega
 up:=gF _
 few:=by
  have h2:=mU (tJ n g h m j++xg n);have h3:=qh n g h m j;rw[List.length_append,xq] at h2;omega
 mem f:=by rw[bO,List.mem_append,xu,Cu]
structure xw (w2 wr:World) (b:Nat) (f:Nat→Nat→Bool) (v:Value) (l:List aj):Prop where
 tn:Tn b w2 wr
 row:nO 92 wr b f
 own:gN wr w2.heap.size v l
theorem xw.later {w2 wr w3:World} {b:Nat} {f:Nat→Nat→Bool} {v:Value} {l:List aj} (h:xw w2 wr b f v l) (hL:Later wr w3):xw w2 w3 b f v l:=
 ⟨h.tn.trans (Tn.of_below hL.below),(hL.block h.row.lt).trans h.row,h.own.later hL⟩
theorem xw.set {w2 wr:World} {b a c:Nat} {f:Nat→Nat→Bool} {v:Value} {l:List aj} (h:xw w2 wr b f v l) (hb:b<w2.heap.size) (ha:a<8) (hc:c<8) (u:Bool):xw w2 (wr.setCell ⟨b,a*8+c,none⟩ (.bool u)) b (fun x y=>if x=a∧y=c then u else f x y) v l:=
 ⟨h.tn.setCell (Or.inl rfl) _,h.row.set ha hc u,h.own.put hb⟩
theorem xw.more {w2 w3:World} {b:Nat} {f:Nat→Nat→Bool} {v:Value} {l:List aj} (h:xw w2 w3 b f v l) (hb:b<w2.heap.size) (x:aj) (s:Value) (hs:Strs w3 s x.2) (IB:∀k,s.ownBlock=some k→w2.heap.size≤k∧k<w3.heap.size∧v.ownBlock≠some k) (hl:l.length≤1000):
  ∃a n c w5,(Builtin.append_ #[24,24] 24 #[v,.slice (some ⟨w3.heap.size,0,none⟩) 1 1]).run Tryz.prog (w3.alloc (.cells #[.string x.1,s] 27))=.ok (.slice a n c) w5∧xw w2 w5 b f (.slice a n c) (l++[x]):=by
 obtain⟨sa,sc,rfl⟩:=aW hs;obtain⟨v5,w5,hrun,hO5,hg5,hd5⟩:=h.own.append x _ hs IB (by omega) h.tn.size rfl;obtain⟨a,c,rfl⟩:=hO5.slice;have hbv:some b≠v.ownBlock:=fun e=>by have:=(h.own.lt e.symm).1;omega
 have hsz:w3.heap.size≤w5.heap.size:=by have:=hg5.size;rw[World.size_alloc] at this;omega
 have hblk:∀k,k<w3.heap.size→some k≠v.ownBlock→w5.heap[k]?=w3.heap[k]?:=fun k hk ho=>
  (hg5.block k (by rw[World.size_alloc];omega) ho).trans (Below.heap_alloc _ _ _ hk)
 refine⟨a,_,c,w5,hrun,⟨⟨hg5.os.trans h.tn.os,hg5.tape.trans h.tn.tape,hg5.output.trans h.tn.output,Nat.le_trans h.tn.size hsz,fun k hk ho=> ?_⟩,(hblk b h.row.lt hbv).trans h.row,hO5⟩⟩;refine(hblk k (Nat.lt_of_lt_of_le hk h.tn.size) fun e=> ?_).trans (h.tn.block k hk ho);have:=(h.own.lt e.symm).1;omega
end Go.Proofs.YtafmbokfkbccaaaGreatDoor
namespace Go.Proofs.YtafmbokfkbccaaaGreatDoor
open Go.RowKit Go.Sort Go.Maps
def noR:Nat→Nat→Bool:=fun _ _=>false
theorem zP:dF noR=#[.bool false,.bool false,.bool false,.bool false,.bool false,.bool false,.bool false,.bool false,.bool false,.bool false,.bool false,.bool false,.bool false,.bool false,.bool false,.bool false,.bool false,.bool false,.bool false,.bool false,.bool false,.bool false,.bool false,.bool false,.bool false,.bool false,.bool false,.bool false,.bool false,.bool false,.bool false,.bool false,.bool false,.bool false,.bool false,.bool false,.bool false,.bool false,.bool false,.bool false,.bool false,.bool false,.bool false,.bool false,.bool false,.bool false,.bool false,.bool false,.bool false,.bool false,.bool false,.bool false,.bool false,.bool false,.bool false,.bool false,.bool false,.bool false,.bool false,.bool false,.bool false,.bool false,.bool false,.bool false]:=by kernel_rfl
theorem Gy {P:Program} {ρ:Operand→Value} {o:Oper} {t:TypeId} {a:Operand} {w:World} {v x:Value} (ho:o.op=.load t a) (hx:ρ a=x) (h:(Instr.loadAt t x).run P w=.ok v w):(execOp ρ o).run P w=.ok (.value v) w:=by
 unfold execOp;rw[ho];simp[hx,h,Result.andThen]
theorem Ed {P:Program} {ops:Array Oper} {o:Oper} {a:Act} {w:World} {K:Act→World→Prop} {Q:Exit→Act→World→Prop} {E:Prop} (hg:o.guard=none) (hd:o.dst=none) (t:TypeId) (p x:Operand) (hop:o.op=Op.store t p x)
  (v1 v2:Value) (w':World) (hp:a.eval p=v1) (hx:a.eval x=v2) (hrun:(Instr.storeAt t v1 v2).run P w=.ok () w') (hK:K a w'):
  if Region.wanted o (yielded ops a.tmps)=true then Oper.wp P o a w K Q else E:=by
 have hw:Region.wanted o (yielded ops a.tmps)=true:=by simp[Region.wanted,hg]
 rw[if_pos hw];unfold Oper.wp;simp[execOp,hop,hp,hx,hrun,Result.andThen];rw[Oper.upon_skip,hd];exact hK
theorem pO {fn:Func} {p u:Tmp} {ty:TypeId} (h:fn.results=#[.tmp u,.cell p ty]) (tmps:Array Value) (P:Program) (w:World) {x y:Value} {a:Addr} (hu:tmps.getD u undef=x) (hp:tmps.getD p undef=.pointer (some a)) (hl:(loadVar ty a).run P w=.ok y w):
  (results fn tmps).run P w=.ok (.tuple #[x,y]) w:=by
 rw[Array.getD_eq_getD_getElem?] at hp hu;simp only[results,h];simp[Result.andThen,asAddr,hp,hu,hl]
theorem Gz {w:World} {g:Nat} {cs cs':Array Value} {t:TypeId} (h:w.heap[g]?=some (.cells cs t (0,0))):(w.setRow g cs').heap[g]?=some (.cells cs' t (0,0))∧Tn g w (w.setRow g cs'):=
 ⟨by simp[World.setRow,Array.getElem?_modify,h],rfl,rfl,rfl,by simp[World.setRow],fun k _ hk=>by simp only[World.setRow,Array.getElem?_modify];rw[if_neg (fun e=>hk e.symm)]⟩
set_option maxRecDepth 100000 in
set_option maxHeartbeats 4000000 in
theorem Qg (n:Nat) (h1:1≤n) (h6:n≤6) (fv tv:Value) (g h:Nat→Int) (nf nt:Nat) (hnf:nf≤12) (w:World) (hF:zO w fv g nf) (hT:zO w tv h nt):
  Calls Tryz.prog 45 #[.int .i64 (n:Nat),fv,tv] w fun e w'=>∃v,e=.returned (.tuple #[v,.agg (dF (pK n (sO n g h nt nf) n))])∧gN w' w.heap.size v (eY (tJ n g h nt nf++xg n))∧Below w.heap.size w w':=by
 obtain⟨fa,fc,rfl,hFa⟩:=hF;obtain⟨ta,tc,rfl,hTa⟩:=hT;obtain⟨w2,hw2⟩:∃w2,w2=(w.alloc (.cells (dF noR) 92)).alloc (.cells (dF noR) 92):=⟨_,rfl⟩;have hz2:w2.heap.size=w.heap.size+2:=by rw[hw2];simp
 have hb2:w.heap.size+1<w2.heap.size:=by omega
 have hL2:Later w w2:=by rw[hw2];exact((Later.refl _).alloc _).alloc _
 have HS2:Hid (xw w2 w2 (w.heap.size+1) noR (.slice none 0 0) []):=⟨Tn.refl _ _,by unfold nO;rw[hw2,bI,if_pos (by simp)],gN.nil _ _⟩;have HP2:Hid (w2.heap[w.heap.size]?=some (.cells (dF noR) 92 (0,0))):=by show _=_;rw[hw2,bI,if_neg (by simp)];exact heap_alloc_new _ _
 have HFa:=hide hFa;have HTa:=hide hTa;rw[zP] at hw2;have HW2:=hide hw2;have HL2:=hide hL2;have HZ2:=hide hz2;clear hFa hTa hw2 hL2 hz2;generalize hB:w.heap.size+1=b at*
 go_enter Tryz.func45,Tryz.ntmps45
 go_wp2_with (first|(rw[←HW2.out])|fail)
 clear HW2
 go_loopg [8,19] nf (fun k v i wr=>∃j:Nat,j+k=nf∧i=.int .i64 j∧Hid (xw w2 wr b (sO n g h nt j) v (tJ n g h nt j)))
 case atStart=>exact⟨0,by omega,rfl,HS2⟩
 case round=>
  obtain⟨j,hj,rfl,HS⟩:=hrel;clear HS2;obtain⟨va,vn,vc,rfl⟩:∃a n c,u8=.slice a n c:=by obtain⟨a,c,e⟩:=HS.out.own.slice;exact⟨a,_,c,e⟩
  by_cases hlt:j<nf
  ·have hltz:(j:Int)<(nf:Int):=by omega
   by_cases hmt:j<nt
   ·have Ua:(j:Int)<(nt:Int):=by omega
    obtain⟨fb,fo,rfl,hfb,hfc⟩:=HFa.out (by omega);obtain⟨tb,to',rfl,htb,htc⟩:=HTa.out (by omega);have c1:wr.cell? ⟨fb,fo+j,none⟩=some (.int .i64 (g j)):=by rw[HS.out.tn.cell (x:=⟨fb,fo+j,none⟩) (Nat.lt_of_lt_of_le hfb HL2.out.size) (by show fb≠b;omega),HL2.out.cell (p:=⟨fb,fo+j,none⟩) hfb];exact hfc j hlt
    have c2:wr.cell? ⟨tb,to'+j,none⟩=some (.int .i64 (h j)):=by rw[HS.out.tn.cell (x:=⟨tb,to'+j,none⟩) (Nat.lt_of_lt_of_le htb HL2.out.size) (by show tb≠b;omega),HL2.out.cell (p:=⟨tb,to'+j,none⟩) htb];exact htc j hmt
    have hn0:((n:Int)==0)=false:=beq_eq_false_iff_ne.2 (by omega);have Qh:=zN h1 (g j);have ND:=zN h1 (h j);have ea:=wZ h1 (g j);have eb:=wZ h1 (h j);have ha:=qg h1 (g j);have hb:=qg h1 (h j);have HRF:Hid (sO n g h nt (j+1)=fun x y=>if x=oK n (g j)∧y=oK n (h j) then true else sO n g h nt j x y):=by show _=_;rw[sO,if_pos hmt]
    have HRL:Hid (tJ n g h nt (j+1)=tJ n g h nt j++[rdF (chN (oK n (g j))) (chN (oK n (h j)))]):=by show _=_;rw[tJ,if_pos hmt]
    generalize oK n (g j)=A at*;generalize oK n (h j)=B at*;obtain⟨x1,hx1⟩:∃x,Int.tmod (g j) n=x:=⟨_,rfl⟩;obtain⟨x2,hx2⟩:∃x,Int.tmod (h j) n=x:=⟨_,rfl⟩;rw[hx1] at Qh ea;rw[hx2] at ND eb;have hw1:wrap64 (x1+(n:Int))=x1+(n:Int):=IntWalk.wrap64_in _ ⟨by omega,by omega⟩;have hw2:wrap64 (x2+(n:Int))=x2+(n:Int):=IntWalk.wrap64_in _ ⟨by omega,by omega⟩;go_wp2
    go_quiet (fail)
    go_wp2_with fail
    refine(Nk A B (by omega) (by omega) _).mono ?_;rintro e w3 ⟨v3,rfl,hF3,hL3,IB⟩;obtain⟨s,rfl,hs⟩:=hF3;obtain⟨_,s',es,IB⟩:=IB;simp only[Value.agg.injEq,Array.mk.injEq,List.cons.injEq,and_true] at es;obtain⟨rfl,rfl⟩:=es;obtain⟨sA',sC',rfl⟩:=aW hs;have hS3:=HS.out.later (((Later.refl _).drewN _).trans hL3);obtain⟨a5,n5,c5,w5,hrun,hS5⟩:=hS3.more hb2 (⟨#[114,111,97,100]⟩,[nmB A,nmB B]) _ hs (fun k e=>by
     have h1:wr.heap.size≤k∧k<w3.heap.size:=IB k e;have h2:=HS.out.tn.size;refine⟨by omega,by omega,fun e'=> ?_⟩;have h3:=(HS.out.own.lt e').2;omega) (by have:=qh n g h nt j;omega)
    have HR5:=hide hrun;have HS5:=hide hS5;have d1:=hS5.row.cell (a:=A) (c:=B) (by omega) (by omega);have d2:=hS5.row.free (j:=A*8+B);clear IB hs hS3 hrun hS5 hL3
    go_wp2_with (at_builtin;refine wpList_append_run rfl (.tmp 46) (.tmp 50) 24 rfl _ _ _ _ rfl rfl HR5.out ?_)
    have HS6:=hide (HS5.out.set hb2 (a:=A) (c:=B) (by omega) (by omega) true)
    go_roundg (nf- (j+1))
    case measure=>omega
    case rel=>exact⟨j+1,by omega,by go_num,by rw[HRF.out,HRL.out];exact HS6⟩
   ·have Ua:¬(j:Int)<(nt:Int):=by omega
    go_wp2
    go_roundg (nf- (j+1))
    case measure=>omega
    case rel=>exact⟨j+1,by omega,by go_num,by rw[sO,tJ,if_neg hmt,if_neg hmt];exact HS⟩
  ·obtain rfl:j=nf:=by omega
   have hll:=qh n g h nt j;have hnz:¬(j:Int)<(j:Int):=by omega
   go_wp2;obtain⟨f0,hf0⟩:∃f,f=sO n g h nt j:=⟨_,rfl⟩;obtain⟨L0,hL0⟩:∃l,l=tJ n g h nt j:=⟨_,rfl⟩;rw[←hf0,←hL0] at HS;rw[←hL0] at hll;have HF0:=hide hf0;have HL0:=hide hL0;clear hf0 hL0
   go_loopg [58] n (fun k i wr=>∃q:Nat,q+k=n∧i=.int .i64 q∧Hid (xw w2 wr b (pK n f0 q) (.slice va vn vc) L0))
   case atStart=>exact⟨0,by omega,rfl,HS⟩
   case round=>
    clear HS;obtain⟨q,hq,rfl,HQ⟩:=hrel
    by_cases hqn:q<n
    ·have hqz:(q:Int)<(n:Int):=by omega
     go_wp2;obtain⟨F,hF⟩:∃F,F=pK n f0 q:=⟨_,rfl⟩;rw[←hF] at HQ
     go_loopg [61] n (fun k i wr=>∃a:Nat,a+k=n∧i=.int .i64 a∧Hid (xw w2 wr b (zC n F a) (.slice va vn vc) L0))
     case atStart=>exact⟨0,by omega,rfl,HQ⟩
     case round=>
      clear HQ;obtain⟨a,ha,rfl,HA⟩:=hrel
      by_cases han:a<n
      ·have haz:(a:Int)<(n:Int):=by omega
       go_wp2;obtain⟨F',hF'⟩:∃F',F'=zC n F a:=⟨_,rfl⟩;rw[←hF'] at HA
       go_loopg [65] n (fun k i wr=>∃d:Nat,d+k=n∧i=.int .i64 d∧Hid (xw w2 wr b (zB n F' a d) (.slice va vn vc) L0))
       case atStart=>exact⟨0,by omega,rfl,HA⟩
       case round=>
        clear HA;obtain⟨d,hd,rfl,HD⟩:=hrel
        by_cases hdn:d<n
        ·have hdz:(d:Int)<(n:Int):=by omega
         go_wp2;obtain⟨F'',RO⟩:∃F'',F''=zB n F' a d:=⟨_,rfl⟩;rw[←RO] at HD
         go_loopg [69] n (fun k i wr=>∃c:Nat,c+k=n∧i=.int .i64 c∧Hid (xw w2 wr b (wX F'' a d c) (.slice va vn vc) L0))
         case atStart=>exact⟨0,by omega,rfl,HD⟩
         case round=>
          clear HD;obtain⟨c,hc,rfl,HC⟩:=hrel
          by_cases hcn:c<n
          ·have hcz:(c:Int)<(n:Int):=by omega
           obtain⟨f,hf⟩:∃f,f=wX F'' a d c:=⟨_,rfl⟩;rw[←hf] at HC;obtain⟨u,hu⟩:∃u,u=(f a c||(f a d&&f d c)):=⟨_,rfl⟩;have HN:Hid (xw w2 (wr.drew.setCell ⟨b,a*8+c,none⟩ (.bool u)) b (wX F'' a d (c+1)) (.slice va vn vc) L0):=by
            have:=(HC.out.later (Later.refl _).drew).set hb2 (a:=a) (c:=c) (by omega) (by omega) u;rw[wX,←hf];unfold JE;rw[←hu];exact this
           have hrow:nO 92 wr.drew b f:=HC.out.row;have HK:=hide (hrow.keep (a:=a) (d:=d) (c:=c) (by omega) (by omega) (by omega) hu);have q0:=hrow.cell (a:=a) (c:=c) (by omega) (by omega);have q1:=hrow.cell (a:=a) (c:=d) (by omega) (by omega);have q2:=hrow.cell (a:=d) (c:=c) (by omega) (by omega);have q3:=hrow.free (j:=a*8+c);have a8:(a:Int)<8:=by omega
           have c8:(c:Int)<8:=by omega
           have d8:(d:Int)<8:=by omega
           clear hrow HC hf;generalize f a c=x0 at*;generalize f a d=x1 at*;generalize f d c=x2 at*;go_wp2;refine wp_region_held_drew (S:=fun w'=>Ec b a d c x0 x1 x2 w') (by kernel_rfl) ⟨fun _=>q1,fun _ _=>q2⟩ (fun hHeld=> ?_);refine au (i:=0) (d:=some 72) (v:= ?_) rfl rfl hHeld ?_ ?_;rotate_left;focus intro w hSw;(try dsimp only at hSw);go_simp;try with_reducible rfl
           simp only[aZ,bf,aze,asu];refine au (i:=1) (d:=some 73) (v:= ?_) rfl rfl hHeld ?_ ?_;rotate_left;focus intro w hSw;(try dsimp only at hSw);go_simp;try with_reducible rfl
           simp only[aZ,bf,aze,asu];refine au (i:=2) (d:=some 74) (v:= ?_) rfl rfl hHeld ?_ ?_;rotate_left;focus intro w hSw;(try dsimp only at hSw);go_simp;try with_reducible rfl
           simp only[aZ,bf,aze,asu];refine au (i:=3) (d:=some 75) (v:= ?_) rfl rfl hHeld ?_ ?_;rotate_left;focus intro w hSw;(try dsimp only at hSw);go_simp;try with_reducible rfl
           simp only[aZ,bf,aze,asu];refine au (i:=4) (d:=some 76) (v:= ?_) rfl rfl hHeld ?_ ?_;rotate_left;focus intro w hSw;(try dsimp only at hSw);go_simp;try with_reducible rfl
           simp only[aZ,bf,aze,asu];refine au (i:=5) (d:=some 77) (v:= ?_) rfl rfl hHeld ?_ ?_;rotate_left;focus intro w hSw;(try dsimp only at hSw);go_simp;try with_reducible rfl
           simp only[aZ,bf,aze,asu];refine au (i:=21) (d:=some 93) (v:= ?_) rfl rfl hHeld ?_ ?_;rotate_left;focus intro w hSw;(try dsimp only at hSw);go_simp;try with_reducible rfl
           simp only[aZ,bf,aze,asu];refine wpAnyH_ready (rs:=[6]) (by kernel_rfl) (by simp) ?_;refine AllReadyH.cons rfl (fun K hK=> ?_) AllReadyH.nil;go_simp;refine hK.out _ _ hHeld (fun hHeld=> ?_);clear hK K;refine au (i:=7) (d:=some 79) (v:= ?_) rfl rfl hHeld ?_ ?_;rotate_left;focus intro w hSw;(try dsimp only at hSw);go_simp;try with_reducible rfl
           simp only[aZ,bf,aze,asu];cases x0
           ·skip
            refine au (i:=8) (d:=some 80) (v:= ?_) rfl rfl hHeld ?_ ?_;rotate_left;focus intro w hSw;(try dsimp only at hSw);go_simp;try with_reducible rfl
            simp only[aZ,bf,aze,asu];refine au (i:=9) (d:=some 81) (v:= ?_) rfl rfl hHeld ?_ ?_;rotate_left;focus intro w hSw;(try dsimp only at hSw);go_simp;try with_reducible rfl
            simp only[aZ,bf,aze,asu];refine au (i:=10) (d:=some 82) (v:= ?_) rfl rfl hHeld ?_ ?_;rotate_left;focus intro w hSw;(try dsimp only at hSw);go_simp;try with_reducible rfl
            simp only[aZ,bf,aze,asu];refine au (i:=11) (d:=some 83) (v:= ?_) rfl rfl hHeld ?_ ?_;rotate_left;focus intro w hSw;(try dsimp only at hSw);go_simp;try with_reducible rfl
            simp only[aZ,bf,aze,asu];refine au (i:=12) (d:=some 84) (v:= ?_) rfl rfl hHeld ?_ ?_;rotate_left;focus intro w hSw;(try dsimp only at hSw);have s1:=hSw.one;go_simp;try with_reducible rfl
            simp only[aZ,bf,aze,asu];refine au (i:=13) (d:=some 85) (v:= ?_) rfl rfl hHeld ?_ ?_;rotate_left;focus intro w hSw;(try dsimp only at hSw);go_simp;try with_reducible rfl
            simp only[aZ,bf,aze,asu];cases x1
            ·skip
             refine dU (i:=14) (d:=some 86) rfl rfl hHeld ?_;simp only[aZ,bf,aze,asu];refine dU (i:=15) (d:=some 87) rfl rfl hHeld ?_;simp only[aZ,bf,aze,asu];refine dU (i:=16) (d:=some 88) rfl rfl hHeld ?_;simp only[aZ,bf,aze,asu];refine dU (i:=17) (d:=some 89) rfl rfl hHeld ?_;simp only[aZ,bf,aze,asu];refine dU (i:=18) (d:=some 90) rfl rfl hHeld ?_;simp only[aZ,bf,aze,asu];refine au (i:=19) (d:=some 91) (v:= ?_) rfl rfl hHeld ?_ ?_;rotate_left;focus intro w hSw;(try dsimp only at hSw);go_simp;try with_reducible rfl
             simp only[aZ,bf,aze,asu];refine au (i:=20) (d:=some 92) (v:= ?_) rfl rfl hHeld ?_ ?_;rotate_left;focus intro w hSw;(try dsimp only at hSw);go_simp;try with_reducible rfl
             simp only[aZ,bf,aze,asu];refine au (i:=22) (d:=some 94) (v:= ?_) rfl rfl hHeld ?_ ?_;rotate_left;focus intro w hSw;(try dsimp only at hSw);go_simp;try with_reducible rfl
             simp only[aZ,bf,aze,asu];obtain rfl:u=false:=hu;refine wpAnyH_ready (rs:=[23]) (by kernel_rfl) (by simp) ?_;refine AllReadyH.cons rfl (fun K hK=> ?_) AllReadyH.nil;go_simp;refine hK.out _ _ HK.out (fun hHeld=> ?_);clear hK K;refine wpAnyH_done (by kernel_rfl) ?_ _;clear q0 q1 q2 q3 hHeld;go_wp2
             go_roundg (n- (c+1))
             case measure=>omega
             case rel=>exact⟨c+1,by omega,by go_num,HN⟩
            ·skip
             refine au (i:=14) (d:=some 86) (v:= ?_) rfl rfl hHeld ?_ ?_;rotate_left;focus intro w hSw;(try dsimp only at hSw);go_simp;try with_reducible rfl
             simp only[aZ,bf,aze,asu];refine au (i:=15) (d:=some 87) (v:= ?_) rfl rfl hHeld ?_ ?_;rotate_left;focus intro w hSw;(try dsimp only at hSw);go_simp;try with_reducible rfl
             simp only[aZ,bf,aze,asu];refine au (i:=16) (d:=some 88) (v:= ?_) rfl rfl hHeld ?_ ?_;rotate_left;focus intro w hSw;(try dsimp only at hSw);go_simp;try with_reducible rfl
             simp only[aZ,bf,aze,asu];refine au (i:=17) (d:=some 89) (v:= ?_) rfl rfl hHeld ?_ ?_;rotate_left;focus intro w hSw;(try dsimp only at hSw);go_simp;try with_reducible rfl
             simp only[aZ,bf,aze,asu];refine au (i:=18) (d:=some 90) (v:= ?_) rfl rfl hHeld ?_ ?_;rotate_left;focus intro w hSw;(try dsimp only at hSw);have s1:=hSw.two;go_simp;try with_reducible rfl
             simp only[aZ,bf,aze,asu];refine au (i:=19) (d:=some 91) (v:= ?_) rfl rfl hHeld ?_ ?_;rotate_left;focus intro w hSw;(try dsimp only at hSw);go_simp;try with_reducible rfl
             simp only[aZ,bf,aze,asu];refine au (i:=20) (d:=some 92) (v:= ?_) rfl rfl hHeld ?_ ?_;rotate_left;focus intro w hSw;(try dsimp only at hSw);go_simp;try with_reducible rfl
             simp only[aZ,bf,aze,asu];refine au (i:=22) (d:=some 94) (v:= ?_) rfl rfl hHeld ?_ ?_;rotate_left;focus intro w hSw;(try dsimp only at hSw);go_simp;try with_reducible rfl
             simp only[aZ,bf,aze,asu];obtain rfl:u=x2:=hu;refine wpAnyH_ready (rs:=[23]) (by kernel_rfl) (by simp) ?_;refine AllReadyH.cons rfl (fun K hK=> ?_) AllReadyH.nil;go_simp;refine hK.out _ _ HK.out (fun hHeld=> ?_);clear hK K;refine wpAnyH_done (by kernel_rfl) ?_ _;clear q0 q1 q2 q3 hHeld;go_wp2
             go_roundg (n- (c+1))
             case measure=>omega
             case rel=>exact⟨c+1,by omega,by go_num,HN⟩
           ·skip
            refine dU (i:=8) (d:=some 80) rfl rfl hHeld ?_;simp only[aZ,bf,aze,asu];refine dU (i:=9) (d:=some 81) rfl rfl hHeld ?_;simp only[aZ,bf,aze,asu];refine dU (i:=10) (d:=some 82) rfl rfl hHeld ?_;simp only[aZ,bf,aze,asu];refine dU (i:=11) (d:=some 83) rfl rfl hHeld ?_;simp only[aZ,bf,aze,asu];refine dU (i:=12) (d:=some 84) rfl rfl hHeld ?_;simp only[aZ,bf,aze,asu];refine dU (i:=13) (d:=some 85) rfl rfl hHeld ?_;simp only[aZ,bf,aze,asu];refine dU (i:=14) (d:=some 86) rfl rfl hHeld ?_;simp only[aZ,bf,aze,asu];refine dU (i:=15) (d:=some 87) rfl rfl hHeld ?_;simp only[aZ,bf,aze,asu];refine dU (i:=16) (d:=some 88) rfl rfl hHeld ?_;simp only[aZ,bf,aze,asu];refine dU (i:=17) (d:=some 89) rfl rfl hHeld ?_;simp only[aZ,bf,aze,asu];refine dU (i:=18) (d:=some 90) rfl rfl hHeld ?_;simp only[aZ,bf,aze,asu];refine dU (i:=19) (d:=some 91) rfl rfl hHeld ?_;simp only[aZ,bf,aze,asu];refine au (i:=20) (d:=some 92) (v:= ?_) rfl rfl hHeld ?_ ?_;rotate_left;focus intro w hSw;(try dsimp only at hSw);go_simp;try with_reducible rfl
            simp only[aZ,bf,aze,asu];refine au (i:=22) (d:=some 94) (v:= ?_) rfl rfl hHeld ?_ ?_;rotate_left;focus intro w hSw;(try dsimp only at hSw);go_simp;try with_reducible rfl
            simp only[aZ,bf,aze,asu];obtain rfl:u=true:=hu;refine wpAnyH_ready (rs:=[23]) (by kernel_rfl) (by simp) ?_;refine AllReadyH.cons rfl (fun K hK=> ?_) AllReadyH.nil;go_simp;refine hK.out _ _ HK.out (fun hHeld=> ?_);clear hK K;refine wpAnyH_done (by kernel_rfl) ?_ _;clear q0 q1 q2 q3 hHeld;go_wp2
            go_roundg (n- (c+1))
            case measure=>omega
            case rel=>exact⟨c+1,by omega,by go_num,HN⟩
          ·have hcz:¬(c:Int)<(n:Int):=by omega
           obtain rfl:c=n:=by omega
           go_wp2
           go_roundg (c- (d+1))
           case measure=>omega
           case rel=>exact⟨d+1,by omega,by go_num,by rw[zB,←RO];exact HC⟩
        ·have hdz:¬(d:Int)<(n:Int):=by omega
         obtain rfl:d=n:=by omega
         go_wp2
         go_roundg (d- (a+1))
         case measure=>omega
         case rel=>exact⟨a+1,by omega,by go_num,by rw[zC,←hF'];exact HD⟩
      ·have haz:¬(a:Int)<(n:Int):=by omega
       obtain rfl:a=n:=by omega
       go_wp2
       go_roundg (a- (q+1))
       case measure=>omega
       case rel=>exact⟨q+1,by omega,by go_num,by rw[pK,←hF];exact HA⟩
    ·have hqz:¬(q:Int)<(n:Int):=by omega
     obtain rfl:q=n:=by omega
     go_wp2;obtain⟨F,hF⟩:∃F,F=pK q f0 q:=⟨_,rfl⟩;rw[←hF] at HQ;have HFe:=hide hF;clear hF;have HQ0:Hid (xw w2 wr b F (.slice va vn vc) (L0++xg 0)):=by rw[show L0++xg 0=L0 from List.append_nil _];exact HQ
     clear HQ
     go_loopg [8,100] q (fun k v i wr=>∃t:Nat,t+k=q∧i=.int .i64 t∧Hid (xw w2 wr b F v (L0++xg t)))
     case atStart=>exact⟨0,by omega,rfl,HQ0⟩
     case round=>
      clear HQ0;obtain⟨t,ht,rfl,HT⟩:=hrel;obtain⟨va,vn,vc,rfl⟩:∃a n c,u8=.slice a n c:=by obtain⟨a,c,e⟩:=HT.out.own.slice;exact⟨a,_,c,e⟩
      have htl:=xq t
      by_cases htn:t<q
      ·have htz:(t:Int)<(q:Int):=by omega
       have HNm:=hide (Gg t (by omega) wr);have HLt:=hide htl;clear htl
       go_wp2_with fail
       refine HNm.out.mono ?_;rintro e w3 ⟨rfl,hL3⟩;obtain⟨w4,hw4⟩:∃w4,w4=w3.alloc (.cells #[.string (nmB t)] 9):=⟨_,rfl⟩;have hL4:Later w3 w4:=by rw[hw4];exact(Later.refl _).alloc _
       have hr4:w4.heap[w3.heap.size]?=some (.cells #[.string (nmB t)] 9 (0,0)):=by rw[hw4];exact heap_alloc_new _ _
       have hz4:w4.heap.size=w3.heap.size+1:=by rw[hw4];simp
       have hs4:Strs w4 (.slice (some ⟨w3.heap.size,0,none⟩) 1 1) [nmB t]:=by
        refine⟨by simp,_,1,rfl,fun _=>⟨_,0,rfl,by omega,fun i hi=> ?_⟩⟩;obtain rfl:i=0:=by simpa using hi
        rw[cell_of_row _ _ _ _ _ _ hr4];rfl
       obtain⟨a5,n5,c5,w5,hrun,hS5⟩:=(HT.out.later (hL3.trans hL4)).more hb2 (⟨#[116,111,119,110]⟩,[nmB t]) _ hs4 (fun k e=>by
        have e:w3.heap.size=k:=by simpa[Value.ownBlock] using e
        have h2:=HT.out.tn.size;have h3:=hL3.size;refine⟨by omega,by omega,fun e'=> ?_⟩;have h3:=(HT.out.own.lt e').2;omega) (by rw[List.length_append,HLt.out];omega)
       have HR5:=hide hrun;have HS5:Hid (xw w2 w5 b F (.slice a5 n5 c5) (L0++xg (t+1))):=by rw[xg,←List.append_assoc];exact hS5
       have HW4:=hide hw4;have HZ4:=hide hz4;clear hL3 hL4 hr4 hs4 hrun hS5 hw4 HNm hz4
       go_wp2_with (first|(rw[←HW4.out])|(at_builtin;refine wpList_append_run rfl (.tmp 103) (.tmp 108) 24 rfl _ _ _ _ rfl rfl HR5.out ?_)|fail)
       go_roundg (q- (t+1))
       case measure=>omega
       case rel=>exact⟨t+1,by omega,by go_num,HS5⟩
      ·obtain rfl:t=q:=by omega
       have htz:¬(t:Int)<(t:Int):=by omega
       have HFs:Hid (∀w',Tn w.heap.size wr w'→Facts w' (.slice va vn vc) (L0++xg t)):=fun w' h=>
        (HT.out.own.stay h.size fun k hk hb=>h.block k hk (by have:=HZ2.out;omega)).facts (by rw[List.length_append,htl];omega)
       have HLd:Hid (∀w',nO 92 w' b F→(Instr.loadAt 92 (.pointer (some ⟨b,0,none⟩))).run Tryz.prog w'=.ok (.agg (dF F)) w'):=fun w' h=>by
        simp only[Instr.loadAt,Instr.sureAddr,Sem.run_bind,Sem.run_pure,Result.andThen];exact run_loadVar_row _ _ 92 92 (dF F) (0,0) _ h Tryz.underlying92 rfl (by rw[dO];kernel_rfl)
       go_wp2;refine wp_region_held_drew (S:=fun w'=>nO 92 w' b F∧Tn w.heap.size wr w') (by kernel_rfl) ⟨HT.out.row,(Tn.refl _ _).drew⟩ (fun hHeld=> ?_);refine au (i:=0) (d:=some 111) (v:= ?_) rfl rfl hHeld ?_ ?_;rotate_left;focus intro w hSw;(try dsimp only at hSw);go_simp;try with_reducible rfl
       simp only[aZ,bf,aze,asu];refine au (i:=2) (d:=some 113) (v:=.agg (dF F)) rfl rfl hHeld (fun w hSw=>Gy rfl rfl (HLd.out w hSw.1)) ?_;simp only[aZ,bf,aze,asu];refine wpAnyH_ready (rs:=[1]) (by kernel_rfl) (by simp) ?_;refine AllReadyH.cons rfl (fun K hK=> ?_) AllReadyH.nil;go_simp;refine(ofC _ _ _ (HFs.out _ hHeld.2)).mono ?_;rintro e w3 ⟨v3,s,rfl,LK,hO3,hL3⟩;obtain⟨a3,n3,c3,rfl⟩:∃a n c,v3=.slice a n c:=by obtain⟨a,c,e⟩:=hO3.slice;exact⟨a,_,c,e⟩
       have hT3:Tn w.heap.size wr w3:=hHeld.2.trans (Tn.of_below hL3.below);have hR3:nO 92 w3 b F:=(hL3.block hHeld.1.lt).trans hHeld.1;refine hK.out _ _ ⟨hR3,hT3⟩ (fun hHeld=> ?_);clear hK K;refine au (i:=3) (d:=some 6) (v:= ?_) rfl rfl hHeld ?_ ?_;rotate_left;focus intro w hSw;(try dsimp only at hSw);go_simp;try with_reducible rfl
       simp only[aZ,bf,aze,asu];refine wpAnyH_ready (rs:=[4]) (by kernel_rfl) (by simp) ?_;have hp3:w3.heap[w.heap.size]?=some (.cells (dF noR) 92 (0,0)):=by
        rw[hL3.block (by show w.heap.size<wr.heap.size;have:=HT.out.tn.size;have:=HZ2.out;omega)];exact(HT.out.tn.block _ (by have:=HZ2.out;omega) (by omega)).trans HP2.out
       obtain⟨hrn,hTn⟩:=Gz (cs':=dF F) hp3;have hst:(Instr.storeAt 92 (.pointer (some ⟨w.heap.size,0,none⟩)) (.agg (dF F))).run Tryz.prog w3=.ok () (w3.setRow w.heap.size (dF F)):=by
        simp only[Instr.storeAt,Instr.sureAddr,Sem.run_bind,Sem.run_pure,Result.andThen];exact run_storeVar_row _ _ 92 92 _ _ hp3 (by rw[dO];kernel_rfl) (by rw[dO,dO]) (Array.all_eq_true_iff_forall_mem.2 fun v hv=>vg F v (by simpa using hv))
       have hO4:gN (w3.setRow w.heap.size (dF F)) wr.heap.size (.slice a3 n3 c3) s:=hO3.stay hTn.size fun k hk hb=>hTn.block k hk (by have hb:wr.heap.size≤k:=hb;have:=HT.out.tn.size;have:=HZ2.out;omega);generalize w3.setRow w.heap.size (dF F)=w4 at*;refine AllReadyH.cons rfl (fun K hK=>Ed rfl rfl 92 (.tmp 7) (.tmp 113) rfl _ _ w4 rfl rfl hst (hK.out _ _ ⟨(hTn.block b (hR3.lt) (by omega)).trans hR3,hT3.trans hTn⟩ (fun hHeld=> ?_))) AllReadyH.nil;refine wpAnyH_done (by kernel_rfl) ?_ _;have HLv:Hid ((loadVar 92 ⟨w.heap.size,0,none⟩).run Tryz.prog w4=.ok (.agg (dF F)) w4):=run_loadVar_row _ _ 92 92 (dF F) (0,0) _ hrn Tryz.underlying92 rfl (by rw[dO];kernel_rfl);have Ub:Hid (Below w.heap.size w w4):=ak (ak HL2.out.below (HT.out.tn.below (n:=w.heap.size) (by omega) HL2.out.size) (Nat.le_refl _)) ((hT3.trans hTn).below (Nat.le_refl _) (by have:=HT.out.tn.size;have:=HZ2.out;omega)) (Nat.le_refl _);have HO4:=hide hO4;have HSt:=hide LK;clear hrn hTn hst hO4 hp3 hT3 hR3 hHeld hL3 hO3 LK;go_wp2;refine bodyPost_ret (v:=.tuple #[.slice a3 n3 c3,.agg (dF F)]) (pO Tryz.results45 _ _ _ rfl rfl HLv.out) rfl ⟨_,by rw[HFe.out,HF0.out],?_,Ub.out⟩;rw[←HL0.out,←nR HSt.out.1 HSt.out.2.1];exact HO4.out.base (by have:=HT.out.tn.size;have:=HZ2.out;omega)
end Go.Proofs.YtafmbokfkbccaaaGreatDoor
namespace Go.Proofs.YtafmbokfkbccaaaGreatDoor
open Go.RowKit Go.Sort Go.Maps
def Lf (p:List aA) (l:List aj):Int:=if(aK p).2.1≠0 then(aK p).2.1 else(fE p l).1
def UL (b:Nat) (w:World) (v:Value) (p:List aA) (l:List aj):Prop:=(∃a n c,v=.slice a n c)∧(Lf p l=0→pY.sl (From b) w v (aK p).1)
end Go.Proofs.YtafmbokfkbccaaaGreatDoor
