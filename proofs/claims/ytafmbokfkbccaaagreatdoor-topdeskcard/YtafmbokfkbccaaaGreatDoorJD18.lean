import Derived.Test.YtafmbokfkbccaaaGreatDoorJD3
import Derived.Test.YtafmbokfkbccaaaGreatDoorJD6
import Derived.Test.YtafmbokfkbccaaaGreatDoorJD4
namespace Go.Proofs.YtafmbokfkbccaaaGreatDoor
def insB {α:Type} (c:α→α→Int) (x:α):List α→List α
 |[]=>[x]
 |y::l=>if c x y≤0 then x::y::l else y::insB c x l
def isortB {α:Type} (c:α→α→Int):List α→List α
 |[]=>[]
 |x::l=>insB c x (isortB c l)
section
variable {α:Type} {c:α→α→Int}
theorem insB_perm (x:α):∀l:List α,(insB c x l).Perm (x::l)
 |[]=>List.Perm.refl _
 |y::l=>by
  unfold insB;split
  ·exact List.Perm.refl _
  ·exact((insB_perm x l).cons y).trans (List.Perm.swap x y l)
theorem isortB_perm:∀l:List α,(isortB c l).Perm l
 |[]=>List.Perm.refl _
 |x::l=>(insB_perm x _).trans ((isortB_perm l).cons x)
theorem insB_sorted (h:Three c) (x:α):∀l:List α,(l.Pairwise fun a b=>c a b≤0)→(insB c x l).Pairwise fun a b=>c a b≤0
 |[],_=>by simp[insB]
 |y::l,hl=>by
  have hl':=List.pairwise_cons.1 hl;unfold insB;split
  ·rename_i hxy;refine List.pairwise_cons.2 ⟨fun z hz=> ?_,hl⟩;rcases List.mem_cons.1 hz with rfl|hz
   ·exact hxy
   ·exact h.le_trans hxy (hl'.1 z hz)
  ·rename_i hxy;refine List.pairwise_cons.2 ⟨fun z hz=> ?_,insB_sorted h x l hl'.2⟩;rcases List.mem_cons.1 ((insB_perm x l).mem_iff.1 hz) with rfl|hz
   ·have:=h.swap z y;omega
   ·exact hl'.1 z hz
theorem isortB_sorted (h:Three c):∀l:List α,(isortB c l).Pairwise fun a b=>c a b≤0
 |[]=>List.Pairwise.nil
 |x::l=>insB_sorted h x _ (isortB_sorted h l)
theorem sortBy_ins (h:Three c) (l:List α):sortBy c l=isortB c l:=(sortBy_of h (isortB_perm l) (isortB_sorted h l)).symm
end
def eS (a b:ByteArray):Int:=if Op.bytesLess a.data.toList b.data.toList then-1 else if a.data.toList==b.data.toList then 0 else 1
def eL:List ByteArray→List ByteArray→Int
 |[],[]=>0
 |[],_::_=> -1
 |_::_,[]=>1
 |a::x,b::y=>if eS a b≠0 then eS a b else eL x y
def eF (f g:FactB):Int:=if eS f.1 g.1≠0 then eS f.1 g.1 else if cmpI f.2.length g.2.length≠0 then cmpI f.2.length g.2.length else eL f.2 g.2
def eB (a b:BindD):Int:=if eS a.1 b.1≠0 then eS a.1 b.1 else eS a.2 b.2
theorem eS_eq:cmpS=eS:=by funext a b;unfold cmpS eS;rw[Lib.toList_data,Lib.toList_data]
theorem eL_eq:cmpL=eL:=by
 funext x y
 induction x generalizing y with
 |nil=>cases y <;> rfl
 |cons a x ih=>cases y with
  |nil=>rfl
  |cons b y=>simp only[cmpL,eL,eS_eq,ih]
theorem eF_eq:cmpF=eF:=by funext f g;unfold cmpF eF;rw[eS_eq,eL_eq]
theorem eB_eq:cmpB=eB:=by funext a b;unfold cmpB eB;rw[eS_eq]
def setI (l:List FactB):List FactB:=isortB eF (dropTwice l)
theorem setI_eq (l:List FactB):setF l=setI l:=by unfold setF setI;rw[sortBy_ins three_cmpF,eF_eq]
def allI (fs:List FactB) (body:List AtomD):Option (List (List BindD)):=match metGo (fun _=>fs) 0 body [[]] with
 |none=>none
 |some ms=>some (isortB (cmpX eB) ((ms.filter fun l=> !barredB (fun _=>fs) 0 body l).map (isortB eB)))
theorem allI_eq (fs:List FactB) (body:List AtomD):allB (fun _=>fs) body=allI fs body:=by
 have e1:(sortB:List BindD→List BindD)=isortB eB:=by funext l;show sortBy cmpB l=_;rw[sortBy_ins three_cmpB,eB_eq]
 unfold allB allI;cases metGo (fun _=>fs) 0 body [[]] with
 |none=>rfl
 |some ms=>
  dsimp only;rw[sortBy_ins three_cmpBs,e1,show cmpBs=cmpX eB from by rw[←eB_eq]]
def headsI (r:RuleD) (fs:List FactB):Option (List FactB):=match allI fs r.body with
 |none=>none
 |some R=>some (setI (R.filterMap fun l=>fillB r.head l))
theorem headsI_eq (r:RuleD) (fs:List FactB):headsP r fs=headsI r fs:=by
 unfold headsP headsI;rw[allI_eq];cases allI fs r.body with
 |none=>rfl
 |some R=>dsimp only;rw[setI_eq]
def onceI (n:Int) (fs:List FactB):List RuleD→List Nat→List FactB→Int×List FactB
 |[],_,acc=>(0,setI acc)
 |_::_,[],acc=>(0,setI acc)
 |r::p,s::ss,acc=>if(s:Int)=n then
   match headsI r fs with
   |none=>(4,[])
   |some x=>if 200<(setI (acc++x)).length then(5,[]) else onceI n fs p ss (acc++x)
  else onceI n fs p ss acc
theorem onceI_eq (n:Int) (fs:List FactB):∀(p:List RuleD) (ss:List Nat) (acc:List FactB),onceGo n fs p ss acc=onceI n fs p ss acc
 |[],_,acc=>by simp only[onceGo,onceI,setI_eq]
 |_::_,[],acc=>by simp only[onceGo,onceI,setI_eq]
 |r::p,s::ss,acc=>by
  simp only[onceGo,onceI];rw[headsI_eq];split
  ·cases headsI r fs with
   |none=>rfl
   |some x=>
    dsimp only;rw[setI_eq,onceI_eq n fs p ss]
  ·exact onceI_eq n fs p ss acc
def overI (p:List RuleD) (ss:List Nat) (n:Int):Nat→List FactB→Int×List FactB
 |0,l=>(0,l)
 |k+1,l=>match onceI n l p ss l with
  |(e,x)=>if e≠0 then(e,[]) else if x.length=l.length then(0,x) else overI p ss n k x
theorem overI_eq (p:List RuleD) (ss:List Nat) (n:Int):∀(k:Nat) (l:List FactB),overGo p ss n k l=overI p ss n k l
 |0,l=>rfl
 |k+1,l=>by
  unfold overGo overI onceP;rw[onceI_eq];obtain⟨e,x,h⟩:∃e x,onceI n l p ss l=(e,x):=⟨_,_,rfl⟩;rw[h];dsimp only;rw[overI_eq p ss n k x]
def runI (p:List RuleD) (ss:List Nat):Nat→Nat→List FactB→Int×List FactB
 |0,_,l=>(0,l)
 |c+1,n,l=>match overI p ss n 201 l with
  |(e,x)=>if e≠0 then(e,[]) else runI p ss c (n+1) x
theorem runI_eq (p:List RuleD) (ss:List Nat):∀(c n:Nat) (l:List FactB),runGo p ss c n l=runI p ss c n l
 |0,n,l=>rfl
 |c+1,n,l=>by
  unfold runGo runI;rw[overI_eq];obtain⟨e,x,h⟩:∃e x,overI p ss n 201 l=(e,x):=⟨_,_,rfl⟩;rw[h];dsimp only;rw[runI_eq p ss c (n+1) x]
end Go.Proofs.YtafmbokfkbccaaaGreatDoor
namespace Go.Proofs.YtafmbokfkbccaaaGreatDoor
open Go.RowKit Go.Sort
def pos (s:ByteArray) (l:Bs):Nat:=s.size-l.length
structure Rd (w:World) (p:Nat) (s:ByteArray) (l:Bs):Prop where
 short:s.size≤3000
 suf:l<:+raw s
 lt:p<w.heap.size
 ne:1<p
 c0:w.cell? ⟨p,0,none⟩=some (.string s)
 c1:w.cell? ⟨p,1,none⟩=some (.int .i64 (pos s l))
 fz:w.frozen? ⟨p,1,none⟩=false
 g:∃m,w.cell? ⟨1,0,none⟩=some (.int .i64 m)
theorem drop_pos {s:ByteArray} {l:Bs} (h:l<:+raw s):(raw s).drop (pos s l)=l:=by
 obtain⟨t,e⟩:=h;have:(raw s).length=t.length+l.length:=by rw[←e,List.length_append]
 rw[length_raw] at this;rw[←e,pos,this,Nat.add_sub_cancel,List.drop_left]
theorem pos_le (s:ByteArray) (l:Bs):pos s l≤s.size:=Nat.sub_le _ _
theorem len_le {s:ByteArray} {l:Bs} (h:l<:+raw s):l.length≤s.size:=by rw[←length_raw];exact h.length_le
theorem pos_add {s:ByteArray} {l:Bs} (h:l<:+raw s) {n:Nat} (hn:n≤l.length):pos s (l.drop n)=pos s l+n:=by
 have:=len_le h;simp only[pos,List.length_drop];omega
theorem suf_drop {s:ByteArray} {l:Bs} (h:l<:+raw s) (n:Nat):l.drop n<:+raw s:=(List.drop_suffix n l).trans h
theorem cut_bs {s:ByteArray} {l:Bs} (h:l<:+raw s):s.extract (pos s l) s.size=bs l:=by
 apply raw_inj
 rw[raw_bs];have e:=drop_pos h;unfold raw at e⊢;rw[ByteArray.data_extract];simp only[Array.toList_extract,List.extract_eq_take_drop];rw[e,List.take_of_length_le];simp only[pos];have:=len_le h;omega
theorem Rd.turned {w w':World} {p q:Nat} {s:ByteArray} {l:Bs} (h:Rd w p s l) (k:Tn q w w') (hq:q≠p) (h0:p<q):Rd w' p s l:=
 ⟨h.short,h.suf,Nat.lt_of_lt_of_le h.lt k.size,h.ne,by rw[k.cell (x:=⟨p,0,none⟩) h.lt (fun e=>hq e.symm)];exact h.c0,by rw[k.cell (x:=⟨p,1,none⟩) h.lt (fun e=>hq e.symm)];exact h.c1,
  by rw[World.frozen?_of_block (w:=w) (a:=⟨p,1,none⟩) (k.block p h.lt (fun e=>hq e.symm))];exact h.fz,
  by obtain⟨m,e⟩:=h.g;exact⟨m,by rw[k.cell (x:=⟨1,0,none⟩) (by have:=h.lt;have:=h.ne;show 1<w.heap.size;omega) (fun e'=>by have h1:=h.ne;have e2:1=q:=e';omega)];exact e⟩⟩
theorem Rd.below {w w':World} {p:Nat} {s:ByteArray} {l:Bs} (h:Rd w p s l) (k:Below w.heap.size w w'):Rd w' p s l:=
 h.turned (Tn.of_below (p:=p+1) k) (by omega) (by omega)
theorem Rd.set {w:World} {p:Nat} {s:ByteArray} {l:Bs} (h:Rd w p s l) {r:Bs} (hr:r<:+raw s):Rd (w.setCell ⟨p,1,none⟩ (.int .i64 (pos s r))) p s r:=by
 have hc:=h.c1;refine⟨h.short,hr,by rw[size_setCell];exact h.lt,h.ne,?_,?_,?_,?_⟩
 ·rw[World.cell?_setCell_other _ _ _ _ (by simp)];exact h.c0
 ·exact World.cell?_setCell_same _ _ _ hc
 ·rw[World.frozen?_setCell];exact h.fz
 ·obtain⟨m,e⟩:=h.g;exact⟨m,by rw[World.cell?_setCell_other _ _ _ _ (by intro e;simp at e)];exact e⟩
theorem Rd.drewN {w:World} {p:Nat} {s:ByteArray} {l:Bs} (h:Rd w p s l) (q:Nat):Rd (w.drewN q) p s l:=⟨h.short,h.suf,h.lt,h.ne,h.c0,h.c1,h.fz,h.g⟩
theorem Rd.moved {w:World} {p:Nat} {s:ByteArray} {l:Bs} (h:Rd w p s l) {n:Nat} (hn:n≤l.length) {x:Int} (hx:x=(pos s l:Int)+n):Rd (w.setCell ⟨p,1,none⟩ (.int .i64 x)) p s (l.drop n):=by
 have:=h.set (suf_drop h.suf n);rw[pos_add h.suf hn] at this;rw[hx];exact this
theorem Tn.moved {w w':World} {p:Nat} (h:Tn p w w') (v:Value) (o:Nat):Tn p w (w'.setCell ⟨p,o,none⟩ v):=h.setCell (Or.inl rfl) v
end Go.Proofs.YtafmbokfkbccaaaGreatDoor
namespace Go.Proofs.YtafmbokfkbccaaaGreatDoor
open Go.RowKit Go.Sort
theorem cut_nl:∀l:Bs,(Lib.cut l [10]).1=l.takeWhile (fun c=>c != 10):=by
 intro l
 induction l with
 |nil=>simp[Lib.cut,Lib.index]
 |cons c t ih=>
  by_cases h:c=10
  ·subst h;simp[Lib.cut,Lib.index,List.isPrefixOf]
  ·have h':¬(10:UInt8)=c:=fun e=>h e.symm;rw[List.takeWhile_cons,if_pos (by simpa using h)];have hg:=Lib.index_ge t [10];unfold Lib.cut at ih⊢;have e:Lib.index (c::t) [10]=if Lib.index t [10]== -1 then-1 else Lib.index t [10]+1:=by
    rw[Lib.index];simp[List.isPrefixOf,h']
   rw[e]
   by_cases hi:Lib.index t [10]= -1
   ·rw[hi] at ih⊢;simp at ih⊢;exact ih
   ·have h0:0≤Lib.index t [10]:=by omega
    have hb:(Lib.index t [10]== -1)=false:=by simpa using hi
    rw[hb,if_neg (c:=false=true) (by simp),if_pos (by omega)];rw[if_pos h0] at ih;rw[show(Lib.index t [10]+1).toNat=(Lib.index t [10]).toNat+1 by omega,List.take_succ_cons];exact congrArg _ ih
theorem skip_line:∀l:Bs,skip (l.drop (l.takeWhile (fun c=>c != 10)).length)=skipM true l:=by
 intro l
 induction l with
 |nil=>rfl
 |cons c t ih=>
  by_cases h:c=10
  ·subst h;simp[note_end,skip,skip_blank]
  ·rw[note_on h,List.takeWhile_cons,if_pos (by simpa using h)];simpa using ih
set_option maxHeartbeats 1000000 in
theorem skipNote (p:Nat) (s:ByteArray) (l:Bs) (w:World) (h:Rd w p s l):
  Calls Tryz.prog 268 #[.pointer (some ⟨p,0,none⟩)] w fun e w'=>e=.returned (.tuple #[])∧Rd w' p s (l.drop (l.takeWhile (fun c=>c != 10)).length)∧Tn p w w':=by
 have H:=hide h;have c0:=h.c0;have c1:=h.c1;have fz:=h.fz;obtain⟨m,hm⟩:=h.g;have hcut:=cut_bs h.suf;have hps:=pos_le s l;have hs:=h.short;have hll:=len_le h.suf;have HC:Hid (∀q,Calls Tryz.prog 299 #[.string (bs l),.string {data:=#[10]}] (w.drewN q) fun e w'=>e=.returned (.tuple #[.string (bs (l.takeWhile (fun c=>c != 10))),.string ⟨(Lib.cut l [10]).2.1.toArray⟩,.bool (Lib.cut l [10]).2.2])∧∃n,w'=(w.drewN q).drewN n):=fun q=>by
  have:=Tryz.strings_Cut (bs l) {data:=#[10]} m (w.drewN q) (by rw[size_bs];omega) hm;have e:(bs l).data.toList=l:=raw_bs l;rw[e] at this;refine this.mono ?_;rintro e w' ⟨rfl,hw⟩;exact⟨by rw[←cut_nl];rfl,hw⟩
 generalize ht:l.takeWhile (fun c=>c != 10)=t at HC⊢;have hle:t.length≤l.length:=by rw[←ht];exact(List.takeWhile_prefix _).length_le
 have hn:(bs t).size=t.length:=size_bs t;have HP:=hide (pos_add h.suf hle);clear h hm ht
 go_enter Tryz.func268,Tryz.ntmps268
 go_wp2
 go_quiet ((go_at_call 299;exact Calls.quiet_of (HC.out _)))
 go_wp2;go_end0;exact⟨rfl,(H.out.drewN _).moved hle rfl,((Tn.refl p w).drewN _).moved _ _⟩
theorem raw_get {s:ByteArray} {l:Bs} {c:UInt8} (h:(c::l)<:+raw s):∃hk:pos s (c::l)<s.size,s[pos s (c::l)]=c:=by
 have hl:=len_le h;have hk:pos s (c::l)<s.size:=by simp only[pos,List.length_cons] at*;omega
 refine⟨hk,?_⟩;have e:=drop_pos h;have hk':pos s (c::l)<(raw s).length:=by rw[length_raw];exact hk
 rw[List.drop_eq_getElem_cons hk'] at e;have:=(List.cons.inj e).1;rw[getRaw hk hk'] at this;exact this
theorem byte_ne {c d:UInt8} (h:¬c=d):((c.toNat:Int)==(d.toNat:Int))=false:=by
 rw[beq_eq_false_iff_ne];intro e;exact h (UInt8.toNat_inj.1 (by omega))
set_option maxHeartbeats 2000000 in
theorem skipC (p:Nat) (s:ByteArray) (l:Bs) (w:World) (h:Rd w p s l):
  Calls Tryz.prog 215 #[.pointer (some ⟨p,0,none⟩)] w fun e w'=>e=.returned (.tuple #[])∧Rd w' p s (skip l)∧Tn p w w':=by
 have H:=hide h;clear h
 go_enter Tryz.func215,Tryz.ntmps215
 go_wp2
 go_loopg [] (l.length+1) (fun k wr=>∃l',l'.length<k∧Rd wr p s l'∧skip l'=skip l∧Tn p w wr)
 case atStart=>exact⟨l,by omega,H.out,rfl,Tn.refl _ _⟩
 case round=>
  obtain⟨l',hk,hR,hE,hT⟩:=hrel;have HR:=hide hR;have HE:=hide hE;have HT:=hide hT;have c0:=hR.c0;have c1:=hR.c1;have fz:=hR.fz;have hps:=pos_le s l';have hs:=hR.short;have hsuf:=hR.suf;clear hR hE hT;cases l' with
  |nil=>
   have hend:¬pos s []<s.size:=by simp[pos]
   go_wp2
   go_quiet (fail)
   go_wp2;go_end0;refine⟨rfl,?_,HT.out.drewN _⟩;have:Rd wr p s []:=HR.out;rw[←HE.out];exact this.drewN _
  |cons c t=>
   obtain⟨hlt,hget⟩:=raw_get hsuf;have HS:=hide hsuf;clear hsuf
   by_cases hb:c=32∨c=10
   ·have HQ:Hid (skip t=skip l):=by show _=_;rw[←HE.out,skip,skip,skip_blank hb]
    have HM:Hid (∀q,Rd ((wr.drewN q).setCell ⟨p,1,none⟩ (.int .i64 ((pos s (c::t):Int)+1))) p s t):=fun q=>(HR.out.drewN q).moved (n:=1) (by simp) rfl;have HN:=hide (by simpa using hk:t.length+1<gk);rcases hb with rfl|rfl
    ·generalize pos s (32::t)=k at*;go_wp2
     go_quiet (fail)
     go_wp2
     go_quiet (fail)
     go_wp2
     go_roundg (t.length+1)
     case measure=>exact HN.out
     case rel=>exact⟨t,by omega,HM.out _,HQ.out,(HT.out.drewN _).moved _ _⟩
    ·generalize pos s (10::t)=k at*;go_wp2
     go_quiet (fail)
     go_wp2
     go_quiet (fail)
     go_wp2
     go_roundg (t.length+1)
     case measure=>exact HN.out
     case rel=>exact⟨t,by omega,HM.out _,HQ.out,(HT.out.drewN _).moved _ _⟩
   ·by_cases h37:c=37
    ·subst h37;have HQ:Hid (skip ((37::t).drop ((37::t).takeWhile (fun c=>c != 10)).length)=skip l):=by
      show _=_;rw[←HE.out,skip_line,skip,skip_note,note_on (by decide)]
     have HN:Hid (((37::t).drop ((37::t).takeWhile (fun c=>c != 10)).length).length+1<gk):=by
      show _<_;rw[List.takeWhile_cons,if_pos (by decide)];simp at hk⊢;omega
     have HC:=hide (fun w' (hw:Rd w' p s (37::t))=>skipNote p s (37::t) w' hw);generalize(37::t).drop ((37::t).takeWhile (fun c=>c != 10)).length=t' at*;generalize pos s (37::t)=k at*;go_wp2
     go_quiet (fail)
     go_wp2
     go_quiet (fail)
     go_wp2_with fail
     refine(HC.out _ (HR.out.drewN _)).mono ?_;rintro e w1 ⟨rfl,hR1,hT1⟩;have HR1:=hide hR1;have HT1:=hide ((HT.out.drewN _).trans hT1);clear hR1 hT1;go_wp2
     go_roundg (t'.length+1)
     case measure=>exact HN.out
     case rel=>exact⟨t',by omega,HR1.out,HQ.out,HT1.out⟩
    ·have HQ:Hid (c::t=skip l):=by show _=_;rw[←HE.out,skip,skip_other hb h37]
     have n1:((c.toNat:Int)==32)=false:=byte_ne (d:=32) (fun e=>hb (Or.inl e));have n2:((c.toNat:Int)==10)=false:=byte_ne (d:=10) (fun e=>hb (Or.inr e));have n3:((c.toNat:Int)==37)=false:=byte_ne (d:=37) h37;clear hb h37;generalize pos s (c::t)=k at*;go_wp2
     go_quiet (fail)
     go_wp2
     go_quiet (fail)
     go_wp2
     first|go_end0|refine bodyPost_ret (results_none rfl _ _ _) rfl ?_
     refine⟨rfl,?_,HT.out.drewN _⟩;rw[←HQ.out];exact HR.out.drewN _
end Go.Proofs.YtafmbokfkbccaaaGreatDoor
namespace Go.Proofs.YtafmbokfkbccaaaGreatDoor
open Go.RowKit Go.Sort
set_option maxHeartbeats 1000000 in
theorem endedC (p:Nat) (s:ByteArray) (l:Bs) (w:World) (h:Rd w p s l):
  Calls Tryz.prog 155 #[.pointer (some ⟨p,0,none⟩)] w fun e w'=>e=.returned (.bool (decide (skip l=[])))∧Rd w' p s (skip l)∧Tn p w w':=by
 have HC:=hide (skipC p s l w h);clear h
 go_enter Tryz.func155,Tryz.ntmps155
 go_wp2_with fail
 refine HC.out.mono ?_;rintro e w1 ⟨rfl,hR,hT⟩;have HR:=hide hR;have HT:=hide hT;have c0:=hR.c0;have c1:=hR.c1;have hps:=pos_le s (skip l);have hs:=hR.short;have HE:Hid (((pos s (skip l):Int)==s.size)=decide (skip l=[])):=by
  show _=_;have hl:=len_le hR.suf;rw[Bool.eq_iff_iff,beq_iff_eq,decide_eq_true_iff]
  constructor
  ·intro e;simp only[pos] at e;exact List.eq_nil_of_length_eq_zero (by omega)
  ·intro e;rw[e];simp[pos]
 clear hR hT;generalize hk:pos s (skip l)=k at*;clear hk;go_wp2
 go_quiet (fail)
 go_wp2;go_ret;exact⟨ret_bool HE.out,HR.out.drewN _,HT.out.drewN _⟩
set_option maxHeartbeats 1000000 in
theorem tookC (p:Nat) (s:ByteArray) (l g:Bs) (w:World) (h:Rd w p s l):
  Calls Tryz.prog 235 #[.pointer (some ⟨p,0,none⟩),.string (bs g)] w fun e w'=>e=.returned (.bool (took g l).1)∧Rd w' p s (took g l).2∧Tn p w w':=by
 have HC:=hide (skipC p s l w h);clear h
 go_enter Tryz.func235,Tryz.ntmps235
 go_wp2_with fail
 refine HC.out.mono ?_;rintro e w1 ⟨rfl,hR,hT⟩;have HR:=hide hR;have HT:=hide hT;have c0:=hR.c0;have c1:=hR.c1;have fz:=hR.fz;have hps:=pos_le s (skip l);have hs:=hR.short;have hcut:=cut_bs hR.suf;have hgz:(bs g).size=g.length:=size_bs g;have HP:Hid (∀q,Calls Tryz.prog 277 #[.string (bs (skip l)),.string (bs g)] (w1.drewN q) fun e w'=>e=.returned (.bool (g.isPrefixOf (skip l)))∧w'=w1.drewN q):=fun q=>by
  have:=Tryz.strings_HasPrefix (bs (skip l)) (bs g) (w1.drewN q);have e1:(bs (skip l)).data.toList=skip l:=raw_bs _;have e2:(bs g).data.toList=g:=raw_bs _;rw[e1,e2] at this;exact this
 have hll:=len_le hR.suf;clear hR hT;cases hpre:g.isPrefixOf (skip l)
 ·have HE:Hid (took g l=(false,skip l)):=by show _=_;unfold took;rw[hpre];rfl
  rw[hpre] at HP;clear hpre;generalize hk:pos s (skip l)=k at*;clear hk;go_wp2
  go_quiet ((go_at_call 277;exact Calls.quiet_of_same (HP.out _)))
  go_wp2;go_ret;rw[HE.out];exact⟨rfl,HR.out.drewN _,HT.out.drewN _⟩
 ·have hle:g.length≤(skip l).length:=(List.isPrefixOf_iff_prefix.1 hpre).length_le;have HE:Hid (took g l=(true,(skip l).drop g.length)):=by show _=_;unfold took;rw[hpre];rfl
  have hps2:pos s (skip l)+g.length≤s.size:=by simp only[pos];omega
  have HM:=hide (fun q=>(HR.out.drewN q).moved hle rfl);rw[hpre] at HP;clear hpre;generalize hk:pos s (skip l)=k at*;clear hk;go_wp2
  go_quiet ((go_at_call 277;exact Calls.quiet_of_same (HP.out _)))
  go_wp2;go_ret;rw[HE.out];exact⟨rfl,HM.out _,(HT.out.drewN _).moved _ _⟩
set_option maxHeartbeats 1000000 in
theorem aheadC (p:Nat) (s:ByteArray) (l:Bs) (w:World) (h:Rd w p s l):
  Calls Tryz.prog 318 #[.pointer (some ⟨p,0,none⟩)] w fun e w'=>e=.returned (.string (bs ((skip l).takeWhile isSign)))∧Rd w' p s (skip l)∧Tn p w w':=by
 have HC:=hide (skipC p s l w h);clear h
 go_enter Tryz.func318,Tryz.ntmps318
 go_wp2_with fail
 refine HC.out.mono ?_;rintro e w1 ⟨rfl,hR,hT⟩;have HR:=hide hR;have HT:=hide hT;have c0:=hR.c0;have c1:=hR.c1;have fz:=hR.fz;have hps:=pos_le s (skip l);have hs:=hR.short;have hcut:=cut_bs hR.suf;have hll:=len_le hR.suf;have HP:Hid (∀q,Calls Tryz.prog 178 #[.string (bs (skip l))] (w1.drewN q) fun e w'=>e=.returned (.string (bs ((skip l).takeWhile isSign)))∧w'=w1.drewN q):=fun q=>by
  have:=wordC (bs (skip l)) (w1.drewN q) (by rw[size_bs];omega);rw[raw_bs] at this;exact this
 clear hR hT;generalize hk:pos s (skip l)=k at*;clear hk;go_wp2
 go_quiet ((go_at_call 178;exact Calls.quiet_of_same (HP.out _)))
 go_wp2;go_ret;exact⟨rfl,HR.out.drewN _,HT.out.drewN _⟩
def thrownV (e:Int) (s:ByteArray) (r:Bs):Ending:=.panicked [{v:=.iface 220 (.agg #[.int .i64 e,.int .i64 (pos s r)]),recovered:=false}]
set_option maxHeartbeats 1000000 in
theorem failC (p:Nat) (s:ByteArray) (l:Bs) (x:Int) (w:World) (h:Rd w p s l):
  Calls Tryz.prog 171 #[.pointer (some ⟨p,0,none⟩),.int .i64 x] w fun e w'=>e=thrownV x s l∧w'=w:=by
 have c0:=h.c0;have c1:=h.c1;clear h;unfold thrownV
 go_enter Tryz.func171,Tryz.ntmps171
 go_wp2;exact⟨rfl,rfl,rfl⟩
set_option maxHeartbeats 1000000 in
theorem mustC (p:Nat) (s:ByteArray) (l:Bs) (b:Bool) (w:World) (h:Rd w p s l):
  Calls Tryz.prog 154 #[.pointer (some ⟨p,0,none⟩),.bool b] w fun e w'=>e=(if b then .returned (.tuple #[]) else thrownV 2 s l)∧w'=w:=by
 have HF:=hide (failC p s l 2 w h);clear h;cases b
 ·go_enter Tryz.func154,Tryz.ntmps154
  go_wp2_with fail
  refine HF.out.mono ?_;rintro e w1 ⟨rfl,rfl⟩;exact⟨rfl,rfl,rfl⟩
 ·go_enter Tryz.func154,Tryz.ntmps154
  go_wp2;go_end0;exact⟨rfl,rfl⟩
def Ends' {α:Type} (p:Nat) (s:ByteArray) (w:World) (V:World→Value→α→Prop) (x:Res α) (e:Ending) (w':World):Prop:=
 Tn p w w'∧match x with
  | .ok a r=>(∃v,e=.returned v∧V w' v a)∧Rd w' p s r
  | .bad n r=>e=thrownV n s r∧Rd w' p s r
theorem endsOk {α:Type} {p:Nat} {s:ByteArray} {w w':World} {V:World→Value→α→Prop} {x:Res α} {a:α} {r:Bs} {v:Value} (hx:x=.ok a r) (hT:Tn p w w') (hV:V w' v a) (hR:Rd w' p s r):Ends' p s w V x (.returned v) w':=by
 subst hx;exact⟨hT,⟨v,rfl,hV⟩,hR⟩
theorem endsBad {α:Type} {p:Nat} {s:ByteArray} {w w':World} {V:World→Value→α→Prop} {x:Res α} {n:Int} {r:Bs} (hx:x=.bad n r) (hT:Tn p w w') (hR:Rd w' p s r):Ends' p s w V x (thrownV n s r) w':=by
 subst hx;exact⟨hT,rfl,hR⟩
def Fits (g:Nat) (f:Bs→Bool):Prop:=∀l w,l.length≤3000→Calls Tryz.prog g #[.string (bs l)] w fun e w'=>e=.returned (.bool (f l))∧w'=w
theorem fitsNamed:Fits 104 isNamed:=fun l w _=>by
 have:=named (bs l) w;rw[namedB_eq,raw_bs] at this;exact this
theorem toList_none:(bs []).toList=[]:=by
 unfold ByteArray.toList ByteArray.toList.loop
 rfl
set_option maxHeartbeats 400000 in
theorem cloneC (s:ByteArray) (w:World) (hs:s.size≤281474976710656):Calls Tryz.prog 319 #[.string s] w fun e w'=>e=.returned (.string s)∧Below w.heap.size w w':=by
 have HC:=hide (Tryz.stringslite_Clone s w hs)
 go_enter Tryz.func319,Tryz.ntmps319
 go_wp2_with fail
 refine HC.out.mono ?_;rintro e w1 ⟨rfl,hB⟩;have HB:=hide hB;clear hB;go_wp2;go_ret;exact⟨rfl,HB.out⟩
theorem emptyB (x:Bs) (h:x≠[]):(bs x).toList.isEmpty=false:=by
 cases hx:(bs x).toList.isEmpty with
 |false=>rfl
 |true=>
  exfalso
  apply h
  have e:(bs x).toList=(bs []).toList:=by
   rw[List.isEmpty_iff.1 hx,toList_none]
  exact bs_inj (toList_inj e)
set_option maxHeartbeats 2000000 in
theorem wordR (g:Nat) (f:Bs→Bool) (hg:Fits g f) (eg:∀args w,(callFunc g args).run Tryz.prog w=.ok (.enter g args) w) (p:Nat) (s:ByteArray) (l:Bs) (w:World) (h:Rd w p s l):
  Calls Tryz.prog 274 #[.pointer (some ⟨p,0,none⟩),.func (.func g) #[] #[]] w fun e w'=>Ends' p s w (fun _ v a=>v=.string (bs a)) (word f l) e w':=by
 have HC:=hide (aheadC p s l w h);have HG:=hide hg;clear h hg
 go_enter Tryz.func274,Tryz.ntmps274
 go_wp2_with fail
 refine HC.out.mono ?_;rintro e w1 ⟨rfl,hR,hT⟩;have HR:=hide hR;have HT:=hide hT;have c0:=hR.c0;have c1:=hR.c1;have fz:=hR.fz;have hps:=pos_le s (skip l);have hs:=hR.short;have hll:=len_le hR.suf;have hle:((skip l).takeWhile isSign).length≤(skip l).length:=(List.takeWhile_prefix _).length_le;have hps2:pos s (skip l)+((skip l).takeWhile isSign).length≤s.size:=by simp only[pos];omega
 have HM:=hide (fun w' (h':Rd w' p s (skip l))=>h'.moved hle rfl);have hz:=size_bs ((skip l).takeWhile isSign)
 by_cases h0:(skip l).takeWhile isSign=[]
 ·have HW:Hid (word f l=.bad 2 (skip l)):=by show _=_;unfold word;rw[if_pos h0]
  rw[h0] at hz⊢;have HF:=hide (mustC p s (skip l) false w1 hR);have he:(bs []).toList.isEmpty=true:=by rw[toList_none];rfl
  clear hR hT h0
  go_wp2_with fail
  refine HF.out.mono ?_;rintro e w2 ⟨rfl,rfl⟩;exact⟨rfl,endsBad HW.out HT.out HR.out⟩
 ·have he:=emptyB _ h0;have HF:=hide (mustC p s (skip l) true w1 hR);have HFT:=hide (failC p s (skip l) 7 w1 hR);have HB:Hid (((skip l).takeWhile isSign).length≤3000):=by show _≤_;omega
  have HCl:=hide (fun w'=>cloneC (bs ((skip l).takeWhile isSign)) w' (by rw[size_bs];omega));have HW:Hid (word f l=if f ((skip l).takeWhile isSign) then .ok ((skip l).takeWhile isSign) ((skip l).drop ((skip l).takeWhile isSign).length) else .bad 7 (skip l)):=by
   show _=_;unfold word;rw[if_neg h0]
  clear hR hT h0;generalize(skip l).takeWhile isSign=x at*;cases hf:f x
  ·rw[hf] at HW
   go_wp2_with fail
   refine HF.out.mono ?_;rintro e w2 ⟨rfl,rfl⟩
   go_wp2_with fail
   refine(HG.out x _ HB.out).mono ?_;rintro e w2 ⟨rfl,rfl⟩;rw[hf]
   go_wp2_with fail
   refine HFT.out.mono ?_;rintro e w2 ⟨rfl,rfl⟩;exact⟨rfl,endsBad HW.out HT.out HR.out⟩
  ·rw[hf] at HW
   go_wp2_with fail
   refine HF.out.mono ?_;rintro e w2 ⟨rfl,rfl⟩
   go_wp2_with fail
   refine(HG.out x _ HB.out).mono ?_;rintro e w2 ⟨rfl,rfl⟩;rw[hf];have HM1:=hide (HM.out _ HR.out);have HT1:=hide (HT.out.moved (.int .i64 ((pos s (skip l):Int)+x.length)) 1);generalize hk:pos s (skip l)=k at*;clear hk
   go_wp2_with fail
   refine(HCl.out _).mono ?_;rintro e w3 ⟨rfl,hB⟩;have HB3:=hide hB;clear hB;go_wp2;go_ret;exact endsOk HW.out (HT1.out.trans (Tn.of_below HB3.out)) rfl (HM1.out.below HB3.out)
end Go.Proofs.YtafmbokfkbccaaaGreatDoor
