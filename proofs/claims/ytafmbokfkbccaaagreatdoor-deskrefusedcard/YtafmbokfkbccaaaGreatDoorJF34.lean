import Derived.Test.YtafmbokfkbccaaaGreatDoorJF33
import Derived.Test.YtafmbokfkbccaaaGreatDoorJF24
import Derived.Test.YtafmbokfkbccaaaGreatDoorJF15
import Derived.BigQuiet
import Derived.Test.YtafmbokfkbccaaaGreatDoorJF7
namespace Go.Proofs.YtafmbokfkbccaaaGreatDoor
theorem CX {Q:List au→List au→Prop} {f:au}:∀{ps:List (List au)} {L:List au},Steps Q L ps→f∈bE L ps→f∉L→
  ∃A B,Q A B∧f∉A∧f∈B∧(L::ps).getD (iC (L::ps) f-1) []=A∧1≤iC (L::ps) f∧iC (L::ps) f<(L::ps).length
 |[],L,_,h,hn=>absurd h hn
 |M::ps,L,hs,h,hn=>by
  rw[gU] at h;have hL:inB L f=false:=by
   cases e:inB L f with
   |false=>rfl
   |true=>exact absurd (bH.1 e) hn
  have e1:iC (L::M::ps) f=iC (M::ps) f+1:=by
   unfold iC;rw[List.findIdx_cons,hL]
   rfl
  by_cases hM:f∈M
  ·have e2:iC (M::ps) f=0:=by
    unfold iC;rw[List.findIdx_cons,bH.2 hM]
    rfl
   rw[e1,e2];exact⟨L,M,hs.1,hn,hM,rfl,by omega,by simp⟩
  ·obtain⟨A,B,h1,h2,h3,h4,h5,h6⟩:=CX hs.2 h hM;rw[e1];refine⟨A,B,h1,h2,h3,?_,by omega,by simp only[List.length_cons] at h6⊢;omega⟩;rw[show iC (M::ps) f+1-1=(iC (M::ps) f-1)+1 by omega,List.getD_cons_succ];exact h4
theorem q9 {g:aB→Option (List au)}:∀(p:List aB) (i:Nat),(∃r∈p,g r≠none)→∃j r of,p[j]?=some r∧g r=some of∧jQ g i p=(((i+j:Nat):Int),of)
 |[],_,h=>by obtain⟨r,hr,_⟩:=h;cases hr
 |r::p,i,h=>by
  unfold jQ;cases hg:g r with
  |some of=>exact⟨0,r,of,rfl,hg,rfl⟩
  |none=>
   obtain⟨q,hq,hne⟩:=h;have hq':q∈p:=by
    rcases List.mem_cons.1 hq with rfl|hq
    ·exact absurd hg hne
    ·exact hq
   obtain⟨j,s,of,h1,h2,h3⟩:=q9 p (i+1) ⟨q,hq',hne⟩;exact⟨j+1,s,of,by simpa using h1,h2,by dsimp only;rw[h3];congr 2;omega⟩
theorem I4 {err:List aF→Int} (NZ:∀b,err b=0→aP b=0) {all old:List au} {r:aB} (hR:lZ r) {f:au} {of:List au} (h:byP err all old r f=some of):Fw all r f of=0∧∀k∈of,k∈old:=by
 unfold byP at h;cases hm:fK r.head f [] with
 |none=>rw[hm] at h;cases h
 |some b=>
  rw[hm] at h;dsimp only at h;have h1:=List.find?_some h;have h2:=List.mem_of_find?_eq_some h;obtain⟨l,hl,rfl⟩:=List.mem_map.1 h2;refine⟨?_,fun k hk=>bH.1 (List.all_eq_true.1 h1 k hk)⟩;unfold qY at hl;split at hl
  ·cases hl
  ·rename_i he;have he:=Classical.not_not.1 he;cases hR':lY (fun _=>all) (eO b r.body) with
   |none=>rw[hR'] at hl;cases hl
   |some R=>
    rw[hR'] at hl;have hfit:=(nP (sI (NZ _ he)) hR' l).1 hl;refine Np hR hm fun a ha=> ?_;obtain⟨g,hg,hi⟩:=jl.1 hfit.2.2.2 (eZ b a) (List.mem_map.2 ⟨a,ha,rfl⟩);exact⟨g,by rw[←qI];exact hg,hi⟩
theorem pU {b:List aD} {a:aF} {k:Bs}:(∃t∈(eZ b a).terms,t.1=true∧t.2=k)↔(∃t∈a.terms,t.1=true∧t.2=k)∧dV b (bs k)=none:=by
 constructor
 ·rintro⟨t,ht,h1,h2⟩;obtain⟨u,hu,rfl⟩:=List.mem_map.1 ht;unfold dM at h1 h2;cases hu1:u.1 with
  |false=>rw[hu1] at h1;simp at h1;rw[hu1] at h1;cases h1
  |true=>
   rw[hu1] at h1 h2;simp only[if_true] at h1 h2;cases hg:dV b (bs u.2) with
   |some s=>rw[hg] at h1;cases h1
   |none=>
    rw[hg] at h2;dsimp only at h2;exact⟨⟨u,hu,hu1,h2⟩,by rw[←h2];exact hg⟩
 ·rintro⟨⟨u,hu,h1,h2⟩,hg⟩;refine⟨u,List.mem_map.2 ⟨u,hu,?_⟩,h1,h2⟩;unfold dM;rw[h1,if_pos rfl,h2,hg]
theorem xw {b:List aD} {body:List aF} {k:Bs}:k∈fM [] (eO b body)↔k∈fM [] body∧dV b (bs k)=none:=by
 rw[iB,iB]
 constructor
 ·rintro(h|⟨a,ha,hno,h⟩)
  ·cases h
  ·obtain⟨c,hc,rfl⟩:=List.mem_map.1 ha;obtain⟨h1,h2⟩:=pU.1 h;exact⟨Or.inr ⟨c,hc,hno,h1⟩,h2⟩
 ·rintro⟨h|⟨a,ha,hno,h⟩,hg⟩
  ·cases h
  ·exact Or.inr ⟨eZ b a,List.mem_map.2 ⟨a,ha,rfl⟩,hno,pU.2 ⟨h,hg⟩⟩
theorem iQ:∀{l:List aF},bG l=0↔∀a∈l,aR a=0
 |[]=>by simp[bG]
 |a::l=>by
  unfold bG
  constructor
  ·intro h;split at h
   ·rename_i h0;intro x hx;rcases List.mem_cons.1 hx with rfl|hx
    ·exact h0
    ·exact iQ.1 h x hx
   ·rename_i h0;exact absurd h h0
  ·intro h;rw[if_pos (h a (by simp))];exact iQ.2 fun x hx=>h x (by simp[hx])
theorem CY {b:List aD} {body:List aF} (h:aP body=0) (hb:∀v s,dV b v=some s→isNamed (raw s)=true):aP (eO b body)=0:=by
 unfold aP at h⊢;have el:(eO b body).length=body.length:=List.length_map _;rw[el];split at h
 ·cases h
 ·rename_i h5;rw[if_neg h5];split at h
  ·rename_i h0;split at h
   ·rename_i hv;have ha:bG (eO b body)=0:=iQ.2 fun x hx=>by
     obtain⟨a,ha,rfl⟩:=List.mem_map.1 hx;obtain⟨h1,h2,h3⟩:=sN (iQ.1 h0 a ha);unfold aR;rw[if_neg (by show¬isNamed a.name=false;rw[h1];simp),if_neg (by show¬4<(a.terms.map (dM b)).length;rw[List.length_map];omega),if_neg];intro hc;obtain⟨t,ht,hw⟩:=List.any_eq_true.1 hc;obtain⟨u,hu,rfl⟩:=List.mem_map.1 ht;have hwu:=h3 u hu;unfold dM at hw;split at hw
     ·split at hw
      ·rename_i s hs;unfold bQ at hw;simp[hb _ s hs] at hw
      ·rw[hwu] at hw;cases hw
     ·rw[hwu] at hw;cases hw
    rw[if_pos ha,if_pos];refine List.all_eq_true.2 fun x hx=> ?_;obtain⟨a,ha,rfl⟩:=List.mem_map.1 hx;refine List.all_eq_true.2 fun k hk=> ?_;have hk':∃t∈(eZ b a).terms,t.1=true∧t.2=k:=by
     rcases(iD _).1 hk with h1|h1
     ·cases h1
     ·exact h1
    obtain⟨h1,h2⟩:=pU.1 hk';have h3:k∈vars a:=(iD _).2 (Or.inr h1);have h4:=List.all_eq_true.1 (List.all_eq_true.1 hv a ha) k h3;unfold givenBy at h4⊢;obtain⟨c,hc,h5⟩:=List.any_eq_true.1 h4;simp only[Bool.and_eq_true,Bool.not_eq_true'] at h5;have h6:k∈vars c:=by simpa using h5.2
    refine List.any_eq_true.2 ⟨eZ b c,List.mem_map.2 ⟨c,hc,rfl⟩,?_⟩;simp only[Bool.and_eq_true,Bool.not_eq_true'];refine⟨h5.1,?_⟩;have h7:k∈vars (eZ b c):=by
     refine(iD _).2 (Or.inr (pU.2 ⟨?_,h2⟩));rcases(iD _).1 h6 with h8|h8
     ·cases h8
     ·exact h8
    simpa using h7
   ·cases h
  ·rename_i h0;exact absurd h h0
theorem I5 {b l:List aD} {v:ByteArray}:v∈bR (rest b l)↔v∈bR l∧dV b v=none:=by
 unfold bR rest
 constructor
 ·intro h;obtain⟨x,hx,rfl⟩:=List.mem_map.1 h;obtain⟨h1,h2⟩:=List.mem_filter.1 hx;exact⟨List.mem_map.2 ⟨x,h1,rfl⟩,by simpa using h2⟩
 ·rintro⟨h,hg⟩;obtain⟨x,hx,rfl⟩:=List.mem_map.1 h;exact List.mem_map.2 ⟨x,List.mem_filter.2 ⟨hx,by rw[hg];rfl⟩,rfl⟩
theorem KD {p:List aB} {err:List aF→Int} (NZ:∀b,aP b=0→err b=0) {all L:List au} {r:aB} (hR:lZ r) (hL:GoodS p L) (hsub:∀f∈L,f∈all) (I6:fG (fun _=>all) 0 r.body [[]]≠none)
  {f:au} {env:List aD} (hfit:kL (fun _=>L) r.body env) (jB:aW r.head env=some f) (hneg:∀a∈r.body,a.no=true→∀g,aW a env=some g→g∉all):byP err all L r f≠none:=by
 obtain⟨b,hm,hag⟩:=xu (G:=env) (c:=[]) (a:=r.head) (f:=f) (fun v s h=>by cases h) jB;have DL:∀v s,dV b v=some s→isNamed (raw s)=true:=fun v s h=>zI hL.right hfit (hag v s h);have hwb:=CY (b:=b) hR.body DL;obtain⟨R,hRR⟩:=IY (b:=b) I6;obtain⟨f1,f2,f3,f4⟩:=hfit;have hget:∀v∈bR env,dV (b++rest b env) v=dV env v:=fun v hv=>by
  rw[fJ];cases hg:dV b v with
  |some s=>exact(hag v s hg).symm
  |none=>exact D5 hg
 have hfa:∀a∈r.body,aW (eZ b a) (rest b env)=aW a env:=fun a ha=>by
  rw[qI];refine lg fun t ht ht1=>hget _ ((f3 _).2 (fC.2 (dW hR a ha t ht ht1)))
 have Sy:kL (fun _=>all) (eO b r.body) (rest b env):=by
  refine⟨f1.filter _,?_,fun v=> ?_,jl.2 fun x hx=> ?_⟩
  ·exact(List.Sublist.map _ List.filter_sublist).nodup f2
  ·rw[I5,f3]
   constructor
   ·rintro⟨hv,hg⟩;obtain⟨k,hk,rfl⟩:=List.mem_map.1 hv;exact fC.2 (xw.2 ⟨hk,hg⟩)
   ·intro hv;obtain⟨k,hk,rfl⟩:=List.mem_map.1 hv;obtain⟨h1,h2⟩:=xw.1 hk;exact⟨fC.2 h1,h2⟩
  ·obtain⟨a,ha,rfl⟩:=List.mem_map.1 hx;obtain⟨g,hg,hi⟩:=jl.1 f4 a ha;refine⟨g,by rw[hfa a ha];exact hg,?_⟩;show inB all g= !a.no;cases hno:a.no with
   |true=>
    have:=hneg a ha hno g hg;cases e:inB all g with
    |false=>rfl
    |true=>exact absurd (bH.1 e) this
   |false=>
    rw[hno] at hi;exact bH.2 (hsub g (bH.1 hi))
 have hmem:=(nP (sI hwb) hRR _).2 Sy;intro hnone;unfold byP at hnone;rw[hm] at hnone;dsimp only at hnone;rw[List.find?_eq_none] at hnone;refine hnone (fO (eO b r.body) (rest b env)) (List.mem_map.2 ⟨_,?_,rfl⟩) (List.all_eq_true.2 fun k hk=> ?_)
 ·unfold qY;rw[if_neg (by rw[NZ _ hwb];simp),hRR];exact hmem
 ·unfold fO at hk;obtain⟨x,hx,he⟩:=List.mem_filterMap.1 hk;obtain⟨a,ha,rfl⟩:=List.mem_map.1 hx;obtain⟨g,hg,hi⟩:=jl.1 f4 a ha;rw[show(eZ b a).no=a.no from rfl] at he;cases hno:a.no with
  |true=>rw[hno] at he;cases he
  |false=>
   rw[hno] at he hi;simp only[Bool.false_eq_true,if_false] at he;rw[hfa a ha,hg] at he;cases he;exact hi
structure Qb (p:List aB) (told all:List au) (how:au→Int×List au):Prop where
 ok:∀f∈all,(inB told f=true∧how f=(-1,[]))∨∃(i:Nat) (r:aB) (of:List au),p[i]?=some r∧how f=((i:Int),of)∧Fw all r f of=0∧∀k∈of,k∈all
theorem Qc {p:List aB} (hp:dB p) {err:List aF→Int} (NZ:∀b,err b=0↔aP b=0) {told:List au} {ps:List (List au)} (hs:Steps (Came p (bE told ps)) told ps) (I6:∀r∈p,fG (fun _=>bE told ps) 0 r.body [[]]≠none):
  Qb p told (bE told ps) (qZ err p told (bE told ps) (told::ps)):=⟨fun f hf=>by
 by_cases ht:inB told f=true
 ·exact Or.inl ⟨ht,by unfold qZ;rw[if_pos ht]⟩
 ·right
  have hn:f∉told:=fun hc=>ht (bH.2 hc);obtain⟨A,B,⟨g1,g2,g3⟩,h2,h3,h4,_,_⟩:=CX hs hf hn;obtain⟨r,hr,env,he,jB,hneg⟩:=g3 f h3 h2;have hby:byP err (bE told ps) ((told::ps).getD (iC (told::ps) f-1) []) r f≠none:=by
   rw[h4];exact KD (fun b hb=>(NZ b).2 hb) (hp.rules r hr) g1 g2 (I6 r hr) he jB hneg
  obtain⟨j,q,of,k1,k2,k3⟩:=q9 (g:=fun r=>byP err (bE told ps) ((told::ps).getD (iC (told::ps) f-1) []) r f) p 0 ⟨r,hr,hby⟩;obtain⟨s1,s2⟩:=I4 (fun b hb=>(NZ b).1 hb) (hp.rules q (List.mem_of_getElem? k1)) k2;refine⟨j,q,of,k1,?_,s1,fun k hk=> ?_⟩
  ·unfold qZ;rw[if_neg ht,k3];simp
  ·have:=s2 k hk;rw[h4] at this;exact g2 k this⟩
def cnt:Nat→iU→Nat
 |0,_=>0
 |n+1,x=>1+(x.kids.map (cnt n)).sum
end Go.Proofs.YtafmbokfkbccaaaGreatDoor
namespace Go.Proofs.YtafmbokfkbccaaaGreatDoor
open Go.RowKit Go.Sort
theorem Tn.grown {p:Nat} {a b c:World} {row:Option Nat} (h:Tn p a b) (hg:b.grownBy c row) (hr:∀k,row=some k→a.heap.size≤k):Tn p a c:=
 ⟨hg.os.trans h.os,hg.tape.trans h.tape,hg.output.trans h.output,Nat.le_trans h.size hg.size,fun k hk ho=>(hg.block k (Nat.lt_of_lt_of_le hk h.size) (fun e=>by have:=hr k e.symm;omega)).trans (h.block k hk ho)⟩
set_option maxRecDepth 100000 in
theorem Sz (c d:Nat) (w:World):Calls Tryz.prog 54 #[.agg #[.int .i64 c,.int .i64 d]] w fun e w'=>e=.returned (.bool (AJ (c,d)))∧Later w w':=by
 unfold AJ
 by_cases hc:400<c
 ·have h1:(400:Int)<(c:Int):=by omega
  have e:(decide (400<c)||decide (60<d))=true:=by simp[hc]
  rw[e];clear e hc
  go_enter Tryz.func54,Tryz.ntmps54
  go_wp2;go_ret;exact⟨rfl,(by repeat (first|exact Later.refl _|assumption|refine Later.drewN ?_ _|refine Later.drew ?_|refine Later.alloc ?_ _|refine Later.grow ?_ _))⟩
 ·have h1:¬(400:Int)<(c:Int):=by omega
  by_cases hd:60<d
  ·have h2:(60:Int)<(d:Int):=by omega
   have e:(decide (400<c)||decide (60<d))=true:=by simp[hd]
   rw[e];clear e hc hd
   go_enter Tryz.func54,Tryz.ntmps54
   go_wp2;go_ret;exact⟨rfl,(by repeat (first|exact Later.refl _|assumption|refine Later.drewN ?_ _|refine Later.drew ?_|refine Later.alloc ?_ _|refine Later.grow ?_ _))⟩
  ·have h2:¬(60:Int)<(d:Int):=by omega
   have e:(decide (400<c)||decide (60<d))=false:=by simp[hc,hd]
   rw[e];clear e hc hd
   go_enter Tryz.func54,Tryz.ntmps54
   go_wp2;go_ret;exact⟨rfl,(by repeat (first|exact Later.refl _|assumption|refine Later.drewN ?_ _|refine Later.drew ?_|refine Later.alloc ?_ _|refine Later.grow ?_ _))⟩
theorem AL.base {α:Type} {K:Kind α} {ty:TypeId} {B:Nat→Prop} {w0:World} {lo lo':Nat} {w:World} {v:Value} {l:List (List α)} (h:AL K ty B w0 lo w v l) (hl:lo'≤lo):AL K ty B w0 lo' w v l:=by
 obtain⟨xs,ho,hx⟩:=h;refine⟨xs,⟨ho.1,?_⟩,hx⟩;rcases ho.2 with e|⟨g,cap,cur,e,hg,r⟩
 ·exact Or.inl e
 ·exact Or.inr ⟨g,cap,cur,e,Nat.le_trans hl hg,r⟩
end Go.Proofs.YtafmbokfkbccaaaGreatDoor
namespace Go.Proofs.YtafmbokfkbccaaaGreatDoor
open Go.RowKit Go.Sort
def Xz (all:List au) (b:List aD) (a:aF):Bool:=a.no&&(match aW a b with|none=>true|some f=>inB all f)
end Go.Proofs.YtafmbokfkbccaaaGreatDoor
namespace Go.Proofs.YtafmbokfkbccaaaGreatDoor
open Go.RowKit Go.Sort
theorem KE {a:aF} {f:au} {l m:List aD} (h:fK a f l=some m):m.length≤l.length+a.terms.length:=by
 have hk:bR l=((bR l).map raw).map bs:=by
  rw[List.map_map]
  conv=>lhs;rw[←List.map_id (bR l)]
  exact List.map_congr_left fun x _=>(kE x).symm
 have h1:=congrArg List.length (oJ hk h).2.1;have h2:=qj a.terms ((bR l).map raw);have e:∀q:List aD,(bR q).length=q.length:=fun q=>by unfold bR;rw[List.length_map]
 rw[e,List.length_map] at h1;rw[List.length_map,e] at h2;omega
end Go.Proofs.YtafmbokfkbccaaaGreatDoor
