import Derived.Test.YtaallngooaaonaaGreatDoorJT7
import Derived.Test.YtaallngooaaonaaGreatDoorJT8
import Derived.Shelf.Spec.SlicesGrow
import Derived.Test.YtaallngooaaonaaGreatDoorProg
import Derived.Test.YtaallngooaaonaaGreatDoorJT6
open Go.RowKit Go.Sort Go.Shelf
set_option maxHeartbeats 8000000
set_option maxRecDepth 100000
namespace Go.Proofs.YtaallngooaaonaaGreatDoor
theorem Tn.grown {p:Nat} {a b c:World} {row:Option Nat} (h:Tn p a b) (hg:b.grownBy c row) (hr:∀k,row=some k→a.heap.size≤k):Tn p a c:=
 ⟨hg.os.trans h.os,hg.tape.trans h.tape,hg.output.trans h.output,Nat.le_trans h.size hg.size,fun k hk ho=>(hg.block k (Nat.lt_of_lt_of_le hk h.size) (fun e=>by have:=hr k e.symm;omega)).trans (h.block k hk ho)⟩
theorem EP:∃i,Tryz.prog.info? 28=some i∧i.zero=some (.slice none 0 0)∧i.size=1∧i.bytes=24:=⟨Tryz.t28,by kernel_rfl,by kernel_rfl,by kernel_rfl,by kernel_rfl⟩
theorem Np (c d:Nat) (w:World):Calls Tryz.prog 14 #[.agg #[.int .i64 c,.int .i64 d]] w fun e w'=>e=.returned (.bool (ig (c,d)))∧ak w w':=by
 unfold ig
 by_cases hc:400<c
 ·have h1:(400:Int)<(c:Int):=by omega
  have e:(decide (400<c)||decide (60<d))=true:=by simp[hc]
  rw[e];clear e hc
  go_enter Tryz.func14,Tryz.ntmps14
  go_wp2;go_ret;exact⟨rfl,(by repeat (first|exact ak.refl _|assumption|refine ak.drewN ?_ _|refine ak.drew ?_|refine ak.alloc ?_ _|refine ak.grow ?_ _))⟩
 have h1:¬(400:Int)<(c:Int):=by omega
 by_cases hd:60<d
 ·have h2:(60:Int)<(d:Int):=by omega
  have e:(decide (400<c)||decide (60<d))=true:=by simp[hd]
  rw[e];clear e hc hd
  go_enter Tryz.func14,Tryz.ntmps14
  go_wp2;go_ret;exact⟨rfl,(by repeat (first|exact ak.refl _|assumption|refine ak.drewN ?_ _|refine ak.drew ?_|refine ak.alloc ?_ _|refine ak.grow ?_ _))⟩
 have h2:¬(60:Int)<(d:Int):=by omega
 have e:(decide (400<c)||decide (60<d))=false:=by simp[hc,hd]
 rw[e];clear e hc hd
 go_enter Tryz.func14,Tryz.ntmps14
 go_wp2;go_ret;exact⟨rfl,(by repeat (first|exact ak.refl _|assumption|refine ak.drewN ?_ _|refine ak.drew ?_|refine ak.alloc ?_ _|refine ak.grow ?_ _))⟩
theorem P6 (c d:Nat) (w:World):Calls Tryz.prog 12 #[.agg #[.int .i64 c,.int .i64 d]] w fun e w'=>e=.returned (.bool false)∧ak w w':=by
 go_enter Tryz.func12,Tryz.ntmps12
 go_wp2;go_ret;exact⟨rfl,(by repeat (first|exact ak.refl _|assumption|refine ak.drewN ?_ _|refine ak.drew ?_|refine ak.alloc ?_ _|refine ak.grow ?_ _))⟩
theorem Hu {α:Type} {LL:List (List α)} {j:Nat} {l:List α} (h:LL[j]?=some l):(LL.take (j+1)).flatten=(LL.take j).flatten++l:=by rw[List.take_add_one,h,List.flatten_append];simp
theorem Nq {α:Type} (LL:List (List α)) (j:Nat):(LL.take j).flatten.length≤LL.flatten.length:=by
 have h:LL.flatten=(LL.take j).flatten++(LL.drop j).flatten:=by rw[←List.flatten_append,List.take_append_drop]
 rw[h,List.length_append];omega
theorem Hw {α:Type}:∀{LL:List (List α)},(∀l∈LL,l≠[])→LL.length≤LL.flatten.length
 |[],_=>by simp
 |l::LL,h=>by have ih:=Hw (LL:=LL) fun q hq=>h q (by simp[hq]);have h1:0<l.length:=List.length_pos_iff.2 (h l (by simp));rw[List.flatten_cons,List.length_append,List.length_cons];omega
theorem sw {m:Nat}:∀(L:List bG),L.length+((L.flatMap bG.kids).map (cnt m)).sum=(L.map (cnt (m+1))).sum
 |[]=>rfl
 |x::L=>by rw[List.flatMap_cons,List.map_append,List.sum_append,List.map_cons,List.sum_cons,←sw L,List.length_cons];show _=1+(x.kids.map (cnt m)).sum+_;omega
theorem KH {m:Nat} {ty:TypeId} {B:Nat→Prop} {w0 w:World} {lo:Nat} {v:Value} {LL:List (List bG)} (h:qE (kZ m) ty B w0 lo w v LL):∀x∈LL.flatten,Deep m x:=fun x hx=>by obtain⟨l,hl,hxl⟩:=List.mem_flatten.1 hx;obtain⟨i,hi,e⟩:=List.getElem_of_mem hl;obtain⟨xs,_,hxs⟩:=h;obtain⟨u,hu,_⟩:=hxs i l (by rw[List.getElem?_eq_getElem hi,e]);obtain⟨c,hc⟩:=Ad hu hxl;exact yI m c x hc
theorem qE.base {α:Type} {K:aB α} {ty:TypeId} {B:Nat→Prop} {w0:World} {lo lo':Nat} {w:World} {v:Value} {l:List (List α)} (h:qE K ty B w0 lo w v l) (hl:lo'≤lo):qE K ty B w0 lo' w v l:=by
 obtain⟨xs,ho,hx⟩:=h;refine⟨xs,⟨ho.1,?_⟩,hx⟩;rcases ho.2 with e|⟨g,cap,cur,e,hg,r⟩;·exact Or.inl e
 exact Or.inr ⟨g,cap,cur,e,Nat.le_trans hl hg,r⟩
theorem pE {m:Nat} {B:Nat→Prop} {w:World} {v:Value} {l:List bG} (h:(kZ (m+1)).sl B w v l) {i:Nat} {x:bG} (hx:l[i]?=some x):
  ∃b off s kv,v=.slice (some ⟨b,off,none⟩) l.length (match v with| .slice _ _ c=>c|_=>0)∧b<w.heap.size∧B b∧w.cell? ⟨b,off+i*4,none⟩=some (.string x.fact.1)∧w.cell? ⟨b,off+i*4+1,none⟩=some s∧w.cell? ⟨b,off+i*4+2,none⟩=some (.int .i64 x.rule)∧w.cell? ⟨b,off+i*4+3,none⟩=some kv∧
   bsK.sl B w s x.fact.2∧(kZ m).sl B w kv x.kids:=by
 obtain⟨_,a,cap,rfl,h1⟩:=h;obtain⟨b,off,rfl,hB,hb,hc⟩:=h1 (by intro e;rw[e] at hx;simp at hx);obtain⟨c,⟨s,kv,rfl,h2,h3⟩,hcell⟩:=hc i x hx;exact⟨b,off,s,kv,rfl,hb,hB,(by show w.cell? ⟨b,off+i*4+0,none⟩=_;exact hcell 0 _ rfl),hcell 1 _ rfl,hcell 2 _ rfl,hcell 3 _ rfl,h2,h3⟩
theorem Dt (x:bG) (n g:Nat) (en:Nat×Nat→Bool) (pv:Value) (w:World) (hx:lV n bf w pv x) (hn:cnt (n+1) x≤4000000) (hnn:n≤4000000) (eg:∀args w,(callFunc g args).run Tryz.prog w=.ok (.enter g args) w)
  (hg:∀(c d:Nat) (w:World),Calls Tryz.prog g #[.agg #[.int .i64 c,.int .i64 d]] w fun e w'=>e=.returned (.bool (en (c,d)))∧ak w w'):
  Calls Tryz.prog 11 #[pv,.func (.func g) #[] #[]] w fun e w'=>e=.returned (.agg #[.int .i64 (fT en (n+2) [x] (0,0)).1,.int .i64 (fT en (n+2) [x] (0,0)).2])∧Below w.heap.size w w':=by
 obtain⟨s,kv,rfl,hs,hkv⟩:=hx;obtain⟨sa,sc,rfl⟩:=aB.slice hs;obtain⟨ka,kc,rfl⟩:=aB.slice hkv;obtain⟨i,i1,i2,i3,i4⟩:=EP;obtain⟨A,hA⟩:∃A,A=w.heap.size:=⟨_,rfl⟩;obtain⟨w1,hw1⟩:∃w1,w1=((((w.alloc (.cells #[.string x.fact.1,.slice sa x.fact.2.length sc,.int .i64 x.rule,.slice ka x.kids.length kc] 30)).alloc (.cells #[.int .i64 0,.int .i64 0] 40)).alloc (.cells #[.int .i64 0,.int .i64 0] 40)).alloc (.cells #[.string x.fact.1,.slice sa x.fact.2.length sc,.int .i64 x.rule,.slice ka x.kids.length kc] 30)).alloc (.cells #[.slice (some ⟨w.heap.size+3,0,none⟩) 1 1] 28):=⟨_,rfl⟩;have hL1:ak w w1:=by rw[hw1];exact(((((ak.refl w).alloc _).alloc _).alloc _).alloc _).alloc _
 have hs1:w1.heap.size=A+5:=by rw[hw1,hA];simp
 have hr4:w1.heap[A+1]?=some (.cells #[.int .i64 0,.int .i64 0] 40 (0,0)):=by
  rw[hw1,hA];simp only[bV,World.size_alloc]
  repeat (first|rw[if_pos trivial]|rw[if_pos (by omega)]|rw[if_neg (by omega)])
 have hr5:w1.heap[A+2]?=some (.cells #[.int .i64 0,.int .i64 0] 40 (0,0)):=by
  rw[hw1,hA];simp only[bV,World.size_alloc]
  repeat (first|rw[if_pos trivial]|rw[if_pos (by omega)]|rw[if_neg (by omega)])
 have hr6:w1.heap[A+3]?=some (.cells #[.string x.fact.1,.slice sa x.fact.2.length sc,.int .i64 x.rule,.slice ka x.kids.length kc] 30 (0,0)):=by
  rw[hw1,hA];simp only[bV,World.size_alloc]
  repeat (first|rw[if_pos trivial]|rw[if_pos (by omega)]|rw[if_neg (by omega)])
 have hr7:w1.heap[A+4]?=some (.cells #[.slice (some ⟨A+3,0,none⟩) 1 1] 28 (0,0)):=by
  rw[hw1,hA];simp only[bV,World.size_alloc]
  repeat (first|rw[if_pos trivial]|rw[if_pos (by omega)]|rw[if_neg (by omega)])
 have hB0:∀k,k<w.heap.size→bf k→(k≠A+2):=fun k hk _=>by omega
 have hS1:bsK.sl (fun k=>k≠A+2) w1 (.slice sa x.fact.2.length sc) x.fact.2:=aB.bL (aB.bQ hs hB0) hL1.size fun k hk _=>hL1.block hk;have hK1:(kZ n).sl (fun k=>k≠A+2) w1 (.slice ka x.kids.length kc) x.kids:=aB.bL (aB.bQ hkv hB0) hL1.size fun k hk _=>hL1.block hk;have hx1:(kZ (n+1)).sl (fun k=>k≠A+2) w1 (.slice (some ⟨A+3,0,none⟩) 1 1) [x]:=by
  refine⟨⟨by simp,by show 1≤1;omega⟩,_,1,rfl,fun _=>⟨A+3,0,rfl,by omega,by omega,fun i y hy=>?_⟩⟩;cases i with
  |succ i=>simp at hy
  |zero=>
   simp at hy;subst hy;refine⟨_,⟨_,_,rfl,hS1,hK1⟩,fun j u hu=>?_⟩;rw[Nat.zero_mul,Nat.zero_add,cell_of_row _ _ _ _ _ _ hr6];simpa using hu
 have hrow:qE (kZ (n+1)) 28 (fun k=>k≠A+2) w1 (A+3) w1 (.slice (some ⟨A+4,0,none⟩) 1 1) [[x]]:=by
  refine⟨[.slice (some ⟨A+3,0,none⟩) 1 1],⟨rfl,Or.inr ⟨A+4,1,#[.slice (some ⟨A+3,0,none⟩) 1 1],rfl,by omega,hr7,by simp,by simp[maxLen],by simp,by simp⟩⟩,fun i a hi=>?_⟩;cases i with
  |succ i=>simp at hi
  |zero=>simp at hi;subst hi;exact⟨_,hx1,rfl⟩
 have hsum:([[x]].flatten.map (cnt (n+1))).sum≤4000000:=by simpa using hn
 have P7:=au hrow;have HR5:=au hr5;have HR4:=au hr4;have HL1:=au hL1;have HG:=au hg;rw[hA] at P7 HR5 HR4;have HW1:=au hw1;obtain⟨M,hM⟩:∃M,M=fT en (n+2) [x] (0,0):=⟨_,rfl⟩;rw[←hM];have HM0:Hid (M=fT en (n+2) [[x]].flatten (0,0)):=by show _=_;rw[hM];rfl
 rw[hA] at hs1;clear hs hkv hn hg hL1 hr4 hr5 hr6 hr7 hB0 hS1 hK1 hx1 hrow hw1 hM;clear hA A
 go_enter Tryz.func11,Tryz.ntmps11
 go_wp2;rw[←HW1.out];clear HW1
 go_loopg [6] (n+1) (fun m lv wr=>∃(LL:List (List bG)) (c d:Nat),Hid (qE (kZ m) 28 (fun k=>k≠w.heap.size+2) w1 (w.heap.size+3) wr lv LL)∧Hid (∀l∈LL,l≠[])∧Hid (M=fT en (m+1) LL.flatten (c,d))∧c+(LL.flatten.map (cnt m)).sum≤4000000∧d+m≤n+1∧
  Hid (wr.heap[w.heap.size+2]?=some (.cells #[.int .i64 c,.int .i64 d] 40 (0,0)))∧Hid (Tn (w.heap.size+2) w1 wr))
 case atStart=>exact⟨[[x]],0,0,P7,(fun l hl=>by simp at hl;subst hl;simp),HM0,by omega,by omega,HR5,Tn.refl _ _⟩
 clear P7 HR5 HM0 hsum;obtain⟨LL,c,d,HRo,HNe,HM,hcn,hdm,HR,HT⟩:=hrel;obtain⟨la,ln,lc,rfl,hln⟩:∃a n c,u6=.slice a n c∧n=LL.length:=by obtain⟨a,c,e⟩:=qE.slice HRo.out;exact⟨a,_,c,e,rfl⟩
 have hsz:=HT.out.size;obtain⟨s0,s1,f0,f1,_⟩:=iH HR.out
 by_cases h0:LL=[]
 ·subst h0;obtain rfl:ln=0:=hln;have HMe:Hid (M=(c,d)):=by show _=_;rw[HM.out];unfold fT;rw[if_pos (Or.inl List.flatten_nil)]
  have hr4:wr.heap[w.heap.size+1]?=some (.cells #[.int .i64 0,.int .i64 0] 40 (0,0)):=(HT.out.block _ (by omega) (by omega)).trans HR4.out;obtain⟨t0,t1,t2,t3,_⟩:=iH hr4;have HBw:Hid (Below w.heap.size w ((wr.setCell ⟨w.heap.size+1,0,none⟩ (.int .i64 c)).setCell ⟨w.heap.size+1,1,none⟩ (.int .i64 d))):=by
   refine Below.setCell (Below.setCell (aj HL1.out.below (HT.out.below (n:=w.heap.size) (by omega) HL1.out.size) (Nat.le_refl _)) ?_ _) ?_ _;·show w.heap.size≤w.heap.size+1;omega
   show w.heap.size≤w.heap.size+1;omega
  have hz0:=dz (j:=1) (dz (j:=0) hr4 (.int .i64 c)) (.int .i64 d);have z0:((wr.setCell ⟨w.heap.size+1,0,none⟩ (.int .i64 c)).setCell ⟨w.heap.size+1,1,none⟩ (.int .i64 d)).cell? ⟨w.heap.size+1,0,none⟩=some (.int .i64 c):=by rw[cell_of_row _ _ _ _ _ _ hz0];rfl
  have z1:((wr.setCell ⟨w.heap.size+1,0,none⟩ (.int .i64 c)).setCell ⟨w.heap.size+1,1,none⟩ (.int .i64 d)).cell? ⟨w.heap.size+1,1,none⟩=some (.int .i64 d):=by rw[cell_of_row _ _ _ _ _ _ hz0];rfl
  have HZ0:=au z0;have HZ1:=au z1;clear hr4 hz0 z0 z1 HM;go_wp2;have z0:=HZ0.out;have z1:=HZ1.out;exact bodyPost_ret (v:=.agg #[.int .i64 c,.int .i64 d]) (by simp[results,Tryz.results11,go_sem,z0,z1]) rfl ⟨by rw[HMe.out],HBw.out⟩
 have hdp:=KH HRo.out;obtain⟨m,rfl⟩:∃m,gk=m+1:=by
  cases gk with
  |succ m=>exact⟨m,rfl⟩
  |zero=>
   exfalso
   cases LL with
   |nil=>exact h0 rfl
   |cons l LL=>
    cases l with
    |nil=>exact HNe.out [] (by simp) rfl
    |cons y l=>exact hdp y (by simp)
 have X6:0<LL.length:=by
  cases LL with
  |nil=>exact absurd rfl h0
  |cons l LL=>simp
 have ZM:(0:Int)<(ln:Int):=by omega
 have HE:=au (HG.out c d wr);cases hen:en (c,d) with
 |true=>
  rw[hen] at HE;have HMe:Hid (M=(c,d)):=by show _=_;rw[HM.out];unfold fT;rw[if_pos (Or.inr hen)]
  clear hen HM hdp HNe
  go_wp2_with fail
  refine HE.out.mono ?_;rintro e w2 ⟨rfl,hL2⟩;have hr5:=(hL2.block (by omega)).trans HR.out;have hr4:w2.heap[w.heap.size+1]?=some (.cells #[.int .i64 0,.int .i64 0] 40 (0,0)):=(hL2.block (by omega)).trans ((HT.out.block _ (by omega) (by omega)).trans HR4.out);obtain⟨t0,t1,t2,t3,_⟩:=iH hr4;obtain⟨s0,s1,f0,f1,_⟩:=iH hr5;have HBw:Hid (Below w.heap.size w ((w2.setCell ⟨w.heap.size+1,0,none⟩ (.int .i64 c)).setCell ⟨w.heap.size+1,1,none⟩ (.int .i64 d))):=by
   refine Below.setCell (Below.setCell (aj (aj HL1.out.below (HT.out.below (n:=w.heap.size) (by omega) HL1.out.size) (Nat.le_refl _)) hL2.below (by omega)) ?_ _) ?_ _;·show w.heap.size≤w.heap.size+1;omega
   show w.heap.size≤w.heap.size+1;omega
  have hz0:=dz (j:=1) (dz (j:=0) hr4 (.int .i64 c)) (.int .i64 d);have HZ0:Hid (((w2.setCell ⟨w.heap.size+1,0,none⟩ (.int .i64 c)).setCell ⟨w.heap.size+1,1,none⟩ (.int .i64 d)).cell? ⟨w.heap.size+1,0,none⟩=some (.int .i64 c)):=by show _=_;rw[cell_of_row _ _ _ _ _ _ hz0];rfl
  have HZ1:Hid (((w2.setCell ⟨w.heap.size+1,0,none⟩ (.int .i64 c)).setCell ⟨w.heap.size+1,1,none⟩ (.int .i64 d)).cell? ⟨w.heap.size+1,1,none⟩=some (.int .i64 d)):=by show _=_;rw[cell_of_row _ _ _ _ _ _ hz0];rfl
  clear hln hr4 hr5 hz0 hL2 HE HR HRo HT;go_wp2;have z0:=HZ0.out;have z1:=HZ1.out;exact bodyPost_ret (v:=.agg #[.int .i64 c,.int .i64 d]) (by simp[results,Tryz.results11,go_sem,z0,z1]) rfl ⟨by rw[HMe.out],HBw.out⟩
 |false=>
  rw[hen] at HE;have HMn:Hid (M=fT en (m+1) (LL.flatten.flatMap bG.kids) (c+LL.flatten.length,d+1)):=by
   show _=_;rw[HM.out]
   conv=>lhs;unfold fT
   rw[if_neg];rintro(h|h)
   ·cases LL with
    |nil=>exact h0 rfl
    |cons l LL=>
     cases l with
     |nil=>exact HNe.out [] (by simp) rfl
     |cons y l=>simp at h
   rw[hen] at h;cases h
  have hck:=sw (m:=m) LL.flatten;have hfl:=Nq LL;have hLL:LL.length≤4000000:=by have:=Hw HNe.out;omega
  clear hen HM hdp
  go_wp2_with fail
  refine HE.out.mono ?_;rintro e w2 ⟨rfl,hL2⟩;have HR2:=au ((hL2.block (by omega)).trans HR.out);have HT2:=au (HT.out.trans (Tn.of_below hL2.below));have Tc:=au (HRo.out.kept fun k hk=>hL2.block (HRo.out.lo_le k hk).2);have hsz2:=HT2.out.size;clear hL2 HE HR HT HRo s0 s1 f0 f1 hsz;go_wp2
  go_loopg [7,26] LL.length (fun q bv i wr=>∃(j:Nat) (BB:List (List bG)),j+q=LL.length∧i=.int .i64 j∧Hid (qE (kZ m) 28 (fun k=>k≠w.heap.size+2) w1 w2.heap.size wr bv BB)∧Hid (∀l∈BB,l≠[])∧Hid (BB.flatten=(LL.take j).flatten.flatMap bG.kids)∧BB.length≤(LL.take j).flatten.length∧
   ∃c1:Nat,Hid (c1=c+(LL.take j).flatten.length)∧Hid (wr.heap[w.heap.size+2]?=some (.cells #[.int .i64 (c1:Int),.int .i64 d] 40 (0,0)))∧Hid (Tn (w.heap.size+2) w2 wr))
  case atStart=>exact⟨0,[],by omega,rfl,qE.nil _ _ _ _ _ _,(fun l hl=>by cases hl),(by simp:_=_),by simp,c,(by simp:_=_),HR2,Tn.refl _ _⟩
  clear HR2;obtain⟨j,BB,hj,rfl,HBr,HBn,HBf,hbl,c1,HC1,HR,HT⟩:=hrel;obtain⟨ba,bn,bc,rfl⟩:∃a n c,u7=.slice a n c:=by obtain⟨a,c,e⟩:=qE.slice HBr.out;exact⟨a,_,c,e⟩
  have hfj:=hfl j;have RV:=HT.out.size
  by_cases hlt:j<LL.length
  ·obtain⟨l,hl⟩:∃l,LL[j]?=some l:=⟨_,List.getElem?_eq_getElem hlt⟩;obtain⟨g1,X7,u,e1,hg1,hu,hc⟩:=Tc.out.at hl;have ZN:=(Tc.out.lo_le g1 (by rw[e1];rfl)).1;simp only[Value.slice.injEq] at e1;obtain⟨rfl,_,rfl⟩:=e1;have X8:g1<wr.heap.size:=by omega
   have d0:wr.cell? ⟨g1,j,none⟩=some u:=by rw[HT.out.cell (x:=⟨g1,j,none⟩) hg1 (by show g1≠_;omega)];exact hc
   have HU:Hid (∀w',Tn (w.heap.size+2) w1 w'→(kZ (m+1)).sl (fun k=>k≠w.heap.size+2) w' u l):=fun w' h=>aB.bL hu h.size fun k hk hne=>h.block k hk hne;obtain⟨ua,uc,rfl⟩:=aB.slice hu;obtain⟨s0,s1,f0,f1,_⟩:=iH HR.out;have hft:=Hu hl;have X9:=hfl (j+1);rw[hft,List.length_append] at X9;obtain⟨cc,hcc⟩:∃cc,cc=c1+l.length:=⟨_,rfl⟩;have hwr:IntKind.i64.wrap ((c1:Int)+(l.length:Int))=(cc:Int):=by have:=HC1.out;rw[IntKind.wrap_i64];omega
   have HCC:Hid (cc=c+(LL.take j).flatten.length+l.length):=by show _=_;rw[hcc,HC1.out]
   clear hcc;obtain⟨wa,hwa⟩:∃wa,wa=wr.setCell ⟨w.heap.size+2,0,none⟩ (.int .i64 (cc:Int)):=⟨_,rfl⟩;have hTa:Tn (w.heap.size+2) wr wa:=by rw[hwa];exact Tn.setCell (p:=w.heap.size+2) (Tn.refl _ _) (x:=⟨w.heap.size+2,0,none⟩) (Or.inl rfl) _
   have hRa:wa.heap[w.heap.size+2]?=some (.cells #[.int .i64 (cc:Int),.int .i64 d] 40 (0,0)):=by rw[hwa];rw[dz (j:=0) HR.out];rfl
   have HBa:=au (HBr.out.kept (w':=wa) fun k hk=>hTa.block k (HBr.out.lo_le k hk).2 (by have:=(HBr.out.lo_le k hk).1;omega));have HTa:=au (HT.out.trans hTa);have HRa:=au hRa;have Td:=hTa.size;have HWa:=au hwa;have HFT:=au hft;clear hc hl hu hwa hTa hRa HBr HT HR hft;go_wp2;rw[←HWa.out];clear HWa d0 s0 s1 f0 f1 hwr
   go_loopg [7,38] l.length (fun q bv i wr=>∃(k:Nat) (BB:List (List bG)),k+q=l.length∧i=.int .i64 k∧Hid (qE (kZ m) 28 (fun k=>k≠w.heap.size+2) w1 w2.heap.size wr bv BB)∧Hid (∀l∈BB,l≠[])∧Hid (BB.flatten=(LL.take j).flatten.flatMap bG.kids++(l.take k).flatMap bG.kids)∧BB.length≤(LL.take j).flatten.length+k∧
    Hid (wr.heap[w.heap.size+2]?=some (.cells #[.int .i64 (cc:Int),.int .i64 d] 40 (0,0)))∧Hid (Tn (w.heap.size+2) w2 wr))
   case atStart=>exact⟨0,BB,by omega,rfl,HBa,HBn,(by rw[HBf.out];simp:_=_),by omega,HRa,HTa⟩
   clear HBa HBn HBf HRa HTa hbl Td RV X8;obtain⟨k,BB,hk,rfl,HBr,HBn,HBf,hbl,HR,HT⟩:=hrel;obtain⟨ba,bn,bc,rfl⟩:∃a n c,u7=.slice a n c:=by obtain⟨a,c,e⟩:=qE.slice HBr.out;exact⟨a,_,c,e⟩
   have RV:=HT.out.size
   by_cases hltk:k<l.length
   ·obtain⟨y,hy⟩:∃y,l[k]?=some y:=⟨_,List.getElem?_eq_getElem hltk⟩;obtain⟨b2,o2,s,kv,e2,hb2,hB2,c0,c1,c2,c3,hs2,hk2⟩:=pE (HU.out wr (HT2.out.trans HT.out)) hy;simp only[Value.slice.injEq] at e2;obtain⟨rfl,_,_⟩:=e2;obtain⟨xa,xc,rfl⟩:=aB.slice hs2;have HKv:Hid ((kZ m).sl (fun k=>k≠w.heap.size+2) w1 kv y.kids):=by
     obtain⟨b3,o3,s3,kv3,e3,hb3,hB3,k0,k1,k2,k3,hs3,hk3⟩:=pE (HU.out w1 (Tn.refl _ _)) hy;simp only[Value.slice.injEq,Option.some.injEq,Addr.mk.injEq] at e3;obtain⟨⟨rfl,rfl,_⟩,_,_⟩:=e3;have:=(HT2.out.trans HT.out).cell (x:=⟨b2,o2+k*4+3,none⟩) hb3 hB3;rw[c3,k3] at this;rw[Option.some.inj this];exact hk3
    obtain⟨ya,yc,rfl⟩:=aB.slice hk2;have htk:(l.take (k+1)).flatMap bG.kids=(l.take k).flatMap bG.kids++y.kids:=by rw[List.take_add_one,hy,List.flatMap_append];simp
    obtain⟨wb,hwb⟩:∃wb,wb=wr.alloc (.cells #[.string y.fact.1,.slice xa y.fact.2.length xc,.int .i64 y.rule,.slice ya y.kids.length yc] 30):=⟨_,rfl⟩;have hLb:ak wr wb:=by rw[hwb];exact(ak.refl wr).alloc _
    have hRx:wb.heap[wr.heap.size]?=some (.cells #[.string y.fact.1,.slice xa y.fact.2.length xc,.int .i64 y.rule,.slice ya y.kids.length yc] 30 (0,0)):=by rw[hwb];exact heap_alloc_new wr _
    have x3:wb.cell? ⟨wr.heap.size,3,none⟩=some (.slice ya y.kids.length yc):=by rw[cell_of_row _ _ _ _ _ _ hRx];rfl
    have hTb:=HT.out.trans (Tn.of_below hLb.below);have hRb:=(hLb.block (Array.getElem?_eq_some_iff.1 HR.out).1).trans HR.out;have hBb:=HBr.out.kept (w':=wb) fun k hk=>hLb.block (HBr.out.lo_le k hk).2;have Ya:=hTb.size
    by_cases hke:y.kids=[]
    ·have hz:¬(0:Int)<(y.kids.length:Int):=by rw[hke];simp
     have HF2:Hid (BB.flatten=(LL.take j).flatten.flatMap bG.kids++(l.take (k+1)).flatMap bG.kids):=by show _=_;rw[htk,hke,List.append_nil];exact HBf.out
     have HBb:=au hBb;have HRb:=au hRb;have HTb:=au hTb;have HWb:=au hwb;clear hs2 hk2 hy htk hwb hRx hLb hTb hRb hBb hke HKv HBr HR HT HBf
     go_wp2_with (rw[←HWb.out])
     go_roundg (l.length- (k+1))
     case measure=>omega
     case rel=>exact⟨k+1,BB,by omega,by go_num,HBb,HBn,HF2,by omega,HRb,HTb⟩
    have hz:(0:Int)<(y.kids.length:Int):=by have:0<y.kids.length:=List.length_pos_iff.2 hke;omega
    obtain⟨v',w6,hrun,hO6,hg6,hd6⟩:=hBb.more Tryz.underlying66 i1 i2 i3 i4 Ya HKv.out (by omega);have hT6:=(hTb.alloc (.cells #[.slice ya y.kids.length yc] 28)).grown hg6 fun k hk=>(hBb.lo_le k hk).1;have hR6:w6.heap[w.heap.size+2]?=some (.cells #[.int .i64 (cc:Int),.int .i64 d] 40 (0,0)):=by have hlt2:=(Array.getElem?_eq_some_iff.1 hRb).1;rw[hg6.block _ (by simp;omega) (fun e=>by have:=(hBb.lo_le _ e.symm).1;omega),Below.heap_alloc _ _ _ hlt2];exact hRb
    obtain⟨a6,n6,c6,rfl⟩:∃a n c,v'=.slice a n c:=by obtain⟨a,c,e⟩:=qE.slice hO6;exact⟨a,_,c,e⟩
    have HN6:Hid (∀q∈BB++[y.kids],q≠[]):=fun q hq=>by
     rcases List.mem_append.1 hq with h|h;·exact HBn.out q h
     simp at h;subst h;exact hke
    have HF6:Hid ((BB++[y.kids]).flatten=(LL.take j).flatten.flatMap bG.kids++(l.take (k+1)).flatMap bG.kids):=by show _=_;rw[List.flatten_append,htk,HBf.out];simp
    have HO6:=au hO6;have HR6:=au hR6;have HT6:=au hT6;have HRn:=au hrun;have hb6:(BB++[y.kids]).length≤(LL.take j).flatten.length+(k+1):=by rw[List.length_append];simp only[List.length_cons,List.length_nil];omega
    have HWb:=au hwb;clear hs2 hk2 hy htk hwb hRx hLb hTb hRb hBb hke HKv HBr HR HT HBf HBn hrun hO6 hg6 hd6 hT6 hR6
    go_wp2_with (first|(rw[←HWb.out])|(at_builtin;refine wpList_append_run rfl (.tmp 46) (.tmp 49) 66 rfl _ _ _ _ rfl rfl HRn.out ?_))
    go_roundg (l.length- (k+1))
    case measure=>omega
    case rel=>exact⟨k+1,_,by omega,by go_num,HO6,HN6,HF6,hb6,HR6,HT6⟩
   have hke:l.take k=l:=List.take_of_length_le (by omega);have HF2:Hid (BB.flatten=(LL.take (j+1)).flatten.flatMap bG.kids):=by show _=_;rw[HFT.out,List.flatMap_append];have:=HBf.out;rw[hke] at this;exact this
   have hl2:BB.length≤(LL.take (j+1)).flatten.length:=by rw[HFT.out,List.length_append];omega
   have HC2:Hid (cc=c+(LL.take (j+1)).flatten.length):=by show _=_;rw[HFT.out,List.length_append,←Nat.add_assoc,HCC.out]
   clear hke HBf;go_wp2
   go_roundg (LL.length- (j+1))
   case measure=>omega
   case rel=>exact⟨j+1,BB,by omega,by go_num,HBr,HBn,HF2,hl2,cc,HC2,HR,HT⟩
  have he:LL.take j=LL:=List.take_of_length_le (by omega);have Vu:Hid (BB.flatten=LL.flatten.flatMap bG.kids):=by have:=HBf.out;rw[he] at this;exact this
  have HC2:Hid (c1=c+LL.flatten.length):=by have:=HC1.out;rw[he] at this;exact this
  have hR:=HR.out;obtain⟨s0,s1,f0,f1,_⟩:=iH hR;obtain⟨d2,hd2⟩:∃d2,d2=d+1:=⟨_,rfl⟩;have hwd:IntKind.i64.wrap ((d:Int)+1)=(d2:Int):=by rw[IntKind.wrap_i64];omega
  obtain⟨wa,hwa⟩:∃wa,wa=wr.setCell ⟨w.heap.size+2,1,none⟩ (.int .i64 (d2:Int)):=⟨_,rfl⟩;have hTa:Tn (w.heap.size+2) wr wa:=by rw[hwa];exact Tn.setCell (p:=w.heap.size+2) (Tn.refl _ _) (x:=⟨w.heap.size+2,1,none⟩) (Or.inl rfl) _
  have HRa:Hid (wa.heap[w.heap.size+2]?=some (.cells #[.int .i64 (c1:Int),.int .i64 (d2:Int)] 40 (0,0))):=by show _=_;rw[hwa];rw[dz (j:=1) hR];rfl
  have HBa:=au ((HBr.out.kept (w':=wa) fun k hk=>hTa.block k (HBr.out.lo_le k hk).2 (by have:=(HBr.out.lo_le k hk).1;omega)).base (lo':=w.heap.size+3) (by omega));have HTa:=au (HT2.out.trans (HT.out.trans hTa));have HWa:=au hwa;have HM2:Hid (M=fT en (m+1) BB.flatten (c1,d2)):=by show _=_;rw[Vu.out,HC2.out,hd2];exact HMn.out
  have Yb:c1+(BB.flatten.map (cnt m)).sum≤4000000:=by rw[Vu.out,HC2.out];omega
  have Yc:d2+m≤n+1:=by omega
  clear he HBf hR HR HBr HT hTa hwa HMn Tc hd2 HC1 HC2;go_wp2;rw[←HWa.out]
  go_roundg m
  case measure=>omega
  case rel=>exact⟨BB,c1,d2,HBa,HBn,HM2,Yb,Yc,HRa,HTa⟩
end Go.Proofs.YtaallngooaaonaaGreatDoor
section
namespace Go.Proofs
open Go.Shelf
def Tryz.growBinds_ren:Go.Shelf.Ren:=⟨fun|4=>121|n=>n,fun|22=>106|25=>108|3=>3|4=>4|9=>9|20=>20|0=>0|n=>n,fun|n=>n⟩
theorem Tryz.growBinds:Go.Proofs.Lays8.n4 Tryz.prog Tryz.growBinds_ren:={
 mixed:=by kernel_rfl
 f4:=⟨Tryz.f121.name,by decide,Tryz.func121.trans (congrArg some (by kernel_rfl))⟩
 t0:=Tryz.underlying0
 a0:=Tryz.isAgg0
 z0:=Tryz.sizeOf0
 v0:=Tryz.zeroValue0
 t3:=Tryz.underlying3
 a3:=Tryz.isAgg3
 z3:=Tryz.sizeOf3
 v3:=Tryz.zeroValue3
 t4:=Tryz.underlying4
 a4:=Tryz.isAgg4
 z4:=Tryz.sizeOf4
 v4:=Tryz.zeroValue4
 t9:=Tryz.underlying9
 a9:=Tryz.isAgg9
 z9:=Tryz.sizeOf9
 v9:=Tryz.zeroValue9
 t20:=Tryz.underlying20
 a20:=Tryz.isAgg20
 z20:=Tryz.sizeOf20
 v20:=Tryz.zeroValue20
 t22:=Tryz.underlying106
 a22:=Tryz.isAgg106
 z22:=Tryz.sizeOf106
 v22:=Tryz.zeroValue106}
end Go.Proofs
end
namespace Go.Proofs.YtaallngooaaonaaGreatDoor
theorem yK:∃i,Tryz.prog.info? 108=some i∧i.zero=some (.agg #[.string ByteArray.empty,.string ByteArray.empty])∧i.size=2∧i.bytes=32:=⟨Tryz.t108,by kernel_rfl,by kernel_rfl,by kernel_rfl,by kernel_rfl⟩
def zD (b:aD):List Value:=[.string b.1,.string b.2]
def iM (l:List aD):List Value:=l.flatMap zD
theorem yL (l m:List aD):iM (l++m)=iM l++iM m:=by simp[iM]
theorem mU:∀l:List aD,(iM l).length=l.length*2
 |[]=>rfl
 |b::l=>by have:=mU l;simp only[iM,List.flatMap_cons,List.length_append,zD,List.length_cons] at this⊢;rw[this];simp;omega
theorem mD:∀(l:List aD) (i j:Nat),j<2→(iM l)[i*2+j]?=(l[i]?).bind fun b=>(zD b)[j]?
 |[],i,j,_=>by simp[iM]
 |b::l,0,j,hj=>by
  have:j=0∨j=1:=by omega
  rcases this with rfl|rfl <;> simp[iM,zD]
 |b::l,i+1,j,hj=>by
  have e:(i+1)*2+j=(i*2+j)+2:=by omega
  rw[e];simp only[List.getElem?_cons_succ];rw[←mD l i j hj];show([.string b.1,.string b.2]++iM l)[i*2+j+2]?=_;rw[List.getElem?_append_right (by simp)];simp
theorem ER {l:List aD}:∀u∈iM l,u.oneCell'=true:=fun u hu=>by obtain⟨b,_,hb⟩:=List.mem_flatMap.1 hu;simp[zD] at hb;rcases hb with rfl|rfl <;> rfl
theorem tV {ty:TypeId} {lo:Nat} {w:World} {v:Value} {l:List aD} (h:bq.own ty lo w v l):w.ownsRow lo ty 2 v l.length (iM l):=by
 obtain⟨xs,ho,hx⟩:=h;have e:xs=iM l:=by
  apply List.ext_getElem?
  intro n
  by_cases hn:n<l.length*2
  ·have hi:n/2<l.length:=by omega
   obtain⟨c,rfl,hc⟩:=hx (n/2) _ (List.getElem?_eq_getElem hi);have hm:n%2<2:=Nat.mod_lt _ (by omega);have e1:n=n/2*2+n%2:=by omega
   have e2:=mD l (n/2) (n%2) hm;rw[List.getElem?_eq_getElem hi] at e2;rw[←e1] at e2;rw[e2];rcases(by omega:n%2=0∨n%2=1) with h0|h0
   ·have:=hc 0 _ rfl;rw[show n/2*bq.size+0=n by show n/2*2+0=n;omega] at this;rw[this,h0];rfl
   have:=hc 1 _ rfl;rw[show n/2*bq.size+1=n by show n/2*2+1=n;omega] at this;rw[this,h0];rfl
  have h1:xs.length=l.length*2:=ho.1;rw[List.getElem?_eq_none (by omega),List.getElem?_eq_none (by rw[mU];omega)]
 rw[←e];exact ho
theorem Mw {ty:TypeId} {lo:Nat} {w:World} {v:Value} {l:List aD} (h:w.ownsRow lo ty 2 v l.length (iM l)):bq.own ty lo w v l:=by refine⟨iM l,h,fun i x hi=>⟨_,rfl,fun j u hu=>?_⟩⟩;have hj:j<2:=(List.getElem?_eq_some_iff.1 hu).1;show(iM l)[i*2+j]?=_;rw[mD l i j hj,hi];exact hu
theorem sD {B:Nat→Prop} {w:World} {a:Addr} {n cap:Nat} {l:List aD} (h:bq.sl B w (.slice (some a) n cap) l):∀j u,(iM l)[j]?=some u→w.cell? (a.add j)=some u:=fun j u hu=>by
 have hj:j<l.length*2:=by rw[←mU];exact(List.getElem?_eq_some_iff.1 hu).1
 have hi:j/2<l.length:=by omega
 obtain⟨b,off,c,e,hb,rfl,hc⟩:=aB.bO h (List.getElem?_eq_getElem hi);cases e;have e1:j=j/2*2+j%2:=by omega
 have e2:=mD l (j/2) (j%2) (Nat.mod_lt _ (by omega));rw[List.getElem?_eq_getElem hi] at e2;rw[←e1,hu] at e2;have:=hc (j%2) u e2.symm;rw[Addr.add_lit];rw[show off+j/2*bq.size+j%2=off+j by show off+j/2*2+j%2=off+j;omega] at this;exact this
theorem iC {lo:Nat} {w:World} {v:Value} {l m:List aD} {a:Option Addr} {cap:Nat} (h:bq.own 108 lo w v l) (hm:bq.sl bf w (.slice a m.length cap) m) (hl:l.length+m.length≤4398046511104) (hlo:lo≤w.heap.size):
  ∃v' w',(Builtin.append_ #[106,106] 106 #[v,.slice a m.length cap]).run Tryz.prog w=.ok v' w'∧bq.own 108 lo w' v' (l++m)∧w.grownBy w' v.ownBlock∧w.drawn≤w'.drawn∧∀k,v'.ownBlock=some k→v.ownBlock=some k∨w.heap.size≤k:=by
 obtain⟨i,i1,i2,i3,i4⟩:=yK;have ho:=tV h;cases a with
 |none=>
  have hm0:m=[]:=by refine Classical.byContradiction fun hne=>?_;obtain⟨_,a',_,e,h1⟩:=hm;simp only[Value.slice.injEq] at e;obtain⟨b,off,e',_⟩:=h1 hne;rw[e'] at e;cases e.1
  subst hm0;refine⟨v,w,?_,by rw[List.append_nil];exact h,⟨rfl,rfl,rfl,Nat.le_refl _,fun _ _ _=>rfl⟩,Nat.le_refl _,fun k hk=>Or.inl hk⟩;rcases ho.2 with⟨rfl,e0⟩|⟨g,c,cur,rfl,_,_,hnc,_⟩
  ·simp[Builtin.append_,run_underlying Tryz.underlying106,sizeOf,typeInfo,i1,Builtin.lenOf,Builtin.firstCells]
  simp[Builtin.append_,run_underlying Tryz.underlying106,sizeOf,typeInfo,i1,Builtin.lenOf,Builtin.firstCells,hnc,storeCells]
 |some a=>
  obtain⟨v',w',hrun,r1,r2,r3,r4⟩:=dZ (P:=Tryz.prog) w lo 106 106 108 i _ 2 32 Tryz.underlying106 i1 i2 i3 i4 rfl (by omega) v l.length (iM l) ho a m.length cap (iM m) (mU m) (sD hm) ER (by simp only[maxLen];omega) (by omega) hlo;exact⟨v',w',hrun,Mw (by rw[List.length_append,yL];exact r1),r2,r3,r4⟩
theorem ES {lo:Nat} {w:World} {v:Value} {l:List aD} (h:bq.own 108 lo w v l) (x y:ByteArray) (hl:l.length+1≤4398046511104) (hlo:lo≤w.heap.size):
  ∃v' w',(Builtin.append_ #[106,106] 106 #[v,.slice (some ⟨w.heap.size,0,none⟩) 1 1]).run Tryz.prog (w.alloc (.cells #[.string x,.string y] 108))=.ok v' w'∧bq.own 108 lo w' v' (l++[(x,y)])∧(w.alloc (.cells #[.string x,.string y] 108)).grownBy w' v.ownBlock∧w.drawn≤w'.drawn∧
   ∀k,v'.ownBlock=some k→v.ownBlock=some k∨w.heap.size<k:=by
 obtain⟨i,i1,i2,i3,i4⟩:=yK;exact aB.jY h Tryz.underlying106 i1 i2 i3 i4 rfl (by decide) (c:=[.string x,.string y]) (x:=(x,y)) rfl (by omega) (by simp[maxLen];omega) hlo
theorem Te (w:World) (n:Nat) (hn:n≤4398046511104):Calls Tryz.prog 121 #[.slice none 0 0,.int .i64 n] w fun e w'=>
  ∃v',e=.returned v'∧bq.own 108 w.heap.size w' v' []∧ak w w':=by
 by_cases h0:n=0
 ·subst h0;exact(Any8.slices_Grow_room Tryz.growBinds none 0 0 0 w (Nat.le_refl _) (by omega) (by omega) (Nat.le_refl _)).mono fun e w' ⟨he,hw⟩=>
   ⟨_,he,bq.fD _ _ _,by rw[hw];exact ak.refl _⟩
 obtain⟨i,i1,i2,i3,i4⟩:=yK;refine(Any8.slices_Grow_grow Tryz.growBinds i _ i1 i2 (by omega) none 0 0 n [] w (Nat.le_refl _) (by omega) (by rw[i4];omega) (by omega) (by simp) (fun _=>rfl) (fun a h=>by cases h)).mono fun e w' ⟨he,hw⟩=>⟨_,he,?_,?_⟩
 ·rw[hw];have hcm:=grownCap_le_maxLen w (0+n) 0 (Tryz.growBinds_ren.t 25) (by simp only[maxLen];omega);have hge:=grownCap_ge w (0+n) 0 (Tryz.growBinds_ren.t 25);refine Mw (World.ownsRow_made (base:=w.heap.size) (e:=108) (size:=2) w.drew _ _ (Nat.le_refl _) hcm ?_);simp only[Array.size_append,List.size_toArray,size_zeroCells];show 0+(0+n-0)*2+(grownCap w (0+n) 0 (Tryz.growBinds_ren.t 25)- (0+n))*2=_;omega
 rw[hw];exact(ak.refl w).drew.alloc _
theorem pF {ty:TypeId} {lo:Nat} {w w':World} {v:Value} {l:List aD} (h:bq.own ty lo w v l) (k:ak w w'):bq.own ty lo w' v l:=kI h fun _ e=>k.block (aB.dL h e).2
theorem Nr (w:World) (c cp:Nat) (va vb:Value) (la lb:List aD) (ha:bq.sl bf w va la) (hb:bq.sl bf w vb lb) (hn:la.length+lb.length≤4398046511104) (hc0:w.cell? ⟨c,0,none⟩=some va) (hc1:w.cell? ⟨c,1,none⟩=some vb) (hcb:c<w.heap.size):
  Calls Tryz.prog 91 #[.slice (some ⟨c,0,none⟩) 2 cp] w fun e w'=>∃v',e=.returned v'∧bq.own 108 w.heap.size w' v' (la++lb)∧ak w w':=by
 have HA:=au ha;have HB:=au hb;obtain⟨a1,c1,rfl⟩:=aB.slice ha;obtain⟨a2,c2,rfl⟩:=aB.slice hb;clear ha hb;have s1:¬((la.length:Int)<0):=by omega
 have s2:¬((la.length:Int)+(lb.length:Int)<0):=by omega
 go_enter Tryz.func91,Tryz.ntmps91
 go_wp2;refine wp_loop_rounds 3 ?_;rw[rounds_succ];go_wp2;rw[rounds_succ];go_wp2;rw[rounds_succ]
 go_wp2_with fail
 rw[show((la.length:Int)+(lb.length:Int))=((la.length+lb.length:Nat):Int) by omega];refine(Te w (la.length+lb.length) hn).mono ?_;rintro e w1 ⟨v1,rfl,hR1,hL1⟩;obtain⟨v2,w2,Vv,hR2,hg2,hd2,hk2⟩:=iC hR1 (aB.aK HA.out hL1) (by simp;omega) hL1.size;have hL2:ak w w2:=ak.of_below (hL1.below.grown hg2 hL1.size fun k hk=>(aB.dL hR1 hk).1) (Nat.le_trans hL1.drawn hd2);obtain⟨v3,w3,Vw,hR3,hg3,hd3,hk3⟩:=iC hR2 (aB.aK HB.out hL2) (by simp;omega) hL2.size;have hL3:ak w w3:=ak.of_below (hL2.below.grown hg3 hL2.size fun k hk=>(aB.dL hR2 hk).1) (Nat.le_trans hL2.drawn hd3);rw[List.nil_append] at hR3;have y0:w1.cell? ⟨c,0,none⟩=some (.slice a1 la.length c1):=by rw[hL1.cell (p:=⟨c,0,none⟩) hcb];exact hc0
 have y1:w1.cell? ⟨c,1,none⟩=some (.slice a2 lb.length c2):=by rw[hL1.cell (p:=⟨c,1,none⟩) hcb];exact hc1
 have y2:w2.cell? ⟨c,1,none⟩=some (.slice a2 lb.length c2):=by rw[hL2.cell (p:=⟨c,1,none⟩) hcb];exact hc1
 have R2:=au Vv;have R3:=au Vw;have HR:=au hR3;clear Vv Vw hR1 hR2 hR3 hg2 hg3;go_wp2;refine wp_loop_rounds 3 ?_;rw[rounds_succ]
 go_wp2_with (at_builtin;refine wpList_append_run rfl (.tmp 31) (.tmp 32) 106 rfl _ _ _ _ rfl rfl R2.out ?_)
 rw[rounds_succ]
 go_wp2_with (at_builtin;refine wpList_append_run rfl (.tmp 31) (.tmp 32) 106 rfl _ _ _ _ rfl rfl R3.out ?_)
 rw[rounds_succ];go_wp2;go_ret;exact⟨v3,rfl,HR.out,hL3⟩
theorem Ah:∀args w,(callFunc 88 args).run Tryz.prog w=.ok (.enter 88 args) w:=enters_of Tryz.func88 (by kernel_rfl) rfl
theorem Hy (cl cm:Nat) (u um:Value) (l m:List aD) (w0:World) (hc:w0.cell? ⟨cl,0,none⟩=some u) (hb:cl<w0.heap.size) (hd:w0.cell? ⟨cm,0,none⟩=some um) (he:cm<w0.heap.size) (hu:bq.sl bf w0 u l) (hm:bq.sl bf w0 um m):
  Ng 88 #[.pointer (some ⟨cl,0,none⟩),.pointer (some ⟨cm,0,none⟩)] (l++m) w0:=by
 intro w v hL;have HG:=au (RU u l v w (aB.aK hu hL));have HM:Hid (∀w2,ak w w2→w2.cell? ⟨cm,0,none⟩=some um∧cm<w2.heap.size∧Calls Tryz.prog 89 #[um,.string v] w2 fun e w'=>e=.returned (kX (dB m v))∧Hid (ak w w')):=fun w2 h2=>
  ⟨by rw[(hL.trans h2).cell he];exact hd,Nat.lt_of_lt_of_le he (hL.trans h2).size,(RU um m v w2 (aB.aK hm (hL.trans h2))).mono fun e w' ⟨h3,h4⟩=>⟨h3,h2.trans h4⟩⟩
 have hc':w.cell? ⟨cl,0,none⟩=some u:=by rw[hL.cell hb];exact hc
 have hb':cl<w.heap.size:=Nat.lt_of_lt_of_le hb hL.size;obtain⟨a,cap,rfl⟩:=aB.slice hu;obtain⟨am,ZO,rfl⟩:=aB.slice hm;have E:=au (fE l m v);clear hu hm hc hb hd he hL;show Calls _ _ #[.string v,.pointer (some ⟨cl,0,none⟩),.pointer (some ⟨cm,0,none⟩)] _ _;cases hg:dB l v with
 |some s=>
  have E1:Hid (dB (l++m) v=some s):=by show _=_;rw[E.out,hg]
  rw[hg] at HG;unfold kX at HG;simp only[Option.getD_some,Option.isSome_some] at HG;clear HM hg E
  go_enter Tryz.func88,Tryz.ntmps88
  go_wp2_with (go_at_call 89;refine HG.out.mono ?_;rintro e w2 ⟨rfl,hL2⟩;replace hL2:=au hL2)
  go_ret2
  exact⟨by rw[E1.out];rfl,bK hL2⟩
 |none=>
  have E1:Hid (dB (l++m) v=dB m v):=by show _=_;rw[E.out,hg]
  rw[hg] at HG;unfold kX at HG HM;simp only[Option.getD_none,Option.isSome_none] at HG;clear hg E;generalize hgm:(dB m v).getD ByteArray.empty=s at*;generalize hbm:(dB m v).isSome=b at*;have E2:Hid (kX (dB (l++m) v)=.tuple #[.string s,.bool b]):=by show _=_;rw[E1.out];unfold kX;rw[hgm,hbm]
  clear hgm hbm E1
  go_enter Tryz.func88,Tryz.ntmps88
  go_wp2_with fail
  refine HG.out.mono ?_;rintro e w2 ⟨rfl,hL2⟩;obtain⟨y0,y1,hcall⟩:=HM.out w2 hL2;have HC:=au hcall;clear hcall hL2 HM HG
  go_wp2_with fail
  refine HC.out.mono ?_;rintro e w3 ⟨rfl,hL3⟩;go_wp2
  go_ret2
  exact⟨by rw[E2.out];rfl,hL3.out⟩
theorem BZ {l:List aD} {ts:List dK} {xs:List ByteArray} {j:Nat} {t:dK} {x:ByteArray} (ht:ts[j]?=some t) (hx:xs[j]?=some x):
  dH l (ts.drop j) (xs.drop j)=match bE l t with|none=>dH (l++[(bs t.2,x)]) (ts.drop (j+1)) (xs.drop (j+1))|some s=>if s=x then dH l (ts.drop (j+1)) (xs.drop (j+1)) else none:=by
 obtain⟨h1,e1⟩:=List.getElem?_eq_some_iff.1 ht;obtain⟨h2,e2⟩:=List.getElem?_eq_some_iff.1 hx;rw[List.drop_eq_getElem_cons h1,List.drop_eq_getElem_cons h2,e1,e2];rfl
def RX (w0 w:World) (v:Value) (r:Option (List aD)):Prop:=match r with
 |none=>v=.slice none 0 0
 |some m=>bq.own 108 w0.heap.size w v m
theorem Ns (a:aI) (sa:Option Addr) (cap:Nat) (fn:ByteArray) (fa:Option Addr) (nf Hz:Nat) (sb:Option Addr) (nb Eu:Nat) (w:World) (h:(decide (bs a.name=fn)&&decide ((a.terms.length:Int)=nf))=false):
  Calls Tryz.prog 61 #[.agg #[.bool a.no,.string (bs a.name),.slice sa a.terms.length cap],.agg #[.string fn,.slice fa nf Hz],.slice sb nb Eu] w fun e w'=>e=.returned (.tuple #[.slice none 0 0,.bool false])∧ak w w':=by
 obtain⟨no,name,ts⟩:=a;dsimp only at*;generalize bs name=nm at*;have E:=jK (a:=nm) (b:=fn);cases hq:(nm.toList==fn.toList) with
 |false=>
  clear h E
  go_enter Tryz.func61,Tryz.ntmps61
  go_wp2
  go_ret2
  exact⟨rfl,(by repeat (first|exact ak.refl _|assumption|refine ak.drewN ?_ _|refine ak.drew ?_|refine ak.alloc ?_ _|refine ak.grow ?_ _))⟩
 |true=>
  rw[←E,hq] at h;have hne:¬((ts.length:Int)=(nf:Int)):=by simpa using h
  have hne2:((ts.length:Int) != (nf:Int))=true:=by simpa using hne
  clear h E hne
  go_enter Tryz.func61,Tryz.ntmps61
  go_wp2
  go_ret2
  exact⟨rfl,(by repeat (first|exact ak.refl _|assumption|refine ak.drewN ?_ _|refine ak.drew ?_|refine ak.alloc ?_ _|refine ak.grow ?_ _))⟩
theorem KI (a:aI) (sa:Option Addr) (cap:Nat) (xs:List ByteArray) (fa:Option Addr) (Hz:Nat) (u:Value) (l:List aD) (w:World) (ht:eD.sl bf w (.slice sa a.terms.length cap) a.terms) (hf:Strs w (.slice fa a.terms.length Hz) xs) (hu:bq.sl bf w u l)
  (hlen:xs.length=a.terms.length) (hn:l.length+a.terms.length≤4398046511104):
  Calls Tryz.prog 61 #[.agg #[.bool a.no,.string (bs a.name),.slice sa a.terms.length cap],.agg #[.string (bs a.name),.slice fa a.terms.length Hz],u] w fun e w'=>∃v,e=.returned (.tuple #[v,.bool (dH l a.terms xs).isSome])∧RX w w' v (dH l a.terms xs)∧ak w w':=by
 obtain⟨sb,Eu,rfl⟩:=aB.slice hu;have HT:=au ht;have HU:=au hu;have HFS:=au hf;have HLen:=au hlen;clear ht hu hf hlen;obtain⟨no,name,ts⟩:=a;dsimp only at*;generalize bs name=nm at*;have hq:(nm.toList==nm.toList)=true:=by simp
 have hq2:((ts.length:Int) != (ts.length:Int))=false:=by simp
 go_enter Tryz.func61,Tryz.ntmps61
 go_wp2
 go_loopg [32] ts.length (fun g i wr=>∃j:Nat,j+g=ts.length∧i=.int .i64 j∧∃mm o,Hid (dH l ts xs=dH (l++mm) (ts.drop j) (xs.drop j))∧Hid (bq.own 108 (w.heap.size+4) wr o mm)∧Hid (mm.length≤j)∧Hid (ak w wr)∧w.heap.size+4≤wr.heap.size∧
  Hid (wr.heap[w.heap.size+1]?=some (.cells #[.string nm,.slice fa ts.length Hz] 27 (0,0)))∧Hid (wr.heap[w.heap.size+2]?=some (.cells #[.slice sb l.length Eu] 106 (0,0)))∧Hid (wr.heap[w.heap.size+3]?=some (.cells #[o] 106 (0,0))))
 case atStart=>
  refine⟨0,by omega,rfl,[],.slice none 0 0,(by simp:_=_),bq.fD _ _ _,(Nat.le_refl _:_≤_),((by repeat (first|exact ak.refl _|assumption|refine ak.drewN ?_ _|refine ak.drew ?_|refine ak.alloc ?_ _|refine ak.grow ?_ _)):ak _ _),by simp,?_,?_,?_⟩
  all_goals
   show _=_;simp only[bV,World.size_alloc]
   repeat (first|rw[if_pos trivial]|rw[if_pos (by omega)]|rw[if_neg (by omega)])
 obtain⟨j,hj,rfl,mm,o,HE,HO,HML,HL,hsz,H1,H2,H3⟩:=hrel;obtain⟨ao,no',co,rfl⟩:∃a n c,o=.slice a n c:=by obtain⟨a,c,e⟩:=aB.aY HO.out;exact⟨a,_,c,e⟩
 by_cases hlt:j<ts.length
 ·obtain⟨x,hx⟩:∃x,ts[j]?=some x:=⟨_,List.getElem?_eq_getElem hlt⟩;have hltx:j<xs.length:=by rw[HLen.out];exact hlt
  obtain⟨y,hy⟩:∃y,xs[j]?=some y:=⟨_,List.getElem?_eq_getElem hltx⟩;obtain⟨b1,o1,_,rfl,hb1,rfl,hc⟩:=aB.bO HT.out hx;have d0:wr.cell? ⟨b1,o1+j*2,none⟩=some (.bool x.1):=by rw[HL.out.cell hb1];exact hc 0 _ rfl
  have d1:wr.cell? ⟨b1,o1+j*2+1,none⟩=some (.string (bs x.2)):=by rw[HL.out.cell hb1];exact hc 1 _ rfl
  have hbr:b1<wr.heap.size:=by omega
  obtain⟨b2,o2,rfl,hb2,hyc⟩:∃b2 o2,fa=some ⟨b2,o2,none⟩∧b2<w.heap.size∧w.cell? ⟨b2,o2+j,none⟩=some (.string y):=by obtain⟨_,a',cap',e,h1⟩:=HFS.out;simp only[Value.slice.injEq] at e;obtain⟨rfl,_,_⟩:=e;obtain⟨b,off,rfl,hb,hcc⟩:=h1 (by intro e;rw[e] at hltx;simp at hltx);have:=hcc j hltx;rw[List.getD_eq_getElem?_getD,hy] at this;exact⟨b,off,rfl,hb,this⟩
  have HS:=au (BZ (l:=l++mm) hx hy);obtain⟨wt,hwt⟩:∃wt,wt=wr.alloc (.cells #[.bool x.1,.string (bs x.2)] 101):=⟨_,rfl⟩;have hLt:ak w wt:=by rw[hwt];exact HL.out.alloc _
  have hLr:ak wr wt:=by rw[hwt];exact(ak.refl _).alloc _
  have hst:wt.heap.size=wr.heap.size+1:=by rw[hwt];simp
  have hbl:∀k,k<wr.heap.size→wt.heap[k]?=wr.heap[k]?:=fun k hk=>by rw[hwt];exact Below.heap_alloc _ _ _ hk
  have htm:wt.heap[wr.heap.size]?=some (.cells #[.bool x.1,.string (bs x.2)] 101 (0,0)):=by rw[hwt];exact heap_alloc_new _ _
  have K2:=Ka ((hbl _ (by omega)).trans H2.out);have K3:=Ka ((hbl _ (by omega)).trans H3.out);have hml:=HML.out;have HW:Hid (Calls Tryz.prog 90 #[.agg #[.bool x.1,.string (bs x.2)],.func (.func 88) #[] #[.pointer (some ⟨w.heap.size+2,0,none⟩),.pointer (some ⟨w.heap.size+3,0,none⟩)]] wt fun e w2=>e=.returned (kX (bE (l++mm) x))∧ak wt w2):=
   Mv _ _ Ah x (l++mm) wt wt (Hy (w.heap.size+2) (w.heap.size+3) _ _ l mm wt K2.1 K2.2.2 K3.1 K3.2.2 (aB.aK HU.out hLt) (aB.dO (aB.fq (pF HO.out hLr) (by omega)))) (ak.refl _)
  rw[hwt] at HW;have HWT:=au hwt;have HTM:=au htm;clear hc hx hy K2 K3 hwt htm;obtain⟨x1,x2⟩:=x;dsimp only at*;cases hw:bE (l++mm) (x1,x2) with
  |some s=>
   rw[hw] at HW HS;have hw0:kX (some s)=.tuple #[.string s,.bool true]:=rfl;rw[hw0] at HW;clear hw hw0;generalize bs x2=kx at*
   by_cases hsy:s=y
   ·have HE1:Hid (dH l ts xs=dH (l++mm) (ts.drop (j+1)) (xs.drop (j+1))):=by
     show _=_;have h1:=HS.out;dsimp only at h1;rw[if_pos hsy] at h1;rw[HE.out,h1]
    have hqs:(s.toList==y.toList)=true:=by rw[hsy];simp
    clear HS HE hsy
    go_wp2_with fail
    refine HW.out.mono ?_;rintro e w2 ⟨rfl,hL2⟩;rw[←HWT.out] at hL2;have hb2':∀k,k<wr.heap.size→w2.heap[k]?=wr.heap[k]?:=fun k hk=>(hL2.block (by omega)).trans (hbl k hk);have hs2:wr.heap.size<w2.heap.size:=by have:=hL2.size;omega
    obtain⟨q0,q1,p0,p1,q2⟩:=iH ((hb2' _ (by omega)).trans H1.out);have d2:w2.cell? ⟨b2,o2+j,none⟩=some (.string y):=by rw[(hLt.trans hL2).cell hb2];exact hyc
    have Vx:b2<w2.heap.size:=by have:=(hLt.trans hL2).size;omega
    have Z1:=au ((hb2' _ (by omega)).trans H1.out);have Z2:=au ((hb2' _ (by omega)).trans H2.out);have Z3:=au ((hb2' _ (by omega)).trans H3.out);have HL2:=au (hLt.trans hL2);have HO2:=au (pF HO.out (hLr.trans hL2));clear hL2 hb2' HW hbl;go_wp2
    go_roundg (ts.length- (j+1))
    case measure=>omega
    case rel=>exact⟨j+1,by omega,by go_num,mm,_,HE1,HO2,(by omega:mm.length≤j+1),HL2,by omega,Z1,Z2,Z3⟩
   have HE1:Hid (dH l ts xs=none):=by show _=_;have h1:=HS.out;dsimp only at h1;rw[if_neg hsy] at h1;rw[HE.out,h1]
   have hqs:(s.toList==y.toList)=false:=by rw[jK];simpa using hsy
   clear HS HE hsy
   go_wp2_with fail
   refine HW.out.mono ?_;rintro e w2 ⟨rfl,hL2⟩;rw[←HWT.out] at hL2;have hb2':∀k,k<wr.heap.size→w2.heap[k]?=wr.heap[k]?:=fun k hk=>(hL2.block (by omega)).trans (hbl k hk);have hs2:wr.heap.size<w2.heap.size:=by have:=hL2.size;omega
   obtain⟨q0,q1,p0,p1,q2⟩:=iH ((hb2' _ (by omega)).trans H1.out);have d2:w2.cell? ⟨b2,o2+j,none⟩=some (.string y):=by rw[(hLt.trans hL2).cell hb2];exact hyc
   have Vx:b2<w2.heap.size:=by have:=(hLt.trans hL2).size;omega
   have HL2:=au (hLt.trans hL2);clear hL2 hb2' HW hbl;go_wp2
   go_ret2
   exact⟨_,by rw[HE1.out];rfl,by rw[HE1.out];exact rfl,HL2.out⟩
  |none=>
   rw[hw] at HW HS;have hw0:kX none=.tuple #[.string ByteArray.empty,.bool false]:=rfl;rw[hw0] at HW;have HE1:Hid (dH l ts xs=dH (l++(mm++[(bs x2,y)])) (ts.drop (j+1)) (xs.drop (j+1))):=by show _=_;have h1:=HS.out;dsimp only at h1;rw[HE.out,h1,List.append_assoc]
   clear hw hw0 HS HE;generalize bs x2=kx at*
   go_wp2_with fail
   refine HW.out.mono ?_;rintro e w2 ⟨rfl,hL2⟩;rw[←HWT.out] at hL2;have hb2':∀k,k<wr.heap.size→w2.heap[k]?=wr.heap[k]?:=fun k hk=>(hL2.block (by omega)).trans (hbl k hk);have hs2:wr.heap.size<w2.heap.size:=by have:=hL2.size;omega
   obtain⟨q0,q1,p0,p1,q2⟩:=iH ((hb2' _ (by omega)).trans H1.out);have d2:w2.cell? ⟨b2,o2+j,none⟩=some (.string y):=by rw[(hLt.trans hL2).cell hb2];exact hyc
   have Vx:b2<w2.heap.size:=by have:=(hLt.trans hL2).size;omega
   obtain⟨t0,t1,_,_,t2⟩:=iH ((hL2.block (by omega)).trans HTM.out);obtain⟨m0,m1,m2⟩:=Ka ((hb2' _ (by omega)).trans H3.out);obtain⟨v',w4,hrun,hO4,hg4,hd4,hv4⟩:=ES (w:=w2.drew) (pF HO.out ((hLr.trans hL2).drew)) kx y (by omega) (by show w.heap.size+4≤w2.heap.size;omega);have hlo:∀k,(Value.slice ao no' co).ownBlock=some k→w.heap.size+4≤k:=fun k e=>(aB.dL HO.out e).1;have hb4:∀k,k<w.heap.size+4→w4.heap[k]?=wr.heap[k]?:=fun k hk=>by rw[hg4.block k (by simp;omega) (fun e=>by have:=hlo k e.symm;omega),Below.heap_alloc _ _ _ (by show k<w2.heap.size;omega)];exact hb2' k (by omega)
   have hs4:w2.heap.size<w4.heap.size:=by have:=hg4.size;simp at this;omega
   have HL4:=au ((hLt.trans hL2).drew.more hg4 hd4 fun k e=>by have:=hlo k e;omega);have Z3:=au ((hb4 _ (by omega)).trans H3.out);have Z1:=au ((hb4 _ (by omega)).trans H1.out);have Z2:=au ((hb4 _ (by omega)).trans H2.out);obtain⟨n0,n1,n2⟩:=Ka Z3.out;obtain⟨a4,n4,c4,rfl⟩:∃a n c,v'=.slice a n c:=by obtain⟨a,c,e⟩:=aB.aY hO4;exact⟨a,_,c,e⟩
   have HR4:=au hrun;have HO4:=au hO4;clear hL2 hb2' HW hrun hO4 hg4 hd4 hv4 hb4 hbl;go_wp2
   go_region_law (refine iI rfl (.tmp 45) (.tmp 54) 106 rfl _ _ _ _ (by simp[Act.eval]) (by simp[Act.eval]) HR4.out ?_)
   all_goals
    go_wp2
    go_roundg (ts.length- (j+1))
    case measure=>omega
    case rel=>
     refine⟨j+1,by omega,by go_num,mm++[(kx,y)],.slice a4 n4 c4,HE1,?_,(by simp;omega:(mm++[(kx,y)]).length≤j+1),?_,?_,?_,?_,?_⟩
     ·exact aB.dS HO4.out (by simp[World.setCell]) fun k _ hk=>Below.heap_setCell _ _ _ _ (by show k≠w.heap.size+3;omega)
     ·exact(ak.setCell HL4.out (p:=⟨w.heap.size+1+1+1,0,none⟩) (by show w.heap.size≤w.heap.size+3;omega) _:ak _ _)
     ·simp[World.setCell];omega
     ·show _=_;rw[Below.heap_setCell _ _ _ _ (by show w.heap.size+1≠w.heap.size+3;omega)];exact Z1.out
     ·show _=_;rw[Below.heap_setCell _ _ _ _ (by show w.heap.size+2≠w.heap.size+3;omega)];exact Z2.out
     show _=_;rw[dz Z3.out];rfl
 have e:j=ts.length:=by omega
 subst e;have HE1:Hid (dH l ts xs=some (l++mm)):=by show _=_;rw[HE.out,List.drop_length];rfl
 have hml:=HML.out;have hLc:ak wr (wr.alloc (.cells #[.slice sb l.length Eu,.slice ao no' co] 106)):=(ak.refl _).alloc _;have HCc:=au (Nr (wr.alloc (.cells #[.slice sb l.length Eu,.slice ao no' co] 106)) wr.heap.size 2 (.slice sb l.length Eu) (.slice ao no' co) l mm (aB.aK HU.out (HL.out.trans hLc)) (aB.dO (aB.fq (pF HO.out hLc) (by omega))) (by omega) (by simp) (by simp) (by simp));obtain⟨q0,p0,q2⟩:=Ka H2.out;obtain⟨y0,t0,y2⟩:=Ka H3.out;clear hLc
 go_wp2_with fail
 refine HCc.out.mono ?_;rintro e w2 ⟨v,rfl,hO2,hL2⟩;have HL2:=au ((HL.out.alloc (.cells #[.slice sb l.length Eu,.slice ao no' co] 106)).trans hL2);have HO2:=au (oP hO2 (lo':=w.heap.size) (by simp;omega));clear hO2 hL2 HCc;go_wp2
 go_ret2
 exact⟨v,by rw[HE1.out];rfl,by rw[HE1.out];exact HO2.out,HL2.out⟩
theorem KJ (a:aI) (tv fv u:Value) (f:aN) (l:List aD) (w:World) (ht:eD.sl bf w tv a.terms) (hf:dD w fv f) (hu:bq.sl bf w u l) (hn:l.length+a.terms.length≤4398046511104):
  Calls Tryz.prog 61 #[.agg #[.bool a.no,.string (bs a.name),tv],fv,u] w fun e w'=>∃v,e=.returned (.tuple #[v,.bool (cZ a f l).isSome])∧RX w w' v (cZ a f l)∧ak w w':=by
 obtain⟨sa,cap,rfl⟩:=aB.slice ht;obtain⟨s,rfl,hs⟩:=hf;obtain⟨fa,Hz,rfl⟩:=bA hs;unfold cZ;split;·rename_i h;obtain⟨h1,h2⟩:=h;rw[←h1,←h2];rw[←h2] at hs;exact KI a sa cap f.2 fa Hz u l w ht hs hu h2.symm hn
 rename_i h;obtain⟨sb,Eu,rfl⟩:=aB.slice hu;refine(Ns a sa cap f.1 fa f.2.length Hz sb l.length Eu w ?_).mono fun e w' ⟨he,hL⟩=>⟨_,he,rfl,hL⟩;rw[Bool.and_eq_false_iff]
 by_cases h1:bs a.name=f.1
 ·right
  simp only[decide_eq_false_iff_not];intro h2;exact h ⟨h1,by omega⟩
 left;simpa using h1
end Go.Proofs.YtaallngooaaonaaGreatDoor
