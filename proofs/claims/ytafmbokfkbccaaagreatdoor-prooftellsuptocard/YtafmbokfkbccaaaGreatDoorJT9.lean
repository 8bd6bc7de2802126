import Derived.Test.YtafmbokfkbccaaaGreatDoorJT7
import Derived.Test.YtafmbokfkbccaaaGreatDoorJT8
import Derived.Shelf.Spec.SlicesGrow
import Derived.Test.YtafmbokfkbccaaaGreatDoorProg
import Derived.Test.YtafmbokfkbccaaaGreatDoorJT6
namespace Go.Proofs.YtafmbokfkbccaaaGreatDoor
open Go.RowKit Go.Sort
theorem Tn.grown {p:Nat} {a b c:World} {row:Option Nat} (h:Tn p a b) (hg:b.grownBy c row) (hr:∀k,row=some k→a.heap.size≤k):Tn p a c:=
 ⟨hg.os.trans h.os,hg.tape.trans h.tape,hg.output.trans h.output,Nat.le_trans h.size hg.size,fun k hk ho=>(hg.block k (Nat.lt_of_lt_of_le hk h.size) (fun e=>by have:=hr k e.symm;omega)).trans (h.block k hk ho)⟩
theorem Fa:∃i,Tryz.prog.info? 28=some i∧i.zero=some (.slice none 0 0)∧i.size=1∧i.bytes=24:=⟨Tryz.t28,by kernel_rfl,by kernel_rfl,by kernel_rfl,by kernel_rfl⟩
set_option maxRecDepth 100000 in
theorem NJ (c d:Nat) (w:World):Calls Tryz.prog 54 #[.agg #[.int .i64 c,.int .i64 d]] w fun e w'=>e=.returned (.bool (iA (c,d)))∧Later w w':=by
 unfold iA
 by_cases hc:400<c
 ·have h1:(400:Int)<(c:Int):=by omega
  have e:(decide (400<c)||decide (60<d))=true:=by simp[hc]
  rw[e];clear e hc
  go_enter Tryz.func54,Tryz.ntmps54
  go_wp2;go_ret;exact⟨rfl,(by repeat (first|exact Later.refl _|assumption|refine Later.drewN ?_ _|refine Later.drew ?_|refine Later.alloc ?_ _|refine Later.grow ?_ _))⟩
 ·have h1:¬(400:Int)<(c:Int):=by omega
  by_cases hd:60<d
  ·have h2:(60:Int)<(d:Int):=by omega
   have e:(decide (400<c)||decide (60<d))=true:=by simp[hd]
   rw[e];clear e hc hd
   go_enter Tryz.func54,Tryz.ntmps54
   go_wp2;go_ret;exact⟨rfl,(by repeat (first|exact Later.refl _|assumption|refine Later.drewN ?_ _|refine Later.drew ?_|refine Later.alloc ?_ _|refine Later.grow ?_ _))⟩
  ·have h2:¬(60:Int)<(d:Int):=by omega
   have e:(decide (400<c)||decide (60<d))=false:=by simp[hc,hd]
   rw[e];clear e hc hd
   go_enter Tryz.func54,Tryz.ntmps54
   go_wp2;go_ret;exact⟨rfl,(by repeat (first|exact Later.refl _|assumption|refine Later.drewN ?_ _|refine Later.drew ?_|refine Later.alloc ?_ _|refine Later.grow ?_ _))⟩
set_option maxRecDepth 100000 in
theorem Qj (c d:Nat) (w:World):Calls Tryz.prog 53 #[.agg #[.int .i64 c,.int .i64 d]] w fun e w'=>e=.returned (.bool false)∧Later w w':=by
 go_enter Tryz.func53,Tryz.ntmps53
 go_wp2;go_ret;exact⟨rfl,(by repeat (first|exact Later.refl _|assumption|refine Later.drewN ?_ _|refine Later.drew ?_|refine Later.alloc ?_ _|refine Later.grow ?_ _))⟩
theorem Ij {α:Type} {LL:List (List α)} {j:Nat} {l:List α} (h:LL[j]?=some l):(LL.take (j+1)).flatten=(LL.take j).flatten++l:=by
 rw[List.take_add_one,h,List.flatten_append];simp
theorem NK {α:Type} (LL:List (List α)) (j:Nat):(LL.take j).flatten.length≤LL.flatten.length:=by
 have h:LL.flatten=(LL.take j).flatten++(LL.drop j).flatten:=by rw[←List.flatten_append,List.take_append_drop]
 rw[h,List.length_append];omega
theorem Ik {α:Type}:∀{LL:List (List α)},(∀l∈LL,l≠[])→LL.length≤LL.flatten.length
 |[],_=>by simp
 |l::LL,h=>by
  have ih:=Ik (LL:=LL) fun q hq=>h q (by simp[hq]);have h1:0<l.length:=List.length_pos_iff.2 (h l (by simp));rw[List.flatten_cons,List.length_append,List.length_cons];omega
theorem sJ {m:Nat}:∀(L:List bH),L.length+((L.flatMap bH.kids).map (cnt m)).sum=(L.map (cnt (m+1))).sum
 |[]=>rfl
 |x::L=>by
  rw[List.flatMap_cons,List.map_append,List.sum_append,List.map_cons,List.sum_cons,←sJ L,List.length_cons];show _=1+(x.kids.map (cnt m)).sum+_;omega
theorem KW {m:Nat} {ty:TypeId} {B:Nat→Prop} {w0 w:World} {lo:Nat} {v:Value} {LL:List (List bH)} (h:qK (lD m) ty B w0 lo w v LL):∀x∈LL.flatten,Deep m x:=fun x hx=>by
 obtain⟨l,hl,hxl⟩:=List.mem_flatten.1 hx;obtain⟨i,hi,e⟩:=List.getElem_of_mem hl;obtain⟨xs,_,hxs⟩:=h;obtain⟨u,hu,_⟩:=hxs i l (by rw[List.getElem?_eq_getElem hi,e]);obtain⟨c,hc⟩:=Al hu hxl;exact yP m c x hc
theorem qK.base {α:Type} {K:Kind α} {ty:TypeId} {B:Nat→Prop} {w0:World} {lo lo':Nat} {w:World} {v:Value} {l:List (List α)} (h:qK K ty B w0 lo w v l) (hl:lo'≤lo):qK K ty B w0 lo' w v l:=by
 obtain⟨xs,ho,hx⟩:=h;refine⟨xs,⟨ho.1,?_⟩,hx⟩;rcases ho.2 with e|⟨g,cap,cur,e,hg,r⟩
 ·exact Or.inl e
 ·exact Or.inr ⟨g,cap,cur,e,Nat.le_trans hl hg,r⟩
theorem pK {m:Nat} {B:Nat→Prop} {w:World} {v:Value} {l:List bH} (h:(lD (m+1)).sl B w v l) {i:Nat} {x:bH} (hx:l[i]?=some x):
  ∃b off s kv,v=.slice (some ⟨b,off,none⟩) l.length (match v with| .slice _ _ c=>c|_=>0)∧b<w.heap.size∧B b∧w.cell? ⟨b,off+i*4,none⟩=some (.string x.fact.1)∧w.cell? ⟨b,off+i*4+1,none⟩=some s∧w.cell? ⟨b,off+i*4+2,none⟩=some (.int .i64 x.rule)∧w.cell? ⟨b,off+i*4+3,none⟩=some kv∧
   bsK.sl B w s x.fact.2∧(lD m).sl B w kv x.kids:=by
 obtain⟨_,a,cap,rfl,h1⟩:=h;obtain⟨b,off,rfl,hB,hb,hc⟩:=h1 (by intro e;rw[e] at hx;simp at hx);obtain⟨c,⟨s,kv,rfl,h2,h3⟩,hcell⟩:=hc i x hx;exact⟨b,off,s,kv,rfl,hb,hB,(by show w.cell? ⟨b,off+i*4+0,none⟩=_;exact hcell 0 _ rfl),hcell 1 _ rfl,hcell 2 _ rfl,hcell 3 _ rfl,h2,h3⟩
set_option maxRecDepth 100000 in
set_option maxHeartbeats 8000000 in
theorem DI (x:bH) (n g:Nat) (en:Nat×Nat→Bool) (pv:Value) (w:World) (hx:l8 n bg w pv x) (hn:cnt (n+1) x≤4000000) (hnn:n≤4000000) (eg:∀args w,(callFunc g args).run Tryz.prog w=.ok (.enter g args) w)
  (hg:∀(c d:Nat) (w:World),Calls Tryz.prog g #[.agg #[.int .i64 c,.int .i64 d]] w fun e w'=>e=.returned (.bool (en (c,d)))∧Later w w'):
  Calls Tryz.prog 52 #[pv,.func (.func g) #[] #[]] w fun e w'=>e=.returned (.agg #[.int .i64 (fV en (n+2) [x] (0,0)).1,.int .i64 (fV en (n+2) [x] (0,0)).2])∧Below w.heap.size w w':=by
 obtain⟨s,kv,rfl,hs,hkv⟩:=hx;obtain⟨sa,sc,rfl⟩:=Kind.slice hs;obtain⟨ka,kc,rfl⟩:=Kind.slice hkv;obtain⟨i,i1,i2,i3,i4⟩:=Fa;obtain⟨A,hA⟩:∃A,A=w.heap.size:=⟨_,rfl⟩;obtain⟨w1,hw1⟩:∃w1,w1=((((w.alloc (.cells #[.string x.fact.1,.slice sa x.fact.2.length sc,.int .i64 x.rule,.slice ka x.kids.length kc] 30)).alloc (.cells #[.int .i64 0,.int .i64 0] 105)).alloc (.cells #[.int .i64 0,.int .i64 0] 105)).alloc (.cells #[.string x.fact.1,.slice sa x.fact.2.length sc,.int .i64 x.rule,.slice ka x.kids.length kc] 30)).alloc (.cells #[.slice (some ⟨w.heap.size+3,0,none⟩) 1 1] 28):=⟨_,rfl⟩;have hL1:Later w w1:=by rw[hw1];exact(((((Later.refl w).alloc _).alloc _).alloc _).alloc _).alloc _
 have hs1:w1.heap.size=A+5:=by rw[hw1,hA];simp
 have hr4:w1.heap[A+1]?=some (.cells #[.int .i64 0,.int .i64 0] 105 (0,0)):=by
  rw[hw1,hA];simp only[bY,World.size_alloc]
  repeat (first|rw[if_pos trivial]|rw[if_pos (by omega)]|rw[if_neg (by omega)])
 have hr5:w1.heap[A+2]?=some (.cells #[.int .i64 0,.int .i64 0] 105 (0,0)):=by
  rw[hw1,hA];simp only[bY,World.size_alloc]
  repeat (first|rw[if_pos trivial]|rw[if_pos (by omega)]|rw[if_neg (by omega)])
 have hr6:w1.heap[A+3]?=some (.cells #[.string x.fact.1,.slice sa x.fact.2.length sc,.int .i64 x.rule,.slice ka x.kids.length kc] 30 (0,0)):=by
  rw[hw1,hA];simp only[bY,World.size_alloc]
  repeat (first|rw[if_pos trivial]|rw[if_pos (by omega)]|rw[if_neg (by omega)])
 have hr7:w1.heap[A+4]?=some (.cells #[.slice (some ⟨A+3,0,none⟩) 1 1] 28 (0,0)):=by
  rw[hw1,hA];simp only[bY,World.size_alloc]
  repeat (first|rw[if_pos trivial]|rw[if_pos (by omega)]|rw[if_neg (by omega)])
 have hB0:∀k,k<w.heap.size→bg k→(k≠A+2):=fun k hk _=>by omega
 have hS1:bsK.sl (fun k=>k≠A+2) w1 (.slice sa x.fact.2.length sc) x.fact.2:=Kind.bM (Kind.bT hs hB0) hL1.size fun k hk _=>hL1.block hk;have hK1:(lD n).sl (fun k=>k≠A+2) w1 (.slice ka x.kids.length kc) x.kids:=Kind.bM (Kind.bT hkv hB0) hL1.size fun k hk _=>hL1.block hk;have hx1:(lD (n+1)).sl (fun k=>k≠A+2) w1 (.slice (some ⟨A+3,0,none⟩) 1 1) [x]:=by
  refine⟨⟨by simp,by show 1≤1;omega⟩,_,1,rfl,fun _=>⟨A+3,0,rfl,by omega,by omega,fun i y hy=> ?_⟩⟩;cases i with
  |succ i=>simp at hy
  |zero=>
   simp at hy;subst hy;refine⟨_,⟨_,_,rfl,hS1,hK1⟩,fun j u hu=> ?_⟩;rw[Nat.zero_mul,Nat.zero_add,cell_of_row _ _ _ _ _ _ hr6];simpa using hu
 have hrow:qK (lD (n+1)) 28 (fun k=>k≠A+2) w1 (A+3) w1 (.slice (some ⟨A+4,0,none⟩) 1 1) [[x]]:=by
  refine⟨[.slice (some ⟨A+3,0,none⟩) 1 1],⟨rfl,Or.inr ⟨A+4,1,#[.slice (some ⟨A+3,0,none⟩) 1 1],rfl,by omega,hr7,by simp,by simp[maxLen],by simp,by simp⟩⟩,fun i a hi=> ?_⟩;cases i with
  |succ i=>simp at hi
  |zero=>simp at hi;subst hi;exact⟨_,hx1,rfl⟩
 have hsum:([[x]].flatten.map (cnt (n+1))).sum≤4000000:=by simpa using hn
 have Qk:=hide hrow;have HR5:=hide hr5;have HR4:=hide hr4;have HL1:=hide hL1;have HG:=hide hg;rw[hA] at Qk HR5 HR4;have HW1:=hide hw1;obtain⟨M,hM⟩:∃M,M=fV en (n+2) [x] (0,0):=⟨_,rfl⟩;rw[←hM];have HM0:Hid (M=fV en (n+2) [[x]].flatten (0,0)):=by show _=_;rw[hM];rfl
 rw[hA] at hs1;clear hs hkv hn hg hL1 hr4 hr5 hr6 hr7 hB0 hS1 hK1 hx1 hrow hw1 hM;clear hA A
 go_enter Tryz.func52,Tryz.ntmps52
 go_wp2;rw[←HW1.out];clear HW1
 go_loopg [6] (n+1) (fun m lv wr=>∃(LL:List (List bH)) (c d:Nat),Hid (qK (lD m) 28 (fun k=>k≠w.heap.size+2) w1 (w.heap.size+3) wr lv LL)∧Hid (∀l∈LL,l≠[])∧Hid (M=fV en (m+1) LL.flatten (c,d))∧c+(LL.flatten.map (cnt m)).sum≤4000000∧d+m≤n+1∧
  Hid (wr.heap[w.heap.size+2]?=some (.cells #[.int .i64 c,.int .i64 d] 105 (0,0)))∧Hid (Tn (w.heap.size+2) w1 wr))
 case atStart=>exact⟨[[x]],0,0,Qk,(fun l hl=>by simp at hl;subst hl;simp),HM0,by omega,by omega,HR5,Tn.refl _ _⟩
 case round=>
  clear Qk HR5 HM0 hsum;obtain⟨LL,c,d,HRo,HNe,HM,hcn,hdm,HR,HT⟩:=hrel;obtain⟨la,ln,lc,rfl,hln⟩:∃a n c,u6=.slice a n c∧n=LL.length:=by obtain⟨a,c,e⟩:=qK.slice HRo.out;exact⟨a,_,c,e,rfl⟩
  have hsz:=HT.out.size;obtain⟨s0,s1,f0,f1,_⟩:=iK HR.out
  by_cases h0:LL=[]
  ·subst h0;obtain rfl:ln=0:=hln;have HMe:Hid (M=(c,d)):=by show _=_;rw[HM.out];unfold fV;rw[if_pos (Or.inl List.flatten_nil)]
   have hr4:wr.heap[w.heap.size+1]?=some (.cells #[.int .i64 0,.int .i64 0] 105 (0,0)):=(HT.out.block _ (by omega) (by omega)).trans HR4.out;obtain⟨t0,t1,t2,t3,_⟩:=iK hr4;have HBw:Hid (Below w.heap.size w ((wr.setCell ⟨w.heap.size+1,0,none⟩ (.int .i64 c)).setCell ⟨w.heap.size+1,1,none⟩ (.int .i64 d))):=by
    refine Below.setCell (Below.setCell (aj HL1.out.below (HT.out.below (n:=w.heap.size) (by omega) HL1.out.size) (Nat.le_refl _)) ?_ _) ?_ _
    ·show w.heap.size≤w.heap.size+1;omega
    ·show w.heap.size≤w.heap.size+1;omega
   have hz0:=dF (j:=1) (dF (j:=0) hr4 (.int .i64 c)) (.int .i64 d);have z0:((wr.setCell ⟨w.heap.size+1,0,none⟩ (.int .i64 c)).setCell ⟨w.heap.size+1,1,none⟩ (.int .i64 d)).cell? ⟨w.heap.size+1,0,none⟩=some (.int .i64 c):=by rw[cell_of_row _ _ _ _ _ _ hz0];rfl
   have z1:((wr.setCell ⟨w.heap.size+1,0,none⟩ (.int .i64 c)).setCell ⟨w.heap.size+1,1,none⟩ (.int .i64 d)).cell? ⟨w.heap.size+1,1,none⟩=some (.int .i64 d):=by rw[cell_of_row _ _ _ _ _ _ hz0];rfl
   have HZ0:=hide z0;have HZ1:=hide z1;clear hr4 hz0 z0 z1 HM;go_wp2;have z0:=HZ0.out;have z1:=HZ1.out;exact bodyPost_ret (v:=.agg #[.int .i64 c,.int .i64 d]) (by simp[results,Tryz.results52,go_sem,z0,z1]) rfl ⟨by rw[HMe.out],HBw.out⟩
  ·have hdp:=KW HRo.out;obtain⟨m,rfl⟩:∃m,gk=m+1:=by
    cases gk with
    |succ m=>exact⟨m,rfl⟩
    |zero=>
     exfalso
     cases LL with
     |nil=>exact h0 rfl
     |cons l LL=>
      cases l with
      |nil=>exact HNe.out [] (by simp) rfl
      |cons y l=>exact hdp y (by simp)
   have X8:0<LL.length:=by
    cases LL with
    |nil=>exact absurd rfl h0
    |cons l LL=>simp
   have ZK:(0:Int)<(ln:Int):=by omega
   have HE:=hide (HG.out c d wr);cases hen:en (c,d) with
   |true=>
    rw[hen] at HE;have HMe:Hid (M=(c,d)):=by show _=_;rw[HM.out];unfold fV;rw[if_pos (Or.inr hen)]
    clear hen HM hdp HNe
    go_wp2_with fail
    refine HE.out.mono ?_;rintro e w2 ⟨rfl,hL2⟩;have hr5:=(hL2.block (by omega)).trans HR.out;have hr4:w2.heap[w.heap.size+1]?=some (.cells #[.int .i64 0,.int .i64 0] 105 (0,0)):=(hL2.block (by omega)).trans ((HT.out.block _ (by omega) (by omega)).trans HR4.out);obtain⟨t0,t1,t2,t3,_⟩:=iK hr4;obtain⟨s0,s1,f0,f1,_⟩:=iK hr5;have HBw:Hid (Below w.heap.size w ((w2.setCell ⟨w.heap.size+1,0,none⟩ (.int .i64 c)).setCell ⟨w.heap.size+1,1,none⟩ (.int .i64 d))):=by
     refine Below.setCell (Below.setCell (aj (aj HL1.out.below (HT.out.below (n:=w.heap.size) (by omega) HL1.out.size) (Nat.le_refl _)) hL2.below (by omega)) ?_ _) ?_ _
     ·show w.heap.size≤w.heap.size+1;omega
     ·show w.heap.size≤w.heap.size+1;omega
    have hz0:=dF (j:=1) (dF (j:=0) hr4 (.int .i64 c)) (.int .i64 d);have HZ0:Hid (((w2.setCell ⟨w.heap.size+1,0,none⟩ (.int .i64 c)).setCell ⟨w.heap.size+1,1,none⟩ (.int .i64 d)).cell? ⟨w.heap.size+1,0,none⟩=some (.int .i64 c)):=by show _=_;rw[cell_of_row _ _ _ _ _ _ hz0];rfl
    have HZ1:Hid (((w2.setCell ⟨w.heap.size+1,0,none⟩ (.int .i64 c)).setCell ⟨w.heap.size+1,1,none⟩ (.int .i64 d)).cell? ⟨w.heap.size+1,1,none⟩=some (.int .i64 d)):=by show _=_;rw[cell_of_row _ _ _ _ _ _ hz0];rfl
    clear hln hr4 hr5 hz0 hL2 HE HR HRo HT;go_wp2;have z0:=HZ0.out;have z1:=HZ1.out;exact bodyPost_ret (v:=.agg #[.int .i64 c,.int .i64 d]) (by simp[results,Tryz.results52,go_sem,z0,z1]) rfl ⟨by rw[HMe.out],HBw.out⟩
   |false=>
    rw[hen] at HE;have HMn:Hid (M=fV en (m+1) (LL.flatten.flatMap bH.kids) (c+LL.flatten.length,d+1)):=by
     show _=_;rw[HM.out]
     conv=>lhs;unfold fV
     rw[if_neg];rintro(h|h)
     ·cases LL with
      |nil=>exact h0 rfl
      |cons l LL=>
       cases l with
       |nil=>exact HNe.out [] (by simp) rfl
       |cons y l=>simp at h
     ·rw[hen] at h;cases h
    have hck:=sJ (m:=m) LL.flatten;have hfl:=NK LL;have hLL:LL.length≤4000000:=by have:=Ik HNe.out;omega
    clear hen HM hdp
    go_wp2_with fail
    refine HE.out.mono ?_;rintro e w2 ⟨rfl,hL2⟩;have HR2:=hide ((hL2.block (by omega)).trans HR.out);have HT2:=hide (HT.out.trans (Tn.of_below hL2.below));have Tk:=hide (HRo.out.kept fun k hk=>hL2.block (HRo.out.lo_le k hk).2);have hsz2:=HT2.out.size;clear hL2 HE HR HT HRo s0 s1 f0 f1 hsz;go_wp2
    go_loopg [7,26] LL.length (fun q bv i wr=>∃(j:Nat) (BB:List (List bH)),j+q=LL.length∧i=.int .i64 j∧Hid (qK (lD m) 28 (fun k=>k≠w.heap.size+2) w1 w2.heap.size wr bv BB)∧Hid (∀l∈BB,l≠[])∧Hid (BB.flatten=(LL.take j).flatten.flatMap bH.kids)∧BB.length≤(LL.take j).flatten.length∧
     ∃c1:Nat,Hid (c1=c+(LL.take j).flatten.length)∧Hid (wr.heap[w.heap.size+2]?=some (.cells #[.int .i64 (c1:Int),.int .i64 d] 105 (0,0)))∧Hid (Tn (w.heap.size+2) w2 wr))
    case atStart=>exact⟨0,[],by omega,rfl,qK.nil _ _ _ _ _ _,(fun l hl=>by cases hl),(by simp:_=_),by simp,c,(by simp:_=_),HR2,Tn.refl _ _⟩
    case round=>
     clear HR2;obtain⟨j,BB,hj,rfl,HBr,HBn,HBf,hbl,c1,HC1,HR,HT⟩:=hrel;obtain⟨ba,bn,bc,rfl⟩:∃a n c,u7=.slice a n c:=by obtain⟨a,c,e⟩:=qK.slice HBr.out;exact⟨a,_,c,e⟩
     have hfj:=hfl j;have Si:=HT.out.size
     by_cases hlt:j<LL.length
     ·obtain⟨l,hl⟩:∃l,LL[j]?=some l:=⟨_,List.getElem?_eq_getElem hlt⟩;obtain⟨g1,X9,u,e1,hg1,hu,hc⟩:=Tk.out.at hl;have ZL:=(Tk.out.lo_le g1 (by rw[e1];rfl)).1;simp only[Value.slice.injEq] at e1;obtain⟨rfl,_,rfl⟩:=e1;have Ya:g1<wr.heap.size:=by omega
      have d0:wr.cell? ⟨g1,j,none⟩=some u:=by rw[HT.out.cell (x:=⟨g1,j,none⟩) hg1 (by show g1≠_;omega)];exact hc
      have HU:Hid (∀w',Tn (w.heap.size+2) w1 w'→(lD (m+1)).sl (fun k=>k≠w.heap.size+2) w' u l):=fun w' h=>Kind.bM hu h.size fun k hk hne=>h.block k hk hne;obtain⟨ua,uc,rfl⟩:=Kind.slice hu;obtain⟨s0,s1,f0,f1,_⟩:=iK HR.out;have hft:=Ij hl;have Yb:=hfl (j+1);rw[hft,List.length_append] at Yb;obtain⟨cc,hcc⟩:∃cc,cc=c1+l.length:=⟨_,rfl⟩;have hwr:IntKind.i64.wrap ((c1:Int)+(l.length:Int))=(cc:Int):=by
       have:=HC1.out;rw[IntKind.wrap_i64];omega
      have HCC:Hid (cc=c+(LL.take j).flatten.length+l.length):=by show _=_;rw[hcc,HC1.out]
      clear hcc;obtain⟨wa,hwa⟩:∃wa,wa=wr.setCell ⟨w.heap.size+2,0,none⟩ (.int .i64 (cc:Int)):=⟨_,rfl⟩;have hTa:Tn (w.heap.size+2) wr wa:=by rw[hwa];exact Tn.setCell (p:=w.heap.size+2) (Tn.refl _ _) (x:=⟨w.heap.size+2,0,none⟩) (Or.inl rfl) _
      have hRa:wa.heap[w.heap.size+2]?=some (.cells #[.int .i64 (cc:Int),.int .i64 d] 105 (0,0)):=by rw[hwa];rw[dF (j:=0) HR.out];rfl
      have HBa:=hide (HBr.out.kept (w':=wa) fun k hk=>hTa.block k (HBr.out.lo_le k hk).2 (by have:=(HBr.out.lo_le k hk).1;omega));have HTa:=hide (HT.out.trans hTa);have HRa:=hide hRa;have Tm:=hTa.size;have HWa:=hide hwa;have HFT:=hide hft;clear hc hl hu hwa hTa hRa HBr HT HR hft;go_wp2;rw[←HWa.out];clear HWa d0 s0 s1 f0 f1 hwr
      go_loopg [7,38] l.length (fun q bv i wr=>∃(k:Nat) (BB:List (List bH)),k+q=l.length∧i=.int .i64 k∧Hid (qK (lD m) 28 (fun k=>k≠w.heap.size+2) w1 w2.heap.size wr bv BB)∧Hid (∀l∈BB,l≠[])∧Hid (BB.flatten=(LL.take j).flatten.flatMap bH.kids++(l.take k).flatMap bH.kids)∧BB.length≤(LL.take j).flatten.length+k∧
       Hid (wr.heap[w.heap.size+2]?=some (.cells #[.int .i64 (cc:Int),.int .i64 d] 105 (0,0)))∧Hid (Tn (w.heap.size+2) w2 wr))
      case atStart=>exact⟨0,BB,by omega,rfl,HBa,HBn,(by rw[HBf.out];simp:_=_),by omega,HRa,HTa⟩
      case round=>
       clear HBa HBn HBf HRa HTa hbl Tm Si Ya;obtain⟨k,BB,hk,rfl,HBr,HBn,HBf,hbl,HR,HT⟩:=hrel;obtain⟨ba,bn,bc,rfl⟩:∃a n c,u7=.slice a n c:=by obtain⟨a,c,e⟩:=qK.slice HBr.out;exact⟨a,_,c,e⟩
       have Si:=HT.out.size
       by_cases hltk:k<l.length
       ·obtain⟨y,hy⟩:∃y,l[k]?=some y:=⟨_,List.getElem?_eq_getElem hltk⟩;obtain⟨b2,o2,s,kv,e2,hb2,hB2,c0,c1,c2,c3,hs2,hk2⟩:=pK (HU.out wr (HT2.out.trans HT.out)) hy;simp only[Value.slice.injEq] at e2;obtain⟨rfl,_,_⟩:=e2;obtain⟨xa,xc,rfl⟩:=Kind.slice hs2;have HKv:Hid ((lD m).sl (fun k=>k≠w.heap.size+2) w1 kv y.kids):=by
         obtain⟨b3,o3,s3,kv3,e3,hb3,hB3,k0,k1,k2,k3,hs3,hk3⟩:=pK (HU.out w1 (Tn.refl _ _)) hy;simp only[Value.slice.injEq,Option.some.injEq,Addr.mk.injEq] at e3;obtain⟨⟨rfl,rfl,_⟩,_,_⟩:=e3;have:=(HT2.out.trans HT.out).cell (x:=⟨b2,o2+k*4+3,none⟩) hb3 hB3;rw[c3,k3] at this;rw[Option.some.inj this];exact hk3
        obtain⟨ya,yc,rfl⟩:=Kind.slice hk2;have htk:(l.take (k+1)).flatMap bH.kids=(l.take k).flatMap bH.kids++y.kids:=by rw[List.take_add_one,hy,List.flatMap_append];simp
        obtain⟨wb,hwb⟩:∃wb,wb=wr.alloc (.cells #[.string y.fact.1,.slice xa y.fact.2.length xc,.int .i64 y.rule,.slice ya y.kids.length yc] 30):=⟨_,rfl⟩;have hLb:Later wr wb:=by rw[hwb];exact(Later.refl wr).alloc _
        have hRx:wb.heap[wr.heap.size]?=some (.cells #[.string y.fact.1,.slice xa y.fact.2.length xc,.int .i64 y.rule,.slice ya y.kids.length yc] 30 (0,0)):=by rw[hwb];exact heap_alloc_new wr _
        have x3:wb.cell? ⟨wr.heap.size,3,none⟩=some (.slice ya y.kids.length yc):=by rw[cell_of_row _ _ _ _ _ _ hRx];rfl
        have hTb:=HT.out.trans (Tn.of_below hLb.below);have hRb:=(hLb.block (Array.getElem?_eq_some_iff.1 HR.out).1).trans HR.out;have hBb:=HBr.out.kept (w':=wb) fun k hk=>hLb.block (HBr.out.lo_le k hk).2;have Yc:=hTb.size
        by_cases hke:y.kids=[]
        ·have hz:¬(0:Int)<(y.kids.length:Int):=by rw[hke];simp
         have HF2:Hid (BB.flatten=(LL.take j).flatten.flatMap bH.kids++(l.take (k+1)).flatMap bH.kids):=by show _=_;rw[htk,hke,List.append_nil];exact HBf.out
         have HBb:=hide hBb;have HRb:=hide hRb;have HTb:=hide hTb;have HWb:=hide hwb;clear hs2 hk2 hy htk hwb hRx hLb hTb hRb hBb hke HKv HBr HR HT HBf
         go_wp2_with (rw[←HWb.out])
         go_roundg (l.length- (k+1))
         case measure=>omega
         case rel=>exact⟨k+1,BB,by omega,by go_num,HBb,HBn,HF2,by omega,HRb,HTb⟩
        ·have hz:(0:Int)<(y.kids.length:Int):=by
          have:0<y.kids.length:=List.length_pos_iff.2 hke;omega
         obtain⟨v',w6,hrun,hO6,hg6,hd6⟩:=hBb.more Tryz.underlying170 i1 i2 i3 i4 Yc HKv.out (by omega);have hT6:=(hTb.alloc (.cells #[.slice ya y.kids.length yc] 28)).grown hg6 fun k hk=>(hBb.lo_le k hk).1;have hR6:w6.heap[w.heap.size+2]?=some (.cells #[.int .i64 (cc:Int),.int .i64 d] 105 (0,0)):=by
          have hlt2:=(Array.getElem?_eq_some_iff.1 hRb).1;rw[hg6.block _ (by simp;omega) (fun e=>by have:=(hBb.lo_le _ e.symm).1;omega),Below.heap_alloc _ _ _ hlt2];exact hRb
         obtain⟨a6,n6,c6,rfl⟩:∃a n c,v'=.slice a n c:=by obtain⟨a,c,e⟩:=qK.slice hO6;exact⟨a,_,c,e⟩
         have HN6:Hid (∀q∈BB++[y.kids],q≠[]):=fun q hq=>by
          rcases List.mem_append.1 hq with h|h
          ·exact HBn.out q h
          ·simp at h;subst h;exact hke
         have HF6:Hid ((BB++[y.kids]).flatten=(LL.take j).flatten.flatMap bH.kids++(l.take (k+1)).flatMap bH.kids):=by
          show _=_;rw[List.flatten_append,htk,HBf.out];simp
         have HO6:=hide hO6;have HR6:=hide hR6;have HT6:=hide hT6;have HRn:=hide hrun;have hb6:(BB++[y.kids]).length≤(LL.take j).flatten.length+(k+1):=by rw[List.length_append];simp only[List.length_cons,List.length_nil];omega
         have HWb:=hide hwb;clear hs2 hk2 hy htk hwb hRx hLb hTb hRb hBb hke HKv HBr HR HT HBf HBn hrun hO6 hg6 hd6 hT6 hR6
         go_wp2_with (first|(rw[←HWb.out])|(at_builtin;refine wpList_append_run rfl (.tmp 46) (.tmp 49) 170 rfl _ _ _ _ rfl rfl HRn.out ?_))
         go_roundg (l.length- (k+1))
         case measure=>omega
         case rel=>exact⟨k+1,_,by omega,by go_num,HO6,HN6,HF6,hb6,HR6,HT6⟩
       ·have hke:l.take k=l:=List.take_of_length_le (by omega);have HF2:Hid (BB.flatten=(LL.take (j+1)).flatten.flatMap bH.kids):=by
         show _=_;rw[HFT.out,List.flatMap_append];have:=HBf.out;rw[hke] at this;exact this
        have hl2:BB.length≤(LL.take (j+1)).flatten.length:=by rw[HFT.out,List.length_append];omega
        have HC2:Hid (cc=c+(LL.take (j+1)).flatten.length):=by
         show _=_;rw[HFT.out,List.length_append,←Nat.add_assoc,HCC.out]
        clear hke HBf;go_wp2
        go_roundg (LL.length- (j+1))
        case measure=>omega
        case rel=>exact⟨j+1,BB,by omega,by go_num,HBr,HBn,HF2,hl2,cc,HC2,HR,HT⟩
     ·have he:LL.take j=LL:=List.take_of_length_le (by omega);have Vy:Hid (BB.flatten=LL.flatten.flatMap bH.kids):=by have:=HBf.out;rw[he] at this;exact this
      have HC2:Hid (c1=c+LL.flatten.length):=by have:=HC1.out;rw[he] at this;exact this
      have hR:=HR.out;obtain⟨s0,s1,f0,f1,_⟩:=iK hR;obtain⟨d2,hd2⟩:∃d2,d2=d+1:=⟨_,rfl⟩;have hwd:IntKind.i64.wrap ((d:Int)+1)=(d2:Int):=by rw[IntKind.wrap_i64];omega
      obtain⟨wa,hwa⟩:∃wa,wa=wr.setCell ⟨w.heap.size+2,1,none⟩ (.int .i64 (d2:Int)):=⟨_,rfl⟩;have hTa:Tn (w.heap.size+2) wr wa:=by rw[hwa];exact Tn.setCell (p:=w.heap.size+2) (Tn.refl _ _) (x:=⟨w.heap.size+2,1,none⟩) (Or.inl rfl) _
      have HRa:Hid (wa.heap[w.heap.size+2]?=some (.cells #[.int .i64 (c1:Int),.int .i64 (d2:Int)] 105 (0,0))):=by show _=_;rw[hwa];rw[dF (j:=1) hR];rfl
      have HBa:=hide ((HBr.out.kept (w':=wa) fun k hk=>hTa.block k (HBr.out.lo_le k hk).2 (by have:=(HBr.out.lo_le k hk).1;omega)).base (lo':=w.heap.size+3) (by omega));have HTa:=hide (HT2.out.trans (HT.out.trans hTa));have HWa:=hide hwa;have HM2:Hid (M=fV en (m+1) BB.flatten (c1,d2)):=by show _=_;rw[Vy.out,HC2.out,hd2];exact HMn.out
      have Yd:c1+(BB.flatten.map (cnt m)).sum≤4000000:=by rw[Vy.out,HC2.out];omega
      have Ye:d2+m≤n+1:=by omega
      clear he HBf hR HR HBr HT hTa hwa HMn Tk hd2 HC1 HC2;go_wp2;rw[←HWa.out]
      go_roundg m
      case measure=>omega
      case rel=>exact⟨BB,c1,d2,HBa,HBn,HM2,Yd,Ye,HRa,HTa⟩
end Go.Proofs.YtafmbokfkbccaaaGreatDoor
namespace Go.Proofs
open Go.Shelf
def Tryz.growBinds_ren:Go.Shelf.Ren:=⟨fun|4=>288|n=>n,fun|22=>158|25=>190|3=>3|4=>4|9=>9|20=>20|0=>0|n=>n,fun|n=>n⟩
theorem Tryz.growBinds:Go.Proofs.Lays8.n4 Tryz.prog Tryz.growBinds_ren:={
 mixed:=by kernel_rfl
 f4:=⟨Tryz.f288.name,by decide,Tryz.func288.trans (congrArg some (by kernel_rfl))⟩
 t0:=Tryz.underlying0
 a0:=Tryz.isAgg0
 z0:=Tryz.sizeOf0
 v0:=Tryz.zeroValue0
 t3:=Tryz.underlying3
 a3:=Tryz.isAgg3
 z3:=Tryz.sizeOf3
 v3:=Tryz.zeroValue3
 t4:=Tryz.underlying4
 a4:=Tryz.isAgg4
 z4:=Tryz.sizeOf4
 v4:=Tryz.zeroValue4
 t9:=Tryz.underlying9
 a9:=Tryz.isAgg9
 z9:=Tryz.sizeOf9
 v9:=Tryz.zeroValue9
 t20:=Tryz.underlying20
 a20:=Tryz.isAgg20
 z20:=Tryz.sizeOf20
 v20:=Tryz.zeroValue20
 t22:=Tryz.underlying158
 a22:=Tryz.isAgg158
 z22:=Tryz.sizeOf158
 v22:=Tryz.zeroValue158}
end Go.Proofs
namespace Go.Proofs.YtafmbokfkbccaaaGreatDoor
open Go.RowKit Go.Sort Go.Shelf
theorem yR:∃i,Tryz.prog.info? 190=some i∧i.zero=some (.agg #[.string ByteArray.empty,.string ByteArray.empty])∧i.size=2∧i.bytes=32:=⟨Tryz.t190,by kernel_rfl,by kernel_rfl,by kernel_rfl,by kernel_rfl⟩
def zM (b:aB):List Value:=[.string b.1,.string b.2]
def iP (l:List aB):List Value:=l.flatMap zM
theorem yS (l m:List aB):iP (l++m)=iP l++iP m:=by simp[iP]
theorem ng:∀l:List aB,(iP l).length=l.length*2
 |[]=>rfl
 |b::l=>by
  have:=ng l;simp only[iP,List.flatMap_cons,List.length_append,zM,List.length_cons] at this⊢;rw[this];simp;omega
theorem mJ:∀(l:List aB) (i j:Nat),j<2→(iP l)[i*2+j]?=(l[i]?).bind fun b=>(zM b)[j]?
 |[],i,j,_=>by simp[iP]
 |b::l,0,j,hj=>by
  have:j=0∨j=1:=by omega
  rcases this with rfl|rfl <;> simp[iP,zM]
 |b::l,i+1,j,hj=>by
  have e:(i+1)*2+j=(i*2+j)+2:=by omega
  rw[e];simp only[List.getElem?_cons_succ];rw[←mJ l i j hj];show([.string b.1,.string b.2]++iP l)[i*2+j+2]?=_;rw[List.getElem?_append_right (by simp)];simp
theorem Fb {l:List aB}:∀u∈iP l,u.oneCell'=true:=fun u hu=>by
 obtain⟨b,_,hb⟩:=List.mem_flatMap.1 hu;simp[zM] at hb;rcases hb with rfl|rfl <;> rfl
theorem uh {ty:TypeId} {lo:Nat} {w:World} {v:Value} {l:List aB} (h:bq.own ty lo w v l):w.ownsRow lo ty 2 v l.length (iP l):=by
 obtain⟨xs,ho,hx⟩:=h;have e:xs=iP l:=by
  apply List.ext_getElem?
  intro n
  by_cases hn:n<l.length*2
  ·have hi:n/2<l.length:=by omega
   obtain⟨c,rfl,hc⟩:=hx (n/2) _ (List.getElem?_eq_getElem hi);have hm:n%2<2:=Nat.mod_lt _ (by omega);have e1:n=n/2*2+n%2:=by omega
   have e2:=mJ l (n/2) (n%2) hm;rw[List.getElem?_eq_getElem hi] at e2;rw[←e1] at e2;rw[e2];rcases(by omega:n%2=0∨n%2=1) with h0|h0
   ·have:=hc 0 _ rfl;rw[show n/2*bq.size+0=n by show n/2*2+0=n;omega] at this;rw[this,h0];rfl
   ·have:=hc 1 _ rfl;rw[show n/2*bq.size+1=n by show n/2*2+1=n;omega] at this;rw[this,h0];rfl
  ·have h1:xs.length=l.length*2:=ho.1;rw[List.getElem?_eq_none (by omega),List.getElem?_eq_none (by rw[ng];omega)]
 rw[←e];exact ho
theorem MN {ty:TypeId} {lo:Nat} {w:World} {v:Value} {l:List aB} (h:w.ownsRow lo ty 2 v l.length (iP l)):bq.own ty lo w v l:=by
 refine⟨iP l,h,fun i x hi=>⟨_,rfl,fun j u hu=> ?_⟩⟩;have hj:j<2:=(List.getElem?_eq_some_iff.1 hu).1;show(iP l)[i*2+j]?=_;rw[mJ l i j hj,hi];exact hu
theorem sK {B:Nat→Prop} {w:World} {a:Addr} {n cap:Nat} {l:List aB} (h:bq.sl B w (.slice (some a) n cap) l):∀j u,(iP l)[j]?=some u→w.cell? (a.add j)=some u:=fun j u hu=>by
 have hj:j<l.length*2:=by rw[←ng];exact(List.getElem?_eq_some_iff.1 hu).1
 have hi:j/2<l.length:=by omega
 obtain⟨b,off,c,e,hb,rfl,hc⟩:=Kind.bQ h (List.getElem?_eq_getElem hi);cases e;have e1:j=j/2*2+j%2:=by omega
 have e2:=mJ l (j/2) (j%2) (Nat.mod_lt _ (by omega));rw[List.getElem?_eq_getElem hi] at e2;rw[←e1,hu] at e2;have:=hc (j%2) u e2.symm;rw[Addr.add_lit];rw[show off+j/2*bq.size+j%2=off+j by show off+j/2*2+j%2=off+j;omega] at this;exact this
theorem aZ {lo:Nat} {w:World} {v:Value} {l m:List aB} {a:Option Addr} {cap:Nat} (h:bq.own 190 lo w v l) (hm:bq.sl bg w (.slice a m.length cap) m) (hl:l.length+m.length≤4398046511104) (hlo:lo≤w.heap.size):
  ∃v' w',(Builtin.append_ #[158,158] 158 #[v,.slice a m.length cap]).run Tryz.prog w=.ok v' w'∧bq.own 190 lo w' v' (l++m)∧w.grownBy w' v.ownBlock∧w.drawn≤w'.drawn∧∀k,v'.ownBlock=some k→v.ownBlock=some k∨w.heap.size≤k:=by
 obtain⟨i,i1,i2,i3,i4⟩:=yR;have ho:=uh h;cases a with
 |none=>
  have hm0:m=[]:=by
   refine Classical.byContradiction fun hne=> ?_;obtain⟨_,a',_,e,h1⟩:=hm;simp only[Value.slice.injEq] at e;obtain⟨b,off,e',_⟩:=h1 hne;rw[e'] at e;cases e.1
  subst hm0;refine⟨v,w,?_,by rw[List.append_nil];exact h,⟨rfl,rfl,rfl,Nat.le_refl _,fun _ _ _=>rfl⟩,Nat.le_refl _,fun k hk=>Or.inl hk⟩;rcases ho.2 with⟨rfl,e0⟩|⟨g,c,cur,rfl,_,_,hnc,_⟩
  ·simp[Builtin.append_,run_underlying Tryz.underlying158,sizeOf,typeInfo,i1,Builtin.lenOf,Builtin.firstCells]
  ·simp[Builtin.append_,run_underlying Tryz.underlying158,sizeOf,typeInfo,i1,Builtin.lenOf,Builtin.firstCells,hnc,storeCells]
 |some a=>
  obtain⟨v',w',hrun,r1,r2,r3,r4⟩:=eD (P:=Tryz.prog) w lo 158 158 190 i _ 2 32 Tryz.underlying158 i1 i2 i3 i4 rfl (by omega) v l.length (iP l) ho a m.length cap (iP m) (ng m) (sK hm) Fb (by simp only[maxLen];omega) (by omega) hlo;exact⟨v',w',hrun,MN (by rw[List.length_append,yS];exact r1),r2,r3,r4⟩
theorem Fe {lo:Nat} {w:World} {v:Value} {l:List aB} (h:bq.own 190 lo w v l) (x y:ByteArray) (hl:l.length+1≤4398046511104) (hlo:lo≤w.heap.size):
  ∃v' w',(Builtin.append_ #[158,158] 158 #[v,.slice (some ⟨w.heap.size,0,none⟩) 1 1]).run Tryz.prog (w.alloc (.cells #[.string x,.string y] 190))=.ok v' w'∧bq.own 190 lo w' v' (l++[(x,y)])∧(w.alloc (.cells #[.string x,.string y] 190)).grownBy w' v.ownBlock∧w.drawn≤w'.drawn∧
   ∀k,v'.ownBlock=some k→v.ownBlock=some k∨w.heap.size<k:=by
 obtain⟨i,i1,i2,i3,i4⟩:=yR;exact Kind.j5 h Tryz.underlying158 i1 i2 i3 i4 rfl (by decide) (c:=[.string x,.string y]) (x:=(x,y)) rfl (by omega) (by simp[maxLen];omega) hlo
theorem Tp (w:World) (n:Nat) (hn:n≤4398046511104):Calls Tryz.prog 288 #[.slice none 0 0,.int .i64 n] w fun e w'=>
  ∃v',e=.returned v'∧bq.own 190 w.heap.size w' v' []∧Later w w':=by
 by_cases h0:n=0
 ·subst h0;exact(Any8.slices_Grow_room Tryz.growBinds none 0 0 0 w (Nat.le_refl _) (by omega) (by omega) (Nat.le_refl _)).mono fun e w' ⟨he,hw⟩=>
   ⟨_,he,bq.fF _ _ _,by rw[hw];exact Later.refl _⟩
 ·obtain⟨i,i1,i2,i3,i4⟩:=yR;refine(Any8.slices_Grow_grow Tryz.growBinds i _ i1 i2 (by omega) none 0 0 n [] w (Nat.le_refl _) (by omega) (by rw[i4];omega) (by omega) (by simp) (fun _=>rfl) (fun a h=>by cases h)).mono fun e w' ⟨he,hw⟩=>⟨_,he,?_,?_⟩
  ·rw[hw];have hcm:=grownCap_le_maxLen w (0+n) 0 (Tryz.growBinds_ren.t 25) (by simp only[maxLen];omega);have hge:=grownCap_ge w (0+n) 0 (Tryz.growBinds_ren.t 25);refine MN (World.ownsRow_made (base:=w.heap.size) (e:=190) (size:=2) w.drew _ _ (Nat.le_refl _) hcm ?_);simp only[Array.size_append,List.size_toArray,size_zeroCells];show 0+(0+n-0)*2+(grownCap w (0+n) 0 (Tryz.growBinds_ren.t 25)- (0+n))*2=_;omega
  ·rw[hw];exact(Later.refl w).drew.alloc _
theorem pO {ty:TypeId} {lo:Nat} {w w':World} {v:Value} {l:List aB} (h:bq.own ty lo w v l) (k:Later w w'):bq.own ty lo w' v l:=kM h fun _ e=>k.block (Kind.bN h e).2
set_option maxHeartbeats 1000000 in
theorem NM (w:World) (c cp:Nat) (va vb:Value) (la lb:List aB) (ha:bq.sl bg w va la) (hb:bq.sl bg w vb lb) (hn:la.length+lb.length≤4398046511104) (hc0:w.cell? ⟨c,0,none⟩=some va) (hc1:w.cell? ⟨c,1,none⟩=some vb) (hcb:c<w.heap.size):
  Calls Tryz.prog 240 #[.slice (some ⟨c,0,none⟩) 2 cp] w fun e w'=>∃v',e=.returned v'∧bq.own 190 w.heap.size w' v' (la++lb)∧Later w w':=by
 have HA:=hide ha;have HB:=hide hb;obtain⟨a1,c1,rfl⟩:=Kind.slice ha;obtain⟨a2,c2,rfl⟩:=Kind.slice hb;clear ha hb;have s1:¬((la.length:Int)<0):=by omega
 have s2:¬((la.length:Int)+(lb.length:Int)<0):=by omega
 go_enter Tryz.func240,Tryz.ntmps240
 go_wp2;refine wp_loop_rounds 3 ?_;rw[rounds_succ];go_wp2;rw[rounds_succ];go_wp2;rw[rounds_succ]
 go_wp2_with fail
 rw[show((la.length:Int)+(lb.length:Int))=((la.length+lb.length:Nat):Int) by omega];refine(Tp w (la.length+lb.length) hn).mono ?_;rintro e w1 ⟨v1,rfl,hR1,hL1⟩;obtain⟨v2,w2,Vz,hR2,hg2,hd2,hk2⟩:=aZ hR1 (Kind.aJ HA.out hL1) (by simp;omega) hL1.size;have hL2:Later w w2:=Later.of_below (hL1.below.grown hg2 hL1.size fun k hk=>(Kind.bN hR1 hk).1) (Nat.le_trans hL1.drawn hd2);obtain⟨v3,w3,VA,hR3,hg3,hd3,hk3⟩:=aZ hR2 (Kind.aJ HB.out hL2) (by simp;omega) hL2.size;have hL3:Later w w3:=Later.of_below (hL2.below.grown hg3 hL2.size fun k hk=>(Kind.bN hR2 hk).1) (Nat.le_trans hL2.drawn hd3);rw[List.nil_append] at hR3;have y0:w1.cell? ⟨c,0,none⟩=some (.slice a1 la.length c1):=by rw[hL1.cell (p:=⟨c,0,none⟩) hcb];exact hc0
 have y1:w1.cell? ⟨c,1,none⟩=some (.slice a2 lb.length c2):=by rw[hL1.cell (p:=⟨c,1,none⟩) hcb];exact hc1
 have y2:w2.cell? ⟨c,1,none⟩=some (.slice a2 lb.length c2):=by rw[hL2.cell (p:=⟨c,1,none⟩) hcb];exact hc1
 have R2:=hide Vz;have R3:=hide VA;have HR:=hide hR3;clear Vz VA hR1 hR2 hR3 hg2 hg3;go_wp2;refine wp_loop_rounds 3 ?_;rw[rounds_succ]
 go_wp2_with (at_builtin;refine wpList_append_run rfl (.tmp 31) (.tmp 32) 158 rfl _ _ _ _ rfl rfl R2.out ?_)
 rw[rounds_succ]
 go_wp2_with (at_builtin;refine wpList_append_run rfl (.tmp 31) (.tmp 32) 158 rfl _ _ _ _ rfl rfl R3.out ?_)
 rw[rounds_succ];go_wp2;go_ret;exact⟨v3,rfl,HR.out,hL3⟩
theorem Aq:∀args w,(callFunc 239 args).run Tryz.prog w=.ok (.enter 239 args) w:=enters_of Tryz.func239 (by kernel_rfl) rfl
set_option maxHeartbeats 1000000 in
theorem Il (cl cm:Nat) (u um:Value) (l m:List aB) (w0:World) (hc:w0.cell? ⟨cl,0,none⟩=some u) (hb:cl<w0.heap.size) (hd:w0.cell? ⟨cm,0,none⟩=some um) (he:cm<w0.heap.size) (hu:bq.sl bg w0 u l) (hm:bq.sl bg w0 um m):
  Nz 239 #[.pointer (some ⟨cl,0,none⟩),.pointer (some ⟨cm,0,none⟩)] (l++m) w0:=by
 intro w v hL;have HG:=hide (Sg u l v w (Kind.aJ hu hL));have HM:Hid (∀w2,Later w w2→w2.cell? ⟨cm,0,none⟩=some um∧cm<w2.heap.size∧Calls Tryz.prog 164 #[um,.string v] w2 fun e w'=>e=.returned (lu (dG m v))∧Hid (Later w w')):=fun w2 h2=>
  ⟨by rw[(hL.trans h2).cell he];exact hd,Nat.lt_of_lt_of_le he (hL.trans h2).size,(Sg um m v w2 (Kind.aJ hm (hL.trans h2))).mono fun e w' ⟨h3,h4⟩=>⟨h3,h2.trans h4⟩⟩
 have hc':w.cell? ⟨cl,0,none⟩=some u:=by rw[hL.cell hb];exact hc
 have hb':cl<w.heap.size:=Nat.lt_of_lt_of_le hb hL.size;obtain⟨a,cap,rfl⟩:=Kind.slice hu;obtain⟨am,ZM,rfl⟩:=Kind.slice hm;have E:=hide (fG l m v);clear hu hm hc hb hd he hL;show Calls _ _ #[.string v,.pointer (some ⟨cl,0,none⟩),.pointer (some ⟨cm,0,none⟩)] _ _;cases hg:dG l v with
 |some s=>
  have E1:Hid (dG (l++m) v=some s):=by show _=_;rw[E.out,hg]
  rw[hg] at HG;unfold lu at HG;simp only[Option.getD_some,Option.isSome_some] at HG;clear HM hg E
  go_enter Tryz.func239,Tryz.ntmps239
  go_wp2_with (go_at_call 164;refine HG.out.mono ?_;rintro e w2 ⟨rfl,hL2⟩;replace hL2:=hide hL2)
  go_ret2
  exact⟨by rw[E1.out];rfl,bL hL2⟩
 |none=>
  have E1:Hid (dG (l++m) v=dG m v):=by show _=_;rw[E.out,hg]
  rw[hg] at HG;unfold lu at HG HM;simp only[Option.getD_none,Option.isSome_none] at HG;clear hg E;generalize hgm:(dG m v).getD ByteArray.empty=s at*;generalize hbm:(dG m v).isSome=b at*;have E2:Hid (lu (dG (l++m) v)=.tuple #[.string s,.bool b]):=by show _=_;rw[E1.out];unfold lu;rw[hgm,hbm]
  clear hgm hbm E1
  go_enter Tryz.func239,Tryz.ntmps239
  go_wp2_with fail
  refine HG.out.mono ?_;rintro e w2 ⟨rfl,hL2⟩;obtain⟨y0,y1,hcall⟩:=HM.out w2 hL2;have HC:=hide hcall;clear hcall hL2 HM HG
  go_wp2_with fail
  refine HC.out.mono ?_;rintro e w3 ⟨rfl,hL3⟩;go_wp2
  go_ret2
  exact⟨by rw[E2.out];rfl,hL3.out⟩
end Go.Proofs.YtafmbokfkbccaaaGreatDoor
namespace Go.Proofs.YtafmbokfkbccaaaGreatDoor
open Go.RowKit Go.Sort
theorem Cm {l:List aB} {ts:List dN} {xs:List ByteArray} {j:Nat} {t:dN} {x:ByteArray} (ht:ts[j]?=some t) (hx:xs[j]?=some x):
  dK l (ts.drop j) (xs.drop j)=match bF l t with|none=>dK (l++[(bs t.2,x)]) (ts.drop (j+1)) (xs.drop (j+1))|some s=>if s=x then dK l (ts.drop (j+1)) (xs.drop (j+1)) else none:=by
 obtain⟨h1,e1⟩:=List.getElem?_eq_some_iff.1 ht;obtain⟨h2,e2⟩:=List.getElem?_eq_some_iff.1 hx;rw[List.drop_eq_getElem_cons h1,List.drop_eq_getElem_cons h2,e1,e2];rfl
def Sj (w0 w:World) (v:Value) (r:Option (List aB)):Prop:=match r with
 |none=>v=.slice none 0 0
 |some m=>bq.own 190 w0.heap.size w v m
set_option maxRecDepth 100000 in
set_option maxHeartbeats 1000000 in
theorem NN (a:aI) (sa:Option Addr) (cap:Nat) (fn:ByteArray) (fa:Option Addr) (nf Im:Nat) (sb:Option Addr) (nb EJ:Nat) (w:World) (h:(decide (bs a.name=fn)&&decide ((a.terms.length:Int)=nf))=false):
  Calls Tryz.prog 175 #[.agg #[.bool a.no,.string (bs a.name),.slice sa a.terms.length cap],.agg #[.string fn,.slice fa nf Im],.slice sb nb EJ] w fun e w'=>e=.returned (.tuple #[.slice none 0 0,.bool false])∧Later w w':=by
 obtain⟨no,name,ts⟩:=a;dsimp only at*;generalize bs name=nm at*;have E:=jP (a:=nm) (b:=fn);cases hq:(nm.toList==fn.toList) with
 |false=>
  clear h E
  go_enter Tryz.func175,Tryz.ntmps175
  go_wp2
  go_ret2
  exact⟨rfl,(by repeat (first|exact Later.refl _|assumption|refine Later.drewN ?_ _|refine Later.drew ?_|refine Later.alloc ?_ _|refine Later.grow ?_ _))⟩
 |true=>
  rw[←E,hq] at h;have hne:¬((ts.length:Int)=(nf:Int)):=by simpa using h
  have hne2:((ts.length:Int) != (nf:Int))=true:=by simpa using hne
  clear h E hne
  go_enter Tryz.func175,Tryz.ntmps175
  go_wp2
  go_ret2
  exact⟨rfl,(by repeat (first|exact Later.refl _|assumption|refine Later.drewN ?_ _|refine Later.drew ?_|refine Later.alloc ?_ _|refine Later.grow ?_ _))⟩
set_option maxRecDepth 100000 in
set_option maxHeartbeats 4000000 in
theorem KX (a:aI) (sa:Option Addr) (cap:Nat) (xs:List ByteArray) (fa:Option Addr) (Im:Nat) (u:Value) (l:List aB) (w:World) (ht:eH.sl bg w (.slice sa a.terms.length cap) a.terms) (hf:Strs w (.slice fa a.terms.length Im) xs) (hu:bq.sl bg w u l)
  (hlen:xs.length=a.terms.length) (hn:l.length+a.terms.length≤4398046511104):
  Calls Tryz.prog 175 #[.agg #[.bool a.no,.string (bs a.name),.slice sa a.terms.length cap],.agg #[.string (bs a.name),.slice fa a.terms.length Im],u] w fun e w'=>∃v,e=.returned (.tuple #[v,.bool (dK l a.terms xs).isSome])∧Sj w w' v (dK l a.terms xs)∧Later w w':=by
 obtain⟨sb,EJ,rfl⟩:=Kind.slice hu;have HT:=hide ht;have HU:=hide hu;have HFS:=hide hf;have HLen:=hide hlen;clear ht hu hf hlen;obtain⟨no,name,ts⟩:=a;dsimp only at*;generalize bs name=nm at*;have hq:(nm.toList==nm.toList)=true:=by simp
 have hq2:((ts.length:Int) != (ts.length:Int))=false:=by simp
 go_enter Tryz.func175,Tryz.ntmps175
 go_wp2
 go_loopg [32] ts.length (fun g i wr=>∃j:Nat,j+g=ts.length∧i=.int .i64 j∧∃mm o,Hid (dK l ts xs=dK (l++mm) (ts.drop j) (xs.drop j))∧Hid (bq.own 190 (w.heap.size+4) wr o mm)∧Hid (mm.length≤j)∧Hid (Later w wr)∧w.heap.size+4≤wr.heap.size∧
  Hid (wr.heap[w.heap.size+1]?=some (.cells #[.string nm,.slice fa ts.length Im] 27 (0,0)))∧Hid (wr.heap[w.heap.size+2]?=some (.cells #[.slice sb l.length EJ] 158 (0,0)))∧Hid (wr.heap[w.heap.size+3]?=some (.cells #[o] 158 (0,0))))
 case atStart=>
  refine⟨0,by omega,rfl,[],.slice none 0 0,(by simp:_=_),bq.fF _ _ _,(Nat.le_refl _:_≤_),((by repeat (first|exact Later.refl _|assumption|refine Later.drewN ?_ _|refine Later.drew ?_|refine Later.alloc ?_ _|refine Later.grow ?_ _)):Later _ _),by simp,?_,?_,?_⟩
  all_goals
   show _=_;simp only[bY,World.size_alloc]
   repeat (first|rw[if_pos trivial]|rw[if_pos (by omega)]|rw[if_neg (by omega)])
 case round=>
  obtain⟨j,hj,rfl,mm,o,HE,HO,HML,HL,hsz,H1,H2,H3⟩:=hrel;obtain⟨ao,no',co,rfl⟩:∃a n c,o=.slice a n c:=by obtain⟨a,c,e⟩:=Kind.aV HO.out;exact⟨a,_,c,e⟩
  by_cases hlt:j<ts.length
  ·obtain⟨x,hx⟩:∃x,ts[j]?=some x:=⟨_,List.getElem?_eq_getElem hlt⟩;have hltx:j<xs.length:=by rw[HLen.out];exact hlt
   obtain⟨y,hy⟩:∃y,xs[j]?=some y:=⟨_,List.getElem?_eq_getElem hltx⟩;obtain⟨b1,o1,_,rfl,hb1,rfl,hc⟩:=Kind.bQ HT.out hx;have d0:wr.cell? ⟨b1,o1+j*2,none⟩=some (.bool x.1):=by rw[HL.out.cell hb1];exact hc 0 _ rfl
   have d1:wr.cell? ⟨b1,o1+j*2+1,none⟩=some (.string (bs x.2)):=by rw[HL.out.cell hb1];exact hc 1 _ rfl
   have hbr:b1<wr.heap.size:=by omega
   obtain⟨b2,o2,rfl,hb2,hyc⟩:∃b2 o2,fa=some ⟨b2,o2,none⟩∧b2<w.heap.size∧w.cell? ⟨b2,o2+j,none⟩=some (.string y):=by
    obtain⟨_,a',cap',e,h1⟩:=HFS.out;simp only[Value.slice.injEq] at e;obtain⟨rfl,_,_⟩:=e;obtain⟨b,off,rfl,hb,hcc⟩:=h1 (by intro e;rw[e] at hltx;simp at hltx);have:=hcc j hltx;rw[List.getD_eq_getElem?_getD,hy] at this;exact⟨b,off,rfl,hb,this⟩
   have HS:=hide (Cm (l:=l++mm) hx hy);obtain⟨wt,hwt⟩:∃wt,wt=wr.alloc (.cells #[.bool x.1,.string (bs x.2)] 187):=⟨_,rfl⟩;have hLt:Later w wt:=by rw[hwt];exact HL.out.alloc _
   have hLr:Later wr wt:=by rw[hwt];exact(Later.refl _).alloc _
   have hst:wt.heap.size=wr.heap.size+1:=by rw[hwt];simp
   have hbl:∀k,k<wr.heap.size→wt.heap[k]?=wr.heap[k]?:=fun k hk=>by rw[hwt];exact Below.heap_alloc _ _ _ hk
   have htm:wt.heap[wr.heap.size]?=some (.cells #[.bool x.1,.string (bs x.2)] 187 (0,0)):=by rw[hwt];exact heap_alloc_new _ _
   have K2:=Ku ((hbl _ (by omega)).trans H2.out);have K3:=Ku ((hbl _ (by omega)).trans H3.out);have hml:=HML.out;have HW:Hid (Calls Tryz.prog 165 #[.agg #[.bool x.1,.string (bs x.2)],.func (.func 239) #[] #[.pointer (some ⟨w.heap.size+2,0,none⟩),.pointer (some ⟨w.heap.size+3,0,none⟩)]] wt fun e w2=>e=.returned (lu (bF (l++mm) x))∧Later wt w2):=
    ML _ _ Aq x (l++mm) wt wt (Il (w.heap.size+2) (w.heap.size+3) _ _ l mm wt K2.1 K2.2.2 K3.1 K3.2.2 (Kind.aJ HU.out hLt) (Kind.dQ (Kind.fA (pO HO.out hLr) (by omega)))) (Later.refl _)
   rw[hwt] at HW;have HWT:=hide hwt;have HTM:=hide htm;clear hc hx hy K2 K3 hwt htm;obtain⟨x1,x2⟩:=x;dsimp only at*;cases hw:bF (l++mm) (x1,x2) with
   |some s=>
    rw[hw] at HW HS;have hw0:lu (some s)=.tuple #[.string s,.bool true]:=rfl;rw[hw0] at HW;clear hw hw0;generalize bs x2=kx at*
    by_cases hsy:s=y
    ·have HE1:Hid (dK l ts xs=dK (l++mm) (ts.drop (j+1)) (xs.drop (j+1))):=by
      show _=_;have h1:=HS.out;dsimp only at h1;rw[if_pos hsy] at h1;rw[HE.out,h1]
     have hqs:(s.toList==y.toList)=true:=by rw[hsy];simp
     clear HS HE hsy
     go_wp2_with fail
     refine HW.out.mono ?_;rintro e w2 ⟨rfl,hL2⟩;rw[←HWT.out] at hL2;have hb2':∀k,k<wr.heap.size→w2.heap[k]?=wr.heap[k]?:=fun k hk=>(hL2.block (by omega)).trans (hbl k hk);have hs2:wr.heap.size<w2.heap.size:=by have:=hL2.size;omega
     obtain⟨q0,q1,p0,p1,q2⟩:=iK ((hb2' _ (by omega)).trans H1.out);have d2:w2.cell? ⟨b2,o2+j,none⟩=some (.string y):=by rw[(hLt.trans hL2).cell hb2];exact hyc
     have VB:b2<w2.heap.size:=by have:=(hLt.trans hL2).size;omega
     have Z1:=hide ((hb2' _ (by omega)).trans H1.out);have Z2:=hide ((hb2' _ (by omega)).trans H2.out);have Z3:=hide ((hb2' _ (by omega)).trans H3.out);have HL2:=hide (hLt.trans hL2);have HO2:=hide (pO HO.out (hLr.trans hL2));clear hL2 hb2' HW hbl;go_wp2
     go_roundg (ts.length- (j+1))
     case measure=>omega
     case rel=>exact⟨j+1,by omega,by go_num,mm,_,HE1,HO2,(by omega:mm.length≤j+1),HL2,by omega,Z1,Z2,Z3⟩
    ·have HE1:Hid (dK l ts xs=none):=by
      show _=_;have h1:=HS.out;dsimp only at h1;rw[if_neg hsy] at h1;rw[HE.out,h1]
     have hqs:(s.toList==y.toList)=false:=by rw[jP];simpa using hsy
     clear HS HE hsy
     go_wp2_with fail
     refine HW.out.mono ?_;rintro e w2 ⟨rfl,hL2⟩;rw[←HWT.out] at hL2;have hb2':∀k,k<wr.heap.size→w2.heap[k]?=wr.heap[k]?:=fun k hk=>(hL2.block (by omega)).trans (hbl k hk);have hs2:wr.heap.size<w2.heap.size:=by have:=hL2.size;omega
     obtain⟨q0,q1,p0,p1,q2⟩:=iK ((hb2' _ (by omega)).trans H1.out);have d2:w2.cell? ⟨b2,o2+j,none⟩=some (.string y):=by rw[(hLt.trans hL2).cell hb2];exact hyc
     have VB:b2<w2.heap.size:=by have:=(hLt.trans hL2).size;omega
     have HL2:=hide (hLt.trans hL2);clear hL2 hb2' HW hbl;go_wp2
     go_ret2
     exact⟨_,by rw[HE1.out];rfl,by rw[HE1.out];exact rfl,HL2.out⟩
   |none=>
    rw[hw] at HW HS;have hw0:lu none=.tuple #[.string ByteArray.empty,.bool false]:=rfl;rw[hw0] at HW;have HE1:Hid (dK l ts xs=dK (l++(mm++[(bs x2,y)])) (ts.drop (j+1)) (xs.drop (j+1))):=by
     show _=_;have h1:=HS.out;dsimp only at h1;rw[HE.out,h1,List.append_assoc]
    clear hw hw0 HS HE;generalize bs x2=kx at*
    go_wp2_with fail
    refine HW.out.mono ?_;rintro e w2 ⟨rfl,hL2⟩;rw[←HWT.out] at hL2;have hb2':∀k,k<wr.heap.size→w2.heap[k]?=wr.heap[k]?:=fun k hk=>(hL2.block (by omega)).trans (hbl k hk);have hs2:wr.heap.size<w2.heap.size:=by have:=hL2.size;omega
    obtain⟨q0,q1,p0,p1,q2⟩:=iK ((hb2' _ (by omega)).trans H1.out);have d2:w2.cell? ⟨b2,o2+j,none⟩=some (.string y):=by rw[(hLt.trans hL2).cell hb2];exact hyc
    have VB:b2<w2.heap.size:=by have:=(hLt.trans hL2).size;omega
    obtain⟨t0,t1,_,_,t2⟩:=iK ((hL2.block (by omega)).trans HTM.out);obtain⟨m0,m1,m2⟩:=Ku ((hb2' _ (by omega)).trans H3.out);obtain⟨v',w4,hrun,hO4,hg4,hd4,hv4⟩:=Fe (w:=w2.drew) (pO HO.out ((hLr.trans hL2).drew)) kx y (by omega) (by show w.heap.size+4≤w2.heap.size;omega);have hlo:∀k,(Value.slice ao no' co).ownBlock=some k→w.heap.size+4≤k:=fun k e=>(Kind.bN HO.out e).1;have hb4:∀k,k<w.heap.size+4→w4.heap[k]?=wr.heap[k]?:=fun k hk=>by
     rw[hg4.block k (by simp;omega) (fun e=>by have:=hlo k e.symm;omega),Below.heap_alloc _ _ _ (by show k<w2.heap.size;omega)];exact hb2' k (by omega)
    have hs4:w2.heap.size<w4.heap.size:=by have:=hg4.size;simp at this;omega
    have HL4:=hide ((hLt.trans hL2).drew.more hg4 hd4 fun k e=>by have:=hlo k e;omega);have Z3:=hide ((hb4 _ (by omega)).trans H3.out);have Z1:=hide ((hb4 _ (by omega)).trans H1.out);have Z2:=hide ((hb4 _ (by omega)).trans H2.out);obtain⟨n0,n1,n2⟩:=Ku Z3.out;obtain⟨a4,n4,c4,rfl⟩:∃a n c,v'=.slice a n c:=by obtain⟨a,c,e⟩:=Kind.aV hO4;exact⟨a,_,c,e⟩
    have HR4:=hide hrun;have HO4:=hide hO4;clear hL2 hb2' HW hrun hO4 hg4 hd4 hv4 hb4 hbl;go_wp2
    go_region_law (refine iL rfl (.tmp 45) (.tmp 54) 158 rfl _ _ _ _ (by simp[Act.eval]) (by simp[Act.eval]) HR4.out ?_)
    all_goals
     go_wp2
     go_roundg (ts.length- (j+1))
     case measure=>omega
     case rel=>
      refine⟨j+1,by omega,by go_num,mm++[(kx,y)],.slice a4 n4 c4,HE1,?_,(by simp;omega:(mm++[(kx,y)]).length≤j+1),?_,?_,?_,?_,?_⟩
      ·exact Kind.dV HO4.out (by simp[World.setCell]) fun k _ hk=>Below.heap_setCell _ _ _ _ (by show k≠w.heap.size+3;omega)
      ·exact(Later.setCell HL4.out (p:=⟨w.heap.size+1+1+1,0,none⟩) (by show w.heap.size≤w.heap.size+3;omega) _:Later _ _)
      ·simp[World.setCell];omega
      ·show _=_;rw[Below.heap_setCell _ _ _ _ (by show w.heap.size+1≠w.heap.size+3;omega)];exact Z1.out
      ·show _=_;rw[Below.heap_setCell _ _ _ _ (by show w.heap.size+2≠w.heap.size+3;omega)];exact Z2.out
      ·show _=_;rw[dF Z3.out];rfl
  ·have e:j=ts.length:=by omega
   subst e;have HE1:Hid (dK l ts xs=some (l++mm)):=by
    show _=_;rw[HE.out,List.drop_length];rfl
   have hml:=HML.out;have hLc:Later wr (wr.alloc (.cells #[.slice sb l.length EJ,.slice ao no' co] 158)):=(Later.refl _).alloc _;have HCc:=hide (NM (wr.alloc (.cells #[.slice sb l.length EJ,.slice ao no' co] 158)) wr.heap.size 2 (.slice sb l.length EJ) (.slice ao no' co) l mm (Kind.aJ HU.out (HL.out.trans hLc)) (Kind.dQ (Kind.fA (pO HO.out hLc) (by omega))) (by omega) (by simp) (by simp) (by simp));obtain⟨q0,p0,q2⟩:=Ku H2.out;obtain⟨y0,t0,y2⟩:=Ku H3.out;clear hLc
   go_wp2_with fail
   refine HCc.out.mono ?_;rintro e w2 ⟨v,rfl,hO2,hL2⟩;have HL2:=hide ((HL.out.alloc (.cells #[.slice sb l.length EJ,.slice ao no' co] 158)).trans hL2);have HO2:=hide (ig hO2 (lo':=w.heap.size) (by simp;omega));clear hO2 hL2 HCc;go_wp2
   go_ret2
   exact⟨v,by rw[HE1.out];rfl,by rw[HE1.out];exact HO2.out,HL2.out⟩
theorem KY (a:aI) (tv fv u:Value) (f:aO) (l:List aB) (w:World) (ht:eH.sl bg w tv a.terms) (hf:dH w fv f) (hu:bq.sl bg w u l) (hn:l.length+a.terms.length≤4398046511104):
  Calls Tryz.prog 175 #[.agg #[.bool a.no,.string (bs a.name),tv],fv,u] w fun e w'=>∃v,e=.returned (.tuple #[v,.bool (dw a f l).isSome])∧Sj w w' v (dw a f l)∧Later w w':=by
 obtain⟨sa,cap,rfl⟩:=Kind.slice ht;obtain⟨s,rfl,hs⟩:=hf;obtain⟨fa,Im,rfl⟩:=bB hs;unfold dw;split
 ·rename_i h;obtain⟨h1,h2⟩:=h;rw[←h1,←h2];rw[←h2] at hs;exact KX a sa cap f.2 fa Im u l w ht hs hu h2.symm hn
 ·rename_i h;obtain⟨sb,EJ,rfl⟩:=Kind.slice hu;refine(NN a sa cap f.1 fa f.2.length Im sb l.length EJ w ?_).mono fun e w' ⟨he,hL⟩=>⟨_,he,rfl,hL⟩;rw[Bool.and_eq_false_iff]
  by_cases h1:bs a.name=f.1
  ·right
   simp only[decide_eq_false_iff_not];intro h2;exact h ⟨h1,by omega⟩
  ·left;simpa using h1
end Go.Proofs.YtafmbokfkbccaaaGreatDoor
