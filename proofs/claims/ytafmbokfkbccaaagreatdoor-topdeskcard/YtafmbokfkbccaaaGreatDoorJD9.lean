import Derived.Test.YtafmbokfkbccaaaGreatDoorJD6
import Derived.Test.YtafmbokfkbccaaaGreatDoorJD3
import Derived.Test.YtafmbokfkbccaaaGreatDoorJD8
import Derived.Test.YtafmbokfkbccaaaGreatDoorJD7
import Derived.Shelf.Spec.SlicesGrow
import Derived.Test.YtafmbokfkbccaaaGreatDoorProg
namespace Go.Proofs.YtafmbokfkbccaaaGreatDoor
open Go.RowKit Go.Sort
def bindK:Kind BindD where
 size:=2
 is:=fun _ _ c b=>c=[.string b.1,.string b.2]
 len:=fun h=>by subst h;rfl
 one:=fun h u hu=>by subst h;simp at hu;rcases hu with rfl|rfl <;> rfl
 kept:=fun h _ _=>h
 mono:=fun h _=>h
def slK {α:Type} (K:Kind α):Kind (List α) where
 size:=1
 is:=fun B w c l=>∃v,c=[v]∧K.sl B w v l
 len:=fun⟨v,h,_⟩=>by subst h;rfl
 one:=fun⟨v,h,hs⟩ u hu=>by
  subst h;obtain⟨a,cap,rfl⟩:=Kind.slice hs;simp at hu;subst hu;rfl
 kept:=fun⟨v,h,hs⟩ h1 h2=>⟨v,h,Kind.sl_kept hs h1 h2⟩
 mono:=fun⟨v,h,hs⟩ h1=>⟨v,h,Kind.sl_mono hs h1⟩
abbrev listK:Kind (List BindD):=slK bindK
theorem Kind.own_kept {α:Type} {K:Kind α} {ty:TypeId} {lo:Nat} {w w':World} {v:Value} {l:List α} (h:K.own ty lo w v l) (hs:w.heap.size≤w'.heap.size) (hk:∀k,k<w.heap.size→lo≤k→w'.heap[k]?=w.heap[k]?):K.own ty lo w' v l:=by
 obtain⟨xs,ho,hx⟩:=h;refine⟨xs,⟨ho.1,?_⟩,fun i x hi=> ?_⟩
 ·rcases ho.2 with e|⟨g,cap,cur,rfl,hbg,hg,r⟩
  ·exact Or.inl e
  ·exact Or.inr ⟨g,cap,cur,rfl,hbg,by rw[hk g (Array.getElem?_eq_some_iff.1 hg).1 hbg];exact hg,r⟩
 ·obtain⟨c,c1,c2⟩:=hx i x hi;exact⟨c,K.kept c1 hs fun j hj hB=>hk j hj hB.1,c2⟩
theorem own_block {ty:TypeId} {lo:Nat} {w w':World} {v:Value} {l:List BindD} (h:bindK.own ty lo w v l) (hk:∀k,v.ownBlock=some k→w'.heap[k]?=w.heap[k]?):bindK.own ty lo w' v l:=by
 obtain⟨xs,ho,hx⟩:=h;refine⟨xs,⟨ho.1,?_⟩,hx⟩;rcases ho.2 with e|⟨g,cap,cur,rfl,hbg,hg,r⟩
 ·exact Or.inl e
 ·exact Or.inr ⟨g,cap,cur,rfl,hbg,by rw[hk g rfl];exact hg,r⟩
theorem own_base {ty:TypeId} {lo lo':Nat} {w:World} {v:Value} {l:List BindD} (h:bindK.own ty lo w v l) (hl:lo'≤lo):bindK.own ty lo' w v l:=by
 obtain⟨xs,ho,hx⟩:=h;refine⟨xs,⟨ho.1,?_⟩,hx⟩;rcases ho.2 with e|⟨g,cap,cur,rfl,hbg,r⟩
 ·exact Or.inl e
 ·exact Or.inr ⟨g,cap,cur,rfl,by omega,r⟩
abbrev ofBlock (v:Value):Nat→Prop:=fun k=>v.ownBlock=some k
def apart (u u':Value):Prop:=∀k,u.ownBlock=some k→u'.ownBlock≠some k
theorem apart.symm {u u':Value} (h:apart u u'):apart u' u:=fun k h1 h2=>h k h2 h1
def Lists (tyS ty:TypeId) (lo:Nat) (w:World) (v:Value) (ps:List (Value×List BindD)):Prop:=
 w.ownsRow lo tyS 1 v ps.length (ps.map (·.1))∧(∀p∈ps,bindK.own ty lo w p.1 p.2∧apart p.1 v)∧ps.Pairwise fun p q=>apart p.1 q.1
theorem Lists.nil (tyS ty:TypeId) (lo:Nat) (w:World):Lists tyS ty lo w (.slice none 0 0) []:=⟨World.ownsRow_nil w lo tyS 1,fun p hp=>by simp at hp,List.Pairwise.nil⟩
theorem Lists.kept {tyS ty:TypeId} {lo:Nat} {w w':World} {v:Value} {ps:List (Value×List BindD)} (h:Lists tyS ty lo w v ps) (hk:∀k,k<w.heap.size→lo≤k→w'.heap[k]?=w.heap[k]?):Lists tyS ty lo w' v ps:=by
 obtain⟨ho,hp,ha⟩:=h;refine⟨⟨ho.1,?_⟩,fun p h1=>⟨own_block (hp p h1).1 fun k e=> ?_,(hp p h1).2⟩,ha⟩
 ·rcases ho.2 with e|⟨g,cap,cur,rfl,hbg,hg,r⟩
  ·exact Or.inl e
  ·exact Or.inr ⟨g,cap,cur,rfl,hbg,by rw[hk g (Array.getElem?_eq_some_iff.1 hg).1 hbg];exact hg,r⟩
 ·have:=Kind.own_lt (hp p h1).1 e;exact hk k this.2 this.1
theorem Lists.later {tyS ty:TypeId} {lo:Nat} {w w':World} {v:Value} {ps:List (Value×List BindD)} (h:Lists tyS ty lo w v ps) (k:Later w w'):Lists tyS ty lo w' v ps:=h.kept fun _ hi _=>k.block hi
theorem Lists.slice {tyS ty:TypeId} {lo:Nat} {w:World} {v:Value} {ps:List (Value×List BindD)} (h:Lists tyS ty lo w v ps):∃a cap,v=.slice a ps.length cap:=by
 rcases h.1.2 with⟨rfl,e⟩|⟨g,cap,cur,rfl,_⟩
 ·exact⟨none,0,by rw[e]⟩
 ·exact⟨_,cap,rfl⟩
theorem Lists.sl {tyS ty:TypeId} {lo:Nat} {w:World} {v:Value} {ps:List (Value×List BindD)} (h:Lists tyS ty lo w v ps) (hl:ps.length≤8796093022208) (hs:∀p∈ps,p.2.length≤8796093022208):listK.sl (From lo) w v (ps.map (·.2)):=by
 obtain⟨ho,hp,_⟩:=h;rcases ho.2 with⟨rfl,e⟩|⟨g,cap,cur,rfl,hbg,hg,hnc,_⟩
 ·have:ps=[]:=List.eq_nil_of_length_eq_zero e;subst this;exact listK.sl_nil _ _ _ _
 ·refine⟨⟨by simpa using hl,hnc⟩,_,cap,by simp,fun _=>⟨g,0,rfl,hbg,(Array.getElem?_eq_some_iff.1 hg).1,fun i x hi=> ?_⟩⟩;rw[List.getElem?_map] at hi;cases e:ps[i]? with
  |none=>rw[e] at hi;cases hi
  |some p=>
   rw[e] at hi;cases hi;have hpm:=List.mem_of_getElem? e;refine⟨[p.1],⟨p.1,rfl,Kind.own_sl (hp p hpm).1 (hs p hpm)⟩,fun j u hu=> ?_⟩;cases j with
   |succ j=>simp at hu
   |zero=>
    simp at hu;subst hu;have:=ho.cells (g:=g) rfl i p.1 (by rw[List.getElem?_map,e];rfl);rw[Addr.add_lit] at this;show w.cell? ⟨g,0+i*1+0,none⟩=_;rw[Nat.mul_one,Nat.add_zero];exact this
end Go.Proofs.YtafmbokfkbccaaaGreatDoor
namespace Go.Proofs.YtafmbokfkbccaaaGreatDoor
open Go.RowKit Go.Sort
theorem eq_list {a b:ByteArray}:(a.toList==b.toList)=decide (a=b):=by
 rw[Bool.eq_iff_iff];simp only[beq_iff_eq,decide_eq_true_eq];exact⟨toList_inj,fun h=>by rw[h]⟩
set_option maxHeartbeats 400000 in
theorem get1 (b1 b2 v:ByteArray) (c:Nat) (w:World) (hc:w.cell? ⟨c,0,none⟩=some (.string v)) (hb:c<w.heap.size):
  Calls Tryz.prog 226 #[.agg #[.string b1,.string b2],.pointer (some ⟨c,0,none⟩)] w fun e w'=>e=.returned (.bool (decide (b1=v)))∧Later w w':=by
 have E:=hide (eq_list (a:=b1) (b:=v))
 go_enter Tryz.func226,Tryz.ntmps226
 go_wp2;go_ret;exact⟨ret_bool E.out,(by repeat (first|exact Later.refl _|assumption|refine Later.drewN ?_ _|refine Later.drew ?_|refine Later.alloc ?_ _|refine Later.grow ?_ _))⟩
theorem getB_drop {l:List BindD} {k:Nat} {b:BindD} (h:l[k]?=some b) (v:ByteArray):getB (l.drop k) v=if b.1=v then some b.2 else getB (l.drop (k+1)) v:=by
 obtain⟨h1,e1⟩:=List.getElem?_eq_some_iff.1 h;rw[List.drop_eq_getElem_cons h1,e1];rfl
set_option maxHeartbeats 1000000 in
theorem indexBind (u:Value) (l:List BindD) (v:ByteArray) (c:Nat) (w:World) (hu:bindK.sl Anyw w u l) (hc:w.cell? ⟨c,0,none⟩=some (.string v)) (hb:c<w.heap.size):
  Calls Tryz.prog 225 #[u,.func (.func 226) #[] #[.pointer (some ⟨c,0,none⟩)]] w fun e w'=>∃n:Int,e=.returned (.int .i64 n)∧((n= -1∧getB l v=none)∨∃k b,n=(k:Nat)∧l[k]?=some b∧getB l v=some b.2)∧Later w w':=by
 obtain⟨a,cap,rfl⟩:=Kind.slice hu;have hl:=hu.1.1;have HU:=hide hu;have HC:Hid (∀w' b1 b2,Later w w'→Calls Tryz.prog 226 #[.agg #[.string b1,.string b2],.pointer (some ⟨c,0,none⟩)] w' fun e w''=>e=.returned (.bool (decide (b1=v)))∧Hid (Later w w'')):=fun w' b1 b2 hL=>
  (get1 b1 b2 v c w' (by rw[hL.cell hb];exact hc) (Nat.lt_of_lt_of_le hb hL.size)).mono fun e w'' ⟨he,hL2⟩=>⟨he,hL.trans hL2⟩
 clear hu hc hb
 go_enter Tryz.func225,Tryz.ntmps225
 go_wp2
 go_loopg [8] l.length (fun g i wr=>∃k:Nat,k+g=l.length∧i=.int .i64 k∧Hid (getB l v=getB (l.drop k) v)∧Hid (Later w wr))
 case atStart=>exact⟨0,by omega,rfl,(rfl:_=_),Later.refl _⟩
 case round=>
  obtain⟨k,hk,rfl,HE,HL⟩:=hrel
  by_cases hlt:k<l.length
  ·obtain⟨b,hx⟩:∃x,l[k]?=some x:=⟨_,List.getElem?_eq_getElem hlt⟩;obtain⟨b1,o1,_,rfl,hb1,rfl,hcl⟩:=Kind.sl_at HU.out hx;have d0:wr.cell? ⟨b1,o1+k*2,none⟩=some (.string b.1):=by rw[HL.out.cell hb1];exact hcl 0 _ rfl
   have d1:wr.cell? ⟨b1,o1+k*2+1,none⟩=some (.string b.2):=by rw[HL.out.cell hb1];exact hcl 1 _ rfl
   have hbr:b1<wr.heap.size:=Nat.lt_of_lt_of_le hb1 HL.out.size;have HD:=hide (getB_drop hx v);have HX:=hide hx;have HCk:=hide (HC.out wr b.1 b.2 HL.out);clear hcl hx;obtain⟨bv,bn⟩:=b;dsimp only at*
   by_cases hq:bv=v
   ·have hq':decide (bv=v)=true:=by simpa using hq
    have F:Hid (getB l v=some bn):=by show _=_;rw[HE.out,HD.out,if_pos hq]
    rw[hq'] at HCk;clear hq hq' HD HE
    go_wp2_with (go_at_call 226;refine HCk.out.mono ?_;rintro e w2 ⟨rfl,hL2⟩)
    go_ret;exact⟨_,rfl,Or.inr ⟨k,(bv,bn),rfl,HX.out,F.out⟩,hL2.out⟩
   ·have hq':decide (bv=v)=false:=by simpa using hq
    have F:Hid (getB l v=getB (l.drop (k+1)) v):=by show _=_;rw[HE.out,HD.out,if_neg hq]
    rw[hq'] at HCk;clear hq hq' HD HE
    go_wp2_with (go_at_call 226;refine HCk.out.mono ?_;rintro e w2 ⟨rfl,hL2⟩)
    go_roundg (l.length- (k+1))
    case measure=>omega
    case rel=>exact⟨k+1,by omega,by go_num,F,hL2⟩
  ·have F:Hid (getB l v=none):=by show _=_;rw[HE.out,List.drop_eq_nil_of_le (by omega)];rfl
   go_wp2;go_ret;exact⟨_,rfl,Or.inl ⟨rfl,F.out⟩,HL.out⟩
def toldV (x:Option ByteArray):Value:=.tuple #[.string (x.getD ByteArray.empty),.bool x.isSome]
set_option maxHeartbeats 1000000 in
theorem getC (u:Value) (l:List BindD) (v:ByteArray) (w:World) (hu:bindK.sl Anyw w u l):Calls Tryz.prog 164 #[u,.string v] w fun e w'=>e=.returned (toldV (getB l v))∧Later w w':=by
 have HI:=hide (indexBind u l v w.heap.size (w.alloc (.cells #[.string v] 9)) (Kind.sl_later hu ((Later.refl _).alloc _)) (by simp) (by simp));have HU:=hide hu;obtain⟨a,cap,rfl⟩:=Kind.slice hu;clear hu
 go_enter Tryz.func164,Tryz.ntmps164
 go_wp2_with fail
 refine HI.out.mono ?_;rintro e w2 ⟨n,rfl,h,hL⟩;have HL:=hide (((Later.refl w).alloc (.cells #[.string v] 9)).trans hL);clear hL HI;rcases h with⟨rfl,h⟩|⟨k,b,rfl,hk,h⟩
 ·have H:=hide h;clear h;go_wp2
  go_ret2
  exact⟨by rw[H.out];rfl,HL.out⟩
 ·obtain⟨b1,o1,_,rfl,hb1,rfl,hcl⟩:=Kind.sl_at HU.out hk;have d1:w2.cell? ⟨b1,o1+k*2+1,none⟩=some (.string b.2):=by rw[HL.out.cell hb1];exact hcl 1 _ rfl
  have hbr:b1<w2.heap.size:=Nat.lt_of_lt_of_le hb1 HL.out.size;have hkl:k<l.length:=(List.getElem?_eq_some_iff.1 hk).1;have hkz:(k:Int)<(l.length:Int):=by omega
  have hk0:¬(k:Int)<0:=by omega
  have H:=hide h;clear h hcl hk;go_wp2
  go_ret2
  exact⟨by rw[H.out];rfl,HL.out⟩
def Tells (g:Nat) (cb:Array Value) (l:List BindD) (w0:World):Prop:=∀w v,Later w0 w→Calls Tryz.prog g (#[.string v]++cb) w fun e w'=>e=.returned (toldV (getB l v))∧Later w w'
set_option maxHeartbeats 1000000 in
theorem worthC (g:Nat) (cb:Array Value) (eg:∀args w,(callFunc g args).run Tryz.prog w=.ok (.enter g args) w) (t:TermD) (l:List BindD) (w0 w:World) (h:Tells g cb l w0) (hL:Later w0 w):
  Calls Tryz.prog 165 #[.agg #[.bool t.1,.string (bs t.2)],.func (.func g) #[] cb] w fun e w'=>e=.returned (toldV (worthB l t))∧Later w w':=by
 obtain⟨t1,t2⟩:=t;cases t1
 ·show Calls _ _ _ _ fun e w'=>e=.returned (toldV (some (bs t2)))∧_;dsimp only;generalize bs t2=k;clear h
  go_enter Tryz.func165,Tryz.ntmps165
  go_wp2
  go_ret2
  exact⟨rfl,(by repeat (first|exact Later.refl _|assumption|refine Later.drewN ?_ _|refine Later.drew ?_|refine Later.alloc ?_ _|refine Later.grow ?_ _))⟩
 ·show Calls _ _ _ _ fun e w'=>e=.returned (toldV (getB l (bs t2)))∧_;dsimp only;generalize bs t2=k;have HT:=hide (h (w.alloc (.cells #[.bool true,.string k] 187)) k (hL.alloc _));clear h;unfold toldV at HT⊢;generalize(getB l k).getD ByteArray.empty=s at*;generalize(getB l k).isSome=b at*
  go_enter Tryz.func165,Tryz.ntmps165
  go_wp2_with fail
  refine HT.out.mono ?_;rintro e w2 ⟨rfl,hL2⟩;have HL2:=hide (((Later.refl w).alloc (.cells #[.bool true,.string k] 187)).trans hL2);clear hL2 HT;go_wp2
  go_ret2
  exact⟨rfl,HL2.out⟩
end Go.Proofs.YtafmbokfkbccaaaGreatDoor
namespace Go.Proofs.YtafmbokfkbccaaaGreatDoor
open Go.RowKit Go.Sort
def bsK:Kind ByteArray where
 size:=1
 is:=fun _ _ c t=>c=[.string t]
 len:=fun h=>by subst h;rfl
 one:=fun h u hu=>by subst h;simp at hu;subst hu;rfl
 kept:=fun h _ _=>h
 mono:=fun h _=>h
theorem Kind.own_more {α:Type} {P:Program} {K:Kind α} {t ty:TypeId} {lo bytes:Nat} {w:World} {v:Value} {l:List α} (h:K.own ty lo w v l) {i:TypeInfo} {z:Value}
  (ht:P.underlying t=some (.slice ty)) (hi:P.info? ty=some i) (hz:i.zero=some z) (hsize:i.size=K.size) (hby:i.bytes=bytes) (hzs:z.cells.size=K.size) (hsz:0<K.size)
  {c:List Value} {x:α} (hc:K.is (fun k=>lo≤k∧v.ownBlock≠some k) w c x) (hl:(l.length+1)*bytes≤140737488355328) (hl2:l.length+1≤maxLen) (hlo:lo≤w.heap.size):
  ∃v' w',(Builtin.append_ #[t,t] t #[v,.slice (some ⟨w.heap.size,0,none⟩) 1 1]).run P (w.alloc (.cells c.toArray ty))=.ok v' w'∧K.own ty lo w' v' (l++[x])∧(w.alloc (.cells c.toArray ty)).grownBy w' v.ownBlock∧w.drawn≤w'.drawn∧
   ∀k,v'.ownBlock=some k→v.ownBlock=some k∨w.heap.size<k:=by
 obtain⟨xs,ho,hx⟩:=h;have hcl:=K.len hc;have hnews:∀j u,c[j]?=some u→(w.alloc (.cells c.toArray ty)).cell? ((⟨w.heap.size,0,none⟩:Addr).add j)=some u:=by
  intro j u hu;rw[Addr.add_lit,Nat.zero_add,cell_of_row _ w.heap.size j c.toArray ty (0,0) (heap_alloc_new w _)];simpa using hu
 obtain⟨v',w',hrun,r1,r2,r3,r4⟩:=append_own (P:=P) (w.alloc (.cells c.toArray ty)) lo t t ty i z K.size bytes ht hi hz hsize hby hzs hsz v l.length xs (ho.alloc _) ⟨w.heap.size,0,none⟩ 1 1 c (by rw[hcl];simp) hnews
  (K.one hc) hl2 hl (by simp;omega)
 have hxl:xs.length=l.length*K.size:=ho.1;have own':∀k,v'.ownBlock=some k→v.ownBlock=some k∨w.heap.size<k:=fun k e=>by
  rcases r4 k e with e|e
  ·exact Or.inl e
  ·simp at e;exact Or.inr (by omega)
 have keep:∀k,k<w.heap.size→(lo≤k∧v.ownBlock≠some k)→w'.heap[k]?=w.heap[k]?:=fun k hk hB=>
  (r2.block k (by simp;omega) (fun e=>hB.2 e.symm)).trans (Below.heap_alloc w _ k hk)
 have hsz':w.heap.size≤w'.heap.size:=Nat.le_trans (by simp) r2.size;have move:∀{c:List Value} {y:α},K.is (fun k=>lo≤k∧v.ownBlock≠some k) w c y→K.is (fun k=>lo≤k∧v'.ownBlock≠some k) w' c y:=fun {c y} hy=>
  K.kept (K.mono hy fun k hk hB=>(⟨⟨hB.1,fun e=>by rcases own' k e with e|e;exact hB.2 e;omega⟩,hB⟩:(lo≤k∧v'.ownBlock≠some k)∧(lo≤k∧v.ownBlock≠some k))) hsz' (fun k hk hB=>keep k hk hB.2) |> fun h=>K.mono h fun _ _ hB=>hB.1
 refine⟨v',w',hrun,⟨xs++c,by simpa using r1,fun j y hj=> ?_⟩,r2,r3,own'⟩
 by_cases hjl:j<l.length
 ·rw[List.getElem?_append_left hjl] at hj;obtain⟨d,d1,d2⟩:=hx j y hj;refine⟨d,move d1,fun q u hu=> ?_⟩;have:=d2 q u hu;rw[List.getElem?_append_left (List.getElem?_eq_some_iff.1 this).1];exact this
 ·rw[List.getElem?_append_right (by omega)] at hj;have hj':j=l.length:=by
   have:=(List.getElem?_eq_some_iff.1 hj).1;simp at this;omega
  subst hj';simp at hj;subst hj;refine⟨c,move hc,fun q u hu=> ?_⟩;rw[List.getElem?_append_right (by omega),hxl,Nat.add_sub_cancel_left];exact hu
theorem Later.more {w0 w w':World} {v:Value} {o:Obj} (h:Later w0 w) (hg:(w.alloc o).grownBy w' v.ownBlock) (hd:w.drawn≤w'.drawn) (hv:∀k,v.ownBlock=some k→w0.heap.size≤k):Later w0 w':=
 Later.of_below ((h.alloc o).below.grown hg (h.alloc o).size hv) (Nat.le_trans h.drawn hd)
theorem bsK_strs {lo:Nat} {w:World} {v:Value} {l:List ByteArray} (h:bsK.own 9 lo w v l) (hl:l.length≤8796093022208):Strs w v l:=by
 obtain⟨⟨h0,_⟩,a,cap,rfl,h1⟩:=Kind.own_sl h hl;refine⟨h0,a,cap,rfl,fun hne=> ?_⟩;obtain⟨b,off,rfl,_,hb,hc⟩:=h1 hne;refine⟨b,off,rfl,hb,fun i hi=> ?_⟩;obtain⟨c,rfl,c2⟩:=hc i _ (List.getElem?_eq_getElem hi);have:=c2 0 _ rfl;rw[List.getD_eq_getElem?_getD,List.getElem?_eq_getElem hi];simpa[bsK] using this
theorem appendArg {lo:Nat} {w:World} {v:Value} {l:List ByteArray} (h:bsK.own 9 lo w v l) (x:ByteArray) (hl:l.length+1≤8796093022208) (hlo:lo≤w.heap.size):
  ∃v' w',(Builtin.append_ #[25,25] 25 #[v,.slice (some ⟨w.heap.size,0,none⟩) 1 1]).run Tryz.prog (w.alloc (.cells #[.string x] 9))=.ok v' w'∧bsK.own 9 lo w' v' (l++[x])∧(w.alloc (.cells #[.string x] 9)).grownBy w' v.ownBlock∧w.drawn≤w'.drawn∧
   ∀k,v'.ownBlock=some k→v.ownBlock=some k∨w.heap.size<k:=by
 obtain⟨i,i1,i2,i3,i4⟩:=infoStr;exact Kind.own_more h Tryz.underlying25 i1 i2 i3 i4 rfl (by decide) (c:=[.string x]) rfl (by omega) (by simp[maxLen];omega) hlo
theorem enters_fill1:∀args w,(callFunc 163 args).run Tryz.prog w=.ok (.enter 163 args) w:=enters_of Tryz.func163 (by kernel_rfl) rfl
set_option maxHeartbeats 400000 in
theorem tellsFill (c:Nat) (u:Value) (l:List BindD) (w0:World) (hc:w0.cell? ⟨c,0,none⟩=some u) (hb:c<w0.heap.size) (hu:bindK.sl Anyw w0 u l):Tells 163 #[.pointer (some ⟨c,0,none⟩)] l w0:=by
 intro w v hL;have HG:=hide (getC u l v w (Kind.sl_later hu hL));have hc':w.cell? ⟨c,0,none⟩=some u:=by rw[hL.cell hb];exact hc
 have hb':c<w.heap.size:=Nat.lt_of_lt_of_le hb hL.size;obtain⟨a,cap,rfl⟩:=Kind.slice hu;clear hu hc hb hL;unfold toldV at HG⊢;generalize(getB l v).getD ByteArray.empty=s at*;generalize(getB l v).isSome=b at*;show Calls _ _ #[.string v,.pointer (some ⟨c,0,none⟩)] _ _
 go_enter Tryz.func163,Tryz.ntmps163
 go_wp2_with (go_at_call 164;refine HG.out.mono ?_;rintro e w2 ⟨rfl,hL2⟩;replace hL2:=hide hL2)
 go_ret2
 exact⟨rfl,unhide hL2⟩
theorem fillArgs_step {l:List BindD} {ts:List TermD} {j:Nat} {t:TermD} {r:List ByteArray} (h:ts[j]?=some t) (hr:fillArgs l (ts.take j)=some r):
  fillArgs l (ts.take (j+1))=(worthB l t).map fun s=>r++[s]:=by
 have gen:∀(q:List TermD) (r:List ByteArray),fillArgs l q=some r→fillArgs l (q++[t])=(worthB l t).map fun s=>r++[s]:=by
  intro q
  induction q with
  |nil=>
   intro r hr;cases hr;simp only[List.nil_append,fillArgs];cases worthB l t <;> rfl
  |cons x q ih=>
   intro r hr;simp only[List.cons_append,fillArgs] at hr⊢;cases e:worthB l x with
   |none=>rw[e] at hr;cases hr
   |some s=>
    rw[e] at hr;dsimp only at hr⊢;cases e2:fillArgs l q with
    |none=>rw[e2] at hr;cases hr
    |some r'=>
     rw[e2] at hr;cases hr;rw[ih r' e2];cases worthB l t <;> rfl
 rw[List.take_add_one,h];exact gen _ r hr
theorem fillArgs_none {l:List BindD}:∀{ts q:List TermD},fillArgs l ts=none→fillArgs l (ts++q)=none
 |[],_,h=>by cases h
 |t::ts,q,h=>by
  simp only[List.cons_append,fillArgs] at h⊢;cases e:worthB l t with
  |none=>rfl
  |some s=>
   rw[e] at h;dsimp only at h⊢;cases e2:fillArgs l ts with
   |none=>rw[fillArgs_none e2]
   |some r=>rw[e2] at h;cases h
theorem fillArgs_stop {l:List BindD} {ts:List TermD} {j:Nat} (h:fillArgs l (ts.take j)=none):fillArgs l ts=none:=by
 have:=fillArgs_none (q:=ts.drop j) h
 rwa [List.take_append_drop] at this
def filled (a:AtomD) (l:List BindD):FactD:=(fillB a l).getD noFact
theorem heap_at (w:World) (o:Obj) (k:Nat):(w.alloc o).heap[k]?=if k=w.heap.size then some o else w.heap[k]?:=by
 split
 ·rename_i h;subst h;exact heap_alloc_new w o
 ·rename_i h
  by_cases hk:k<w.heap.size
  ·exact Below.heap_alloc w o k hk
  ·rw[Array.getElem?_eq_none (by simp;omega),Array.getElem?_eq_none (by omega)]
theorem row1 {w:World} {R:Nat} {u0:Value} {t:TypeId} (h:w.heap[R]?=some (.cells #[u0] t (0,0))):w.cell? ⟨R,0,none⟩=some u0∧w.frozen? ⟨R,0,none⟩=false∧R<w.heap.size:=
 ⟨by rw[cell_of_row _ _ _ _ _ _ h];rfl,by simp[World.frozen?,h],(Array.getElem?_eq_some_iff.1 h).1⟩
theorem row2 {w:World} {R:Nat} {u0 u1:Value} {t:TypeId} (h:w.heap[R]?=some (.cells #[u0,u1] t (0,0))):w.cell? ⟨R,0,none⟩=some u0∧w.cell? ⟨R,1,none⟩=some u1∧w.frozen? ⟨R,0,none⟩=false∧w.frozen? ⟨R,1,none⟩=false∧R<w.heap.size:=
 ⟨by rw[cell_of_row _ _ _ _ _ _ h];rfl,by rw[cell_of_row _ _ _ _ _ _ h];rfl,by simp[World.frozen?,h],by simp[World.frozen?,h],(Array.getElem?_eq_some_iff.1 h).1⟩
theorem set_at {w:World} {g j:Nat} {cs:Array Value} {t:TypeId} {fr:Nat×Nat} (h:w.heap[g]?=some (.cells cs t fr)) (u:Value):(w.setCell ⟨g,j,none⟩ u).heap[g]?=some (.cells (cs.setIfInBounds j u) t fr):=by
 simp[World.setCell,Array.getElem?_modify,h]
theorem set_two {w:World} {R:Nat} {u0 u1:Value} {t:TypeId} {fr:Nat×Nat} (h:w.heap[R]?=some (.cells #[u0,u1] t fr)) (x y:Value):
  ((w.setCell ⟨R,0,none⟩ x).setCell ⟨R,1,none⟩ y).cell? ⟨R,0,none⟩=some x∧((w.setCell ⟨R,0,none⟩ x).setCell ⟨R,1,none⟩ y).cell? ⟨R,1,none⟩=some y:=by
 have h2:=set_at (j:=1) (set_at (j:=0) h x) y;exact⟨by rw[cell_of_row _ _ _ _ _ _ h2];rfl,by rw[cell_of_row _ _ _ _ _ _ h2];rfl⟩
theorem factV_kept {w w':World} {n:ByteArray} {s:Value} {r:List ByteArray} {lo:Nat} (h:bsK.own 9 lo w s r) (hl:r.length≤8796093022208) (hk:∀k,lo≤k→w'.heap[k]?=w.heap[k]?) (hs:w.heap.size≤w'.heap.size):FactV w' (.agg #[.string n,s]) (n,r):=
 ⟨s,rfl,bsK_strs (Kind.own_kept h hs fun k _ hlo=>hk k hlo) hl⟩
def FarV (w w':World) (v:Value):Prop:=∃n s,v=.agg #[n,s]∧∀k,s.ownBlock=some k→w.heap.size≤k∧k<w'.heap.size
set_option maxRecDepth 100000 in
set_option maxHeartbeats 2000000 in
theorem fillL (a:AtomD) (tv u:Value) (l:List BindD) (w:World) (ht:termK.sl Anyw w tv a.terms) (hu:bindK.sl Anyw w u l):
  Calls Tryz.prog 90 #[.agg #[.bool a.no,.string (bs a.name),tv],u] w fun e w'=>∃v,e=.returned (.tuple #[v,.bool (fillB a l).isSome])∧FactV w' v (filled a l)∧Later w w'∧FarV w w' v:=by
 obtain⟨sa,cap,rfl⟩:=Kind.slice ht;obtain⟨sb,capb,rfl⟩:=Kind.slice hu;have HT:=hide ht;have HU:=hide hu;have hn:=ht.1.1;clear ht hu;obtain⟨no,name,ts⟩:=a;dsimp only at*;have F:Hid (∀r,fillArgs l ts=r→fillB ⟨no,name,ts⟩ l=r.map fun x=>(bs name,x)):=fun r h=>by unfold fillB;rw[h];cases r <;> rfl
 unfold filled;generalize hfb:fillB ⟨no,name,ts⟩ l=fb at*;clear hfb;generalize bs name=nm at*
 go_enter Tryz.func90,Tryz.ntmps90
 go_wp2
 go_loopg [19] ts.length (fun g i wr=>∃j:Nat,j+g=ts.length∧i=.int .i64 j∧∃r o,Hid (fillArgs l (ts.take j)=some r)∧Hid (bsK.own 9 (w.heap.size+4) wr o r)∧Hid (r.length=j)∧Hid (Later w wr)∧w.heap.size+4≤wr.heap.size∧
  Hid (wr.heap[w.heap.size+1]?=some (.cells #[.slice sb l.length capb] 158 (0,0)))∧Hid (wr.heap[w.heap.size+2]?=some (.cells #[.string {data:=#[]},.slice none 0 0] 27 (0,0)))∧Hid (wr.heap[w.heap.size+3]?=some (.cells #[.string nm,o] 27 (0,0))))
 case atStart=>
  refine⟨0,by omega,rfl,[],.slice none 0 0,(rfl:_=_),bsK.own_nil _ _ _,(rfl:_=_),((by repeat (first|exact Later.refl _|assumption|refine Later.drewN ?_ _|refine Later.drew ?_|refine Later.alloc ?_ _|refine Later.grow ?_ _)):Later _ _),by simp,?_,?_,?_⟩
  all_goals
   show _=_;simp only[heap_at,World.size_alloc]
   repeat (first|rw[if_pos trivial]|rw[if_pos (by omega)]|rw[if_neg (by omega)])
 case round=>
  obtain⟨j,hj,rfl,r,o,HR,HO,hrl,HL,hsz,H1,H2,H3⟩:=hrel;obtain⟨ao,co,rfl⟩:=Kind.own_slice HO.out
  by_cases hlt:j<ts.length
  ·obtain⟨x,hx⟩:∃x,ts[j]?=some x:=⟨_,List.getElem?_eq_getElem hlt⟩;obtain⟨b1,o1,_,rfl,hb1,rfl,hc⟩:=Kind.sl_at HT.out hx;have d0:wr.cell? ⟨b1,o1+j*2,none⟩=some (.bool x.1):=by rw[HL.out.cell hb1];exact hc 0 _ rfl
   have d1:wr.cell? ⟨b1,o1+j*2+1,none⟩=some (.string (bs x.2)):=by rw[HL.out.cell hb1];exact hc 1 _ rfl
   have hbr:b1<wr.heap.size:=by omega
   have HS:=hide (fillArgs_step hx HR.out);obtain⟨wt,hwt⟩:∃wt,wt=wr.alloc (.cells #[.bool x.1,.string (bs x.2)] 187):=⟨_,rfl⟩;have hLt:Later w wt:=by rw[hwt];exact HL.out.alloc _
   have hst:wt.heap.size=wr.heap.size+1:=by rw[hwt];simp
   have hbl:∀k,k<wr.heap.size→wt.heap[k]?=wr.heap[k]?:=fun k hk=>by rw[hwt];exact Below.heap_alloc _ _ _ hk
   have K1:=row1 ((hbl _ (by omega)).trans H1.out);have HW:Hid (Calls Tryz.prog 165 #[.agg #[.bool x.1,.string (bs x.2)],.func (.func 163) #[] #[.pointer (some ⟨w.heap.size+1,0,none⟩)]] wt fun e w2=>e=.returned (toldV (worthB l x))∧Later wt w2):=
    worthC _ _ enters_fill1 x l wt wt (tellsFill (w.heap.size+1) _ l wt K1.1 K1.2.2 (Kind.sl_later HU.out hLt)) (Later.refl _)
   rw[hwt] at HW;have HWT:=hide hwt;clear hc hx K1 hwt;obtain⟨x1,x2⟩:=x;dsimp only at*;cases hw:worthB l (x1,x2) with
   |none=>
    rw[hw] at HW HS;have HF:Hid (fb=none):=F.out none (fillArgs_stop HS.out);have hw0:toldV none=.tuple #[.string ByteArray.empty,.bool false]:=rfl;rw[hw0] at HW;clear hw hw0 HS;generalize bs x2=kx at*
    go_wp2_with fail
    refine HW.out.mono ?_;rintro e w2 ⟨rfl,hL2⟩;rw[←HWT.out] at hL2;have hb2:∀k,k<wr.heap.size→w2.heap[k]?=wr.heap[k]?:=fun k hk=>(hL2.block (by omega)).trans (hbl k hk);have Z2:=hide ((hb2 _ (by omega)).trans H2.out);obtain⟨q0,q1,p0,p1,q2⟩:=row2 Z2.out;have HL2:=hide (hLt.trans hL2);clear hL2 hb2 HW;go_wp2;obtain⟨r0,r1⟩:=set_two Z2.out (.string {data:=#[]}) (.slice none 0 0);refine bodyPost_ret (v:=.tuple #[.agg #[.string {data:=#[]},.slice none 0 0],.bool false]) (by simp[results,Tryz.results90,go_sem,r0,r1]) rfl ⟨_,by rw[HF.out];rfl,?_,?_,_,_,rfl,fun k e=>by simp[Value.ownBlock] at e⟩
    ·rw[HF.out];exact⟨_,rfl,by simp[noFact],none,0,rfl,fun h=>absurd rfl h⟩
    ·exact(HL2.out.setCell (by show w.heap.size≤w.heap.size+2;omega) _).setCell (by show w.heap.size≤w.heap.size+2;omega) _
   |some s=>
    rw[hw] at HW HS;have HS1:Hid (fillArgs l (ts.take (j+1))=some (r++[s])):=HS.out;have hw0:toldV (some s)=.tuple #[.string s,.bool true]:=rfl;rw[hw0] at HW;clear hw hw0 HS;generalize bs x2=kx at*
    go_wp2_with fail
    refine HW.out.mono ?_;rintro e w2 ⟨rfl,hL2⟩;rw[←HWT.out] at hL2;have hb2:∀k,k<wr.heap.size→w2.heap[k]?=wr.heap[k]?:=fun k hk=>(hL2.block (by omega)).trans (hbl k hk);have hs2:wr.heap.size<w2.heap.size:=by have:=hL2.size;omega
    obtain⟨q0,q1,p0,p1,q2⟩:=row2 ((hb2 _ (by omega)).trans H3.out);obtain⟨v',w4,hrun,hO4,hg4,hd4,hv4⟩:=appendArg (Kind.own_kept HO.out (Nat.le_of_lt hs2) fun k hk _=>hb2 k hk) s (by have:=hrl.out;omega) (by omega);have hlo:∀k,(Value.slice ao r.length co).ownBlock=some k→w.heap.size+4≤k:=fun k e=>(Kind.own_lt HO.out e).1;have hb4:∀k,k<w.heap.size+4→w4.heap[k]?=wr.heap[k]?:=fun k hk=>by
     rw[hg4.block k (by simp;omega) (fun e=>by have:=hlo k e.symm;omega),Below.heap_alloc _ _ _ (by omega)];exact hb2 k (by omega)
    have hs4:w2.heap.size<w4.heap.size:=by have:=hg4.size;simp at this;omega
    have HL4:=hide ((hLt.trans hL2).more hg4 hd4 fun k e=>by have:=hlo k e;omega);have Z3:=hide ((hb4 _ (by omega)).trans H3.out);obtain⟨_,y1,_,t1,y2⟩:=row2 Z3.out;have Z1:=hide ((hb4 _ (by omega)).trans H1.out);have Z2:=hide ((hb4 _ (by omega)).trans H2.out);obtain⟨a4,n4,c4,rfl⟩:∃a n c,v'=.slice a n c:=by obtain⟨a,c,e⟩:=Kind.own_slice hO4;exact⟨a,_,c,e⟩
    have HR4:=hide hrun;have HO4:=hide hO4;clear hL2 hb2 HW hrun hO4 hg4 hd4 hv4 hb4
    go_wp2_with (at_builtin;refine wpList_append_run rfl (.tmp 33) (.tmp 35) 25 rfl _ _ _ _ rfl rfl HR4.out ?_)
    go_roundg (ts.length- (j+1))
    case measure=>omega
    case rel=>
     refine⟨j+1,by omega,by go_num,r++[s],.slice a4 n4 c4,HS1,?_,(by simp[hrl.out]:(r++[s]).length=j+1),?_,?_,?_,?_,?_⟩
     ·exact Kind.own_kept HO4.out (by simp[World.setCell]) fun k _ hk=>Below.heap_setCell _ _ _ _ (by show k≠w.heap.size+3;omega)
     ·exact(Later.setCell HL4.out (p:=⟨w.heap.size+1+1+1,1,none⟩) (by show w.heap.size≤w.heap.size+3;omega) _:Later _ _)
     ·simp[World.setCell];omega
     ·show _=_;rw[Below.heap_setCell _ _ _ _ (by show w.heap.size+1≠w.heap.size+3;omega)];exact Z1.out
     ·show _=_;rw[Below.heap_setCell _ _ _ _ (by show w.heap.size+2≠w.heap.size+3;omega)];exact Z2.out
     ·show _=_;rw[set_at Z3.out];rfl
  ·have e:j=ts.length:=by omega
   subst e;have HR1:Hid (fb=some (nm,r)):=by
    have:=HR.out;rw[List.take_length] at this;exact F.out _ this
   obtain⟨q0,q1,p0,p1,q2⟩:=row2 H2.out;obtain⟨y0,y1,t0,t1,y2⟩:=row2 H3.out;go_wp2;obtain⟨r0,r1⟩:=set_two (R:=w.heap.size+1+1) H2.out (.string nm) (.slice ao r.length co);refine bodyPost_ret (v:=.tuple #[.agg #[.string nm,.slice ao r.length co],.bool true]) (by simp[results,Tryz.results90,go_sem,r0,r1]) rfl ⟨_,by rw[HR1.out];rfl,?_,?_,_,_,rfl,fun k e=> ?_⟩
   ·rw[HR1.out];refine factV_kept HO.out (by have:=hrl.out;omega) (fun k hk=> ?_) (by simp[World.setCell]);rw[Below.heap_setCell _ _ _ _ (by show k≠w.heap.size+2;omega),Below.heap_setCell _ _ _ _ (by show k≠w.heap.size+2;omega)]
   ·exact(HL.out.setCell (by show w.heap.size≤w.heap.size+2;omega) _).setCell (by show w.heap.size≤w.heap.size+2;omega) _
   ·have:=Kind.own_lt HO.out e;rw[size_setCell,size_setCell];omega
theorem fillC (a:AtomD) (tv u:Value) (l:List BindD) (w:World) (ht:termK.sl Anyw w tv a.terms) (hu:bindK.sl Anyw w u l):
  Calls Tryz.prog 90 #[.agg #[.bool a.no,.string (bs a.name),tv],u] w fun e w'=>∃v,e=.returned (.tuple #[v,.bool (fillB a l).isSome])∧FactV w' v (filled a l)∧Later w w':=
 (fillL a tv u l w ht hu).mono fun _ _ ⟨v,h1,h2,h3,_⟩=>⟨v,h1,h2,h3⟩
end Go.Proofs.YtafmbokfkbccaaaGreatDoor
namespace Go.Proofs
open Go.Shelf
def Tryz.growBinds_ren:Go.Shelf.Ren:=⟨fun|4=>288|n=>n,fun|22=>158|25=>190|3=>3|4=>4|9=>9|20=>20|0=>0|n=>n,fun|n=>n⟩
theorem Tryz.growBinds:Go.Proofs.Lays8.n4 Tryz.prog Tryz.growBinds_ren:={
 mixed:=by kernel_rfl
 f4:=⟨Tryz.f288.name,by decide,Tryz.func288.trans (congrArg some (by kernel_rfl))⟩
 t0:=Tryz.underlying0
 a0:=Tryz.isAgg0
 z0:=Tryz.sizeOf0
 v0:=Tryz.zeroValue0
 t3:=Tryz.underlying3
 a3:=Tryz.isAgg3
 z3:=Tryz.sizeOf3
 v3:=Tryz.zeroValue3
 t4:=Tryz.underlying4
 a4:=Tryz.isAgg4
 z4:=Tryz.sizeOf4
 v4:=Tryz.zeroValue4
 t9:=Tryz.underlying9
 a9:=Tryz.isAgg9
 z9:=Tryz.sizeOf9
 v9:=Tryz.zeroValue9
 t20:=Tryz.underlying20
 a20:=Tryz.isAgg20
 z20:=Tryz.sizeOf20
 v20:=Tryz.zeroValue20
 t22:=Tryz.underlying158
 a22:=Tryz.isAgg158
 z22:=Tryz.sizeOf158
 v22:=Tryz.zeroValue158}
end Go.Proofs
