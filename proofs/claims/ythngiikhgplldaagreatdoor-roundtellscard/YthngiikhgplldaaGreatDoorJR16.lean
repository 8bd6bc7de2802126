import Derived.Test.YthngiikhgplldaaGreatDoorJR15
import Derived.Test.YthngiikhgplldaaGreatDoorJR13
import Derived.Test.YthngiikhgplldaaGreatDoorJR4
import Derived.Test.YthngiikhgplldaaGreatDoorJR12
import Derived.Test.YthngiikhgplldaaGreatDoorJR8
open Go.RowKit Go.Sort Go.Maps
set_option maxHeartbeats 4000000
set_option maxRecDepth 100000
namespace Go.Proofs.YthngiikhgplldaaGreatDoor
theorem dR.stay {base:Nat} {w w':World} {v:Value} {l:List aG} (h:dR w base v l) (hs:w.heap.size≤w'.heap.size) (hk:∀k,k<w.heap.size→base≤k→w'.heap[k]?=w.heap[k]?):dR w' base v l:=by
 obtain⟨xs,ho,hx⟩:=h;refine⟨xs,⟨ho.1,?_⟩,fun i hi'=>?_⟩
 ·rcases ho.2 with e|⟨g,cap,cur,rfl,hbg,hg,r⟩;·exact Or.inl e
  exact Or.inr ⟨g,cap,cur,rfl,hbg,by rw[hk g (Array.getElem?_eq_some_iff.1 hg).1 hbg];exact hg,r⟩
 obtain⟨c1,s,c2,c3,c4⟩:=hx i hi';exact⟨c1,s,c2,c3.kept' hs fun j hj e=>hk j hj (c4 j e).1,fun j e=>⟨(c4 j e).1,Nat.lt_of_lt_of_le (c4 j e).2.1 hs,(c4 j e).2.2⟩⟩
theorem dR.lt {base:Nat} {w:World} {v:Value} {l:List aG} (h:dR w base v l) {k:Nat} (hk:v.ownBlock=some k):base≤k∧k<w.heap.size:=by obtain⟨xs,ho,_⟩:=h;exact ho.lt k hk
theorem dR.slice {base:Nat} {w:World} {v:Value} {l:List aG} (h:dR w base v l):∃a cap,v=.slice a l.length cap:=by
 obtain⟨xs,ho,_⟩:=h;rcases ho.2 with⟨rfl,e⟩|⟨g,cap,cur,rfl,_⟩;·exact⟨none,0,by rw[e]⟩
 exact⟨_,cap,rfl⟩
theorem L8 (a:aJ) (ta:Option Addr) (tn tc:Nat) (w:World):
  Calls Tryz.prog 83 #[.agg #[.bool a.no,.string (bs a.name),.slice ta tn tc]] w fun e w'=>e=.returned (.bool (!a.no))∧aj w w':=by
 obtain⟨no,n,x⟩:=a;dsimp only;generalize bs n=s at*
 go_enter Tryz.func83,Tryz.ntmps83
 go_wp2;go_ret;exact⟨rfl,(aj.refl _).alloc _⟩
theorem BL (v:Value) (l:List aJ) (w:World) (hv:dY.sl bT w v l):
  Calls Tryz.prog 103 #[v,.func (.func 83) #[] #[]] w fun e w'=>∃n:Int,e=.returned (.int .i64 n)∧decide (0≤n)=l.any (fun a=> !a.no)∧aj w w':=by
 obtain⟨a,cap,rfl⟩:=aB.slice hv;have HV:=au hv;have hl:=hv.1.1;clear hv
 go_enter Tryz.func103,Tryz.ntmps103
 go_wp2
 go_loopg [8] l.length (fun k i wr=>∃j:Nat,j+k=l.length∧i=.int .i64 j∧Hid (aj w wr)∧Hid (l.any (fun a=> !a.no)=(l.drop j).any (fun a=> !a.no)))
 case atStart=>exact⟨0,by omega,rfl,aj.refl _,(rfl:_=_)⟩
 obtain⟨j,hj,rfl,HL,HF⟩:=hrel
 by_cases hlt:j<l.length
 ·obtain⟨x,hx⟩:∃x,l[j]?=some x:=⟨_,List.getElem?_eq_getElem hlt⟩;obtain⟨b1,o1,_,rfl,hb1,⟨tv,rfl,htv⟩,hc⟩:=aB.bR HV.out hx;obtain⟨ta,tc,rfl⟩:=aB.slice htv;have d0:wr.cell? ⟨b1,o1+j*3,none⟩=some (.bool x.no):=by rw[HL.out.cell hb1];exact hc 0 _ rfl
  have d1:wr.cell? ⟨b1,o1+j*3+1,none⟩=some (.string (bs x.name)):=by rw[HL.out.cell hb1];exact hc 1 _ rfl
  have d2:wr.cell? ⟨b1,o1+j*3+2,none⟩=some (.slice ta x.terms.length tc):=by rw[HL.out.cell hb1];exact hc 2 _ rfl
  have HC:=au (L8 x ta x.terms.length tc wr);have hd:=tO hx (fun a=> !a.no);clear hc hx htv;cases hf:x.no
  ·have F:Hid (l.any (fun a=> !a.no)=true):=by show _=_;rw[HF.out,hd,hf];rfl
   rw[hf] at HC d0;clear hd HF hf;generalize bs x.name=nm at*
   go_wp2_with (go_at_call 83;refine HC.out.mono ?_;rintro e w' ⟨rfl,hL⟩;replace hL:=au hL)
   go_ret;exact⟨_,rfl,by rw[F.out];simp,HL.out.trans (bg hL)⟩
  have F:Hid (l.any (fun a=> !a.no)=(l.drop (j+1)).any (fun a=> !a.no)):=by show _=_;rw[HF.out,hd,hf];rfl
  rw[hf] at HC d0;clear hd HF hf;generalize bs x.name=nm at*
  go_wp2_with (go_at_call 83;refine HC.out.mono ?_;rintro e w' ⟨rfl,hL⟩;replace hL:=au hL)
  go_roundg (l.length- (j+1))
  case measure=>omega
  case rel=>exact⟨j+1,by omega,by go_num,HL.out.trans (bg hL),F⟩
 have F:Hid (l.any (fun a=> !a.no)=false):=by show _=_;rw[HF.out,List.drop_eq_nil_of_le (by omega)];rfl
 go_wp2;go_ret;exact⟨_,rfl,by rw[F.out];simp,HL.out⟩
theorem containsAtom (v:Value) (l:List aJ) (w:World) (hv:dY.sl bT w v l):
  Calls Tryz.prog 82 #[v,.func (.func 83) #[] #[]] w fun e w'=>e=.returned (.bool (l.any fun a=> !a.no))∧aj w w':=by
 have HI:=au (BL v l w hv);obtain⟨a,cap,rfl⟩:=aB.slice hv;clear hv
 go_enter Tryz.func82,Tryz.ntmps82
 go_wp2_with (go_at_call 103;refine HI.out.mono ?_;rintro e w' ⟨n,rfl,hn,hL⟩;replace hn:=au hn;replace hL:=au hL)
 go_ret;exact⟨bB (bg hn),bg hL⟩
theorem FH (head:aJ) (tv rv:Value) (R:List (List aI)) (w:World) (ht:gJ.sl bT w tv head.terms) (hr:qI.sl bT w rv R) (hn:R.length≤20000):
  Calls Tryz.prog 87 #[.agg #[.bool head.no,.string (bs head.name),tv],rv] w fun e w'=>∃v',e=.returned v'∧dR w' w.heap.size v' (R.filterMap fun l=>bf head l)∧aj w w':=by
 obtain⟨ta,tc,rfl⟩:=aB.slice ht;obtain⟨ra,rc,rfl⟩:=aB.slice hr;have HT:=au ht;have HRL:=au hr;clear ht hr;have HL0:Hid (aj w (w.alloc (.cells #[.bool head.no,.string (bs head.name),.slice ta head.terms.length tc] 54))):=(aj.refl w).alloc _;have HB0:Hid ((w.alloc (.cells #[.bool head.no,.string (bs head.name),.slice ta head.terms.length tc] 54)).heap[w.heap.size]?=some (.cells #[.bool head.no,.string (bs head.name),.slice ta head.terms.length tc] 54 (0,0))):=heap_alloc_new w _
 go_enter Tryz.func87,Tryz.ntmps87
 go_wp2
 go_loopg [5,12] R.length (fun g v i wr=>∃j:Nat,j+g=R.length∧i=.int .i64 j∧∃D,Hid (D=(R.take j).filterMap fun l=>bf head l)∧Hid (dR wr (w.heap.size+1) v D)∧Hid (D.length≤j)∧Hid (aj w wr)∧w.heap.size<wr.heap.size∧
  Hid (wr.heap[w.heap.size]?=some (.cells #[.bool head.no,.string (bs head.name),.slice ta head.terms.length tc] 54 (0,0))))
 case atStart=>exact⟨0,by omega,rfl,[],(rfl:_=_),dR.nil _ _,(Nat.le_refl _:_≤_),HL0,by simp,HB0⟩
 clear HL0 HB0;obtain⟨j,hj,rfl,D,HD,HO,HDl,HL,hsz,HB⟩:=hrel;obtain⟨va,vc,rfl⟩:=HO.out.slice
 by_cases hlt:j<R.length
 ·obtain⟨l,hx⟩:∃x,R[j]?=some x:=⟨_,List.getElem?_eq_getElem hlt⟩;obtain⟨b1,o1,_,rfl,hb1,⟨lv,rfl,hlv⟩,hc⟩:=aB.bR HRL.out hx;have d0:wr.cell? ⟨b1,o1+j,none⟩=some lv:=by rw[HL.out.cell (p:=⟨b1,o1+j,none⟩) hb1];simpa[slK] using hc 0 _ rfl
  have HLV:=au hlv;obtain⟨la,lc,rfl⟩:=aB.slice hlv;have hrr:=HB.out;have r0:wr.cell? ⟨w.heap.size,0,none⟩=some (.bool head.no):=by rw[cell_of_row _ _ _ _ _ _ hrr];rfl
  have r1:wr.cell? ⟨w.heap.size,0+1,none⟩=some (.string (bs head.name)):=by rw[cell_of_row _ _ _ _ _ _ hrr];rfl
  have r2:wr.cell? ⟨w.heap.size,0+2,none⟩=some (.slice ta head.terms.length tc):=by rw[cell_of_row _ _ _ _ _ _ hrr];rfl
  have HFc:=au (GR head _ (.slice la l.length lc) l wr (aB.aS HT.out HL.out) (aB.aS HLV.out HL.out));have htk:R.take (j+1)=R.take j++[l]:=by rw[List.take_add_one,hx];rfl
  unfold filled at HFc;clear hc hx hlv hrr;cases hfl:bf head l with
  |none=>
   rw[hfl] at HFc;have HD':Hid (D=(R.take (j+1)).filterMap fun l=>bf head l):=by show _=_;rw[htk,List.filterMap_append,HD.out];simp only[List.filterMap_cons,hfl,List.filterMap_nil,List.append_nil]
   clear hfl htk;generalize bs head.name=nm at*;generalize head.no=no at*
   go_wp2_with fail
   refine HFc.out.mono ?_;rintro e w3 ⟨f3,rfl,hfv,hL3,_⟩;obtain⟨s,rfl,hs⟩:=hfv;obtain⟨sA',sC',rfl⟩:=bP hs;simp only[Option.isSome_none];have HL3:Hid (aj wr w3):=hL3;clear hs hL3;go_wp2
   go_roundg (R.length- (j+1))
   case measure=>omega
   case rel=>exact⟨j+1,by omega,by go_num,D,HD',HO.out.later (HL3.out.alloc _),(Nat.le_succ_of_le HDl.out:_≤_),HL.out.trans (HL3.out.alloc _),by have:=(HL3.out.alloc (.cells #[.string ByteArray.empty,.slice sA' 0 sC'] 50)).size;have:=HL3.out.size;simp;omega,by show _=_;rw[(HL3.out.alloc _).block hsz];exact HB.out⟩
  |some f=>
   rw[hfl] at HFc;have HD':Hid (D++[f]=(R.take (j+1)).filterMap fun l=>bf head l):=by show _=_;rw[htk,List.filterMap_append,HD.out];simp only[List.filterMap_cons,hfl,List.filterMap_nil]
   clear hfl htk;generalize bs head.name=nm at*;generalize head.no=no at*
   go_wp2_with fail
   refine HFc.out.mono ?_;rintro e w3 ⟨f3,rfl,hfv,hL3,Jb⟩;simp only[Option.isSome_some,Option.getD_some] at hfv⊢;obtain⟨s,rfl,hs⟩:=hfv;obtain⟨_,s',es,Jb⟩:=Jb;simp only[Value.agg.injEq,Array.mk.injEq,List.cons.injEq,and_true] at es;obtain⟨rfl,rfl⟩:=es;obtain⟨sA',sC',rfl⟩:=bP hs;obtain⟨fn,dF⟩:=f;dsimp only at*;obtain⟨w4,hw4⟩:∃w4,w4=w3.alloc (.cells #[.string fn,.slice sA' dF.length sC'] 50):=⟨_,rfl⟩;have hL4:aj w3 w4:=by rw[hw4];exact(aj.refl _).alloc _
   have hr4:w4.heap[w3.heap.size]?=some (.cells #[.string fn,.slice sA' dF.length sC'] 50 (0,0)):=by rw[hw4];exact heap_alloc_new _ _
   have hz4:w4.heap.size=w3.heap.size+1:=by rw[hw4];simp
   have KM:aj w w4:=HL.out.trans (hL3.trans hL4);have hO4:dR w4 (w.heap.size+1) (.slice va D.length vc) D:=HO.out.later (hL3.trans hL4);obtain⟨v5,w5,hrun,hO5,hg5,hd5⟩:=hO4.append (fn,dF) (.slice sA' dF.length sC') (hs.later hL4) (fun k e=>by have h1:=Jb k e;refine⟨by omega,by omega,fun e'=>?_⟩;have h2:=(HO.out.lt e').2;omega) (by have:=HDl.out;omega) (by have:=hL3.size;omega) rfl
   have HL5:Hid (aj w w5):=KM.more hg5 hd5 fun k e=>by have:=(HO.out.lt e).1;omega
   have HO5:=au hO5;have hz3:=hL3.size;have hz5:w.heap.size<w5.heap.size:=by have:=hg5.size;rw[World.size_alloc] at this;omega
   have HB5:Hid (w5.heap[w.heap.size]?=some (.cells #[.bool no,.string nm,.slice ta head.terms.length tc] 54 (0,0))):=by show _=_;rw[hg5.block _ (by rw[World.size_alloc];omega) (fun e=>by have:=(HO.out.lt e.symm).1;omega),Below.heap_alloc _ _ _ (by omega),hL4.block (by omega),hL3.block hsz];exact HB.out
   rw[hz4,hw4] at hrun;have HR5:=au hrun;obtain⟨a5,c5,rfl⟩:=hO5.slice;rw[List.length_append] at HO5;clear hL3 Jb hs hw4 hL4 hr4 hz4 KM hO4 hO5 hrun hg5 hd5 HFc
   go_wp2_with (at_builtin;refine wpList_append_run rfl (.tmp 23) (.tmp 25) 24 rfl _ _ _ _ rfl rfl HR5.out ?_)
   go_roundg (R.length- (j+1))
   case measure=>omega
   case rel=>exact⟨j+1,by omega,by go_num,D++[(fn,dF)],HD',HO5,(by have:=HDl.out;simp;omega:(D++[(fn,dF)]).length≤j+1),HL5,hz5,HB5⟩
 have hj':j=R.length:=by omega
 subst hj';rw[List.take_length] at HD;go_wp2;go_ret;exact⟨_,rfl,HD.out▸HO.out.base (Nat.le_succ _),HL.out⟩
def MkB (mb:Nat) (kv nv:Value) (D:List aF) (w:World):Prop:=∃dv,w.heap[mb]?=some (.cells #[kv,nv,dv] 101 (0,0))∧dR w (mb+1) dv D
theorem MkB.below {mb:Nat} {kv nv:Value} {D:List aF} {w w':World} (h:MkB mb kv nv D w) (k:Below w.heap.size w w'):MkB mb kv nv D w':=by obtain⟨dv,h1,h2⟩:=h;exact⟨dv,(k.block _ (Array.getElem?_eq_some_iff.1 h1).1).trans h1,h2.stay k.size fun j hj _=>k.block j hj⟩
theorem MkB.drewN {mb:Nat} {kv nv:Value} {D:List aF} {w:World} (h:MkB mb kv nv D w) (q:Nat):MkB mb kv nv D (w.drewN q):=h.below ⟨rfl,rfl,rfl,Nat.le_refl _,fun _ _=>rfl⟩
theorem pO {n:Nat} {a b:World} (h:Below n a b) (q:Nat):Below n a (b.drewN q):=⟨h.os,h.tape,h.output,h.size,h.block⟩
theorem MkB.lt {mb:Nat} {kv nv:Value} {D:List aF} {w:World} (h:MkB mb kv nv D w):mb<w.heap.size:=by obtain⟨dv,h1,_⟩:=h;exact(Array.getElem?_eq_some_iff.1 h1).1
def HY (K D L:List aF):List aF:=if K.length+D.length≤200 then bY (D++L.filter fun f=> !inB K f) else D
structure om (K D acc:List aF):Prop where
 up:Up D
 of:∀f∈D,f∈acc∧f∉K
 all:K.length+D.length≤200→∀f∈acc,f∉K→f∈D
 few:D.length≤20400
theorem om.nil (K:List aF):om K [] []:=⟨List.Pairwise.nil,fun _ h=>(by cases h),fun _ _ h=>(by cases h),by simp⟩
theorem om.add {K D acc:List aF} (h:om K D acc) (L:List aF) (hL:L.length≤20000):om K (HY K D L) (acc++L):=by
 unfold HY;split
 ·rename_i hc;have hm:∀f,f∈bY (D++L.filter fun f=> !inB K f)↔f∈D∨(f∈L∧f∉K):=fun f=>by
   rw[dA,List.mem_append,List.mem_filter];refine or_congr Iff.rfl (and_congr Iff.rfl ?_);rw[Bool.not_eq_true',←Bool.not_eq_true,dD]
  refine⟨gI _,fun f hf=>?_,fun _ f hf hn=>?_,?_⟩
  ·rcases(hm f).1 hf with h1|⟨h1,h2⟩;·exact⟨List.mem_append.2 (Or.inl (h.of f h1).1),(h.of f h1).2⟩
   exact⟨List.mem_append.2 (Or.inr h1),h2⟩
  ·rcases List.mem_append.1 hf with h1|h1;·exact(hm f).2 (Or.inl (h.all hc f h1 hn))
   exact(hm f).2 (Or.inr ⟨h1,hn⟩)
  have h1:=iN (D++L.filter fun f=> !inB K f);have h2:=List.length_filter_le (fun f=> !inB K f) L;rw[List.length_append] at h1;omega
 rename_i hc;exact⟨h.up,fun f hf=>⟨List.mem_append.2 (Or.inl (h.of f hf).1),(h.of f hf).2⟩,fun h'=>absurd h' hc,h.few⟩
theorem pQ (K L:List aF):(L.filter fun f=> !bV K f 0)=L.filter fun f=> !inB K f:=by
 congr 1
 funext f
 congr 1
 rw[Bool.eq_iff_iff,nC,dD]
theorem tV (mb:Nat) (K D L:List aF) (kv nv lv:Value) (w:World) (hm:MkB mb kv nv D w) (hk:Facts w kv K) (hu:Up K) (hl:Facts w lv L) (hK:K.length≤200) (hL:L.length≤20000) (hD:D.length≤20400):
  Calls Tryz.prog 85 #[.pointer (some ⟨mb,0,none⟩),lv] w fun e w'=>(∃u,e=.returned u)∧MkB mb kv nv (HY K D L) w'∧Tn mb w w':=by
 have HMk:=au hm;obtain⟨dv,hrow,hO⟩:=hm;obtain⟨ka,kc,rfl⟩:=aC hk;obtain⟨la,lc,rfl⟩:=aC hl;obtain⟨da,dc,rfl⟩:=hO.slice;have hmb:mb<w.heap.size:=(Array.getElem?_eq_some_iff.1 hrow).1;have c0:w.cell? ⟨mb,0,none⟩=some (.slice ka K.length kc):=by rw[cell_of_row _ _ _ _ _ _ hrow];rfl
 have c2:w.cell? ⟨mb,2,none⟩=some (.slice da D.length dc):=by rw[cell_of_row _ _ _ _ _ _ hrow];rfl
 have mO:=au hrow;have HO:=au hO;have HK:=au hk;have HLv:=au hl;have HUp:=au hu;clear hrow hO hk hl hu;unfold HY
 by_cases hc:K.length+D.length≤200
 ·rw[if_pos hc];have hcz:(K.length:Int)+(D.length:Int)≤200:=by omega
  have HLs:Hid (∀w1,Below w.heap.size w w1→Calls Tryz.prog 39 #[.slice la L.length lc,.slice ka K.length kc] w1 fun e w'=>∃v',e=.returned v'∧Facts w' v' (L.filter fun f=> !inB K f)∧Below w.heap.size w w'):=fun w1 h1=>
   (He (.slice la L.length lc) (.slice ka K.length kc) L K w1 (HLv.out.below h1) (HK.out.below h1) HUp.out).mono fun e w' ⟨v',he,hO',hL'⟩=>⟨v',he,by rw[pQ] at hO';exact hO'.facts (by have:=List.length_filter_le (fun f=> !inB K f) L;omega),ak h1 hL'.below h1.size⟩
  have HJn:Hid (∀w1 v1 L1,L1.length≤20000→Facts w1 v1 L1→Below w.heap.size w w1→Calls Tryz.prog 48 #[.slice da D.length dc,v1] w1 fun e w'=>∃v',e=.returned v'∧dR w' w.heap.size v' (bY (D++L1))∧Below w.heap.size w w'):=fun w1 v1 L1 hl1 hf1 h1=>
   (Hz (.slice da D.length dc) v1 D L1 w1 ((HO.out.facts (by omega)).below h1) hf1 (by omega)).mono fun e w' ⟨v',s,he,hS,hO',hL'⟩=>⟨v',he,by have e:s=bY (D++L1):=jT hS.1 hS.2.1;rw[←e];exact hO'.base h1.size,ak h1 hL'.below h1.size⟩
  have HC2:Hid (∀w1,Below w.heap.size w w1→w1.cell? ⟨mb,2,none⟩=some (.slice da D.length dc)∧w1.cell? ⟨mb,0,none⟩=some (.slice ka K.length kc)):=fun w1 h1=>
   ⟨by rw[h1.cell (p:=⟨mb,2,none⟩) hmb];exact c2,by rw[h1.cell (p:=⟨mb,0,none⟩) hmb];exact c0⟩
  have HFin:Hid (∀w2 v2,dR w2 w.heap.size v2 (bY (D++L.filter fun f=> !inB K f))→Below w.heap.size w w2→MkB mb (.slice ka K.length kc) nv (bY (D++L.filter fun f=> !inB K f)) (w2.setCell ⟨mb,2,none⟩ v2)∧Tn mb w (w2.setCell ⟨mb,2,none⟩ v2)):=fun w2 v2 h1 h2=>by have hr2:w2.heap[mb]?=some (.cells #[.slice ka K.length kc,nv,.slice da D.length dc] 101 (0,0)):=(h2.block _ hmb).trans mO.out;refine⟨⟨v2,by rw[dW hr2];rfl,?_⟩,Tn.setCell (p:=mb) (Tn.of_below h2) (x:=⟨mb,2,none⟩) (Or.inl rfl) _⟩;exact(h1.stay (by rw[size_setCell];exact Nat.le_refl _) fun k _ hk=>heap_setCell_other _ _ _ (by show k≠mb;omega)).base (by omega)
  have HFz:Hid (∀w2,Below w.heap.size w w2→w2.frozen? ⟨mb,2,none⟩=false):=fun w2 h2=>by have hr2:w2.heap[mb]?=some (.cells #[.slice ka K.length kc,nv,.slice da D.length dc] 101 (0,0)):=(h2.block _ hmb).trans mO.out;simp[World.frozen?,hr2]
  have hLf:=List.length_filter_le (fun f=> !inB K f) L;clear HK HLv HUp HO mO
  go_enter Tryz.func85,Tryz.ntmps85
  go_wp2
  go_quiet (fail)
  go_wp2;have hBe:Below w.heap.size w (w.drewN nq).drew:=(pO (Below.refl _ w) nq).drew;refine wp_region_held_drew (S:=fun w'=>Tn mb w w'∧w'.cell? ⟨mb,0,none⟩=some (.slice ka K.length kc)) (by kernel_rfl) ⟨Tn.of_below hBe,c0⟩ (fun hHeld=>?_);refine tkY 0 16 hHeld ?_;refine tkY 1 17 hHeld ?_;refine tkY 2 18 hHeld ?_;refine tkY 3 19 hHeld ?_;refine tkY 5 21 hHeld ?_;refine tkY 6 22 hHeld ?_;refine tkY 7 23 hHeld ?_;refine tkY 8 24 hHeld ?_;refine tkY 9 25 hHeld ?_ rfl fun w hSw=>by have q0:=hSw.2;go_simp;try with_reducible rfl
  refine wpAnyH_ready (rs:=[4,10]) (by kernel_rfl) (by simp) ?_;refine AllReadyH.cons rfl (fun K hK=>?_) (AllReadyH.cons rfl (fun K hK=>?_) AllReadyH.nil)
  ·have q2:=(HC2.out _ hBe).1;go_simp;refine hK.out _ _ hHeld (fun hHeld=>?_);clear hK K q2;refine tkC 10 fun K hK=>?_;go_simp;refine(HLs.out _ hBe).mono ?_;rintro e w1 ⟨v1,rfl,hF1,hB1⟩;refine hK.out _ _ ⟨Tn.of_below hB1,(HC2.out _ hB1).2⟩ (fun hHeld=>?_);clear hK K;refine tkC 11 fun K hK=>?_;go_simp;refine(HJn.out _ v1 _ (Nat.le_trans hLf hL) hF1 hB1).mono ?_;rintro e w2 ⟨v2,rfl,hO2,hB2⟩;obtain⟨a2,n2,d2,rfl⟩:∃a n c,v2=.slice a n c:=by obtain⟨a,c,e⟩:=hO2.slice;exact⟨a,_,c,e⟩
   refine hK.out _ _ ⟨Tn.of_below hB2,(HC2.out _ hB2).2⟩ (fun hHeld=>?_);clear hK K;refine tkY 12 28 hHeld ?_;refine tkY 13 29 hHeld ?_;refine tkC 14 fun K hK=>?_;have q2:=(HC2.out _ hB2).1;have fz:=HFz.out _ hB2;go_simp;refine hK.out _ _ ⟨(HFin.out _ _ hO2 hB2).2,by rw[World.cell?_setCell_other _ _ _ _ (by simp)];exact(HC2.out _ hB2).2⟩ (fun hHeld=>?_);clear hK K;refine wpAnyH_done (by kernel_rfl) ?_ _;have HF2:=au (HFin.out _ _ hO2 hB2);clear q2 fz hO2 hB2 hF1 hB1 hHeld;go_wp2;go_end0;exact⟨⟨_,rfl⟩,HF2.out⟩
  go_simp;refine(HLs.out _ hBe).mono ?_;rintro e w1 ⟨v1,rfl,hF1,hB1⟩;refine hK.out _ _ ⟨Tn.of_below hB1,(HC2.out _ hB1).2⟩ (fun hHeld=>?_);clear hK K;refine tkC 4 fun K hK=>?_;have q2:=(HC2.out _ hB1).1;go_simp;refine hK.out _ _ hHeld (fun hHeld=>?_);clear hK K q2;refine tkC 11 fun K hK=>?_;go_simp;refine(HJn.out _ v1 _ (Nat.le_trans hLf hL) hF1 hB1).mono ?_;rintro e w2 ⟨v2,rfl,hO2,hB2⟩;obtain⟨a2,n2,d2,rfl⟩:∃a n c,v2=.slice a n c:=by obtain⟨a,c,e⟩:=hO2.slice;exact⟨a,_,c,e⟩
  refine hK.out _ _ ⟨Tn.of_below hB2,(HC2.out _ hB2).2⟩ (fun hHeld=>?_);clear hK K;refine tkY 12 28 hHeld ?_;refine tkY 13 29 hHeld ?_;refine tkC 14 fun K hK=>?_;have q2:=(HC2.out _ hB2).1;have fz:=HFz.out _ hB2;go_simp;refine hK.out _ _ ⟨(HFin.out _ _ hO2 hB2).2,by rw[World.cell?_setCell_other _ _ _ _ (by simp)];exact(HC2.out _ hB2).2⟩ (fun hHeld=>?_);clear hK K;refine wpAnyH_done (by kernel_rfl) ?_ _;have HF2:=au (HFin.out _ _ hO2 hB2);clear q2 fz hO2 hB2 hF1 hB1 hHeld;go_wp2;go_end0;exact⟨⟨_,rfl⟩,HF2.out⟩
 rw[if_neg hc];have hcz:¬((K.length:Int)+(D.length:Int)≤200):=by omega
 go_enter Tryz.func85,Tryz.ntmps85
 go_wp2
 go_quiet (fail)
 go_wp2;go_end0;exact⟨⟨_,rfl⟩,HMk.out.drewN _,(Tn.refl _ _).drewN _⟩
theorem jC {s:ByteArray} (h:isNamed (raw s)=true):s.size≤12:=by unfold isNamed at h;simp only[Bool.and_eq_true,decide_eq_true_eq] at h;rw[bK] at h;exact h.1.1
theorem iP {f:aF}:eF f=0↔jF f:=by
 unfold eF jF;rw[jV]
 constructor
 ·intro h;split at h;·simp at h
  rename_i h1;split at h;·simp at h
  rename_i h2;split at h;·simp at h
  rename_i h3;refine⟨by simpa using h1,by omega,fun s hs=>?_⟩;cases e:isNamed (raw s) with
  |true=>rfl
  |false=>
   exfalso
   refine h3 ?_;unfold dZ;rw[List.drop_zero,List.any_eq_true];exact⟨s,hs,by rw[jV,e];rfl⟩
 rintro⟨h1,h2,h3⟩;rw[if_neg (by simp[h1]),if_neg (by omega),if_neg];intro h;unfold dZ at h;rw[List.drop_zero,List.any_eq_true] at h;obtain⟨s,hs,hn⟩:=h;rw[jV,h3 s hs] at hn;cases hn
abbrev dx (w:World) (b n:Nat) (m:bZ):Prop:=iK Tryz.prog 9 3 w b n m
theorem aB.nU {α:Type} {K:aB α} {b:Nat} {w w':World} {v:Value} {l:List α} (h:K.sl (fun k=>k≠b) w v l) (k:Tn b w w'):K.sl (fun k=>k≠b) w' v l:=aB.fE h k.size fun i hi hB=>k.block i hi hB
theorem aB.JH {α:Type} {K:aB α} {b:Nat} {w:World} {v:Value} {l:List α} (h:K.sl bT w v l) (hb:w.heap.size≤b):K.sl (fun k=>k≠b) w v l:=aB.dX h fun k hk _=>by omega
theorem pR {n:Nat} (h:n≤9223372036854775807):(Lit.int .i64 (n:Int)).wf=true:=WalkArith.wf_i64 (by omega)
theorem KN (b n:Nat) (m:bZ) (a:aJ) (v:Value) (w:World) (h:dx w b n m) (hv:gJ.sl bT w v a.terms) (hs:a.name.length≤maxLen) (hn:n<maxLen):
  Calls Tryz.prog 96 #[.map (some b),.agg #[.bool a.no,.string (bs a.name),v]] w fun e w'=>e=.returned (.bool (bN m a).1)∧dx w' b (n+1) (bN m a).2∧Tn b w w':=by
 obtain⟨sa,cap,rfl⟩:=aB.slice hv;have hl0:=hv.1.1;clear hv;have h1:=h.later ((aj.refl w).alloc (.cells #[.bool a.no,.string (bs a.name),.slice sa a.terms.length cap] 54));have hr:=iK.Aw (T:=104) h1 Tryz.underlying9 Tryz.underlying3 Tryz.underlying104 (jB _) hs;have hblt:=h.lt;cases hm:m a.name with
 |none=>
  obtain⟨w1,hst,hm1,hg⟩:=iK.store (T:=104) h1 Tryz.underlying9 Tryz.underlying3 Tryz.underlying104 hn hs (x:=a.terms.length) (pR (by omega));have e0:numOf m a.name=0:=by unfold numOf;rw[hm];rfl
  rw[hm,e0] at hr;have F:Hid (bN m a=(true,m.put a.name a.terms.length)):=by show _=_;unfold bN;rw[hm]
  have HM:Hid (dx w1 b (n+1) (m.put a.name a.terms.length)):=hm1;have HT:Hid (Tn b w w1):=(Tn.of_below (p:=b) ((aj.refl w).alloc _).below).trans (Tn.eG hg);have hst':=au hst;clear h h1 hm1 hg hst hm e0;generalize bs a.name=nm at*;generalize a.no=no at*
  go_enter Tryz.func96,Tryz.ntmps96
  go_wp2_with (first
   |(at_mapUpdate;refine aH _ rfl _ _ _ _ rfl _ _ _ _ rfl rfl rfl (bg hst') ?_)
   |go_in)
  go_ret;exact⟨by rw[F.out];rfl,by rw[F.out];exact HM.out,HT.out⟩
 |some k=>
  have e0:numOf m a.name=k:=by unfold numOf;rw[hm];rfl
  rw[hm,e0] at hr;have F:Hid (bN m a=(decide (k=a.terms.length),m)):=by show _=_;unfold bN;rw[hm]
  have HM:Hid (dx (w.alloc (.cells #[.bool a.no,.string (bs a.name),.slice sa a.terms.length cap] 54)) b (n+1) m):=h1.mono (by omega);clear h h1 hm e0;generalize bs a.name=nm at*;generalize a.no=no at*
  go_enter Tryz.func96,Tryz.ntmps96
  go_wp2;go_ret;refine⟨?_,by rw[F.out];exact HM.out,Tn.of_below ((aj.refl w).alloc _).below⟩;rw[F.out];refine bB ?_;rw[Bool.eq_iff_iff];simp;omega
structure dw (b:Nat) (w:World) (c0 c1 c2 c3:Value) (w':World):Prop where
 tn:Tn b w w'
 lt:w.heap.size<w'.heap.size
 z0:w'.cell? ⟨w.heap.size,0,none⟩=some c0
 z1:w'.cell? ⟨w.heap.size,1,none⟩=some c1
 z2:w'.cell? ⟨w.heap.size,2,none⟩=some c2
 z3:w'.cell? ⟨w.heap.size,3,none⟩=some c3
section
variable {b:Nat} {w w1 w2:World} {c0 c1 c2 c3:Value}
theorem dw.made (b:Nat) (w:World) (c0 c1 c2 c3:Value):dw b w c0 c1 c2 c3 (w.alloc (.cells #[c0,c1,c2,c3] 57)):=
 ⟨Tn.of_below ((aj.refl w).alloc _).below,by simp,by simp,by simp,by simp,by simp⟩
theorem dw.turned (h:dw b w c0 c1 c2 c3 w1) (k:Tn b w1 w2) (hb:b<w.heap.size):dw b w c0 c1 c2 c3 w2:=by have e:∀i,w2.cell? ⟨w.heap.size,i,none⟩=w1.cell? ⟨w.heap.size,i,none⟩:=fun i=>k.cell (x:=⟨w.heap.size,i,none⟩) h.lt (by show w.heap.size≠b;omega);exact⟨h.tn.trans k,Nat.lt_of_lt_of_le h.lt k.size,by rw[e];exact h.z0,by rw[e];exact h.z1,by rw[e];exact h.z2,by rw[e];exact h.z3⟩
theorem dw.below (h:dw b w c0 c1 c2 c3 w1) (k:Below w1.heap.size w1 w2) (hb:b<w.heap.size):dw b w c0 c1 c2 c3 w2:=h.turned (Tn.of_below k) hb
end
theorem pU {l:List aJ} {j:Nat} {a:aJ} (h:l[j]?=some a) (m:bZ):fitAll m (l.drop j)=if(bN m a).1 then fitAll (bN m a).2 (l.drop (j+1)) else(false,(bN m a).2):=by obtain⟨h1,e1⟩:=List.getElem?_eq_some_iff.1 h;rw[List.drop_eq_getElem_cons h1,e1];rfl
theorem pV {l:List aJ} (h:bE l=0):∀a∈l,aL a=0:=by
 induction l with
 |nil=>intro a ha;cases ha
 |cons b l ih=>
  unfold bE at h;split at h
  ·rename_i h0;intro a ha;rcases List.mem_cons.1 ha with rfl|ha
   ·exact h0
   exact ih h a ha
  rename_i h0;exact absurd h h0
theorem iY {l:List aJ} (h:aM l=0):l.length≤5∧∀a∈l,aL a=0:=by
 unfold aM at h;split at h;·cases h
 split at h;·rename_i h5 h0;exact⟨by omega,pV h0⟩
 rename_i h5 h0;exact absurd h h0
theorem zV (b n:Nat) (m:bZ) (r:aD) (v u:Value) (w:World) (h:dx w b n m) (hv0:gJ.sl (fun k=>k≠b) w v r.head.terms) (hu0:dY.sl (fun k=>k≠b) w u r.body) (hn:n≤1000000):
  Calls Tryz.prog 67 #[.agg #[.bool r.head.no,.string (bs r.head.name),v,u],.map (some b)] w fun e w'=>e=.returned (.int .i64 (aU m r).1)∧dx w' b (n+6) (aU m r).2∧Tn b w w':=by
 have hbw:=h.lt;obtain⟨va,vc,rfl⟩:=aB.slice hv0;obtain⟨ua,uc,rfl⟩:=aB.slice hu0;have hl0:=hv0.1.1;have hl1:=hu0.1.1;have HV:=au hv0;have HU:=au hu0;clear hv0 hu0;have HM0:Hid (∀w',Below w.heap.size w w'→dx w' b n m):=fun w' k=>h.below k;have HA:Hid (∀w',dw b w (.bool r.head.no) (.string (bs r.head.name)) (.slice va r.head.terms.length vc) (.slice ua r.body.length uc) w'→dx w' b n m→Calls Tryz.prog 91 #[.agg #[.bool r.head.no,.string (bs r.head.name),.slice va r.head.terms.length vc]] w'
   fun e w''=>e=.returned (.int .i64 (aL r.head))∧dw b w (.bool r.head.no) (.string (bs r.head.name)) (.slice va r.head.terms.length vc) (.slice ua r.body.length uc) w''∧dx w'' b n m):=fun w' hR hM=>
  (rF r.head _ w' (aB.dO (aB.nU HV.out hR.tn))).mono fun e w'' ⟨he,hL⟩=>⟨he,hR.below hL.below hbw,hM.later hL⟩
 have HBd:Hid (∀w',dw b w (.bool r.head.no) (.string (bs r.head.name)) (.slice va r.head.terms.length vc) (.slice ua r.body.length uc) w'→dx w' b n m→Calls Tryz.prog 92 #[.slice ua r.body.length uc] w'
   fun e w''=>e=.returned (.int .i64 (aM r.body))∧dw b w (.bool r.head.no) (.string (bs r.head.name)) (.slice va r.head.terms.length vc) (.slice ua r.body.length uc) w''∧dx w'' b n m):=fun w' hR hM=>
  (yM r.body _ w' (aB.dO (aB.nU HU.out hR.tn))).mono fun e w'' ⟨he,hL⟩=>⟨he,hR.below hL hbw,hM.below hL⟩
 have HR0:=au (dw.made b w (.bool r.head.no) (.string (bs r.head.name)) (.slice va r.head.terms.length vc) (.slice ua r.body.length uc));have HMA:=au (h.later ((aj.refl w).alloc (.cells #[.bool r.head.no,.string (bs r.head.name),.slice va r.head.terms.length vc,.slice ua r.body.length uc] 57)))
 by_cases h1:aL r.head=0
 ·cases hno:r.head.no
  ·by_cases h2:aM r.body=0
   ·obtain⟨hl5,hfb⟩:=iY h2;obtain⟨fn,ft,fs⟩:=bL h1;have F:Hid (aU m r=if(vars r.head).all (givenBy r.body) then(if(bN m r.head).1 then(if(fitAll (bN m r.head).2 r.body).1 then 0 else 8,(fitAll (bN m r.head).2 r.body).2) else(8,(bN m r.head).2)) else(9,m)):=by
     show _=_;unfold aU;rw[if_pos h1,hno,if_neg (by simp),if_pos h2]
    rw[hno] at HA HBd HR0 HMA;rw[h1] at HA;rw[h2] at HBd;have HGB:Hid (∀w',dw b w (.bool false) (.string (bs r.head.name)) (.slice va r.head.terms.length vc) (.slice ua r.body.length uc) w'→dx w' b n m→Calls Tryz.prog 93 #[.slice ua r.body.length uc] w' fun e w''=>e=.returned (.map (some w'.heap.size))∧dK w'' w'.heap.size 20 (givenBy r.body)∧dw b w (.bool false) (.string (bs r.head.name)) (.slice va r.head.terms.length vc) (.slice ua r.body.length uc) w''∧dx w'' b n m):=fun w' hR hM=>
     (yL r.body _ w' (aB.dO (aB.nU HU.out hR.tn)) hfb hl5).mono fun e w'' ⟨he,hN,hL⟩=>⟨he,hN,hR.below hL hbw,hM.below hL⟩
    have HVr:Hid (∀w' bk,dK w' bk 20 (givenBy r.body)→dw b w (.bool false) (.string (bs r.head.name)) (.slice va r.head.terms.length vc) (.slice ua r.body.length uc) w'→dx w' b n m→Calls Tryz.prog 95 #[.agg #[.bool false,.string (bs r.head.name),.slice va r.head.terms.length vc]] w' fun e w''=>∃x,e=.returned x∧iH.sl bT w'' x (vars r.head)∧dK w'' bk 20 (givenBy r.body)∧dw b w (.bool false) (.string (bs r.head.name)) (.slice va r.head.terms.length vc) (.slice ua r.body.length uc) w''∧dx w'' b n m):=fun w' bk hN hR hM=>by have:=Fv r.head _ w' (aB.dO (aB.nU HV.out hR.tn)) (by omega) (fun t ht=>dL (fs t ht));rw[hno] at this;exact this.mono fun e w'' ⟨x,he,ho,hL⟩=>⟨x,he,aB.dO (aB.gQ ho (by have:=ny r.head;omega)),hN.below hL,hR.below hL hbw,hM.below hL⟩
    have HAl:Hid (∀w' bk x,iH.sl bT w' x (vars r.head)→dK w' bk 20 (givenBy r.body)→dw b w (.bool false) (.string (bs r.head.name)) (.slice va r.head.terms.length vc) (.slice ua r.body.length uc) w'→dx w' b n m→Calls Tryz.prog 94 #[.map (some bk),x] w' fun e w''=>e=.returned (.bool ((vars r.head).all (givenBy r.body)))∧dw b w (.bool false) (.string (bs r.head.name)) (.slice va r.head.terms.length vc) (.slice ua r.body.length uc) w''∧dx w'' b n m):=fun w' bk x hS hN hR hM=>
     (Bq _ _ _ x (vars r.head) w' hN hS (fun s hs=>by obtain⟨t,ht,rfl⟩:=tT r.head s hs;exact dL (fs t ht))).mono fun e w'' ⟨he,hL⟩=>⟨he,hR.below hL.below hbw,hM.later hL⟩
    have HFt:Hid (∀w',dw b w (.bool false) (.string (bs r.head.name)) (.slice va r.head.terms.length vc) (.slice ua r.body.length uc) w'→dx w' b n m→Calls Tryz.prog 96 #[.map (some b),.agg #[.bool false,.string (bs r.head.name),.slice va r.head.terms.length vc]] w' fun e w''=>e=.returned (.bool (bN m r.head).1)∧dw b w (.bool false) (.string (bs r.head.name)) (.slice va r.head.terms.length vc) (.slice ua r.body.length uc) w''∧dx w'' b (n+1) (bN m r.head).2):=fun w' hR hM=>by have:=KN b n m r.head _ w' hM (aB.dO (aB.nU HV.out hR.tn)) (dL fn) (by simp[maxLen];omega);rw[hno] at this;exact this.mono fun e w'' ⟨he,hN,hT⟩=>⟨he,hR.turned hT hbw,hN⟩
    clear h1 h2 hno h HM0;generalize hgv:givenBy r.body=gv at*;clear hgv;generalize hall:(vars r.head).all gv=al at*;clear hall;generalize bs r.head.name=nm at*;cases al
    ·have F1:Hid (aU m r=(9,m)):=F.out;clear HV HU HFt F
     go_enter Tryz.func67,Tryz.ntmps67
     go_wp2_with (first
      |(go_at_call 91;refine(HA.out _ HR0.out HMA.out).mono ?_;rintro e w1 ⟨rfl,hR1,hM1⟩;have z0:=hR1.z0;have z3:=hR1.z3;have zl:=hR1.lt;replace hR1:=au hR1;replace hM1:=au hM1)
      |(go_at_call 92;refine(HBd.out w1 (bg hR1) (bg hM1)).mono ?_;rintro e w2 ⟨rfl,hR2,hM2⟩;replace hR2:=au hR2;replace hM2:=au hM2))
     refine wp_region_held_drew (S:=fun w'=>dw b w (.bool false) (.string nm) (.slice va r.head.terms.length vc) (.slice ua r.body.length uc) w'∧dx w' b n m) (by kernel_rfl) ⟨(bg hR2).turned (Tn.refl _ _).drew hbw,(bg hM2).block rfl⟩ (fun hHeld=>?_);refine tkY 0 24 hHeld ?_ rfl fun w hSw=>by obtain⟨hRB,_⟩:=hSw;have z0:=hRB.z0;have z1:=hRB.z1;have z2:=hRB.z2;have z3:=hRB.z3;have zl:=hRB.lt;clear hRB;go_simp;try with_reducible rfl
     refine tkY 1 25 hHeld ?_ rfl fun w hSw=>by obtain⟨hRB,_⟩:=hSw;have z0:=hRB.z0;have z1:=hRB.z1;have z2:=hRB.z2;have z3:=hRB.z3;have zl:=hRB.lt;clear hRB;go_simp;try with_reducible rfl
     refine tkY 3 27 hHeld ?_ rfl fun w hSw=>by obtain⟨hRB,_⟩:=hSw;have z0:=hRB.z0;have z1:=hRB.z1;have z2:=hRB.z2;have z3:=hRB.z3;have zl:=hRB.lt;clear hRB;go_simp;try with_reducible rfl
     refine tkY 4 28 hHeld ?_ rfl fun w hSw=>by obtain⟨hRB,_⟩:=hSw;have z0:=hRB.z0;have z1:=hRB.z1;have z2:=hRB.z2;have z3:=hRB.z3;have zl:=hRB.lt;clear hRB;go_simp;try with_reducible rfl
     refine tkC 2 fun K hK=>?_;go_simp;refine(HGB.out _ hHeld.1 hHeld.2).mono ?_;rintro e w3 ⟨rfl,hN3,hR3,hM3⟩;dsimp only;refine hK.out _ _ ⟨hR3,hM3⟩ (fun hHeld=>?_);clear hK K;refine tkC 5 fun K hK=>?_;go_simp;refine(HVr.out _ _ hN3 hHeld.1 hHeld.2).mono ?_;rintro e w4 ⟨x4,rfl,hS4,hN4,hR4,hM4⟩;dsimp only;refine hK.out _ _ ⟨hR4,hM4⟩ (fun hHeld=>?_);clear hK K;refine tkC 6 fun K hK=>?_;go_simp;refine(HAl.out _ _ _ hS4 hN4 hHeld.1 hHeld.2).mono ?_;rintro e w5 ⟨rfl,hR5,hM5⟩;dsimp only;refine hK.out _ _ ⟨hR5,hM5⟩ (fun hHeld=>?_);clear hK K;refine tkY 7 31 hHeld ?_;refine wpAnyH_done (by kernel_rfl) ?_ _;go_wp2;go_ret;exact⟨by rw[F1.out];rfl,by rw[F1.out];exact hHeld.2.mono (by omega),hHeld.1.tn⟩
    have F1:Hid (aU m r=if(bN m r.head).1 then(if(fitAll (bN m r.head).2 r.body).1 then 0 else 8,(fitAll (bN m r.head).2 r.body).2) else(8,(bN m r.head).2)):=F.out;clear F;generalize bN m r.head=fo at*;obtain⟨f1,m1⟩:=fo;dsimp only at*;have HU1:Hid (∀w',Tn b w w'→dY.sl (fun k=>k≠b) w' (.slice ua r.body.length uc) r.body):=fun w' k=>aB.nU HU.out k;have Ez:∀a∈r.body,a.name.length≤maxLen:=fun a ha=>dL (bL (hfb a ha)).1;have HN:=au Ez;clear HV HU Ez
    go_enter Tryz.func67,Tryz.ntmps67
    go_wp2_with (first
     |(go_at_call 91;refine(HA.out _ HR0.out HMA.out).mono ?_;rintro e w1 ⟨rfl,hR1,hM1⟩;have z0:=hR1.z0;have z3:=hR1.z3;have zl:=hR1.lt;replace hR1:=au hR1;replace hM1:=au hM1)
     |(go_at_call 92;refine(HBd.out w1 (bg hR1) (bg hM1)).mono ?_;rintro e w2 ⟨rfl,hR2,hM2⟩;replace hR2:=au hR2;replace hM2:=au hM2))
    refine wp_region_held_drew (S:=fun w'=>dw b w (.bool false) (.string nm) (.slice va r.head.terms.length vc) (.slice ua r.body.length uc) w'∧dx w' b n m) (by kernel_rfl) ⟨(bg hR2).turned (Tn.refl _ _).drew hbw,(bg hM2).block rfl⟩ (fun hHeld=>?_);refine tkY 0 24 hHeld ?_ rfl fun w hSw=>by obtain⟨hRB,_⟩:=hSw;have z0:=hRB.z0;have z1:=hRB.z1;have z2:=hRB.z2;have z3:=hRB.z3;have zl:=hRB.lt;clear hRB;go_simp;try with_reducible rfl
    refine tkY 1 25 hHeld ?_ rfl fun w hSw=>by obtain⟨hRB,_⟩:=hSw;have z0:=hRB.z0;have z1:=hRB.z1;have z2:=hRB.z2;have z3:=hRB.z3;have zl:=hRB.lt;clear hRB;go_simp;try with_reducible rfl
    refine tkY 3 27 hHeld ?_ rfl fun w hSw=>by obtain⟨hRB,_⟩:=hSw;have z0:=hRB.z0;have z1:=hRB.z1;have z2:=hRB.z2;have z3:=hRB.z3;have zl:=hRB.lt;clear hRB;go_simp;try with_reducible rfl
    refine tkY 4 28 hHeld ?_ rfl fun w hSw=>by obtain⟨hRB,_⟩:=hSw;have z0:=hRB.z0;have z1:=hRB.z1;have z2:=hRB.z2;have z3:=hRB.z3;have zl:=hRB.lt;clear hRB;go_simp;try with_reducible rfl
    refine tkC 2 fun K hK=>?_;go_simp;refine(HGB.out _ hHeld.1 hHeld.2).mono ?_;rintro e w3 ⟨rfl,hN3,hR3,hM3⟩;dsimp only;refine hK.out _ _ ⟨hR3,hM3⟩ (fun hHeld=>?_);clear hK K;refine tkC 5 fun K hK=>?_;go_simp;refine(HVr.out _ _ hN3 hHeld.1 hHeld.2).mono ?_;rintro e w4 ⟨x4,rfl,hS4,hN4,hR4,hM4⟩;dsimp only;refine hK.out _ _ ⟨hR4,hM4⟩ (fun hHeld=>?_);clear hK K;refine tkC 6 fun K hK=>?_;go_simp;refine(HAl.out _ _ _ hS4 hN4 hHeld.1 hHeld.2).mono ?_;rintro e w5 ⟨rfl,hR5,hM5⟩;dsimp only;refine hK.out _ _ ⟨hR5,hM5⟩ (fun hHeld=>?_);clear hK K;refine tkY 7 31 hHeld ?_;refine wpAnyH_done (by kernel_rfl) ?_ _;have HC:=au (HFt.out _ hHeld.1 hHeld.2);have y0:=hHeld.1.z0;have y1:=hHeld.1.z1;have y2:=hHeld.1.z2;have yl:=hHeld.1.lt;clear z0 z3 zl hR1 hM1 hR2 hM2 hN3 hR3 hM3 hS4 hN4 hR4 hM4 hR5 hM5 hHeld HA HBd HGB HVr HAl HR0 HMA HFt;cases f1
    ·have F2:Hid (aU m r=(8,m1)):=F1.out
     go_wp2_with (go_at_call 96;refine HC.out.mono ?_;rintro e w6 ⟨rfl,hR6,hM6⟩;replace hR6:=au hR6;replace hM6:=au hM6)
     go_ret;exact⟨by rw[F2.out];rfl,by rw[F2.out];exact(bg hM6).mono (by omega),(bg hR6).tn⟩
    have F2:Hid (aU m r=(if(fitAll m1 r.body).1 then 0 else 8,(fitAll m1 r.body).2)):=F1.out;clear F1
    go_wp2_with (go_at_call 96;refine HC.out.mono ?_;rintro e w6 ⟨rfl,hR6,hM6⟩;have x3:=hR6.z3;have xl:=hR6.lt;have HT6:=au hR6.tn;clear hR6;replace hM6:=au hM6)
    go_loopg [40] r.body.length (fun k i wr=>∃j:Nat,j+k=r.body.length∧i=.int .i64 j∧∃mj,Hid (fitAll m1 r.body=fitAll mj (r.body.drop j))∧Hid (dx wr b (n+1+j) mj)∧Hid (Tn b w wr))
    case atStart=>exact⟨0,by omega,rfl,m1,(rfl:_=_),hM6,HT6⟩
    obtain⟨j,hj,rfl,mj,HE,HMj,HTj⟩:=hrel;have hwr:=HTj.out.size
    by_cases hlt:j<r.body.length
    ·obtain⟨x,hx⟩:∃x,r.body[j]?=some x:=⟨_,List.getElem?_eq_getElem hlt⟩;obtain⟨b1,o1,_,rfl,hb1,hbne,⟨sv,rfl,hsv⟩,hc⟩:=aB.yJ (HU1.out wr HTj.out) hx;have d0:wr.cell? ⟨b1,o1+j*3,none⟩=some (.bool x.no):=hc 0 _ rfl;have d1:wr.cell? ⟨b1,o1+j*3+1,none⟩=some (.string (bs x.name)):=hc 1 _ rfl;have d2:wr.cell? ⟨b1,o1+j*3+2,none⟩=some sv:=hc 2 _ rfl;have hst:=pU hx mj;have HCj:Hid (Calls Tryz.prog 96 #[.map (some b),.agg #[.bool x.no,.string (bs x.name),sv]] (wr.alloc (.cells #[.bool x.no,.string (bs x.name),sv] 54)) fun e w2=>e=.returned (.bool (bN mj x).1)∧Hid (dx w2 b (n+1+(j+1)) (bN mj x).2)∧Hid (Tn b w w2)):=
      (KN b (n+1+j) mj x sv _ (HMj.out.later ((aj.refl _).alloc _)) (aB.dO (aB.aO (aB.dO hsv) ((aj.refl _).alloc _).below)) (HN.out x (List.mem_of_getElem? hx)) (by simp[maxLen];omega)).mono fun e w2 ⟨he,h1,h2⟩=>⟨he,h1,(HTj.out.alloc _).trans h2⟩
     obtain⟨a2,c2,rfl⟩:=aB.slice hsv;clear hc hx hsv HMj HTj;generalize bs x.name=nx at*;generalize x.no=xn at*;generalize bN mj x=fx at*;obtain⟨g1,m2⟩:=fx;dsimp only at*;cases g1
     ·have E2:Hid (fitAll m1 r.body=(false,m2)):=by show _=_;rw[HE.out,hst];rfl
      clear hst HE
      go_wp2_with (go_at_call 96;refine HCj.out.mono ?_;rintro e w7 ⟨rfl,hM7,hT7⟩)
      go_ret;exact⟨by rw[F2.out,E2.out];rfl,by rw[F2.out,E2.out];exact hM7.out.mono (by omega),hT7.out⟩
     have E2:Hid (fitAll m1 r.body=fitAll m2 (r.body.drop (j+1))):=by show _=_;rw[HE.out,hst];rfl
     clear hst HE
     go_wp2_with (go_at_call 96;refine HCj.out.mono ?_;rintro e w7 ⟨rfl,hM7,hT7⟩)
     go_roundg (r.body.length- (j+1))
     case measure=>omega
     case rel=>exact⟨j+1,by omega,by go_num,m2,E2,hM7,hT7⟩
    have E2:Hid (fitAll m1 r.body=(true,mj)):=by show _=_;rw[HE.out,List.drop_eq_nil_of_le (by omega)];rfl
    go_wp2;go_ret;exact⟨by rw[F2.out,E2.out];rfl,by rw[F2.out,E2.out];exact HMj.out.mono (by omega),HTj.out⟩
   have F:Hid (aU m r=(aM r.body,m)):=by show _=_;unfold aU;rw[if_pos h1,hno,if_neg (by simp),if_neg h2]
   have hq:(aM r.body != 0)=true:=by simpa using h2
   rw[hno] at HA HBd HR0 HMA;rw[h1] at HA;clear h1 h2 hno h HM0 HV HU;generalize bs r.head.name=nm at*;generalize aM r.body=ex at*
   go_enter Tryz.func67,Tryz.ntmps67
   go_wp2_with (first
    |(go_at_call 91;refine(HA.out _ HR0.out HMA.out).mono ?_;rintro e w1 ⟨rfl,hR1,hM1⟩;have z0:=hR1.z0;have z3:=hR1.z3;have zl:=hR1.lt;replace hR1:=au hR1;replace hM1:=au hM1)
    |(go_at_call 92;refine(HBd.out w1 (bg hR1) (bg hM1)).mono ?_;rintro e w2 ⟨rfl,hR2,hM2⟩;replace hR2:=au hR2;replace hM2:=au hM2))
   go_ret;exact⟨by rw[F.out];rfl,by rw[F.out];exact(bg hM2).mono (by omega),(bg hR2).tn⟩
  have F:Hid (aU m r=(2,m)):=by show _=_;unfold aU;rw[if_pos h1,hno,if_pos rfl]
  rw[hno] at HA HR0 HMA;rw[h1] at HA;clear h1 hno h HM0 HV HU HBd;generalize bs r.head.name=nm at*
  go_enter Tryz.func67,Tryz.ntmps67
  go_wp2_with (go_at_call 91;refine(HA.out _ HR0.out HMA.out).mono ?_;rintro e w1 ⟨rfl,hR1,hM1⟩;have z0:=hR1.z0;have zl:=hR1.lt;replace hR1:=au hR1;replace hM1:=au hM1)
  go_ret;exact⟨by rw[F.out];rfl,by rw[F.out];exact(bg hM1).mono (by omega),(bg hR1).tn⟩
 have F:Hid (aU m r=(aL r.head,m)):=by show _=_;unfold aU;rw[if_neg h1]
 have hq:(aL r.head != 0)=true:=by simpa using h1
 clear h1 h HM0 HV HU HBd;generalize aL r.head=ex at*;generalize bs r.head.name=nm at*;generalize r.head.no=no at*
 go_enter Tryz.func67,Tryz.ntmps67
 go_wp2_with (go_at_call 91;refine(HA.out _ HR0.out HMA.out).mono ?_;rintro e w1 ⟨rfl,hR1,hM1⟩;replace hR1:=au hR1;replace hM1:=au hM1)
 go_ret;exact⟨by rw[F.out];rfl,by rw[F.out];exact(bg hM1).mono (by omega),(bg hR1).tn⟩
theorem aB.nI {α:Type} {K:aB α} {b:Nat} {w w':World} {v:Value} {l:List α} (h:K.sl bT w v l) (k:Below w.heap.size w w') (hb:w.heap.size≤b):K.sl (fun k=>k≠b) w' v l:=
 aB.fE (aB.JH h hb) k.size fun i hi _=>k.block i hi
theorem nV {p:List aD} {j:Nat} {r:aD} (h:p[j]?=some r) (m:bZ) (i:Nat):fC m i (p.drop j)=if(aU m r).1=0 then fC (aU m r).2 (i+1) (p.drop (j+1)) else((aU m r).1,i):=by obtain⟨h1,e1⟩:=List.getElem?_eq_some_iff.1 h;rw[List.drop_eq_getElem_cons h1,e1];rfl
theorem lD {w:World} {g j:Nat} {cs:Array Value} {t:TypeId} {fr:Nat×Nat} (h:w.heap[g]?=some (.cells cs t fr)) (u:Value):(w.setCell ⟨g,j,none⟩ u).heap[g]?=some (.cells (cs.setIfInBounds j u) t fr):=by simp[World.setCell,Array.getElem?_modify,h]
theorem aP {w:World} {g:Nat} (j:Nat) {cs:Array Value} {t:TypeId} (h:w.heap[g]?=some (.cells cs t (0,0))):w.frozen? ⟨g,j,none⟩=false:=by simp[World.frozen?,h]
theorem cu {w:World} {R:Nat} {u0 u1:Value} {t:TypeId} {fr:Nat×Nat} (h:w.heap[R]?=some (.cells #[u0,u1] t fr)) (x y:Value):
  ((w.setCell ⟨R,0,none⟩ x).setCell ⟨R,1,none⟩ y).cell? ⟨R,0,none⟩=some x∧((w.setCell ⟨R,0,none⟩ x).setCell ⟨R,1,none⟩ y).cell? ⟨R,1,none⟩=some y:=by
 have h2:=lD (j:=1) (lD (j:=0) h x) y;exact⟨by rw[cell_of_row _ _ _ _ _ _ h2];rfl,by rw[cell_of_row _ _ _ _ _ _ h2];rfl⟩
theorem fK {a b c d:Int} (h1:a=c) (h2:b=d):Ending.returned (.agg #[.int .i64 a,.int .i64 b])=Ending.returned (.agg #[.int .i64 c,.int .i64 d]):=by rw[h1,h2]
theorem H6 (p:List aD) (v:Value) (w:World) (hv:iy.sl bT w v p):
  Calls Tryz.prog 49 #[v] w fun e w'=>e=.returned (.agg #[.int .i64 (bQ p).1,.int .i64 ((bQ p).2:Nat)])∧Below w.heap.size w w':=by
 obtain⟨sa,cap,rfl⟩:=aB.slice hv;have hl0:=hv.1.1;have HV:=au hv;clear hv
 by_cases h16:16<p.length
 ·have F:Hid (bQ p=(5,0)):=by show _=_;unfold bQ;rw[if_pos h16]
  go_enter Tryz.func49,Tryz.ntmps49
  go_wp2;exact bodyPost_ret (v:=.agg #[.int .i64 5,.int .i64 0]) (by simp[results,Tryz.results49,go_sem]) rfl ⟨by rw[F.out];rfl,((by repeat (first|exact aj.refl _|assumption|refine aj.drewN ?_ _|refine aj.drew ?_|refine aj.alloc ?_ _|refine aj.grow ?_ _)):aj w _).below⟩
 have F:Hid (bQ p=fC (fun _=>none) 0 p):=by show _=_;unfold bQ;rw[if_neg h16]
 have hmm:= @run_makeMap Tryz.prog
 go_enter Tryz.func49,Tryz.ntmps49
 go_wp2
 go_loopg [14] p.length (fun k i wr=>∃j:Nat,j+k=p.length∧i=.int .i64 j∧∃m,Hid (bQ p=fC m j (p.drop j))∧Hid (dx wr (w.heap.size+1) (6*j) m)∧Hid (Below w.heap.size w wr)∧Hid (wr.heap[w.heap.size]?=some (.cells #[.int .i64 0,.int .i64 0] 41 (0,0)))∧w.heap.size+2≤wr.heap.size)
 case atStart=>
  refine⟨0,by omega,rfl,fun _=>none,F.out,?_,?_,?_,by simp⟩;·have:=iK.made Tryz.prog 9 3 (w.alloc (.cells #[.int .i64 0,.int .i64 0] 41));rw[World.size_alloc] at this;exact this
  ·exact(((aj.refl w).alloc _).alloc _).below
  show _=_;rw[Below.heap_alloc _ _ _ (by simp),heap_alloc_new]
 obtain⟨j,hj,rfl,m,HE,HM,HB,HR,hsz⟩:=hrel
 by_cases hlt:j<p.length
 ·obtain⟨r,hr⟩:∃x,p[j]?=some x:=⟨_,List.getElem?_eq_getElem hlt⟩;obtain⟨b1,o1,_,rfl,hb1,⟨sv,su,rfl,hsv,hsu⟩,hc⟩:=aB.bR HV.out hr;have d0:wr.cell? ⟨b1,o1+j*4,none⟩=some (.bool r.head.no):=by rw[HB.out.cell hb1];exact hc 0 _ rfl
  have d1:wr.cell? ⟨b1,o1+j*4+1,none⟩=some (.string (bs r.head.name)):=by rw[HB.out.cell hb1];exact hc 1 _ rfl
  have d2:wr.cell? ⟨b1,o1+j*4+2,none⟩=some sv:=by rw[HB.out.cell hb1];exact hc 2 _ rfl
  have d3:wr.cell? ⟨b1,o1+j*4+3,none⟩=some su:=by rw[HB.out.cell hb1];exact hc 3 _ rfl
  have hbr:b1<wr.heap.size:=by omega
  have hst:=nV hr m j;have hB1:Below w.heap.size w (wr.alloc (.cells #[.bool r.head.no,.string (bs r.head.name),sv,su] 57)):=HB.out.alloc HB.out.size _;have HC:Hid (Calls Tryz.prog 67 #[.agg #[.bool r.head.no,.string (bs r.head.name),sv,su],.map (some (w.heap.size+1))] (wr.alloc (.cells #[.bool r.head.no,.string (bs r.head.name),sv,su] 57)) fun e w2=>e=.returned (.int .i64 (aU m r).1)∧
    Hid (dx w2 (w.heap.size+1) (6*(j+1)) (aU m r).2)∧Hid (Below w.heap.size w w2)∧w2.heap[w.heap.size]?=some (.cells #[.int .i64 0,.int .i64 0] 41 (0,0))∧w.heap.size+2≤w2.heap.size):=
   (zV (w.heap.size+1) (6*j) m r sv su _ (HM.out.later ((aj.refl _).alloc _)) (aB.nI hsv hB1 (by omega)) (aB.nI hsu hB1 (by omega)) (by omega)).mono fun e w2 ⟨he,h1,h2⟩=>
    ⟨he,h1,ak hB1 (h2.below (n:=w.heap.size) (by omega) (by simp;omega)) (Nat.le_refl _),by rw[h2.block w.heap.size (by simp;omega) (by omega),Below.heap_alloc _ _ _ (by omega)];exact HR.out,by have:=h2.size;simp at this;omega⟩
  obtain⟨a2,c2,rfl⟩:=aB.slice hsv;obtain⟨a3,c3,rfl⟩:=aB.slice hsu;clear hc hr hsv hsu hB1 HM HB HR;generalize aU m r=wrr at*;obtain⟨ex,m2⟩:=wrr;dsimp only at*;generalize bs r.head.name=nm at*;generalize r.head.no=no at*
  by_cases h0:ex=0
  ·subst h0;have E2:Hid (bQ p=fC m2 (j+1) (p.drop (j+1))):=by show _=_;rw[HE.out,hst];rfl
   clear hst HE
   go_wp2_with (go_at_call 67;refine HC.out.mono ?_;rintro e w2 ⟨rfl,hM2,hB2,hR2,hs2⟩;replace hR2:=au hR2)
   go_roundg (p.length- (j+1))
   case measure=>omega
   case rel=>exact⟨j+1,by omega,by go_num,m2,E2,hM2,hB2,hR2,hs2⟩
  have E2:Hid (bQ p=(ex,j)):=by show _=_;rw[HE.out,hst,if_neg h0]
  have hq:(ex != 0)=true:=by simpa using h0
  clear hst HE h0
  go_wp2_with (go_at_call 67;refine HC.out.mono ?_;rintro e w2 ⟨rfl,hM2,hB2,hR2,hs2⟩;have q0:w2.cell? ⟨w.heap.size,0,none⟩=some (.int .i64 0):=(by rw[cell_of_row _ _ _ _ _ _ hR2];rfl);have q1:w2.cell? ⟨w.heap.size,1,none⟩=some (.int .i64 0):=(by rw[cell_of_row _ _ _ _ _ _ hR2];rfl);have p0:w2.frozen? ⟨w.heap.size,0,none⟩=false:=aP 0 hR2;have p1:w2.frozen? ⟨w.heap.size,1,none⟩=false:=aP 1 hR2;replace hR2:=au hR2)
  obtain⟨r0,r1⟩:=cu (bg hR2) (.int .i64 ex) (.int .i64 j);refine bodyPost_ret (v:=.agg #[.int .i64 ex,.int .i64 j]) (by simp[results,Tryz.results49,go_sem,r0,r1]) rfl ⟨fK (by rw[E2.out]) (by rw[E2.out]),?_⟩;exact(hB2.out.setCell (Nat.le_refl _) _).setCell (Nat.le_refl _) _
 have E2:Hid (bQ p=(0,0)):=by show _=_;rw[HE.out,List.drop_eq_nil_of_le (by omega)];rfl
 have hR2:=HR.out;have q0:wr.cell? ⟨w.heap.size,0,none⟩=some (.int .i64 0):=by rw[cell_of_row _ _ _ _ _ _ hR2];rfl
 have q1:wr.cell? ⟨w.heap.size,1,none⟩=some (.int .i64 0):=by rw[cell_of_row _ _ _ _ _ _ hR2];rfl
 have p0:wr.frozen? ⟨w.heap.size,0,none⟩=false:=aP 0 hR2;have p1:wr.frozen? ⟨w.heap.size,1,none⟩=false:=aP 1 hR2;clear hR2;go_wp2;obtain⟨r0,r1⟩:=cu HR.out (.int .i64 0) (.int .i64 0);refine bodyPost_ret (v:=.agg #[.int .i64 0,.int .i64 0]) (by simp[results,Tryz.results49,go_sem,r0,r1]) rfl ⟨fK (by rw[E2.out]) (by rw[E2.out];rfl),?_⟩;exact(HB.out.setCell (Nat.le_refl _) _).setCell (Nat.le_refl _) _
end Go.Proofs.YthngiikhgplldaaGreatDoor
